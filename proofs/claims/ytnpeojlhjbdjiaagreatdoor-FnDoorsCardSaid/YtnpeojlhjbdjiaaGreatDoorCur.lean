/-
  Texts put together: Cur, Cur2, DrawBase, Dr. What each proves stands ahead of it.
-/
import Derived.Test.YtnpeojlhjbdjiaaGreatDoorBase
import Derived.Test.YtnpeojlhjbdjiaaGreatDoorMem
import Derived.Test.YtnpeojlhjbdjiaaGreatDoorLab
import Derived.Test.YtnpeojlhjbdjiaaGreatDoorHas
/-
  The draws' cursor (l1Cur of the model's package): what it is in memory, and what its functions do with it: a number in range, the cursor still a cursor, nothing else written.
-/
namespace Go.Proofs.YtnpeojlhjbdjiaaGreatDoor
set_option maxRecDepth 100000
open Go.RowKit

/-- A cursor in block p: the bytes that it reads, its place, its number. -/
structure IsCur (p : Nat) (a : Option Addr) (len cap : Nat) (w : World) : Prop where
  c0 : w.cell? ⟨p, 0, none⟩ = some (.slice a len cap)
  c1 : ∃ i : Nat, i ≤ len ∧ w.cell? ⟨p, 1, none⟩ = some (.int .i64 i)
  c2 : ∃ h : Int, w.cell? ⟨p, 2, none⟩ = some (.int .i64 h)
  f1 : w.frozen? ⟨p, 1, none⟩ = false
  f2 : w.frozen? ⟨p, 2, none⟩ = false

/-- The bytes behind a cursor, as the walk of a draw meets them. -/
def CurRow (w : World) (p : Nat) (a : Option Addr) (len cap : Nat) (zs : List Int) : Prop := IsRow .u8 w a len cap zs ∧ ∀ x, a = some x → 0 < zs.length → x.block ≠ p

/-- What a draw leaves: a number from 0 to n - 1; the cursor; all blocks but p as they were. -/
def Drawn (p : Nat) (a : Option Addr) (len cap : Nat) (n : Int) (w : World) (e : Ending) (w' : World) : Prop :=
  ∃ x : Int, 0 ≤ x ∧ x < n ∧ e = .returned (.int .i64 x) ∧ IsCur p a len cap w' ∧ w.grownBy w' (some p)

theorem IsCur.drew {p : Nat} {a : Option Addr} {len cap : Nat} {w : World} (h : IsCur p a len cap w) : IsCur p a len cap w.drew :=
  ⟨h.c0, h.c1, h.c2, h.f1, h.f2⟩
theorem IsCur.set2 {p : Nat} {a : Option Addr} {len cap : Nat} {w : World} (h : IsCur p a len cap w) (n : Int) : IsCur p a len cap (w.setCell ⟨p, 2, none⟩ (.int .i64 n)) := by
  obtain ⟨c0, ⟨i, hi, c1⟩, ⟨m, c2⟩, f1, f2⟩ := h
  exact ⟨by rw [World.cell?_setCell_other (a := _) (b := _) (h := by simp)]; exact c0, ⟨i, hi, by rw [World.cell?_setCell_other (a := _) (b := _) (h := by simp)]; exact c1⟩, ⟨n, World.cell?_setCell_same _ _ _ c2⟩, by simpa using f1, by simpa using f2⟩
theorem IsCur.set1 {p : Nat} {a : Option Addr} {len cap : Nat} {w : World} (h : IsCur p a len cap w) {n : Int} (h0 : 0 ≤ n) (hn : n ≤ len) : IsCur p a len cap (w.setCell ⟨p, 1, none⟩ (.int .i64 n)) := by
  obtain ⟨c0, ⟨i, hi, c1⟩, ⟨m, c2⟩, f1, f2⟩ := h
  obtain ⟨k, rfl⟩ := Int.eq_ofNat_of_zero_le h0
  exact ⟨by rw [World.cell?_setCell_other (a := _) (b := _) (h := by simp)]; exact c0, ⟨k, by omega, World.cell?_setCell_same _ _ _ c1⟩, ⟨m, by rw [World.cell?_setCell_other (a := _) (b := _) (h := by simp)]; exact c2⟩, by simpa using f1, by simpa using f2⟩
theorem IsCur.block {p : Nat} {a : Option Addr} {len cap : Nat} {w w' : World} (h : IsCur p a len cap w) (he : w'.heap[p]? = w.heap[p]?) : IsCur p a len cap w' := by
  have ec : ∀ i, w'.cell? ⟨p, i, none⟩ = w.cell? ⟨p, i, none⟩ := fun i => World.cell?_of_block (w := w) he
  have ef : ∀ i, w'.frozen? ⟨p, i, none⟩ = w.frozen? ⟨p, i, none⟩ := fun i => World.frozen?_of_block (w := w) he
  obtain ⟨c0, ⟨i, hi, c1⟩, ⟨m, c2⟩, f1, f2⟩ := h
  exact ⟨by rw [ec]; exact c0, ⟨i, hi, by rw [ec]; exact c1⟩, ⟨m, by rw [ec]; exact c2⟩, by rw [ef]; exact f1, by rw [ef]; exact f2⟩
theorem IsCur.lt {p : Nat} {a : Option Addr} {len cap : Nat} {w : World} (h : IsCur p a len cap w) : p < w.heap.size := block_lt_of_cell h.c0
theorem IsCur.alloc {p : Nat} {a : Option Addr} {len cap : Nat} {w : World} (h : IsCur p a len cap w) (o : Obj) : IsCur p a len cap (w.alloc o) :=
  h.block (Below.heap_alloc w o p h.lt)
theorem i64_and255 (n : Int) : bits .and .i64 n 255 = n % 256 := by
  have h255 : (BitVec.ofInt 64 255).toNat = 2 ^ 8 - 1 := by decide
  have key : (BitVec.ofInt 64 n &&& BitVec.ofInt 64 255).toNat = (n % ((2 ^ 64 : Nat) : Int)).toNat % 2 ^ 8 := by
    rw [BitVec.toNat_and, BitVec.toNat_ofInt, h255, Nat.and_two_pow_sub_one_eq_mod]
  show IntKind.i64.wrap ((BitVec.ofInt 64 n &&& BitVec.ofInt 64 255).toNat : Nat) = n % 256
  rw [key, IntKind.wrap_i64]
  omega

theorem byte_any (p : Nat) (a : Option Addr) (len cap : Nat) (zs : List Int) (w : World) (hl : len ≤ 4096) (hc : IsCur p a len cap w) (hr : CurRow w p a len cap zs) :
    Calls Tryz.prog 73 #[.pointer (some ⟨p, 0, none⟩)] w (Drawn p a len cap 256 w) := by
  have hcur := hc
  obtain ⟨c0, ⟨i, hi, c1⟩, ⟨h, c2⟩, f1, f2⟩ := hc
  obtain ⟨hrow, hne⟩ := hr
  have h255 := i64_and255
  by_cases hlt : i < len
  · rcases hrow with ⟨rfl, rfl, rfl, rfl⟩ | ⟨x, rfl, hl, hm, hz, hcell, hwz⟩
    · omega
    obtain ⟨b, off, rfl, hc⟩ := ints_at hcell (by omega)
    have hb : b ≠ p := hne _ rfl (by omega)
    have hc0 := hc i (by omega)
    clear hcell hc hne
    go_enter Tryz.func73, Tryz.ntmps73
    go_wp2
    go_region
    go_wp2
    go_region
    go_wp2
    go_region
    go_wp2
    go_ret
    exact ⟨_, by omega, by omega, rfl, by repeat (first | exact hcur | apply IsCur.drew | apply IsCur.set2 | refine IsCur.set1 ?_ (by omega) (by omega)), by repeat (first | exact World.grownBy.refl _ _ | apply gb_drew | apply gb_set)⟩
  · have hge : (len : Int) ≤ i := by omega
    go_enter Tryz.func73, Tryz.ntmps73
    go_wp2
    go_region
    go_wp2
    go_region
    go_wp2
    go_ret
    exact ⟨_, by omega, by omega, rfl, by repeat (first | exact hcur | apply IsCur.drew | apply IsCur.set2 | refine IsCur.set1 ?_ (by omega) (by omega)), by repeat (first | exact World.grownBy.refl _ _ | apply gb_drew | apply gb_set)⟩

theorem drawn_mk {p : Nat} {a : Option Addr} {len cap : Nat} {n x : Int} {w w' : World} (h0 : 0 ≤ x) (h1 : x < n) (hc : IsCur p a len cap w') (hg : w.grownBy w' (some p)) :
    Drawn p a len cap n w (.returned (.int .i64 x)) w' := ⟨x, h0, h1, rfl, hc, hg⟩
theorem add_block (x : Addr) (i : Nat) : (x.add i).block = x.block := by unfold Addr.add; split <;> rfl
theorem CurRow.kept {w w' : World} {p : Nat} {a : Option Addr} {len cap : Nat} {zs : List Int} (h : CurRow w p a len cap zs) (hg : w.grownBy w' (some p)) : CurRow w' p a len cap zs := by
  obtain ⟨hr, hne⟩ := h
  refine ⟨?_, hne⟩
  rcases hr with hr | ⟨x, rfl, hl, hm, hz, hcell, hwz⟩
  · exact .inl hr
  · exact .inr ⟨x, rfl, hl, hm, hz, fun i hi => hg.cell (hcell i hi) (fun e => hne x rfl (by omega) (by have := Option.some.inj e; rw [add_block] at this; exact this)), hwz⟩

/-- 0 .. n - 1. -/
theorem below_any (p : Nat) (a : Option Addr) (len cap : Nat) (zs : List Int) (n : Int) (w : World) (hl : len ≤ 4096) (h1 : 1 ≤ n) (h2 : n ≤ 1000000000000) (hc : IsCur p a len cap w) (hr : CurRow w p a len cap zs) :
    Calls Tryz.prog 48 #[.pointer (some ⟨p, 0, none⟩), .int .i64 n] w (Drawn p a len cap n w) := by
  have h0 : ¬ n ≤ 0 := by omega
  have hne : n ≠ 0 := by omega
  by_cases hs : n ≤ 256
  · go_enter Tryz.func48, Tryz.ntmps48
    go_wp2_with (go_at_call 73; refine (byte_any p a len cap zs _ hl hc hr).mono ?_; rintro e w1 ⟨x, hx0, hx1, rfl, hc1, hg1⟩)
    go_ret
    exact drawn_mk (Int.emod_nonneg _ hne) (Int.emod_lt_of_pos _ (by omega)) hc1 hg1
  · go_enter Tryz.func48, Tryz.ntmps48
    go_wp2_with fail
    refine (byte_any p a len cap zs _ hl hc hr).mono ?_
    rintro e w1 ⟨x, hx0, hx1, rfl, hc1, hg1⟩
    have hr1 := hr.kept hg1
    clear hr hc
    go_wp2_with fail
    refine (byte_any p a len cap zs _ hl hc1 hr1).mono ?_
    rintro e w2 ⟨y, hy0, hy1, rfl, hc2, hg2⟩
    have hr2 := hr1.kept hg2
    clear hr1 hc1
    go_wp2_with fail
    refine (byte_any p a len cap zs _ hl hc2 hr2).mono ?_
    rintro e w3 ⟨z, hz0, hz1, rfl, hc3, hg3⟩
    have hr3 := hr2.kept hg3
    clear hr2 hc2
    go_wp2_with fail
    refine (byte_any p a len cap zs _ hl hc3 hr3).mono ?_
    rintro e w4 ⟨u, hu0, hu1, rfl, hc4, hg4⟩
    go_wp2
    go_ret
    exact drawn_mk (Int.emod_nonneg _ hne) (Int.emod_lt_of_pos _ (by omega)) hc4 (gb_trans (gb_trans (gb_trans hg1 hg2) hg3) hg4)

/-- lo .. hi. -/
theorem from_any (p : Nat) (a : Option Addr) (len cap : Nat) (zs : List Int) (lo hi : Int) (w : World) (hl : len ≤ 4096) (hlo : -1000000000 ≤ lo) (hlh : lo ≤ hi) (hhi : hi ≤ 1000000000) (hc : IsCur p a len cap w) (hr : CurRow w p a len cap zs) :
    Calls Tryz.prog 53 #[.pointer (some ⟨p, 0, none⟩), .int .i64 lo, .int .i64 hi] w fun e w' => ∃ x : Int, lo ≤ x ∧ x ≤ hi ∧ e = .returned (.int .i64 x) ∧ IsCur p a len cap w' ∧ w.grownBy w' (some p) := by
  go_enter Tryz.func53, Tryz.ntmps53
  go_wp2_with fail
  refine (below_any p a len cap zs _ _ hl (by omega) (by omega) hc hr).mono ?_
  rintro e w1 ⟨x, hx0, hx1, rfl, hc1, hg1⟩
  go_wp2
  go_ret
  exact ⟨_, by omega, by omega, rfl, hc1, hg1⟩

theorem i64_and30 (n : Int) : bits .and .i64 n 1073741823 = n % 1073741824 := by
  have h30 : (BitVec.ofInt 64 1073741823).toNat = 2 ^ 30 - 1 := by decide
  have key : (BitVec.ofInt 64 n &&& BitVec.ofInt 64 1073741823).toNat = (n % ((2 ^ 64 : Nat) : Int)).toNat % 2 ^ 30 := by
    rw [BitVec.toNat_and, BitVec.toNat_ofInt, h30, Nat.and_two_pow_sub_one_eq_mod]
  show IntKind.i64.wrap ((BitVec.ofInt 64 n &&& BitVec.ofInt 64 1073741823).toNat : Nat) = n % 1073741824
  rw [key, IntKind.wrap_i64]
  omega

/-- A new cursor: a new block behind all others; nothing else is written. -/
def NewCur (a : Option Addr) (len cap : Nat) (w : World) (e : Ending) (w' : World) : Prop :=
  ∃ p : Nat, w.heap.size ≤ p ∧ e = .returned (.pointer (some ⟨p, 0, none⟩)) ∧ IsCur p a len cap w' ∧ Below w.heap.size w w'

theorem new_any (a : Option Addr) (len cap : Nat) (zs : List Int) (w : World) (hl : len ≤ 4096) (hr : IsRow .u8 w a len cap zs) :
    Calls Tryz.prog 22 #[.slice a len cap] w (NewCur a len cap w) := by
  have h30 := i64_and30
  go_enter Tryz.func22, Tryz.ntmps22
  go_wp2
  go_loop [3, 4] (fun h i => (∃ n : Int, h = .int .i64 n) ∧ ∃ k : Nat, k ≤ len ∧ i = .int .i64 k) (fun _ i => len - (intOf i).toNat)
  case atStart => exact ⟨⟨_, rfl⟩, 0, by omega, rfl⟩
  case round =>
    obtain ⟨⟨n, rfl⟩, k, hk, rfl⟩ := hrel
    by_cases hlt : k < len
    · rcases hr with ⟨rfl, rfl, rfl, rfl⟩ | ⟨x, rfl, hl', hm, hz, hcell, hwz⟩
      · omega
      obtain ⟨b, off, rfl, hc⟩ := ints_at hcell (by omega)
      have hc0 := hc k (by omega)
      clear hcell hc hwz
      go_wp2
      go_round
      case rel => exact ⟨⟨_, rfl⟩, k + 1, by omega, by go_num⟩
      case measure => simp [intOf]; omega
    · have hge : (len : Int) ≤ k := by omega
      go_wp2
      go_ret
      exact ⟨_, Nat.le_refl _, rfl, ⟨World.cell?_alloc_new _ _ _ 0, ⟨0, by omega, World.cell?_alloc_new _ _ _ 1⟩, ⟨n, World.cell?_alloc_new _ _ _ 2⟩, World.frozen?_alloc_new _ _ _ 1, World.frozen?_alloc_new _ _ _ 2⟩, by go_grown⟩

theorem CurRow.start {a : Option Addr} {len cap p : Nat} {zs : List Int} {w w' : World} (hr : IsRow .u8 w a len cap zs) (hb : Below w.heap.size w w') (hp : w.heap.size ≤ p) : CurRow w' p a len cap zs := by
  rcases hr with hr | ⟨x, rfl, hl, hm, hz, hcell, hwz⟩
  · exact ⟨.inl hr, fun x hx => by rw [hr.1] at hx; cases hx⟩
  · have hx : 0 < zs.length → x.block < w.heap.size := fun h => by
      have := block_lt_of_cell (hcell 0 h)
      rwa [add_block] at this
    refine ⟨.inr ⟨x, rfl, hl, hm, hz, fun i hi => ?_, hwz⟩, fun y hy h => by cases hy; have := hx h; omega⟩
    rw [hb.cell (by rw [add_block]; exact hx (by omega))]
    exact hcell i hi
theorem IsRow.below {k : IntKind} {a : Option Addr} {len cap : Nat} {zs : List Int} {w w' : World} (hr : IsRow k w a len cap zs) (hb : Below w.heap.size w w') : IsRow k w' a len cap zs := by
  rcases hr with hr | ⟨x, rfl, hl, hm, hz, hcell, hwz⟩
  · exact .inl hr
  · refine .inr ⟨x, rfl, hl, hm, hz, fun i hi => ?_, hwz⟩
    rw [hb.cell (block_lt_of_cell (hcell i hi))]
    exact hcell i hi

theorem big_no (a : Option Addr) (len cap : Nat) (w : World) (hl : (len : Int) ≤ 4096) :
    Calls Tryz.prog 4 #[.slice a len cap] w fun e w' => e = .returned (.bool false) ∧ w = w' := by
  go_enter Tryz.func4, Tryz.ntmps4
  go_wp2
  go_ret
  exact ⟨by simp; omega, rfl⟩
theorem big_yes (a : Option Addr) (len cap : Nat) (w : World) (hl : (4096 : Int) < len) :
    Calls Tryz.prog 4 #[.slice a len cap] w fun e w' => e = .returned (.bool true) ∧ w = w' := by
  go_enter Tryz.func4, Tryz.ntmps4
  go_wp2
  go_ret
  exact ⟨by simp, rfl⟩
end Go.Proofs.YtnpeojlhjbdjiaaGreatDoor

/-
  The draws' cursor, more: once in n, odd numbers, numbers from 0 to most.
-/
namespace Go.Proofs.YtnpeojlhjbdjiaaGreatDoor
set_option maxRecDepth 100000
open Go.RowKit

/-- A number, whatever; a bool, whatever. -/
def DrawnInt (p : Nat) (a : Option Addr) (len cap : Nat) (w : World) (e : Ending) (w' : World) : Prop := ∃ x : Int, e = .returned (.int .i64 x) ∧ IsCur p a len cap w' ∧ w.grownBy w' (some p)
def DrawnBool (p : Nat) (a : Option Addr) (len cap : Nat) (w : World) (e : Ending) (w' : World) : Prop := ∃ b : Bool, e = .returned (.bool b) ∧ IsCur p a len cap w' ∧ w.grownBy w' (some p)
theorem drawnInt_mk {p : Nat} {a : Option Addr} {len cap : Nat} {x : Int} {w w' : World} (hc : IsCur p a len cap w') (hg : w.grownBy w' (some p)) : DrawnInt p a len cap w (.returned (.int .i64 x)) w' := ⟨x, rfl, hc, hg⟩
theorem drawnBool_mk {p : Nat} {a : Option Addr} {len cap : Nat} {b : Bool} {w w' : World} (hc : IsCur p a len cap w') (hg : w.grownBy w' (some p)) : DrawnBool p a len cap w (.returned (.bool b)) w' := ⟨b, rfl, hc, hg⟩
def DrawnI64 (p : Nat) (a : Option Addr) (len cap : Nat) (w : World) (e : Ending) (w' : World) : Prop := ∃ x : Int, InI64 x ∧ e = .returned (.int .i64 x) ∧ IsCur p a len cap w' ∧ w.grownBy w' (some p)
theorem drawnI64_mk {p : Nat} {a : Option Addr} {len cap : Nat} {x : Int} {w w' : World} (hx : InI64 x) (hc : IsCur p a len cap w') (hg : w.grownBy w' (some p)) : DrawnI64 p a len cap w (.returned (.int .i64 x)) w' := ⟨x, hx, rfl, hc, hg⟩
theorem gb_alloc {w w' : World} {row : Option Nat} (h : w.grownBy w' row) (o : Obj) : w.grownBy (w'.alloc o) row := gb_trans h (World.grownBy_alloc _ _ _)

section
variable (p : Nat) (a : Option Addr) (len cap : Nat) (zs : List Int)

theorem once_any (n : Int) (w : World) (hl : len ≤ 4096) (h1 : 1 ≤ n) (h2 : n ≤ 1000) (hc : IsCur p a len cap w) (hr : CurRow w p a len cap zs) :
    Calls Tryz.prog 47 #[.pointer (some ⟨p, 0, none⟩), .int .i64 n] w (DrawnBool p a len cap w) := by
  go_enter Tryz.func47, Tryz.ntmps47
  go_wp2_with fail
  refine (below_any p a len cap zs n _ hl h1 (by omega) hc hr).mono ?_
  rintro e w1 ⟨x, hx0, hx1, rfl, hc1, hg1⟩
  go_wp2
  go_ret
  exact drawnBool_mk hc1 hg1

/-- A table of numbers that the call has just laid: each place holds one. -/
theorem table_at {w w' : World} {t : TypeId} (ns : List Int) (hg : (w.alloc (.cells (ns.map (Value.int .i64)).toArray t)).grownBy w' (some p)) (hp : p < w.heap.size) {k : Nat} (hk : k < ns.length) :
    ∃ v : Int, w'.cell? ⟨w.heap.size, k, none⟩ = some (.int .i64 v) := by
  refine ⟨ns[k], hg.cell ?_ (fun e => by have := Option.some.inj e; simp only [] at this; omega)⟩
  rw [World.cell?_alloc_new]
  simp [hk]

/-- .. and each is one of int64, where all of them are. -/
theorem table_in {w w' : World} {t : TypeId} (ns : List Int) (hg : (w.alloc (.cells (ns.map (Value.int .i64)).toArray t)).grownBy w' (some p)) (hp : p < w.heap.size) {k : Nat} (hk : k < ns.length) (hn : ∀ x ∈ ns, InI64 x) :
    ∃ v : Int, Hid (InI64 v) ∧ w'.cell? ⟨w.heap.size, k, none⟩ = some (.int .i64 v) := by
  refine ⟨ns[k], Lib.hid (hn _ (List.getElem_mem hk)), hg.cell ?_ (fun e => by have := Option.some.inj e; simp only [] at this; omega)⟩
  rw [World.cell?_alloc_new]
  simp [hk]

theorem odd_in (w : World) (hl : len ≤ 4096) (hc : IsCur p a len cap w) (hr : CurRow w p a len cap zs) :
    Calls Tryz.prog 74 #[.pointer (some ⟨p, 0, none⟩)] w (DrawnI64 p a len cap w) := by
  have hlt := hc.lt
  go_enter Tryz.func74, Tryz.ntmps74
  go_wp2_with fail
  refine (below_any p a len cap zs _ _ hl (by omega) (by omega) (hc.alloc _) (hr.kept (World.grownBy_alloc _ _ _))).mono ?_
  rintro e w2 ⟨x, hx0, hx1, rfl, hc2, hg2⟩
  obtain ⟨k, rfl⟩ := Int.eq_ofNat_of_zero_le hx0
  obtain ⟨v, HV, hv⟩ := table_in p [-1, 0, 1, 2147483648, -2147483648, 1099511627776, 4611686018427387904, -4611686018427387904, 9223372036854775807, -9223372036854775808] hg2 hlt (k := k) (by simp; omega) (by intro x hx; simp at hx; unfold InI64; omega)
  have HG := Lib.hid hg2
  clear hg2
  go_wp2
  go_ret
  exact drawnI64_mk HV.out hc2 (gb_trans (World.grownBy_alloc _ _ _) HG.out)
theorem odd_any (w : World) (hl : len ≤ 4096) (hc : IsCur p a len cap w) (hr : CurRow w p a len cap zs) :
    Calls Tryz.prog 74 #[.pointer (some ⟨p, 0, none⟩)] w (DrawnInt p a len cap w) := (odd_in p a len cap zs w hl hc hr).mono fun _ _ ⟨x, _, he, hc, hg⟩ => ⟨x, he, hc, hg⟩

theorem min_any (x y : Int) (w : World) : Calls Tryz.prog 75 #[.int .i64 x, .int .i64 y] w fun e w' => e = .returned (.int .i64 (if x < y then x else y)) ∧ w = w' := by
  by_cases h : x < y
  · rw [if_pos h]
    go_enter Tryz.func75, Tryz.ntmps75
    go_wp2
    go_ret
    exact ⟨rfl, rfl⟩
  · rw [if_neg h]
    go_enter Tryz.func75, Tryz.ntmps75
    go_wp2
    go_ret
    exact ⟨rfl, rfl⟩

theorem num_in (most : Int) (w : World) (hl : len ≤ 4096) (h1 : 0 ≤ most) (h2 : most ≤ 1000000000) (hc : IsCur p a len cap w) (hr : CurRow w p a len cap zs) :
    Calls Tryz.prog 49 #[.pointer (some ⟨p, 0, none⟩), .int .i64 most] w (DrawnI64 p a len cap w) := by
  go_enter Tryz.func49, Tryz.ntmps49
  go_wp2_with fail
  refine (once_any p a len cap zs _ _ hl (by omega) (by omega) hc hr).mono ?_
  rintro e w1 ⟨b, rfl, hc1, hg1⟩
  have hr1 := hr.kept hg1
  cases b
  · go_wp2_with fail
    refine (once_any p a len cap zs _ _ hl (by omega) (by omega) hc1 hr1).mono ?_
    rintro e w2 ⟨b, rfl, hc2, hg2⟩
    have hr2 := hr1.kept hg2
    cases b
    · go_wp2_with fail
      refine (below_any p a len cap zs _ _ hl (by omega) (by omega) hc2 hr2).mono ?_
      rintro e w3 ⟨x, hx0, hx1, rfl, hc3, hg3⟩
      go_wp2
      go_ret
      exact drawnI64_mk (by unfold InI64; omega) hc3 (gb_trans (gb_trans hg1 hg2) hg3)
    · by_cases hm : most < 4
      · go_wp2_with (go_at_call 75; refine (min_any _ _ _).mono ?_; rw [if_pos (by omega)]; rintro e w' ⟨rfl, rfl⟩)
        refine (below_any p a len cap zs _ _ hl (by omega) (by omega) hc2 hr2).mono ?_
        rintro e w3 ⟨x, hx0, hx1, rfl, hc3, hg3⟩
        go_wp2
        go_ret
        exact drawnI64_mk (by unfold InI64; omega) hc3 (gb_trans (gb_trans hg1 hg2) hg3)
      · go_wp2_with (go_at_call 75; refine (min_any _ _ _).mono ?_; rw [if_neg (by omega)]; rintro e w' ⟨rfl, rfl⟩)
        refine (below_any p a len cap zs _ _ hl (by omega) (by omega) hc2 hr2).mono ?_
        rintro e w3 ⟨x, hx0, hx1, rfl, hc3, hg3⟩
        go_wp2
        go_ret
        exact drawnI64_mk (by unfold InI64; omega) hc3 (gb_trans (gb_trans hg1 hg2) hg3)
  · have hlt := hc1.lt
    go_wp2_with fail
    refine (odd_in p a len cap zs _ hl hc1 hr1).mono ?_
    rintro e w2 ⟨od, hod, rfl, hc2, hg2⟩
    have hlt2 := hc2.lt
    have HO := Lib.hid hod
    clear hod
    have hr2 := hr1.kept hg2
    go_wp2_with fail
    refine (below_any p a len cap zs _ _ hl (by omega) (by omega) (hc2.alloc _) (hr2.kept (World.grownBy_alloc _ _ _))).mono ?_
    rintro e w3 ⟨x, hx0, hx1, rfl, hc3, hg3⟩
    obtain ⟨k, rfl⟩ := Int.eq_ofNat_of_zero_le hx0
    obtain ⟨v, HV, hv⟩ := table_in p [-1, most, most + 1, od] hg3 hlt2 (k := k) (by simp; omega) (by intro x hx; have := HO.out; simp at hx; unfold InI64 at *; omega)
    have HG := Lib.hid hg3
    clear hg3
    go_wp2
    go_ret
    exact drawnI64_mk HV.out hc3 (gb_trans (gb_trans hg1 hg2) (gb_trans (World.grownBy_alloc _ _ _) HG.out))
theorem num_any (most : Int) (w : World) (hl : len ≤ 4096) (h1 : 0 ≤ most) (h2 : most ≤ 1000000000) (hc : IsCur p a len cap w) (hr : CurRow w p a len cap zs) :
    Calls Tryz.prog 49 #[.pointer (some ⟨p, 0, none⟩), .int .i64 most] w (DrawnInt p a len cap w) := (num_in p a len cap zs most w hl h1 h2 hc hr).mono fun _ _ ⟨x, _, he, hc, hg⟩ => ⟨x, he, hc, hg⟩
end
/-- The call returns a number of int64, whatever. -/
def DrI64 (w : World) (e : Ending) (w' : World) : Prop := ∃ x, InI64 x ∧ e = .returned (.int .i64 x) ∧ Below w.heap.size w w'
def DrNum (w : World) (e : Ending) (w' : World) : Prop := ∃ x, e = .returned (.int .i64 x) ∧ Below w.heap.size w w'
theorem gb_below {w w1 w2 : World} {p : Nat} (h : Below w.heap.size w w1) (hg : w1.grownBy w2 (some p)) (hp : w.heap.size ≤ p) : Below w.heap.size w w2 := h.grown hg h.size (fun k hk => by have := Option.some.inj hk; omega)
end Go.Proofs.YtnpeojlhjbdjiaaGreatDoor

/-
  Words for the draws: what a draw hands out, and what it keeps.
-/
namespace Go.Proofs.YtnpeojlhjbdjiaaGreatDoor
set_option maxRecDepth 100000
open Go.RowKit

/-- A label, whatever, of at most m parts, of the call's own. -/
def DrawnLab (m p : Nat) (a : Option Addr) (len cap : Nat) (w : World) (e : Ending) (w' : World) : Prop :=
  ∃ v l, e = .returned v ∧ OwnLab w.heap.size w' v l ∧ l.parts.length ≤ m ∧ IsCur p a len cap w' ∧ w.grownBy w' (some p)

theorem new_frozen {w w1 : World} {cs : Array Value} {t : TypeId} {row : Option Nat} (hg : (w.alloc (.cells cs t)).grownBy w1 row) (hne : some w.heap.size ≠ row) (i : Nat) : w1.frozen? ⟨w.heap.size, i, none⟩ = false :=
  (World.frozen?_of_block (w := w.alloc (.cells cs t)) (hg.block w.heap.size (by rw [World.size_alloc]; omega) hne)).trans (World.frozen?_alloc_new _ _ _ i)
theorem gb_undrew {w w' : World} {row : Option Nat} (h : w.drew.grownBy w' row) : w.grownBy w' row := ⟨h.os, h.tape, h.output, h.size, h.block⟩
theorem gb_of_below {w w' : World} (h : Below w.heap.size w w') (row : Option Nat) : w.grownBy w' row := ⟨h.os, h.tape, h.output, h.size, fun b hb _ => h.block b hb⟩
/-- The call returns a label, whatever. -/
def DrLab (w : World) (e : Ending) (w' : World) : Prop := ∃ v l, e = .returned v ∧ RdLab w' v l ∧ l.parts.length ≤ 100 ∧ Below w.heap.size w w'
/-- .. and a number. -/
def DrLab1 (w : World) (e : Ending) (w' : World) : Prop := ∃ v l x, e = .returned (.tuple #[v, .int .i64 x]) ∧ OwnLab w.heap.size w' v l ∧ l.parts.length ≤ 100 ∧ Below w.heap.size w w'
/-- .. and two numbers. -/
def DrLab2 (w : World) (e : Ending) (w' : World) : Prop := ∃ v l x y, e = .returned (.tuple #[v, .int .i64 x, .int .i64 y]) ∧ RdLab w' v l ∧ l.parts.length ≤ 100 ∧ Below w.heap.size w w'
/-- The call returns two labels, whatever. -/
def DrLabs (w : World) (e : Ending) (w' : World) : Prop := ∃ v u l m, e = .returned (.tuple #[v, u]) ∧ RdLab w' v l ∧ l.parts.length ≤ 100 ∧ RdLab w' u m ∧ m.parts.length ≤ 100 ∧ Below w.heap.size w w'


theorem keep_frozen {w1 w2 : World} {g i p : Nat} (hg : w1.grownBy w2 (some p)) (hl : g < w1.heap.size) (hne : g ≠ p) : w2.frozen? ⟨g, i, none⟩ = w1.frozen? ⟨g, i, none⟩ :=
  World.frozen?_of_block (w := w1) (hg.block g hl (fun e => hne (Option.some.inj e)))
theorem keep_cell {w1 w2 : World} {g i p : Nat} {v : Value} (hg : w1.grownBy w2 (some p)) (h : w1.cell? ⟨g, i, none⟩ = some v) (hne : g ≠ p) : w2.cell? ⟨g, i, none⟩ = some v :=
  hg.cell h (fun e => hne (Option.some.inj e))


theorem Has.kept {w w' : World} {g p : Nat} {cs : List Value} (h : Has w g cs) (hg : w.grownBy w' (some p)) (hne : g ≠ p) : Has w' g cs := fun j v hj => keep_cell hg (h j v hj) hne
theorem Fresh.kept {w w' : World} {g p : Nat} (h : Fresh w g) (hg : w.grownBy w' (some p)) (hne : g ≠ p) : Fresh w' g := by
  have hl := block_lt_of_cell h.c0
  exact ⟨keep_cell hg h.c0 hne, keep_cell hg h.c1 hne, (keep_frozen hg hl hne).trans h.f0, (keep_frozen hg hl hne).trans h.f1⟩
theorem Fresh.one {w : World} {t : TypeId} : Fresh (w.alloc (.cells #[.int .i64 0, .slice none 0 0] t)) w.heap.size := Fresh.new (Below.refl _ _)
theorem Fresh.alloc {w : World} {g : Nat} (h : Fresh w g) (o : Obj) : Fresh (w.alloc o) g := h.below ((Below.refl _ _).alloc (Nat.le_refl _) o)
theorem Has.one {w : World} {cs : Array Value} {t : TypeId} : Has (w.alloc (.cells cs t)) w.heap.size cs.toList := Has.new (Below.refl _ _)
theorem Has.alloc {w : World} {g : Nat} {cs : List Value} (h : Has w g cs) (o : Obj) : Has (w.alloc o) g cs := h.below ((Below.refl _ _).alloc (Nat.le_refl _) o)
end Go.Proofs.YtnpeojlhjbdjiaaGreatDoor

/-
  The draw of any label, right or not (chapter 2 of the model): some label of the call's own; the cursor stays one; nothing else is written.
-/

namespace Go.Proofs.YtnpeojlhjbdjiaaGreatDoor
set_option maxRecDepth 100000
open Go.RowKit

/-- What the drawing keeps: the result's block, the label's block g, the label in it, the cursor. -/
structure Dr (p : Nat) (a : Option Addr) (len cap g : Nat) (w wr : World) (A : Option Addr) (n c : Nat) (l : Lab) : Prop where
  cur : IsCur p a len cap wr
  grown : w.grownBy wr (some p)
  hg : w.heap.size < g
  gl : g < wr.heap.size
  r0 : wr.cell? ⟨w.heap.size, 0, none⟩ = some (.int .i64 0)
  r1 : wr.cell? ⟨w.heap.size, 1, none⟩ = some (.slice none 0 0)
  f0 : wr.frozen? ⟨w.heap.size, 0, none⟩ = false
  f1 : wr.frozen? ⟨w.heap.size, 1, none⟩ = false
  o0 : wr.frozen? ⟨g, 0, none⟩ = false
  o1 : wr.frozen? ⟨g, 1, none⟩ = false
  d0 : wr.cell? ⟨g, 0, none⟩ = some (.int .i64 l.base)
  d1 : wr.cell? ⟨g, 1, none⟩ = some (.slice A n c)
  own : wr.ownsRow (w.heap.size + 1) 80 2 (.slice A n c) n (ptcells l.parts)
  apart : ∀ k, (Value.slice A n c).ownBlock = some k → k ≠ g
  len : l.parts.length = n
  few : n ≤ 100

theorem Dr.gbrow {p : Nat} {a : Option Addr} {len cap g : Nat} {w wr w' : World} {A : Option Addr} {n c : Nat} {l : Lab} (h : Dr p a len cap g w wr A n c l) (hp : p < w.heap.size) {row : Option Nat} (hc : IsCur p a len cap w') (hg : wr.grownBy w' row)
    (hrow : ∀ k, row = some k → k = p ∨ (w.heap.size < k ∧ k ≠ g)) {A' : Option Addr} {n' c' : Nat} {l' : Lab} (hb : l'.base = l.base) (hd1 : w'.cell? ⟨g, 1, none⟩ = some (.slice A' n' c')) (own : w'.ownsRow (w.heap.size + 1) 80 2 (.slice A' n' c') n' (ptcells l'.parts)) (apart : ∀ k, (Value.slice A' n' c').ownBlock = some k → k ≠ g) (hl : l'.parts.length = n') (hf : n' ≤ 100) : Dr p a len cap g w w' A' n' c' l' := by
  have hs := h.grown.size
  have hgl := h.gl
  have hgg := h.hg
  have eb : ∀ b, b = w.heap.size ∨ b = g → w'.heap[b]? = wr.heap[b]? := fun b hb => hg.block b (by omega) (fun e => by rcases hrow b e.symm with q | q <;> omega)
  have ec : ∀ b i, b = w.heap.size ∨ b = g → w'.cell? ⟨b, i, none⟩ = wr.cell? ⟨b, i, none⟩ := fun b i hb => World.cell?_of_block (w := wr) (eb b hb)
  have ef : ∀ b i, b = w.heap.size ∨ b = g → w'.frozen? ⟨b, i, none⟩ = wr.frozen? ⟨b, i, none⟩ := fun b i hb => World.frozen?_of_block (w := wr) (eb b hb)
  refine ⟨hc, ⟨hg.os.trans h.grown.os, hg.tape.trans h.grown.tape, hg.output.trans h.grown.output, Nat.le_trans hs hg.size, fun b hb hne => ?_⟩, hgg, Nat.lt_of_lt_of_le hgl hg.size, by rw [ec _ _ (.inl rfl)]; exact h.r0, by rw [ec _ _ (.inl rfl)]; exact h.r1,
    by rw [ef _ _ (.inl rfl)]; exact h.f0, by rw [ef _ _ (.inl rfl)]; exact h.f1, by rw [ef _ _ (.inr rfl)]; exact h.o0, by rw [ef _ _ (.inr rfl)]; exact h.o1, by rw [ec _ _ (.inr rfl), hb]; exact h.d0, hd1, own, apart, hl, hf⟩
  rw [hg.block b (by omega) (fun e => by rcases hrow b e.symm with q | q; exact hne (by rw [q]); omega)]
  exact h.grown.block b hb hne
theorem Dr.gb {p : Nat} {a : Option Addr} {len cap g : Nat} {w wr w' : World} {A : Option Addr} {n c : Nat} {l : Lab} (h : Dr p a len cap g w wr A n c l) (hp : p < w.heap.size) (hc : IsCur p a len cap w') (hg : wr.grownBy w' (some p)) : Dr p a len cap g w w' A n c l := by
  have hgl := h.gl
  have hgg := h.hg
  refine h.gbrow hp hc hg (fun k hk => .inl (Option.some.inj hk).symm) rfl ?_ ?_ h.apart h.len h.few
  · rw [World.cell?_of_block (w := wr) (hg.block g hgl (fun e => by have := Option.some.inj e; omega))]; exact h.d1
  · refine h.own.kept hg ?_
    cases hk : (Value.slice A n c).ownBlock with
    | none => exact .inl rfl
    | some k => exact .inr (fun e => by have := (h.own.lt k hk).1; have := Option.some.inj e; omega)
theorem Dr.alloc {p : Nat} {a : Option Addr} {len cap g : Nat} {w wr : World} {A : Option Addr} {n c : Nat} {l : Lab} (h : Dr p a len cap g w wr A n c l) (hp : p < w.heap.size) (o : Obj) : Dr p a len cap g w (wr.alloc o) A n c l := h.gb hp (h.cur.alloc o) (World.grownBy_alloc _ _ _)
theorem Dr.drew {p : Nat} {a : Option Addr} {len cap g : Nat} {w wr : World} {A : Option Addr} {n c : Nat} {l : Lab} (h : Dr p a len cap g w wr A n c l) (hp : p < w.heap.size) : Dr p a len cap g w wr.drew A n c l := h.gb hp h.cur.drew (gb_drew (World.grownBy.refl _ _))

/-- The base is set. -/
theorem Dr.base {p : Nat} {a : Option Addr} {len cap g : Nat} {w wr : World} {A : Option Addr} {n c : Nat} {l : Lab} (h : Dr p a len cap g w wr A n c l) (hp : p < w.heap.size) (x : Int) :
    Dr p a len cap g w (wr.setCell ⟨g, 0, none⟩ (.int .i64 x)) A n c ⟨x, l.parts⟩ := by
  have hgl := h.gl
  have hgg := h.hg
  have hb : ∀ k, k ≠ g → (wr.setCell ⟨g, 0, none⟩ (.int .i64 x)).heap[k]? = wr.heap[k]? := fun k hk => Below.heap_setCell _ _ _ _ (by simpa using hk)
  refine ⟨h.cur.block (hb p (by omega)), ⟨h.grown.os, h.grown.tape, h.grown.output, by simpa using h.grown.size, fun k hk hne => by rw [hb k (by omega)]; exact h.grown.block k hk hne⟩, hgg, by simpa using hgl,
    by rw [World.cell?_of_block (w := wr) (hb _ (by simp only []; omega))]; exact h.r0, by rw [World.cell?_of_block (w := wr) (hb _ (by simp only []; omega))]; exact h.r1, by simpa using h.f0, by simpa using h.f1, by simpa using h.o0, by simpa using h.o1,
    World.cell?_setCell_same _ _ _ h.d0, by rw [World.cell?_setCell_other (a := _) (b := _) (h := by simp)]; exact h.d1, ?_, h.apart, h.len, h.few⟩
  exact h.own.kept (w' := wr.setCell ⟨g, 0, none⟩ (.int .i64 x)) (row := some g) ⟨rfl, rfl, rfl, by simp, fun k _ hne => hb k (fun e => hne (by rw [e]))⟩ (by
    cases hk : (Value.slice A n c).ownBlock with
    | none => exact .inl rfl
    | some k => exact .inr (fun e => h.apart k hk (Option.some.inj e)))
/-- A longer row is stored into the label. -/
theorem Dr.store {p : Nat} {a : Option Addr} {len cap g : Nat} {w wr w' : World} {A : Option Addr} {n c m : Nat} {l : Lab} {A' : Option Addr} {n' c' : Nat} {ps : List (Int × Int)} (h : Dr p a len cap g w wr A n c l) (hp : p < w.heap.size)
    (hap : Apped (w.heap.size + 1) 80 2 (.slice A n c) m (ptcells (l.parts ++ ps)) wr (.slice A' n' c') w') (hn : n' = m) (hm : (l.parts ++ ps).length = m) (hf : m ≤ 100) :
    Dr p a len cap g w (w'.setCell ⟨g, 1, none⟩ (.slice A' n' c')) A' n' c' ⟨l.base, l.parts ++ ps⟩ := by
  subst hn
  have hgl := h.gl
  have hgg := h.hg
  have hs := hap.grown.size
  have hb : ∀ k, k ≠ g → (w'.setCell ⟨g, 1, none⟩ (.slice A' n' c')).heap[k]? = w'.heap[k]? := fun k hk => Below.heap_setCell _ _ _ _ (by simpa using hk)
  have hrow : ∀ k, (Value.slice A n c).ownBlock = some k → w.heap.size < k ∧ k ≠ g := fun k hk => ⟨by have := (h.own.lt k hk).1; omega, h.apart k hk⟩
  have hap' : ∀ k, (Value.slice A' n' c').ownBlock = some k → k ≠ g := fun k hk => by
    rcases hap.block with e | e
    · exact h.apart k (by rw [← e]; exact hk)
    · rw [hk] at e; have := Option.some.inj e; omega
  have ek : ∀ k, k ≠ g → k < wr.heap.size → (∀ j, (Value.slice A n c).ownBlock = some j → j ≠ k) → (w'.setCell ⟨g, 1, none⟩ (.slice A' n' c')).heap[k]? = wr.heap[k]? := fun k hk hl hj => (hb k hk).trans (hap.grown.block k hl (fun e => hj k e.symm rfl))
  have e0 : ∀ i, w'.cell? ⟨g, i, none⟩ = wr.cell? ⟨g, i, none⟩ := fun i => World.cell?_of_block (w := wr) (hap.grown.block g hgl (fun e => h.apart g e.symm rfl))
  have ef0 : ∀ i, w'.frozen? ⟨g, i, none⟩ = wr.frozen? ⟨g, i, none⟩ := fun i => World.frozen?_of_block (w := wr) (hap.grown.block g hgl (fun e => h.apart g e.symm rfl))
  have er : (w'.setCell ⟨g, 1, none⟩ (.slice A' n' c')).heap[w.heap.size]? = wr.heap[w.heap.size]? := ek _ (by omega) (by omega) (fun j hj => by have := hrow j hj; omega)
  refine ⟨h.cur.block (ek p (by omega) h.cur.lt (fun j hj => by have := hrow j hj; omega)), ⟨hap.grown.os.trans h.grown.os, hap.grown.tape.trans h.grown.tape, hap.grown.output.trans h.grown.output, by have := h.grown.size; simp; omega, fun k hk hne => by
      rw [ek k (by omega) (by have := h.grown.size; omega) (fun j hj => by have := hrow j hj; omega)]; exact h.grown.block k hk hne⟩, hgg, by simp; omega,
    by rw [World.cell?_of_block (w := wr) er]; exact h.r0, by rw [World.cell?_of_block (w := wr) er]; exact h.r1, by rw [World.frozen?_of_block (w := wr) er]; exact h.f0, by rw [World.frozen?_of_block (w := wr) er]; exact h.f1,
    by simpa [ef0] using h.o0, by simpa [ef0] using h.o1, by rw [World.cell?_setCell_other (a := _) (b := _) (h := by simp), e0]; exact h.d0, World.cell?_setCell_same _ _ _ ((e0 1).trans h.d1), ?_, hap', by simpa using hm, hf⟩
  exact hap.own.kept (w' := w'.setCell ⟨g, 1, none⟩ (.slice A' n' c')) (row := some g) ⟨rfl, rfl, rfl, by simp, fun k _ hne => hb k (fun e => hne (by rw [e]))⟩ (by
    cases hk : (Value.slice A' n' c').ownBlock with
    | none => exact .inl rfl
    | some k => exact .inr (fun e => hap' k hk (Option.some.inj e)))
/-- A cell of the label's row is set. -/
theorem Dr.cell {p : Nat} {a : Option Addr} {len cap g b : Nat} {w wr : World} {n c : Nat} {l : Lab} (h : Dr p a len cap g w wr (some ⟨b, 0, none⟩) n c l) (hp : p < w.heap.size) (j : Nat) (u : Value) (ps : List (Int × Int)) (hps : setAll (ptcells l.parts) j [u] = ptcells ps) (hl : ps.length = n) :
    Dr p a len cap g w (wr.setCell ⟨b, j, none⟩ u) (some ⟨b, 0, none⟩) n c ⟨l.base, ps⟩ := by
  have hk := h.own.lt b rfl
  have hb := h.apart b rfl
  obtain ⟨o1, o2⟩ := own_set1 h.own j u
  have hgl := h.gl
  have hgg := h.hg
  refine h.gbrow hp (h.cur.block (Below.heap_setCell _ _ _ _ (by simp only []; omega))) o2 (fun k hk' => .inr (by have := Option.some.inj hk'; omega)) rfl ?_ (by rw [hps] at o1; exact o1) h.apart hl h.few
  rw [World.cell?_setCell_other (a := _) (b := _) (h := fun e => hb (by cases e; rfl))]
  exact h.d1
/-- The label is begun anew. -/
theorem Dr.reset {p : Nat} {a : Option Addr} {len cap g : Nat} {w wr : World} {A : Option Addr} {n c : Nat} {l : Lab} (h : Dr p a len cap g w wr A n c l) (hp : p < w.heap.size) (x : Int) :
    Dr p a len cap g w ((wr.setCell ⟨g, 0, none⟩ (.int .i64 x)).setCell ⟨g, 1, none⟩ (.slice none 0 0)) none 0 0 ⟨x, []⟩ := by
  have h1 := h.base hp x
  have hgg := h.hg
  have hgl := h1.gl
  have hb : ∀ k, k ≠ g → ((wr.setCell ⟨g, 0, none⟩ (.int .i64 x)).setCell ⟨g, 1, none⟩ (.slice none 0 0)).heap[k]? = (wr.setCell ⟨g, 0, none⟩ (.int .i64 x)).heap[k]? := fun k hk => Below.heap_setCell _ _ _ _ (by simpa using hk)
  refine ⟨h1.cur.block (hb p (by omega)), ⟨h1.grown.os, h1.grown.tape, h1.grown.output, by simpa using h1.grown.size, fun k hk hne => by rw [hb k (by omega)]; exact h1.grown.block k hk hne⟩, hgg, by simpa using h.gl,
    by rw [World.cell?_of_block (hb _ (by simp only []; omega))]; exact h1.r0, by rw [World.cell?_of_block (hb _ (by simp only []; omega))]; exact h1.r1, by simpa using h1.f0, by simpa using h1.f1, by simpa using h1.o0, by simpa using h1.o1,
    by rw [World.cell?_setCell_other (a := _) (b := _) (h := by simp)]; exact h1.d0, World.cell?_setCell_same _ _ _ h1.d1, World.ownsRow_nil _ _ _ _, (fun k hk => by simp [Value.ownBlock] at hk), rfl, by omega⟩
theorem Dr.done {p : Nat} {a : Option Addr} {len cap g : Nat} {w wr : World} {A : Option Addr} {n c : Nat} {l : Lab} (h : Dr p a len cap g w wr A n c l) (hp : p < w.heap.size) :
    DrawnLab 100 p a len cap w (.returned (.agg #[.int .i64 l.base, .slice A n c])) ((wr.setCell ⟨w.heap.size, 0, none⟩ (.int .i64 l.base)).setCell ⟨w.heap.size, 1, none⟩ (.slice A n c)) := by
  have hgg := h.hg
  have hb : ∀ k, k ≠ w.heap.size → ((wr.setCell ⟨w.heap.size, 0, none⟩ (.int .i64 l.base)).setCell ⟨w.heap.size, 1, none⟩ (.slice A n c)).heap[k]? = wr.heap[k]? := fun k hk => by rw [Below.heap_setCell _ _ _ _ (by simpa using hk), Below.heap_setCell _ _ _ _ (by simpa using hk)]
  refine ⟨_, l, rfl, ⟨A, n, c, rfl, h.len, by have := h.few; omega, own_lower (ownsRow_setCell_below (ownsRow_setCell_below h.own (by simp only []; omega) _) (by simp only []; omega) _) (by omega)⟩, by have := h.few; have := h.len; omega, h.cur.block (hb p (by omega)), ⟨h.grown.os, h.grown.tape, h.grown.output, by simpa using h.grown.size, fun k hk hne => by rw [hb k (by omega)]; exact h.grown.block k hk hne⟩⟩
end Go.Proofs.YtnpeojlhjbdjiaaGreatDoor
