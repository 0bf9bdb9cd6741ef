/-
  Texts put together: Cur, Cur2, DrawBase. What each proves stands ahead of it.
-/
import Derived.Test.YtppkiokpddieoaaBase
import Derived.Test.YtppkiokpddieoaaMem
/-
  The draws' cursor (l1Cur of the model's package): what it is in memory, and what its functions do with it: a number in range, the cursor still a cursor, nothing else written.
-/
namespace Go.Proofs.Ytppkiokpddieoaa
set_option maxRecDepth 100000
open Go.RowKit

/-- A cursor in block p: the bytes that it reads, its place, its number. -/
structure IsCur (p : Nat) (a : Option Addr) (len cap : Nat) (w : World) : Prop where
  c0 : w.cell? ⟨p, 0, none⟩ = some (.slice a len cap)
  c1 : ∃ i : Nat, i ≤ len ∧ w.cell? ⟨p, 1, none⟩ = some (.int .i64 i)
  c2 : ∃ h : Int, w.cell? ⟨p, 2, none⟩ = some (.int .i64 h)
  f1 : w.frozen? ⟨p, 1, none⟩ = false
  f2 : w.frozen? ⟨p, 2, none⟩ = false

/-- The bytes behind a cursor, as the walk of a draw meets them. -/
def CurRow (w : World) (p : Nat) (a : Option Addr) (len cap : Nat) (zs : List Int) : Prop := IsRow .u8 w a len cap zs ∧ ∀ x, a = some x → 0 < zs.length → x.block ≠ p

/-- What a draw leaves: a number from 0 to n - 1; the cursor; all blocks but p as they were. -/
def Drawn (p : Nat) (a : Option Addr) (len cap : Nat) (n : Int) (w : World) (e : Ending) (w' : World) : Prop :=
  ∃ x : Int, 0 ≤ x ∧ x < n ∧ e = .returned (.int .i64 x) ∧ IsCur p a len cap w' ∧ w.grownBy w' (some p)

theorem IsCur.drew {p : Nat} {a : Option Addr} {len cap : Nat} {w : World} (h : IsCur p a len cap w) : IsCur p a len cap w.drew :=
  ⟨h.c0, h.c1, h.c2, h.f1, h.f2⟩
theorem IsCur.set2 {p : Nat} {a : Option Addr} {len cap : Nat} {w : World} (h : IsCur p a len cap w) (n : Int) : IsCur p a len cap (w.setCell ⟨p, 2, none⟩ (.int .i64 n)) := by
  obtain ⟨c0, ⟨i, hi, c1⟩, ⟨m, c2⟩, f1, f2⟩ := h
  exact ⟨by rw [World.cell?_setCell_other (a := _) (b := _) (h := by simp)]; exact c0, ⟨i, hi, by rw [World.cell?_setCell_other (a := _) (b := _) (h := by simp)]; exact c1⟩, ⟨n, World.cell?_setCell_same _ _ _ c2⟩, by simpa using f1, by simpa using f2⟩
theorem IsCur.set1 {p : Nat} {a : Option Addr} {len cap : Nat} {w : World} (h : IsCur p a len cap w) {n : Int} (h0 : 0 ≤ n) (hn : n ≤ len) : IsCur p a len cap (w.setCell ⟨p, 1, none⟩ (.int .i64 n)) := by
  obtain ⟨c0, ⟨i, hi, c1⟩, ⟨m, c2⟩, f1, f2⟩ := h
  obtain ⟨k, rfl⟩ := Int.eq_ofNat_of_zero_le h0
  exact ⟨by rw [World.cell?_setCell_other (a := _) (b := _) (h := by simp)]; exact c0, ⟨k, by omega, World.cell?_setCell_same _ _ _ c1⟩, ⟨m, by rw [World.cell?_setCell_other (a := _) (b := _) (h := by simp)]; exact c2⟩, by simpa using f1, by simpa using f2⟩
theorem IsCur.block {p : Nat} {a : Option Addr} {len cap : Nat} {w w' : World} (h : IsCur p a len cap w) (he : w'.heap[p]? = w.heap[p]?) : IsCur p a len cap w' := by
  have ec : ∀ i, w'.cell? ⟨p, i, none⟩ = w.cell? ⟨p, i, none⟩ := fun i => World.cell?_of_block (w := w) he
  have ef : ∀ i, w'.frozen? ⟨p, i, none⟩ = w.frozen? ⟨p, i, none⟩ := fun i => World.frozen?_of_block (w := w) he
  obtain ⟨c0, ⟨i, hi, c1⟩, ⟨m, c2⟩, f1, f2⟩ := h
  exact ⟨by rw [ec]; exact c0, ⟨i, hi, by rw [ec]; exact c1⟩, ⟨m, by rw [ec]; exact c2⟩, by rw [ef]; exact f1, by rw [ef]; exact f2⟩
theorem IsCur.lt {p : Nat} {a : Option Addr} {len cap : Nat} {w : World} (h : IsCur p a len cap w) : p < w.heap.size := block_lt_of_cell h.c0
theorem IsCur.alloc {p : Nat} {a : Option Addr} {len cap : Nat} {w : World} (h : IsCur p a len cap w) (o : Obj) : IsCur p a len cap (w.alloc o) :=
  h.block (Below.heap_alloc w o p h.lt)
theorem i64_and255 (n : Int) : bits .and .i64 n 255 = n % 256 := by
  have h255 : (BitVec.ofInt 64 255).toNat = 2 ^ 8 - 1 := by decide
  have key : (BitVec.ofInt 64 n &&& BitVec.ofInt 64 255).toNat = (n % ((2 ^ 64 : Nat) : Int)).toNat % 2 ^ 8 := by
    rw [BitVec.toNat_and, BitVec.toNat_ofInt, h255, Nat.and_two_pow_sub_one_eq_mod]
  show IntKind.i64.wrap ((BitVec.ofInt 64 n &&& BitVec.ofInt 64 255).toNat : Nat) = n % 256
  rw [key, IntKind.wrap_i64]
  omega

theorem byte_any (p : Nat) (a : Option Addr) (len cap : Nat) (zs : List Int) (w : World) (hl : len ≤ 4096) (hc : IsCur p a len cap w) (hr : CurRow w p a len cap zs) :
    Calls Try.prog 25 #[.pointer (some ⟨p, 0, none⟩)] w (Drawn p a len cap 256 w) := by
  have hcur := hc
  obtain ⟨c0, ⟨i, hi, c1⟩, ⟨h, c2⟩, f1, f2⟩ := hc
  obtain ⟨hrow, hne⟩ := hr
  have h255 := i64_and255
  by_cases hlt : i < len
  · rcases hrow with ⟨rfl, rfl, rfl, rfl⟩ | ⟨x, rfl, hl, hm, hz, hcell, hwz⟩
    · omega
    obtain ⟨b, off, rfl, hc⟩ := ints_at hcell (by omega)
    have hb : b ≠ p := hne _ rfl (by omega)
    have hc0 := hc i (by omega)
    clear hcell hc hne
    go_enter Try.func25, Try.ntmps25
    go_wp2
    go_region
    go_wp2
    go_region
    go_wp2
    go_region
    go_wp2
    go_ret
    exact ⟨_, by omega, by omega, rfl, by repeat (first | exact hcur | apply IsCur.drew | apply IsCur.set2 | refine IsCur.set1 ?_ (by omega) (by omega)), by repeat (first | exact World.grownBy.refl _ _ | apply gb_drew | apply gb_set)⟩
  · have hge : (len : Int) ≤ i := by omega
    go_enter Try.func25, Try.ntmps25
    go_wp2
    go_region
    go_wp2
    go_region
    go_wp2
    go_ret
    exact ⟨_, by omega, by omega, rfl, by repeat (first | exact hcur | apply IsCur.drew | apply IsCur.set2 | refine IsCur.set1 ?_ (by omega) (by omega)), by repeat (first | exact World.grownBy.refl _ _ | apply gb_drew | apply gb_set)⟩

theorem drawn_mk {p : Nat} {a : Option Addr} {len cap : Nat} {n x : Int} {w w' : World} (h0 : 0 ≤ x) (h1 : x < n) (hc : IsCur p a len cap w') (hg : w.grownBy w' (some p)) :
    Drawn p a len cap n w (.returned (.int .i64 x)) w' := ⟨x, h0, h1, rfl, hc, hg⟩
theorem add_block (x : Addr) (i : Nat) : (x.add i).block = x.block := by unfold Addr.add; split <;> rfl
theorem CurRow.kept {w w' : World} {p : Nat} {a : Option Addr} {len cap : Nat} {zs : List Int} (h : CurRow w p a len cap zs) (hg : w.grownBy w' (some p)) : CurRow w' p a len cap zs := by
  obtain ⟨hr, hne⟩ := h
  refine ⟨?_, hne⟩
  rcases hr with hr | ⟨x, rfl, hl, hm, hz, hcell, hwz⟩
  · exact .inl hr
  · exact .inr ⟨x, rfl, hl, hm, hz, fun i hi => hg.cell (hcell i hi) (fun e => hne x rfl (by omega) (by have := Option.some.inj e; rw [add_block] at this; exact this)), hwz⟩

/-- 0 .. n - 1. -/
theorem below_any (p : Nat) (a : Option Addr) (len cap : Nat) (zs : List Int) (n : Int) (w : World) (hl : len ≤ 4096) (h1 : 1 ≤ n) (h2 : n ≤ 1000000000000) (hc : IsCur p a len cap w) (hr : CurRow w p a len cap zs) :
    Calls Try.prog 17 #[.pointer (some ⟨p, 0, none⟩), .int .i64 n] w (Drawn p a len cap n w) := by
  have h0 : ¬ n ≤ 0 := by omega
  have hne : n ≠ 0 := by omega
  by_cases hs : n ≤ 256
  · go_enter Try.func17, Try.ntmps17
    go_wp2_with (go_at_call 25; refine (byte_any p a len cap zs _ hl hc hr).mono ?_; rintro e w1 ⟨x, hx0, hx1, rfl, hc1, hg1⟩)
    go_ret
    exact drawn_mk (Int.emod_nonneg _ hne) (Int.emod_lt_of_pos _ (by omega)) hc1 hg1
  · go_enter Try.func17, Try.ntmps17
    go_wp2_with fail
    refine (byte_any p a len cap zs _ hl hc hr).mono ?_
    rintro e w1 ⟨x, hx0, hx1, rfl, hc1, hg1⟩
    have hr1 := hr.kept hg1
    clear hr hc
    go_wp2_with fail
    refine (byte_any p a len cap zs _ hl hc1 hr1).mono ?_
    rintro e w2 ⟨y, hy0, hy1, rfl, hc2, hg2⟩
    have hr2 := hr1.kept hg2
    clear hr1 hc1
    go_wp2_with fail
    refine (byte_any p a len cap zs _ hl hc2 hr2).mono ?_
    rintro e w3 ⟨z, hz0, hz1, rfl, hc3, hg3⟩
    have hr3 := hr2.kept hg3
    clear hr2 hc2
    go_wp2_with fail
    refine (byte_any p a len cap zs _ hl hc3 hr3).mono ?_
    rintro e w4 ⟨u, hu0, hu1, rfl, hc4, hg4⟩
    go_wp2
    go_ret
    exact drawn_mk (Int.emod_nonneg _ hne) (Int.emod_lt_of_pos _ (by omega)) hc4 (gb_trans (gb_trans (gb_trans hg1 hg2) hg3) hg4)

/-- lo .. hi. -/
theorem from_any (p : Nat) (a : Option Addr) (len cap : Nat) (zs : List Int) (lo hi : Int) (w : World) (hl : len ≤ 4096) (hlo : -1000000000 ≤ lo) (hlh : lo ≤ hi) (hhi : hi ≤ 1000000000) (hc : IsCur p a len cap w) (hr : CurRow w p a len cap zs) :
    Calls Try.prog 14 #[.pointer (some ⟨p, 0, none⟩), .int .i64 lo, .int .i64 hi] w fun e w' => ∃ x : Int, lo ≤ x ∧ x ≤ hi ∧ e = .returned (.int .i64 x) ∧ IsCur p a len cap w' ∧ w.grownBy w' (some p) := by
  go_enter Try.func14, Try.ntmps14
  go_wp2_with fail
  refine (below_any p a len cap zs _ _ hl (by omega) (by omega) hc hr).mono ?_
  rintro e w1 ⟨x, hx0, hx1, rfl, hc1, hg1⟩
  go_wp2
  go_ret
  exact ⟨_, by omega, by omega, rfl, hc1, hg1⟩

theorem i64_and30 (n : Int) : bits .and .i64 n 1073741823 = n % 1073741824 := by
  have h30 : (BitVec.ofInt 64 1073741823).toNat = 2 ^ 30 - 1 := by decide
  have key : (BitVec.ofInt 64 n &&& BitVec.ofInt 64 1073741823).toNat = (n % ((2 ^ 64 : Nat) : Int)).toNat % 2 ^ 30 := by
    rw [BitVec.toNat_and, BitVec.toNat_ofInt, h30, Nat.and_two_pow_sub_one_eq_mod]
  show IntKind.i64.wrap ((BitVec.ofInt 64 n &&& BitVec.ofInt 64 1073741823).toNat : Nat) = n % 1073741824
  rw [key, IntKind.wrap_i64]
  omega

/-- A new cursor: a new block behind all others; nothing else is written. -/
def NewCur (a : Option Addr) (len cap : Nat) (w : World) (e : Ending) (w' : World) : Prop :=
  ∃ p : Nat, w.heap.size ≤ p ∧ e = .returned (.pointer (some ⟨p, 0, none⟩)) ∧ IsCur p a len cap w' ∧ Below w.heap.size w w'

theorem new_any (a : Option Addr) (len cap : Nat) (zs : List Int) (w : World) (hl : len ≤ 4096) (hr : IsRow .u8 w a len cap zs) :
    Calls Try.prog 13 #[.slice a len cap] w (NewCur a len cap w) := by
  have h30 := i64_and30
  go_enter Try.func13, Try.ntmps13
  go_wp2
  go_loop [3, 4] (fun h i => (∃ n : Int, h = .int .i64 n) ∧ ∃ k : Nat, k ≤ len ∧ i = .int .i64 k) (fun _ i => len - (intOf i).toNat)
  case atStart => exact ⟨⟨_, rfl⟩, 0, by omega, rfl⟩
  case round =>
    obtain ⟨⟨n, rfl⟩, k, hk, rfl⟩ := hrel
    by_cases hlt : k < len
    · rcases hr with ⟨rfl, rfl, rfl, rfl⟩ | ⟨x, rfl, hl', hm, hz, hcell, hwz⟩
      · omega
      obtain ⟨b, off, rfl, hc⟩ := ints_at hcell (by omega)
      have hc0 := hc k (by omega)
      clear hcell hc hwz
      go_wp2
      go_round
      case rel => exact ⟨⟨_, rfl⟩, k + 1, by omega, by go_num⟩
      case measure => simp [intOf]; omega
    · have hge : (len : Int) ≤ k := by omega
      go_wp2
      go_ret
      exact ⟨_, Nat.le_refl _, rfl, ⟨World.cell?_alloc_new _ _ _ 0, ⟨0, by omega, World.cell?_alloc_new _ _ _ 1⟩, ⟨n, World.cell?_alloc_new _ _ _ 2⟩, World.frozen?_alloc_new _ _ _ 1, World.frozen?_alloc_new _ _ _ 2⟩, by go_grown⟩

theorem CurRow.start {a : Option Addr} {len cap p : Nat} {zs : List Int} {w w' : World} (hr : IsRow .u8 w a len cap zs) (hb : Below w.heap.size w w') (hp : w.heap.size ≤ p) : CurRow w' p a len cap zs := by
  rcases hr with hr | ⟨x, rfl, hl, hm, hz, hcell, hwz⟩
  · exact ⟨.inl hr, fun x hx => by rw [hr.1] at hx; cases hx⟩
  · have hx : 0 < zs.length → x.block < w.heap.size := fun h => by
      have := block_lt_of_cell (hcell 0 h)
      rwa [add_block] at this
    refine ⟨.inr ⟨x, rfl, hl, hm, hz, fun i hi => ?_, hwz⟩, fun y hy h => by cases hy; have := hx h; omega⟩
    rw [hb.cell (by rw [add_block]; exact hx (by omega))]
    exact hcell i hi
theorem IsRow.below {k : IntKind} {a : Option Addr} {len cap : Nat} {zs : List Int} {w w' : World} (hr : IsRow k w a len cap zs) (hb : Below w.heap.size w w') : IsRow k w' a len cap zs := by
  rcases hr with hr | ⟨x, rfl, hl, hm, hz, hcell, hwz⟩
  · exact .inl hr
  · refine .inr ⟨x, rfl, hl, hm, hz, fun i hi => ?_, hwz⟩
    rw [hb.cell (block_lt_of_cell (hcell i hi))]
    exact hcell i hi

theorem big_no (a : Option Addr) (len cap : Nat) (w : World) (hl : (len : Int) ≤ 4096) :
    Calls Try.prog 6 #[.slice a len cap] w fun e w' => e = .returned (.bool false) ∧ w = w' := by
  go_enter Try.func6, Try.ntmps6
  go_wp2
  go_ret
  exact ⟨by simp; omega, rfl⟩
theorem big_yes (a : Option Addr) (len cap : Nat) (w : World) (hl : (4096 : Int) < len) :
    Calls Try.prog 6 #[.slice a len cap] w fun e w' => e = .returned (.bool true) ∧ w = w' := by
  go_enter Try.func6, Try.ntmps6
  go_wp2
  go_ret
  exact ⟨by simp, rfl⟩
end Go.Proofs.Ytppkiokpddieoaa

/-
  The draws' cursor, more: once in n, odd numbers, numbers from 0 to most.
-/
namespace Go.Proofs.Ytppkiokpddieoaa
set_option maxRecDepth 100000
open Go.RowKit

/-- A number, whatever; a bool, whatever. -/
def DrawnInt (p : Nat) (a : Option Addr) (len cap : Nat) (w : World) (e : Ending) (w' : World) : Prop := ∃ x : Int, e = .returned (.int .i64 x) ∧ IsCur p a len cap w' ∧ w.grownBy w' (some p)
def DrawnBool (p : Nat) (a : Option Addr) (len cap : Nat) (w : World) (e : Ending) (w' : World) : Prop := ∃ b : Bool, e = .returned (.bool b) ∧ IsCur p a len cap w' ∧ w.grownBy w' (some p)
theorem drawnInt_mk {p : Nat} {a : Option Addr} {len cap : Nat} {x : Int} {w w' : World} (hc : IsCur p a len cap w') (hg : w.grownBy w' (some p)) : DrawnInt p a len cap w (.returned (.int .i64 x)) w' := ⟨x, rfl, hc, hg⟩
theorem drawnBool_mk {p : Nat} {a : Option Addr} {len cap : Nat} {b : Bool} {w w' : World} (hc : IsCur p a len cap w') (hg : w.grownBy w' (some p)) : DrawnBool p a len cap w (.returned (.bool b)) w' := ⟨b, rfl, hc, hg⟩
/-- A number of int64, whatever. -/
def InI64 (x : Int) : Prop := -9223372036854775808 ≤ x ∧ x ≤ 9223372036854775807
theorem InI64.wf {x : Int} (h : InI64 x) : (Lit.int .i64 x).wf = true := by
  have m : IntKind.i64.min = -9223372036854775808 := by decide
  simpa [Lit.wf, m, InI64] using h
theorem InI64.of {x : Int} (h : (Lit.int .i64 x).wf = true) : InI64 x := by
  have m : IntKind.i64.min = -9223372036854775808 := by decide
  simpa [Lit.wf, m, InI64] using h
def DrawnI64 (p : Nat) (a : Option Addr) (len cap : Nat) (w : World) (e : Ending) (w' : World) : Prop := ∃ x : Int, InI64 x ∧ e = .returned (.int .i64 x) ∧ IsCur p a len cap w' ∧ w.grownBy w' (some p)
theorem drawnI64_mk {p : Nat} {a : Option Addr} {len cap : Nat} {x : Int} {w w' : World} (hx : InI64 x) (hc : IsCur p a len cap w') (hg : w.grownBy w' (some p)) : DrawnI64 p a len cap w (.returned (.int .i64 x)) w' := ⟨x, hx, rfl, hc, hg⟩
theorem gb_alloc {w w' : World} {row : Option Nat} (h : w.grownBy w' row) (o : Obj) : w.grownBy (w'.alloc o) row := gb_trans h (World.grownBy_alloc _ _ _)

section
variable (p : Nat) (a : Option Addr) (len cap : Nat) (zs : List Int)

theorem once_any (n : Int) (w : World) (hl : len ≤ 4096) (h1 : 1 ≤ n) (h2 : n ≤ 1000) (hc : IsCur p a len cap w) (hr : CurRow w p a len cap zs) :
    Calls Try.prog 15 #[.pointer (some ⟨p, 0, none⟩), .int .i64 n] w (DrawnBool p a len cap w) := by
  go_enter Try.func15, Try.ntmps15
  go_wp2_with fail
  refine (below_any p a len cap zs n _ hl h1 (by omega) hc hr).mono ?_
  rintro e w1 ⟨x, hx0, hx1, rfl, hc1, hg1⟩
  go_wp2
  go_ret
  exact drawnBool_mk hc1 hg1

/-- A table of numbers that the call has just laid: each place holds one. -/
theorem table_at {w w' : World} {t : TypeId} (ns : List Int) (hg : (w.alloc (.cells (ns.map (Value.int .i64)).toArray t)).grownBy w' (some p)) (hp : p < w.heap.size) {k : Nat} (hk : k < ns.length) :
    ∃ v : Int, w'.cell? ⟨w.heap.size, k, none⟩ = some (.int .i64 v) := by
  refine ⟨ns[k], hg.cell ?_ (fun e => by have := Option.some.inj e; simp only [] at this; omega)⟩
  rw [World.cell?_alloc_new]
  simp [hk]

/-- .. and each is one of int64, where all of them are. -/
theorem table_in {w w' : World} {t : TypeId} (ns : List Int) (hg : (w.alloc (.cells (ns.map (Value.int .i64)).toArray t)).grownBy w' (some p)) (hp : p < w.heap.size) {k : Nat} (hk : k < ns.length) (hn : ∀ x ∈ ns, InI64 x) :
    ∃ v : Int, Hid (InI64 v) ∧ w'.cell? ⟨w.heap.size, k, none⟩ = some (.int .i64 v) := by
  refine ⟨ns[k], Lib.hid (hn _ (List.getElem_mem hk)), hg.cell ?_ (fun e => by have := Option.some.inj e; simp only [] at this; omega)⟩
  rw [World.cell?_alloc_new]
  simp [hk]

theorem odd_in (w : World) (hl : len ≤ 4096) (hc : IsCur p a len cap w) (hr : CurRow w p a len cap zs) :
    Calls Try.prog 23 #[.pointer (some ⟨p, 0, none⟩)] w (DrawnI64 p a len cap w) := by
  have hlt := hc.lt
  go_enter Try.func23, Try.ntmps23
  go_wp2_with fail
  refine (below_any p a len cap zs _ _ hl (by omega) (by omega) (hc.alloc _) (hr.kept (World.grownBy_alloc _ _ _))).mono ?_
  rintro e w2 ⟨x, hx0, hx1, rfl, hc2, hg2⟩
  obtain ⟨k, rfl⟩ := Int.eq_ofNat_of_zero_le hx0
  obtain ⟨v, HV, hv⟩ := table_in p [-1, 0, 1, 2147483648, -2147483648, 1099511627776, 4611686018427387904, -4611686018427387904, 9223372036854775807, -9223372036854775808] hg2 hlt (k := k) (by simp; omega) (by intro x hx; simp at hx; unfold InI64; omega)
  have HG := Lib.hid hg2
  clear hg2
  go_wp2
  go_ret
  exact drawnI64_mk HV.out hc2 (gb_trans (World.grownBy_alloc _ _ _) HG.out)
theorem odd_any (w : World) (hl : len ≤ 4096) (hc : IsCur p a len cap w) (hr : CurRow w p a len cap zs) :
    Calls Try.prog 23 #[.pointer (some ⟨p, 0, none⟩)] w (DrawnInt p a len cap w) := (odd_in p a len cap zs w hl hc hr).mono fun _ _ ⟨x, _, he, hc, hg⟩ => ⟨x, he, hc, hg⟩

theorem min_any (x y : Int) (w : World) : Calls Try.prog 24 #[.int .i64 x, .int .i64 y] w fun e w' => e = .returned (.int .i64 (if x < y then x else y)) ∧ w = w' := by
  by_cases h : x < y
  · rw [if_pos h]
    go_enter Try.func24, Try.ntmps24
    go_wp2
    go_ret
    exact ⟨rfl, rfl⟩
  · rw [if_neg h]
    go_enter Try.func24, Try.ntmps24
    go_wp2
    go_ret
    exact ⟨rfl, rfl⟩

theorem num_in (most : Int) (w : World) (hl : len ≤ 4096) (h1 : 0 ≤ most) (h2 : most ≤ 1000000000) (hc : IsCur p a len cap w) (hr : CurRow w p a len cap zs) :
    Calls Try.prog 16 #[.pointer (some ⟨p, 0, none⟩), .int .i64 most] w (DrawnI64 p a len cap w) := by
  go_enter Try.func16, Try.ntmps16
  go_wp2_with fail
  refine (once_any p a len cap zs _ _ hl (by omega) (by omega) hc hr).mono ?_
  rintro e w1 ⟨b, rfl, hc1, hg1⟩
  have hr1 := hr.kept hg1
  cases b
  · go_wp2_with fail
    refine (once_any p a len cap zs _ _ hl (by omega) (by omega) hc1 hr1).mono ?_
    rintro e w2 ⟨b, rfl, hc2, hg2⟩
    have hr2 := hr1.kept hg2
    cases b
    · go_wp2_with fail
      refine (below_any p a len cap zs _ _ hl (by omega) (by omega) hc2 hr2).mono ?_
      rintro e w3 ⟨x, hx0, hx1, rfl, hc3, hg3⟩
      go_wp2
      go_ret
      exact drawnI64_mk (by unfold InI64; omega) hc3 (gb_trans (gb_trans hg1 hg2) hg3)
    · by_cases hm : most < 4
      · go_wp2_with (go_at_call 24; refine (min_any _ _ _).mono ?_; rw [if_pos (by omega)]; rintro e w' ⟨rfl, rfl⟩)
        refine (below_any p a len cap zs _ _ hl (by omega) (by omega) hc2 hr2).mono ?_
        rintro e w3 ⟨x, hx0, hx1, rfl, hc3, hg3⟩
        go_wp2
        go_ret
        exact drawnI64_mk (by unfold InI64; omega) hc3 (gb_trans (gb_trans hg1 hg2) hg3)
      · go_wp2_with (go_at_call 24; refine (min_any _ _ _).mono ?_; rw [if_neg (by omega)]; rintro e w' ⟨rfl, rfl⟩)
        refine (below_any p a len cap zs _ _ hl (by omega) (by omega) hc2 hr2).mono ?_
        rintro e w3 ⟨x, hx0, hx1, rfl, hc3, hg3⟩
        go_wp2
        go_ret
        exact drawnI64_mk (by unfold InI64; omega) hc3 (gb_trans (gb_trans hg1 hg2) hg3)
  · have hlt := hc1.lt
    go_wp2_with fail
    refine (odd_in p a len cap zs _ hl hc1 hr1).mono ?_
    rintro e w2 ⟨od, hod, rfl, hc2, hg2⟩
    have hlt2 := hc2.lt
    have HO := Lib.hid hod
    clear hod
    have hr2 := hr1.kept hg2
    go_wp2_with fail
    refine (below_any p a len cap zs _ _ hl (by omega) (by omega) (hc2.alloc _) (hr2.kept (World.grownBy_alloc _ _ _))).mono ?_
    rintro e w3 ⟨x, hx0, hx1, rfl, hc3, hg3⟩
    obtain ⟨k, rfl⟩ := Int.eq_ofNat_of_zero_le hx0
    obtain ⟨v, HV, hv⟩ := table_in p [-1, most, most + 1, od] hg3 hlt2 (k := k) (by simp; omega) (by intro x hx; have := HO.out; simp at hx; unfold InI64 at *; omega)
    have HG := Lib.hid hg3
    clear hg3
    go_wp2
    go_ret
    exact drawnI64_mk HV.out hc3 (gb_trans (gb_trans hg1 hg2) (gb_trans (World.grownBy_alloc _ _ _) HG.out))
theorem num_any (most : Int) (w : World) (hl : len ≤ 4096) (h1 : 0 ≤ most) (h2 : most ≤ 1000000000) (hc : IsCur p a len cap w) (hr : CurRow w p a len cap zs) :
    Calls Try.prog 16 #[.pointer (some ⟨p, 0, none⟩), .int .i64 most] w (DrawnInt p a len cap w) := (num_in p a len cap zs most w hl h1 h2 hc hr).mono fun _ _ ⟨x, _, he, hc, hg⟩ => ⟨x, he, hc, hg⟩
end
/-- The call returns a number of int64, whatever. -/
def DrI64 (w : World) (e : Ending) (w' : World) : Prop := ∃ x, InI64 x ∧ e = .returned (.int .i64 x) ∧ Below w.heap.size w w'
def DrNum (w : World) (e : Ending) (w' : World) : Prop := ∃ x, e = .returned (.int .i64 x) ∧ Below w.heap.size w w'
theorem gb_below {w w1 w2 : World} {p : Nat} (h : Below w.heap.size w w1) (hg : w1.grownBy w2 (some p)) (hp : w.heap.size ≤ p) : Below w.heap.size w w2 := h.grown hg h.size (fun k hk => by have := Option.some.inj hk; omega)
end Go.Proofs.Ytppkiokpddieoaa

/-
  Words for the draws: what a draw hands out, and what it keeps.
-/
namespace Go.Proofs.Ytppkiokpddieoaa
set_option maxRecDepth 100000
open Go.RowKit

end Go.Proofs.Ytppkiokpddieoaa
