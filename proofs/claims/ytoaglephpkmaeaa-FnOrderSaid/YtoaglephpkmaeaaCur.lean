/-
  The draws' cursor (l1Cur of the model's package): what it is in memory, and what its functions do with it: a number in range, the cursor still a cursor, nothing else written.
-/
import Derived.Test.YtoaglephpkmaeaaBase
import Derived.Test.YtoaglephpkmaeaaMem
namespace Go.Proofs.Ytoaglephpkmaeaa
set_option maxRecDepth 100000
open Go.RowKit

/-- A cursor in block p: the bytes that it reads, its place, its number. -/
structure IsCur (p : Nat) (a : Option Addr) (len cap : Nat) (w : World) : Prop where
  c0 : w.cell? ⟨p, 0, none⟩ = some (.slice a len cap)
  c1 : ∃ i : Nat, i ≤ len ∧ w.cell? ⟨p, 1, none⟩ = some (.int .i64 i)
  c2 : ∃ h : Int, w.cell? ⟨p, 2, none⟩ = some (.int .i64 h)
  f1 : w.frozen? ⟨p, 1, none⟩ = false
  f2 : w.frozen? ⟨p, 2, none⟩ = false

/-- The bytes behind a cursor, as the walk of a draw meets them. -/
def CurRow (w : World) (p : Nat) (a : Option Addr) (len cap : Nat) (zs : List Int) : Prop := IsRow .u8 w a len cap zs ∧ ∀ x, a = some x → 0 < zs.length → x.block ≠ p

/-- What a draw leaves: a number from 0 to n - 1; the cursor; all blocks but p as they were. -/
def Drawn (p : Nat) (a : Option Addr) (len cap : Nat) (n : Int) (w : World) (e : Ending) (w' : World) : Prop :=
  ∃ x : Int, 0 ≤ x ∧ x < n ∧ e = .returned (.int .i64 x) ∧ IsCur p a len cap w' ∧ w.grownBy w' (some p)

theorem IsCur.drew {p : Nat} {a : Option Addr} {len cap : Nat} {w : World} (h : IsCur p a len cap w) : IsCur p a len cap w.drew :=
  ⟨h.c0, h.c1, h.c2, h.f1, h.f2⟩
theorem IsCur.set2 {p : Nat} {a : Option Addr} {len cap : Nat} {w : World} (h : IsCur p a len cap w) (n : Int) : IsCur p a len cap (w.setCell ⟨p, 2, none⟩ (.int .i64 n)) := by
  obtain ⟨c0, ⟨i, hi, c1⟩, ⟨m, c2⟩, f1, f2⟩ := h
  exact ⟨by rw [World.cell?_setCell_other (a := _) (b := _) (h := by simp)]; exact c0, ⟨i, hi, by rw [World.cell?_setCell_other (a := _) (b := _) (h := by simp)]; exact c1⟩, ⟨n, World.cell?_setCell_same _ _ _ c2⟩, by simpa using f1, by simpa using f2⟩
theorem IsCur.set1 {p : Nat} {a : Option Addr} {len cap : Nat} {w : World} (h : IsCur p a len cap w) {n : Int} (h0 : 0 ≤ n) (hn : n ≤ len) : IsCur p a len cap (w.setCell ⟨p, 1, none⟩ (.int .i64 n)) := by
  obtain ⟨c0, ⟨i, hi, c1⟩, ⟨m, c2⟩, f1, f2⟩ := h
  obtain ⟨k, rfl⟩ := Int.eq_ofNat_of_zero_le h0
  exact ⟨by rw [World.cell?_setCell_other (a := _) (b := _) (h := by simp)]; exact c0, ⟨k, by omega, World.cell?_setCell_same _ _ _ c1⟩, ⟨m, by rw [World.cell?_setCell_other (a := _) (b := _) (h := by simp)]; exact c2⟩, by simpa using f1, by simpa using f2⟩
theorem IsCur.block {p : Nat} {a : Option Addr} {len cap : Nat} {w w' : World} (h : IsCur p a len cap w) (he : w'.heap[p]? = w.heap[p]?) : IsCur p a len cap w' := by
  have ec : ∀ i, w'.cell? ⟨p, i, none⟩ = w.cell? ⟨p, i, none⟩ := fun i => World.cell?_of_block (w := w) he
  have ef : ∀ i, w'.frozen? ⟨p, i, none⟩ = w.frozen? ⟨p, i, none⟩ := fun i => World.frozen?_of_block (w := w) he
  obtain ⟨c0, ⟨i, hi, c1⟩, ⟨m, c2⟩, f1, f2⟩ := h
  exact ⟨by rw [ec]; exact c0, ⟨i, hi, by rw [ec]; exact c1⟩, ⟨m, by rw [ec]; exact c2⟩, by rw [ef]; exact f1, by rw [ef]; exact f2⟩
theorem IsCur.lt {p : Nat} {a : Option Addr} {len cap : Nat} {w : World} (h : IsCur p a len cap w) : p < w.heap.size := block_lt_of_cell h.c0
theorem IsCur.alloc {p : Nat} {a : Option Addr} {len cap : Nat} {w : World} (h : IsCur p a len cap w) (o : Obj) : IsCur p a len cap (w.alloc o) :=
  h.block (Below.heap_alloc w o p h.lt)
theorem i64_and255 (n : Int) : bits .and .i64 n 255 = n % 256 := by
  have h255 : (BitVec.ofInt 64 255).toNat = 2 ^ 8 - 1 := by decide
  have key : (BitVec.ofInt 64 n &&& BitVec.ofInt 64 255).toNat = (n % ((2 ^ 64 : Nat) : Int)).toNat % 2 ^ 8 := by
    rw [BitVec.toNat_and, BitVec.toNat_ofInt, h255, Nat.and_two_pow_sub_one_eq_mod]
  show IntKind.i64.wrap ((BitVec.ofInt 64 n &&& BitVec.ofInt 64 255).toNat : Nat) = n % 256
  rw [key, IntKind.wrap_i64]
  omega

theorem byte_any (p : Nat) (a : Option Addr) (len cap : Nat) (zs : List Int) (w : World) (hl : len ≤ 4096) (hc : IsCur p a len cap w) (hr : CurRow w p a len cap zs) :
    Calls Try.prog 68 #[.pointer (some ⟨p, 0, none⟩)] w (Drawn p a len cap 256 w) := by
  have hcur := hc
  obtain ⟨c0, ⟨i, hi, c1⟩, ⟨h, c2⟩, f1, f2⟩ := hc
  obtain ⟨hrow, hne⟩ := hr
  have h255 := i64_and255
  by_cases hlt : i < len
  · rcases hrow with ⟨rfl, rfl, rfl, rfl⟩ | ⟨x, rfl, hl, hm, hz, hcell, hwz⟩
    · omega
    obtain ⟨b, off, rfl, hc⟩ := ints_at hcell (by omega)
    have hb : b ≠ p := hne _ rfl (by omega)
    have hc0 := hc i (by omega)
    clear hcell hc hne
    go_enter Try.func68, Try.ntmps68
    go_wp2
    go_region
    go_wp2
    go_region
    go_wp2
    go_region
    go_wp2
    go_ret
    exact ⟨_, by omega, by omega, rfl, by repeat (first | exact hcur | apply IsCur.drew | apply IsCur.set2 | refine IsCur.set1 ?_ (by omega) (by omega)), by repeat (first | exact World.grownBy.refl _ _ | apply gb_drew | apply gb_set)⟩
  · have hge : (len : Int) ≤ i := by omega
    go_enter Try.func68, Try.ntmps68
    go_wp2
    go_region
    go_wp2
    go_region
    go_wp2
    go_ret
    exact ⟨_, by omega, by omega, rfl, by repeat (first | exact hcur | apply IsCur.drew | apply IsCur.set2 | refine IsCur.set1 ?_ (by omega) (by omega)), by repeat (first | exact World.grownBy.refl _ _ | apply gb_drew | apply gb_set)⟩

theorem drawn_mk {p : Nat} {a : Option Addr} {len cap : Nat} {n x : Int} {w w' : World} (h0 : 0 ≤ x) (h1 : x < n) (hc : IsCur p a len cap w') (hg : w.grownBy w' (some p)) :
    Drawn p a len cap n w (.returned (.int .i64 x)) w' := ⟨x, h0, h1, rfl, hc, hg⟩
theorem add_block (x : Addr) (i : Nat) : (x.add i).block = x.block := by unfold Addr.add; split <;> rfl
theorem CurRow.kept {w w' : World} {p : Nat} {a : Option Addr} {len cap : Nat} {zs : List Int} (h : CurRow w p a len cap zs) (hg : w.grownBy w' (some p)) : CurRow w' p a len cap zs := by
  obtain ⟨hr, hne⟩ := h
  refine ⟨?_, hne⟩
  rcases hr with hr | ⟨x, rfl, hl, hm, hz, hcell, hwz⟩
  · exact .inl hr
  · exact .inr ⟨x, rfl, hl, hm, hz, fun i hi => hg.cell (hcell i hi) (fun e => hne x rfl (by omega) (by have := Option.some.inj e; rw [add_block] at this; exact this)), hwz⟩

/-- 0 .. n - 1. -/
theorem below_any (p : Nat) (a : Option Addr) (len cap : Nat) (zs : List Int) (n : Int) (w : World) (hl : len ≤ 4096) (h1 : 1 ≤ n) (h2 : n ≤ 1000000000000) (hc : IsCur p a len cap w) (hr : CurRow w p a len cap zs) :
    Calls Try.prog 53 #[.pointer (some ⟨p, 0, none⟩), .int .i64 n] w (Drawn p a len cap n w) := by
  have h0 : ¬ n ≤ 0 := by omega
  have hne : n ≠ 0 := by omega
  by_cases hs : n ≤ 256
  · go_enter Try.func53, Try.ntmps53
    go_wp2_with (go_at_call 68; refine (byte_any p a len cap zs _ hl hc hr).mono ?_; rintro e w1 ⟨x, hx0, hx1, rfl, hc1, hg1⟩)
    go_ret
    exact drawn_mk (Int.emod_nonneg _ hne) (Int.emod_lt_of_pos _ (by omega)) hc1 hg1
  · go_enter Try.func53, Try.ntmps53
    go_wp2_with fail
    refine (byte_any p a len cap zs _ hl hc hr).mono ?_
    rintro e w1 ⟨x, hx0, hx1, rfl, hc1, hg1⟩
    have hr1 := hr.kept hg1
    clear hr hc
    go_wp2_with fail
    refine (byte_any p a len cap zs _ hl hc1 hr1).mono ?_
    rintro e w2 ⟨y, hy0, hy1, rfl, hc2, hg2⟩
    have hr2 := hr1.kept hg2
    clear hr1 hc1
    go_wp2_with fail
    refine (byte_any p a len cap zs _ hl hc2 hr2).mono ?_
    rintro e w3 ⟨z, hz0, hz1, rfl, hc3, hg3⟩
    have hr3 := hr2.kept hg3
    clear hr2 hc2
    go_wp2_with fail
    refine (byte_any p a len cap zs _ hl hc3 hr3).mono ?_
    rintro e w4 ⟨u, hu0, hu1, rfl, hc4, hg4⟩
    go_wp2
    go_ret
    exact drawn_mk (Int.emod_nonneg _ hne) (Int.emod_lt_of_pos _ (by omega)) hc4 (gb_trans (gb_trans (gb_trans hg1 hg2) hg3) hg4)

/-- lo .. hi. -/
theorem from_any (p : Nat) (a : Option Addr) (len cap : Nat) (zs : List Int) (lo hi : Int) (w : World) (hl : len ≤ 4096) (hlo : -1000000000 ≤ lo) (hlh : lo ≤ hi) (hhi : hi ≤ 1000000000) (hc : IsCur p a len cap w) (hr : CurRow w p a len cap zs) :
    Calls Try.prog 54 #[.pointer (some ⟨p, 0, none⟩), .int .i64 lo, .int .i64 hi] w fun e w' => ∃ x : Int, lo ≤ x ∧ x ≤ hi ∧ e = .returned (.int .i64 x) ∧ IsCur p a len cap w' ∧ w.grownBy w' (some p) := by
  go_enter Try.func54, Try.ntmps54
  go_wp2_with fail
  refine (below_any p a len cap zs _ _ hl (by omega) (by omega) hc hr).mono ?_
  rintro e w1 ⟨x, hx0, hx1, rfl, hc1, hg1⟩
  go_wp2
  go_ret
  exact ⟨_, by omega, by omega, rfl, hc1, hg1⟩

theorem i64_and30 (n : Int) : bits .and .i64 n 1073741823 = n % 1073741824 := by
  have h30 : (BitVec.ofInt 64 1073741823).toNat = 2 ^ 30 - 1 := by decide
  have key : (BitVec.ofInt 64 n &&& BitVec.ofInt 64 1073741823).toNat = (n % ((2 ^ 64 : Nat) : Int)).toNat % 2 ^ 30 := by
    rw [BitVec.toNat_and, BitVec.toNat_ofInt, h30, Nat.and_two_pow_sub_one_eq_mod]
  show IntKind.i64.wrap ((BitVec.ofInt 64 n &&& BitVec.ofInt 64 1073741823).toNat : Nat) = n % 1073741824
  rw [key, IntKind.wrap_i64]
  omega

/-- A new cursor: a new block behind all others; nothing else is written. -/
def NewCur (a : Option Addr) (len cap : Nat) (w : World) (e : Ending) (w' : World) : Prop :=
  ∃ p : Nat, w.heap.size ≤ p ∧ e = .returned (.pointer (some ⟨p, 0, none⟩)) ∧ IsCur p a len cap w' ∧ Below w.heap.size w w'

theorem new_any (a : Option Addr) (len cap : Nat) (zs : List Int) (w : World) (hl : len ≤ 4096) (hr : IsRow .u8 w a len cap zs) :
    Calls Try.prog 22 #[.slice a len cap] w (NewCur a len cap w) := by
  have h30 := i64_and30
  go_enter Try.func22, Try.ntmps22
  go_wp2
  go_loop [3, 4] (fun h i => (∃ n : Int, h = .int .i64 n) ∧ ∃ k : Nat, k ≤ len ∧ i = .int .i64 k) (fun _ i => len - (intOf i).toNat)
  case atStart => exact ⟨⟨_, rfl⟩, 0, by omega, rfl⟩
  case round =>
    obtain ⟨⟨n, rfl⟩, k, hk, rfl⟩ := hrel
    by_cases hlt : k < len
    · rcases hr with ⟨rfl, rfl, rfl, rfl⟩ | ⟨x, rfl, hl', hm, hz, hcell, hwz⟩
      · omega
      obtain ⟨b, off, rfl, hc⟩ := ints_at hcell (by omega)
      have hc0 := hc k (by omega)
      clear hcell hc hwz
      go_wp2
      go_round
      case rel => exact ⟨⟨_, rfl⟩, k + 1, by omega, by go_num⟩
      case measure => simp [intOf]; omega
    · have hge : (len : Int) ≤ k := by omega
      go_wp2
      go_ret
      exact ⟨_, Nat.le_refl _, rfl, ⟨World.cell?_alloc_new _ _ _ 0, ⟨0, by omega, World.cell?_alloc_new _ _ _ 1⟩, ⟨n, World.cell?_alloc_new _ _ _ 2⟩, World.frozen?_alloc_new _ _ _ 1, World.frozen?_alloc_new _ _ _ 2⟩, by go_grown⟩

theorem CurRow.start {a : Option Addr} {len cap p : Nat} {zs : List Int} {w w' : World} (hr : IsRow .u8 w a len cap zs) (hb : Below w.heap.size w w') (hp : w.heap.size ≤ p) : CurRow w' p a len cap zs := by
  rcases hr with hr | ⟨x, rfl, hl, hm, hz, hcell, hwz⟩
  · exact ⟨.inl hr, fun x hx => by rw [hr.1] at hx; cases hx⟩
  · have hx : 0 < zs.length → x.block < w.heap.size := fun h => by
      have := block_lt_of_cell (hcell 0 h)
      rwa [add_block] at this
    refine ⟨.inr ⟨x, rfl, hl, hm, hz, fun i hi => ?_, hwz⟩, fun y hy h => by cases hy; have := hx h; omega⟩
    rw [hb.cell (by rw [add_block]; exact hx (by omega))]
    exact hcell i hi
theorem IsRow.below {k : IntKind} {a : Option Addr} {len cap : Nat} {zs : List Int} {w w' : World} (hr : IsRow k w a len cap zs) (hb : Below w.heap.size w w') : IsRow k w' a len cap zs := by
  rcases hr with hr | ⟨x, rfl, hl, hm, hz, hcell, hwz⟩
  · exact .inl hr
  · refine .inr ⟨x, rfl, hl, hm, hz, fun i hi => ?_, hwz⟩
    rw [hb.cell (block_lt_of_cell (hcell i hi))]
    exact hcell i hi

theorem big_no (a : Option Addr) (len cap : Nat) (w : World) (hl : (len : Int) ≤ 4096) :
    Calls Try.prog 7 #[.slice a len cap] w fun e w' => e = .returned (.bool false) ∧ w = w' := by
  go_enter Try.func7, Try.ntmps7
  go_wp2
  go_ret
  exact ⟨by simp; omega, rfl⟩
theorem big_yes (a : Option Addr) (len cap : Nat) (w : World) (hl : (4096 : Int) < len) :
    Calls Try.prog 7 #[.slice a len cap] w fun e w' => e = .returned (.bool true) ∧ w = w' := by
  go_enter Try.func7, Try.ntmps7
  go_wp2
  go_ret
  exact ⟨by simp, rfl⟩
end Go.Proofs.Ytoaglephpkmaeaa
