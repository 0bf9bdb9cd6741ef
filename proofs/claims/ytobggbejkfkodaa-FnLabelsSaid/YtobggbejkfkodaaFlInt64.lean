/-
  The laws' own helpers on []int64: equality, copies, sizes, marks.
-/
import Derived.Test.YtobggbejkfkodaaBase
import Derived.Test.YtobggbejkfkodaaFlat
import Derived.StillTailTactics
import Derived.Deep.QuietTactic
import Derived.BigQuiet
namespace Go.Proofs.Ytobggbejkfkodaa
set_option maxRecDepth 100000
open Go.RowKit

/-- The cells of an element, of a list. -/
def encInt64 (p : Int) : List Value := [.int .i64 p]
theorem encInt64_length (p : Int) : (encInt64 p).length = 1 := rfl
def nmcells (ps : List (Int)) : List Value := flat encInt64 ps
theorem nmcells_length (ps : List (Int)) : (nmcells ps).length = ps.length * 1 := flat_length encInt64_length ps
theorem nmcells_take (ps : List (Int)) (k : Nat) : nmcells (ps.take k) = (nmcells ps).take (k) := by have h := flat_take encInt64_length ps k; rwa [Nat.mul_one] at h
theorem nmcells_drop (ps : List (Int)) (k : Nat) : nmcells (ps.drop k) = (nmcells ps).drop (k) := by have h := flat_drop encInt64_length ps k; rwa [Nat.mul_one] at h
theorem nmcells_append (ps qs : List (Int)) : nmcells (ps ++ qs) = nmcells ps ++ nmcells qs := flat_append ps qs
theorem nmcells_one (ps : List (Int)) : ∀ u ∈ nmcells ps, u.oneCell' = true := flat_one (fun _ u hu => by simp [encInt64] at hu; subst hu; rfl) ps
theorem nminfo : (Try.prog.info? 2).map (fun i => (i.zero, i.size, i.bytes)) = some (some (.int .i64 0), 1, 8) := by kernel_rfl
/-- The cells of element k, as a walk spells them. -/
theorem nmat {w : World} {A : Option Addr} {ps : List (Int)} (h : At w A (nmcells ps)) {k : Nat} (hk : k < ps.length) :
    ∃ b o x0, A = some ⟨b, o, none⟩ ∧ ps[k]? = some x0 ∧ w.cell? ⟨b, o + k, none⟩ = some (.int .i64 x0) := by
  obtain ⟨b, o, rfl, hc⟩ := h (by rw [nmcells_length]; omega)
  have hx : ps[k]? = some ps[k] := List.getElem?_eq_getElem hk
  exact ⟨b, o, _, rfl, hx, by have := flat_at encInt64_length ps hx (i := 0) (by omega); simp only [Nat.mul_one, Nat.add_zero] at this; exact hc _ _ this⟩

def nmeq (ps qs : List (Int)) : Bool := decide (ps = qs)
theorem nmeq_rfl (ps : List (Int)) : nmeq ps ps = true := decide_eq_true rfl
/-- Alike up to place k. -/
def nmto (ps qs : List (Int)) (k : Nat) : Prop := ∀ j, j < k → ps[j]? = qs[j]?
theorem nmto_zero (ps qs : List (Int)) : nmto ps qs 0 := fun j hj => absurd hj (by omega)
theorem nmto_succ {ps qs : List (Int)} {k : Nat} {x y : Int} (h : nmto ps qs k) (hx : ps[k]? = some x) (hy : qs[k]? = some y) (he : x = y) : nmto ps qs (k + 1) := fun j hj => by
  by_cases e : j = k
  · rw [e, hx, hy, he]
  · exact h j (by omega)
theorem nmto_all {ps qs : List (Int)} {k : Nat} (h : nmto ps qs k) (hp : ps.length ≤ k) (hq : qs.length ≤ k) : nmeq ps qs = true :=
  decide_eq_true (List.ext_getElem? fun j => by
    by_cases e : j < k
    · exact h j e
    · rw [List.getElem?_eq_none (by omega), List.getElem?_eq_none (by omega)])
theorem nmeq_at {ps qs : List (Int)} {k : Nat} {x y : Int} (hx : ps[k]? = some x) (hy : qs[k]? = some y) (he : x ≠ y) : nmeq ps qs = false :=
  decide_eq_false fun e => he (by rw [e, hy] at hx; exact (Option.some.inj hx).symm)
theorem nmeq_length {ps qs : List (Int)} (h : ps.length ≠ qs.length) : nmeq ps qs = false := decide_eq_false fun e => h (by rw [e])

theorem eq_nm (A B : Option Addr) (n m ca cb : Nat) (ps qs : List (Int)) (w : World) (ha : At w A (nmcells ps)) (hb : At w B (nmcells qs)) (hn : ps.length = n) (hm : qs.length = m) (hl : n ≤ 1048576) (hk : m ≤ 1048576) :
    Calls Try.prog 24 #[.slice A n ca, .slice B m cb] w (RetV (.bool (nmeq ps qs)) w) := by
  by_cases hnm : n = m
  · subst hnm
    have HM := Lib.hid hm
    have HN := Lib.hid hn
    clear hm hn
    go_enter Try.func24, Try.ntmps24
    go_wp2
    go_loopw [5] (fun i wr => ∃ k : Nat, k ≤ n ∧ i = .int .i64 k ∧ nmto ps qs k ∧ Below w.heap.size w wr) (fun i _ => n - (intOf i).toNat)
    case atStart => exact ⟨0, by omega, rfl, nmto_zero _ _, Below.refl _ _⟩
    case round =>
      obtain ⟨k, hk, rfl, hs, hbel⟩ := hrel
      by_cases hlt : k < n
      · obtain ⟨b1, o1, x0, rfl, hx, cx0⟩ := nmat (ha.below hbel) (k := k) (by have := HN.out; omega)
        obtain ⟨b2, o2, y0, rfl, hy, cy0⟩ := nmat (hb.below hbel) (k := k) (by have := HM.out; omega)
        clear ha hb
        have HX := Lib.hid hx
        have HY := Lib.hid hy
        clear hx hy
        by_cases he : x0 = y0
        · have HS := nmto_succ hs HX.out HY.out he
          subst he
          go_wp2
          go_quiet (fail)
          go_wp2
          go_roundw
          case rel => exact ⟨k + 1, by omega, by go_num, HS, by repeat (first | exact hbel | apply Below.drew | apply below_drewN)⟩
          case measure => simp [intOf]; omega
        · have HR := Lib.hid (nmeq_at HX.out HY.out he)
          have he' : (x0 != y0) = true := by simpa using he
          clear he
          go_wp2
          go_quiet (fail)
          go_wp2
          go_ret
          exact .mk (by rw [HR.out]; rfl) (by repeat (first | exact hbel | apply Below.drew | apply below_drewN))
      · have HR := Lib.hid (nmto_all hs (by have := HN.out; omega) (by have := HM.out; omega))
        go_wp2
        go_ret
        exact .mk (by rw [HR.out]; rfl) hbel
  · have HR := Lib.hid (nmeq_length (ps := ps) (qs := qs) (by omega))
    have hnm' : ((n : Int) != (m : Int)) = true := by simp; omega
    clear hnm hn hm
    go_enter Try.func24, Try.ntmps24
    go_wp2
    go_ret
    exact .mk (by rw [HR.out]; rfl) (by go_grown)



/-- The marks: numbers from k on. -/
def nmmarks (k : Int) (n : Nat) : List (Int) := (List.range n).map fun (i : Nat) => k + (i : Int)
theorem nmmarks_length (k : Int) (n : Nat) : (nmmarks k n).length = n := by simp [nmmarks]
theorem nmmarks_at (k : Int) (n i : Nat) (hi : i < n) : (nmmarks k n)[i]? = some (k + (i : Int)) := by simp [nmmarks, hi]

theorem mark_nm (A : Option Addr) (n c base : Nat) (k : Int) (xs : List Value) (w : World) (h0 : 0 ≤ k) (h1 : k ≤ 1000000000000) (hl : n ≤ 1048576) (hown : w.ownsRow base 2 1 (.slice A n c) n xs) :
    Calls Try.prog 25 #[.slice A n c, .int .i64 k] w (RetMark 2 1 (.slice A n c) base n (k + (n : Int)) (nmcells (nmmarks k n)) w) := by
  go_enter Try.func25, Try.ntmps25
  go_wp2
  go_loopw [1, 5] (fun m i wr => ∃ (j : Nat) (cur : List Value), j ≤ n ∧ i = .int .i64 j ∧ m = .int .i64 (k + (j : Int)) ∧ wr.ownsRow base 2 1 (.slice A n c) n cur ∧ Pre encInt64 1 cur (nmmarks k n) j ∧ w.grownBy wr (Value.slice A n c).ownBlock) (fun _ i _ => n - (intOf i).toNat)
  case atStart => exact ⟨0, xs, by omega, rfl, by go_num, hown, .zero (by rw [hown.1, nmmarks_length]), World.grownBy.refl _ _⟩
  case round =>
    clear hown
    obtain ⟨j, cur, hj, rfl, rfl, hown, hpre, hg⟩ := hrel
    by_cases hlt : j < n
    · obtain ⟨g, rfl⟩ := own_form hown (by omega)
      have HM := Lib.hid (nmmarks_at k n j hlt)
      obtain ⟨⟨u0, d0⟩, f0⟩ := own_cell hown (j) (by omega)
      have HO := Lib.hid hown
      clear hown
      go_wp2
      go_roundw
      case rel => exact ⟨j + 1, _, by omega, by go_num, by go_num, (own_set1 HO.out _ _).1, by have := hpre.succ encInt64_length HM.out; rwa [Nat.mul_one] at this, by repeat (first | exact hg | apply gb_setb)⟩
      case measure => simp [intOf]; omega
    · obtain rfl : j = n := by omega
      go_wp2
      go_ret
      have hc := hpre.done encInt64_length (by rw [nmmarks_length]; omega)
      subst hc
      exact ⟨rfl, hown, hg⟩

theorem held_nm (A : Option Addr) (n c : Nat) (k : Int) (w : World) (h0 : 0 ≤ k) (h1 : k ≤ 1000000000000) (hl : n ≤ 1048576) (ha : At w A (nmcells (nmmarks k n))) :
    Calls Try.prog 26 #[.slice A n c, .int .i64 k] w (RetV (.int .i64 (k + (n : Int))) w) := by
  go_enter Try.func26, Try.ntmps26
  go_wp2
  go_loopw [1, 5] (fun m i wr => ∃ (j : Nat), j ≤ n ∧ i = .int .i64 j ∧ m = .int .i64 (k + (j : Int)) ∧ Below w.heap.size w wr) (fun _ i _ => n - (intOf i).toNat)
  case atStart => exact ⟨0, by omega, rfl, by go_num, Below.refl _ _⟩
  case round =>
    obtain ⟨j, hj, rfl, rfl, hbel⟩ := hrel
    by_cases hlt : j < n
    · obtain ⟨b, o, x0, rfl, hx, cx0⟩ := nmat (ha.below hbel) (k := j) (by rw [nmmarks_length]; omega)
      have he := (nmmarks_at k n j hlt).symm.trans hx
      simp only [Option.some.injEq] at he
      obtain rfl := he
      clear hx ha
      go_wp2
      all_goals (try (go_region; go_wp2))
      go_roundw
      case rel => exact ⟨j + 1, by omega, by go_num, by go_num, by repeat (first | exact hbel | apply Below.drew | apply below_drewN)⟩
      case measure => simp [intOf]; omega
    · obtain rfl : j = n := by omega
      go_wp2
      go_ret
      exact .mk rfl hbel

end Go.Proofs.Ytobggbejkfkodaa
