/-
  The laws' own helpers on []impl.Part: equality, copies, sizes, marks.
-/
import Derived.Test.YtnpeojlhjbdjiaaBase
import Derived.Test.YtnpeojlhjbdjiaaMem
import Derived.StillTailTactics
import Derived.Deep.QuietTactic
import Derived.BigQuiet
namespace Go.Proofs.Ytnpeojlhjbdjiaa
set_option maxRecDepth 100000
open Go.RowKit

/-- The cells of an element, of a list. -/
def encPart (p : Int × Int) : List Value := [.int .i64 p.1, .int .i64 p.2]
theorem encPart_length (p : Int × Int) : (encPart p).length = 2 := rfl
def ptcells (ps : List (Int × Int)) : List Value := flat encPart ps
theorem ptcells_length (ps : List (Int × Int)) : (ptcells ps).length = ps.length * 2 := flat_length encPart_length ps
theorem ptcells_take (ps : List (Int × Int)) (k : Nat) : ptcells (ps.take k) = (ptcells ps).take (k * 2) := by have h := flat_take encPart_length ps k; exact h
theorem ptcells_drop (ps : List (Int × Int)) (k : Nat) : ptcells (ps.drop k) = (ptcells ps).drop (k * 2) := by have h := flat_drop encPart_length ps k; exact h
theorem ptcells_append (ps qs : List (Int × Int)) : ptcells (ps ++ qs) = ptcells ps ++ ptcells qs := flat_append ps qs
theorem ptcells_one (ps : List (Int × Int)) : ∀ u ∈ ptcells ps, u.oneCell' = true := flat_one (fun _ u hu => by simp [encPart] at hu; rcases hu with rfl | rfl <;> rfl) ps
theorem ptinfo : (Try.prog.info? 82).map (fun i => (i.zero, i.size, i.bytes)) = some (some (.agg #[.int .i64 0, .int .i64 0]), 2, 16) := by kernel_rfl
/-- The cells of element k, as a walk spells them. -/
theorem ptat {w : World} {A : Option Addr} {ps : List (Int × Int)} (h : At w A (ptcells ps)) {k : Nat} (hk : k < ps.length) :
    ∃ b o x0 x1, A = some ⟨b, o, none⟩ ∧ ps[k]? = some (x0, x1) ∧ w.cell? ⟨b, o + k * 2, none⟩ = some (.int .i64 x0) ∧ w.cell? ⟨b, o + k * 2 + 1, none⟩ = some (.int .i64 x1) := by
  obtain ⟨b, o, rfl, hc⟩ := h (by rw [ptcells_length]; omega)
  have hx : ps[k]? = some ps[k] := List.getElem?_eq_getElem hk
  exact ⟨b, o, ps[k].1, ps[k].2, rfl, hx, hc _ _ (flat_at encPart_length ps hx (i := 0) (by omega)), by rw [Nat.add_assoc]; exact hc _ _ (flat_at encPart_length ps hx (i := 1) (by omega))⟩

def pteq (ps qs : List (Int × Int)) : Bool := decide (ps = qs)
theorem pteq_rfl (ps : List (Int × Int)) : pteq ps ps = true := decide_eq_true rfl
/-- Alike up to place k. -/
def ptto (ps qs : List (Int × Int)) (k : Nat) : Prop := ∀ j, j < k → ps[j]? = qs[j]?
theorem ptto_zero (ps qs : List (Int × Int)) : ptto ps qs 0 := fun j hj => absurd hj (by omega)
theorem ptto_succ {ps qs : List (Int × Int)} {k : Nat} {x y : Int × Int} (h : ptto ps qs k) (hx : ps[k]? = some x) (hy : qs[k]? = some y) (he : x = y) : ptto ps qs (k + 1) := fun j hj => by
  by_cases e : j = k
  · rw [e, hx, hy, he]
  · exact h j (by omega)
theorem ptto_all {ps qs : List (Int × Int)} {k : Nat} (h : ptto ps qs k) (hp : ps.length ≤ k) (hq : qs.length ≤ k) : pteq ps qs = true :=
  decide_eq_true (List.ext_getElem? fun j => by
    by_cases e : j < k
    · exact h j e
    · rw [List.getElem?_eq_none (by omega), List.getElem?_eq_none (by omega)])
theorem pteq_at {ps qs : List (Int × Int)} {k : Nat} {x y : Int × Int} (hx : ps[k]? = some x) (hy : qs[k]? = some y) (he : x ≠ y) : pteq ps qs = false :=
  decide_eq_false fun e => he (by rw [e, hy] at hx; exact (Option.some.inj hx).symm)
theorem pteq_length {ps qs : List (Int × Int)} (h : ps.length ≠ qs.length) : pteq ps qs = false := decide_eq_false fun e => h (by rw [e])

def pteq1 (x y : Int × Int) : Bool := decide (x = y)
theorem eq_pt1 (x0 x1 y0 y1 : Int) (w : World) :
    Calls Try.prog 75 #[.agg #[.int .i64 x0, .int .i64 x1], .agg #[.int .i64 y0, .int .i64 y1]] w (RetV (.bool (pteq1 (x0, x1) (y0, y1))) w) := by
  by_cases h0 : x0 = y0
  case neg =>
    have HR : Hid (pteq1 (x0, x1) (y0, y1) = false) := decide_eq_false (by simp only [Prod.mk.injEq]; omega)
    have h' : (x0 != y0) = true := by simpa using h0
    clear h0
    go_enter Try.func75, Try.ntmps75
    go_wp2
    go_ret
    exact .mk (by rw [HR.out]; rfl) (by go_grown)
  subst h0
  by_cases h1 : x1 = y1
  case neg =>
    have HR : Hid (pteq1 (x0, x1) (x0, y1) = false) := decide_eq_false (by simp only [Prod.mk.injEq]; omega)
    have h' : (x1 != y1) = true := by simpa using h1
    clear h1
    go_enter Try.func75, Try.ntmps75
    go_wp2
    go_ret
    exact .mk (by rw [HR.out]; rfl) (by go_grown)
  subst h1
  have HR : Hid (pteq1 (x0, x1) (x0, x1) = true) := decide_eq_true rfl
  go_enter Try.func75, Try.ntmps75
  go_wp2
  go_ret
  exact .mk (by rw [HR.out]; rfl) (by go_grown)

theorem eq_pt (A B : Option Addr) (n m ca cb : Nat) (ps qs : List (Int × Int)) (w : World) (ha : At w A (ptcells ps)) (hb : At w B (ptcells qs)) (hn : ps.length = n) (hm : qs.length = m) (hl : n ≤ 1048576) (hk : m ≤ 1048576) :
    Calls Try.prog 60 #[.slice A n ca, .slice B m cb] w (RetV (.bool (pteq ps qs)) w) := by
  by_cases hnm : n = m
  · subst hnm
    have HM := Lib.hid hm
    have HN := Lib.hid hn
    clear hm hn
    go_enter Try.func60, Try.ntmps60
    go_wp2
    go_loopw [5] (fun i wr => ∃ k : Nat, k ≤ n ∧ i = .int .i64 k ∧ ptto ps qs k ∧ Below w.heap.size w wr) (fun i _ => n - (intOf i).toNat)
    case atStart => exact ⟨0, by omega, rfl, ptto_zero _ _, Below.refl _ _⟩
    case round =>
      obtain ⟨k, hk, rfl, hs, hbel⟩ := hrel
      by_cases hlt : k < n
      · obtain ⟨b1, o1, x0, x1, rfl, hx, cx0, cx1⟩ := ptat (ha.below hbel) (k := k) (by have := HN.out; omega)
        obtain ⟨b2, o2, y0, y1, rfl, hy, cy0, cy1⟩ := ptat (hb.below hbel) (k := k) (by have := HM.out; omega)
        clear ha hb
        have HX := Lib.hid hx
        have HY := Lib.hid hy
        clear hx hy
        cases he : pteq1 (x0, x1) (y0, y1)
        · have HR := Lib.hid (pteq_at HX.out HY.out (of_decide_eq_false he))
          go_wp2
          go_still_tail 8, (by kernel_rfl)
          change wpList _ _ _ _ _ wr.drew
          go_wp2_with (go_at_call 75; refine (eq_pt1 _ _ _ _ _).mono ?_; rintro e w1 ⟨rfl, hb1⟩)
          go_ret
          exact .mk (by rw [HR.out]; rfl) (below_more hbel.drew hb1)
        · have HS := ptto_succ hs HX.out HY.out (of_decide_eq_true he)
          go_wp2
          go_still_tail 8, (by kernel_rfl)
          change wpList _ _ _ _ _ wr.drew
          go_wp2_with (go_at_call 75; refine (eq_pt1 _ _ _ _ _).mono ?_; rintro e w1 ⟨rfl, hb1⟩)
          go_roundw
          case rel => exact ⟨k + 1, by omega, by go_num, HS, below_more hbel.drew hb1⟩
          case measure => simp [intOf]; omega
      · have HR := Lib.hid (ptto_all hs (by have := HN.out; omega) (by have := HM.out; omega))
        go_wp2
        go_ret
        exact .mk (by rw [HR.out]; rfl) hbel
  · have HR := Lib.hid (pteq_length (ps := ps) (qs := qs) (by omega))
    have hnm' : ((n : Int) != (m : Int)) = true := by simp; omega
    clear hnm hn hm
    go_enter Try.func60, Try.ntmps60
    go_wp2
    go_ret
    exact .mk (by rw [HR.out]; rfl) (by go_grown)

theorem to_pt1 (x0 x1 : Int) (w : World) : Calls Try.prog 68 #[.agg #[.int .i64 x0, .int .i64 x1]] w (RetV (.agg #[.int .i64 x0, .int .i64 x1]) w) := by
  go_enter Try.func68, Try.ntmps68
  go_wp2
  go_returns
  exact .mk rfl (by go_grown)

theorem to_pt (A : Option Addr) (n ca : Nat) (ps : List (Int × Int)) (w : World) (ha : At w A (ptcells ps)) (hn : ps.length = n) (hl : n ≤ 1048576) :
    Calls Try.prog 55 #[.slice A n ca] w (RetOwn 82 2 n (ptcells ps) w) := by
  have HN := Lib.hid hn
  clear hn
  obtain ⟨i0, hi, hz0, hz1, hz2⟩ := info_parts ptinfo
  obtain ⟨w0, hmk, hown, hgr⟩ := run_make_full (P := Try.prog) (w := w) w.heap.size 31 82 i0 _ 2 Try.underlying31 hi hz0 hz1 .i64 .i64 n (by rw [hz2]; omega) (by unfold maxLen; omega) (Nat.le_refl _)
  clear hi hz0 hz1 hz2
  generalize hcur : (madeCells (Value.cells (Value.agg #[.int .i64 0, .int .i64 0])) (n * 2)).toList = cur0 at hown
  clear hcur
  have hbel0 : Below w.heap.size w w0 := (Below.refl _ _).grown hgr (Nat.le_refl _) (fun k hk => by cases hk)
  clear hgr
  go_enter Try.func55, Try.ntmps55
  go_wp2
  go_loopw [4] (fun i wr => ∃ (k : Nat) (cur : List Value), k ≤ n ∧ i = .int .i64 k ∧ wr.ownsRow w.heap.size 82 2 (.slice (some ⟨w.heap.size, 0, none⟩) n n) n cur ∧ Pre encPart 2 cur ps k ∧ Below w.heap.size w wr) (fun i _ => n - (intOf i).toNat)
  case atStart => exact ⟨0, cur0, by omega, rfl, hown, .zero (by rw [hown.1, HN.out]), hbel0⟩
  case round =>
    clear hown hbel0 hmk
    obtain ⟨k, cur, hk, rfl, hown, hpre, hbel⟩ := hrel
    by_cases hlt : k < n
    · obtain ⟨b, o, x0, x1, rfl, hx, cx0, cx1⟩ := ptat (ha.below hbel) (k := k) (by have := HN.out; omega)
      have HX := Lib.hid hx
      clear hx
      go_wp2_with fail
      refine (to_pt1 _ _ _).mono ?_
      rintro e w1 ⟨rfl, hb1⟩
      have hown1 := own_below hown hb1
      obtain ⟨⟨u0, d0⟩, f0⟩ := own_cell hown1 (k * 2) (by omega)
      obtain ⟨⟨u1, d1⟩, f1⟩ := own_cell hown1 (k * 2 + 1) (by omega)
      have HO := Lib.hid hown1
      have hbel1 := below_more hbel hb1
      clear hown hown1
      go_wp2
      go_roundw
      case rel => exact ⟨k + 1, _, by omega, by go_num, own_set2 HO.out _ _ _, hpre.succ encPart_length HX.out, by go_grown⟩
      case measure => simp [intOf]; omega
    · go_wp2
      go_ret
      have hc := hpre.done encPart_length (by have := HN.out; omega)
      subst hc
      exact ⟨_, rfl, hown, hbel⟩

theorem sz_pt_no (A : Option Addr) (n c : Nat) (left : Int) (w : World) (h0 : 0 ≤ left) (h1 : left ≤ 1048576) (hn : left < n) (hm : n ≤ 9223372036854775807) :
    Calls Try.prog 51 #[.slice A n c, .int .i64 left] w (RetS (.int .i64 (-1)) w) := by
  have hlt : left - n < 0 := by omega
  go_enter Try.func51, Try.ntmps51
  go_wp2
  go_ret
  exact .mk rfl
theorem sz_pt_yes (A : Option Addr) (n c : Nat) (left : Int) (w : World) (h0 : 0 ≤ left) (h1 : left ≤ 1048576) (hn : n ≤ left) :
    Calls Try.prog 51 #[.slice A n c, .int .i64 left] w (RetS (.int .i64 (left - n)) w) := by
  have hge : ¬ left - n < 0 := by omega
  go_enter Try.func51, Try.ntmps51
  go_wp2
  go_ret
  exact .mk rfl

/-- The marks: numbers from k on. -/
def ptmarks (k : Int) (n : Nat) : List (Int × Int) := (List.range n).map fun (i : Nat) => (k + 2 * (i : Int), k + 2 * (i : Int) + 1)
theorem ptmarks_length (k : Int) (n : Nat) : (ptmarks k n).length = n := by simp [ptmarks]
theorem ptmarks_at (k : Int) (n i : Nat) (hi : i < n) : (ptmarks k n)[i]? = some ((k + 2 * (i : Int), k + 2 * (i : Int) + 1)) := by simp [ptmarks, hi]

theorem mark_pt (A : Option Addr) (n c base : Nat) (k : Int) (xs : List Value) (w : World) (h0 : 0 ≤ k) (h1 : k ≤ 1000000000000) (hl : n ≤ 1048576) (hown : w.ownsRow base 82 2 (.slice A n c) n xs) :
    Calls Try.prog 65 #[.slice A n c, .int .i64 k] w (RetMark 82 2 (.slice A n c) base n (k + 2 * (n : Int)) (ptcells (ptmarks k n)) w) := by
  go_enter Try.func65, Try.ntmps65
  go_wp2
  go_loopw [1, 5] (fun m i wr => ∃ (j : Nat) (cur : List Value), j ≤ n ∧ i = .int .i64 j ∧ m = .int .i64 (k + 2 * (j : Int)) ∧ wr.ownsRow base 82 2 (.slice A n c) n cur ∧ Pre encPart 2 cur (ptmarks k n) j ∧ w.grownBy wr (Value.slice A n c).ownBlock) (fun _ i _ => n - (intOf i).toNat)
  case atStart => exact ⟨0, xs, by omega, rfl, by go_num, hown, .zero (by rw [hown.1, ptmarks_length]), World.grownBy.refl _ _⟩
  case round =>
    clear hown
    obtain ⟨j, cur, hj, rfl, rfl, hown, hpre, hg⟩ := hrel
    by_cases hlt : j < n
    · obtain ⟨g, rfl⟩ := own_form hown (by omega)
      have HM := Lib.hid (ptmarks_at k n j hlt)
      obtain ⟨⟨u0, d0⟩, f0⟩ := own_cell hown (j * 2) (by omega)
      obtain ⟨⟨u1, d1⟩, f1⟩ := own_cell hown (j * 2 + 1) (by omega)
      have HO := Lib.hid hown
      clear hown
      go_wp2
      go_roundw
      case rel => exact ⟨j + 1, _, by omega, by go_num, by go_num, own_set2 HO.out _ _ _, hpre.succ encPart_length HM.out, by repeat (first | exact hg | apply gb_setb)⟩
      case measure => simp [intOf]; omega
    · obtain rfl : j = n := by omega
      go_wp2
      go_ret
      have hc := hpre.done encPart_length (by rw [ptmarks_length]; omega)
      subst hc
      exact ⟨rfl, hown, hg⟩

theorem held_pt (A : Option Addr) (n c : Nat) (k : Int) (w : World) (h0 : 0 ≤ k) (h1 : k ≤ 1000000000000) (hl : n ≤ 1048576) (ha : At w A (ptcells (ptmarks k n))) :
    Calls Try.prog 66 #[.slice A n c, .int .i64 k] w (RetV (.int .i64 (k + 2 * (n : Int))) w) := by
  go_enter Try.func66, Try.ntmps66
  go_wp2
  go_loopw [1, 5] (fun m i wr => ∃ (j : Nat), j ≤ n ∧ i = .int .i64 j ∧ m = .int .i64 (k + 2 * (j : Int)) ∧ Below w.heap.size w wr) (fun _ i _ => n - (intOf i).toNat)
  case atStart => exact ⟨0, by omega, rfl, by go_num, Below.refl _ _⟩
  case round =>
    obtain ⟨j, hj, rfl, rfl, hbel⟩ := hrel
    by_cases hlt : j < n
    · obtain ⟨b, o, x0, x1, rfl, hx, cx0, cx1⟩ := ptat (ha.below hbel) (k := j) (by rw [ptmarks_length]; omega)
      have he := (ptmarks_at k n j hlt).symm.trans hx
      simp only [Option.some.injEq, Prod.mk.injEq] at he
      obtain ⟨rfl, rfl⟩ := he
      clear hx ha
      go_wp2
      all_goals (try (go_region; go_wp2))
      go_roundw
      case rel => exact ⟨j + 1, by omega, by go_num, by go_num, by repeat (first | exact hbel | apply Below.drew | apply below_drewN)⟩
      case measure => simp [intOf]; omega
    · obtain rfl : j = n := by omega
      go_wp2
      go_ret
      exact .mk rfl hbel

end Go.Proofs.Ytnpeojlhjbdjiaa
