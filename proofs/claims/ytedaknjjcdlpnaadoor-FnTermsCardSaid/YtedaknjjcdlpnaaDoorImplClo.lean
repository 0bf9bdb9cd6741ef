/-
  Chapter 5 of the program: what is asked of one handle: needStar, and the two function values.
-/
import Derived.Test.YtedaknjjcdlpnaaDoorImplTerms0
import Derived.Test.YtedaknjjcdlpnaaDoorImplHand
import Derived.Test.YtedaknjjcdlpnaaDoorPure
import Derived.Laws.Cover1
namespace Go.Proofs.YtedaknjjcdlpnaaDoor
set_option maxRecDepth 100000
open Go.RowKit

def starB (c r : Int) : Bool := decide (c < 4) || decide (0 < r)
set_option maxHeartbeats 1000000 in
theorem impl_needstar (v : Value) (t : Tm) (x : Int) (w : World) (hr : RdTm w v t) (k1 : Rises (-1) t.clear.parts) (k2 : Rises (-1) t.raise.parts) :
    Calls Tryd.prog 65 #[v, .int .i64 x] w (RetV (.bool (starB (lev t.clear x) (lev t.raise x))) w) := by
  obtain ⟨A0, n0, c0, A1, n1, c1, A2, n2, c2, A3, n3, c3, rfl, h0, h1, h2, h3⟩ := hr
  have H1 := Lib.hid h1
  have H2 := Lib.hid h2
  have K1 := Lib.hid k1
  have K2 := Lib.hid k2
  clear h0 h1 h2 h3 k1 k2
  by_cases hc : lev t.clear x < 4
  · have HE : Hid (starB (lev t.clear x) (lev t.raise x) = true) := Lib.hid (by simp [starB, hc])
    go_enter Tryd.func65, Tryd.ntmps65
    go_wp2_with fail
    generalize hW : w.alloc (.cells #[.int .i64 t.taint.base, .slice A0 n0 c0, .int .i64 t.clear.base, .slice A1 n1 c1, .int .i64 t.raise.base, .slice A2 n2 c2, .int .i64 t.verify.base, .slice A3 n3 c3] 28) = x0
    obtain ⟨pb, hsz, bel⟩ := laid1 (ps := [.int .i64 t.taint.base, .slice A0 n0 c0, .int .i64 t.clear.base, .slice A1 n1 c1, .int .i64 t.raise.base, .slice A2 n2 c2, .int .i64 t.verify.base, .slice A3 n3 c3]) hW
    have PB := Lib.hid pb
    have HB := Lib.hid bel
    clear hW pb hsz bel
    refine (impl_lev _ t.clear x _ (H1.out.below HB.out) K1.out).mono ?_
    rintro e w1 ⟨rfl, hb⟩
    have HB1 := Lib.hid (below_more HB.out hb)
    clear hb
    go_wp2
    go_ret
    exact .mk (by first | rfl | (rw [HE.out]; rfl)) HB1.out
  · by_cases hz : 0 < lev t.raise x
    case' pos => have HE : Hid (starB (lev t.clear x) (lev t.raise x) = true) := Lib.hid (by simp [starB, hz])
    case' neg => have HE : Hid (starB (lev t.clear x) (lev t.raise x) = false) := Lib.hid (by simp [starB]; omega)
    all_goals
      go_enter Tryd.func65, Tryd.ntmps65
      go_wp2_with fail
      generalize hW : w.alloc (.cells #[.int .i64 t.taint.base, .slice A0 n0 c0, .int .i64 t.clear.base, .slice A1 n1 c1, .int .i64 t.raise.base, .slice A2 n2 c2, .int .i64 t.verify.base, .slice A3 n3 c3] 28) = x0
      obtain ⟨pb, hsz, bel⟩ := laid1 (ps := [.int .i64 t.taint.base, .slice A0 n0 c0, .int .i64 t.clear.base, .slice A1 n1 c1, .int .i64 t.raise.base, .slice A2 n2 c2, .int .i64 t.verify.base, .slice A3 n3 c3]) hW
      have PB := Lib.hid pb
      have HB := Lib.hid bel
      clear hW pb hsz bel
      refine (impl_lev _ t.clear x _ (H1.out.below HB.out) K1.out).mono ?_
      rintro e w1 ⟨rfl, hb⟩
      have HB1 := Lib.hid (below_more HB.out hb)
      have c4 := (PB.out.below hb).cell 4 rfl
      have c5 := (PB.out.below hb).cell 5 rfl
      clear hb
      go_wp2_with fail
      refine (impl_lev _ t.raise x _ (H2.out.below HB1.out) K2.out).mono ?_
      rintro e w2 ⟨rfl, hb⟩
      go_wp2
      go_ret
      exact .mk (by first | rfl | (rw [HE.out]; rfl)) (below_more HB1.out hb)

theorem may_star {s c r : Int} (hc : lvOk c = true) (hr : lvOk r = true) : mayB s c r = (!(starB c r) || decide (s = 0)) := by
  obtain ⟨c1, c2⟩ := of_lvOk hc
  obtain ⟨r1, r2⟩ := of_lvOk hr
  by_cases a : c < 4
  · have : ¬ c = 4 := by omega
    simp [mayB, starB, a, this]
  · have a' : c = 4 := by omega
    by_cases b : 0 < r
    · have : ¬ r = 0 := by omega
      simp [mayB, starB, b, this]
    · have b' : r = 0 := by omega
      simp [mayB, starB, a', b']

/-- What a function value of a term's handles has boxed: terms at p, and labels. -/
structure BoxTm (w : World) (p : Nat) (t : Tm) : Prop where
  ok : termsOk t = true
  rd : ∃ (A0 : Option Addr) (n0 c0 : Nat) (A1 : Option Addr) (n1 c1 : Nat) (A2 : Option Addr) (n2 c2 : Nat) (A3 : Option Addr) (n3 c3 : Nat), Has w p [.int .i64 t.taint.base, .slice A0 n0 c0, .int .i64 t.clear.base, .slice A1 n1 c1, .int .i64 t.raise.base, .slice A2 n2 c2, .int .i64 t.verify.base, .slice A3 n3 c3] ∧ RdTm w (.agg #[.int .i64 t.taint.base, .slice A0 n0 c0, .int .i64 t.clear.base, .slice A1 n1 c1, .int .i64 t.raise.base, .slice A2 n2 c2, .int .i64 t.verify.base, .slice A3 n3 c3]) t
structure BoxLab (w : World) (p : Nat) (l : Lab) : Prop where
  ok : labOk l = true
  rd : ∃ (A : Option Addr) (n c : Nat), Has w p [.int .i64 l.base, .slice A n c] ∧ RdLab w (.agg #[.int .i64 l.base, .slice A n c]) l
theorem BoxTm.below {w w' : World} {p : Nat} {t : Tm} (h : BoxTm w p t) (hb : Below w.heap.size w w') : BoxTm w' p t := by
  obtain ⟨A0, n0, c0, A1, n1, c1, A2, n2, c2, A3, n3, c3, h1, h2⟩ := h.rd
  exact ⟨h.ok, A0, n0, c0, A1, n1, c1, A2, n2, c2, A3, n3, c3, h1.below hb, h2.below hb⟩
theorem BoxLab.below {w w' : World} {p : Nat} {l : Lab} (h : BoxLab w p l) (hb : Below w.heap.size w w') : BoxLab w' p l := by
  obtain ⟨A, n, c, h1, h2⟩ := h.rd
  exact ⟨h.ok, A, n, c, h1.below hb, h2.below hb⟩

set_option maxHeartbeats 1000000 in
theorem clo_allowed (x : Int) (p1 p2 : Nat) (t : Tm) (s : Lab) (w : World) (b1 : BoxTm w p1 t) (b2 : BoxLab w p2 s) :
    Calls Tryd.prog 64 #[.int .i64 x, .pointer (some ⟨p1, 0, none⟩), .pointer (some ⟨p2, 0, none⟩)] w (RetV (.bool (mayL s t x)) w) := by
  obtain ⟨A0, n0, c0, A1, n1, c1, A2, n2, c2, A3, n3, c3, g1, r1⟩ := b1.rd
  obtain ⟨A, n, c, g2, r2⟩ := b2.rd
  obtain ⟨-, o1, o2, -⟩ := termsOk_of b1.ok
  have HM : Hid (mayL s t x = (!(starB (lev t.clear x) (lev t.raise x)) || decide (lev s x = 0))) := Lib.hid (may_star (lev_lv o1 x) (lev_lv o2 x))
  have R1 := Lib.hid r1
  have R2 := Lib.hid r2
  have K1 := Lib.hid (labOk_rises o1)
  have K2 := Lib.hid (labOk_rises o2)
  have KS := Lib.hid (labOk_rises b2.ok)
  have G1 := Lib.hid g1
  have G2 := Lib.hid g2
  have hz1 := block_lt_of_cell (g1 0 _ rfl)
  have hz2 := block_lt_of_cell (g2 0 _ rfl)
  simp only [] at hz1 hz2
  clear g1 g2 r1 r2 o1 o2 b1 b2
  cases hs : starB (lev t.clear x) (lev t.raise x)
  · have HE : Hid (mayL s t x = true) := Lib.hid (by rw [HM.out, hs]; rfl)
    clear HM
    have c0 := G1.out 0 _ rfl; have c1 := G1.out 1 _ rfl; have c2 := G1.out 2 _ rfl; have c3 := G1.out 3 _ rfl; have c4 := G1.out 4 _ rfl; have c5 := G1.out 5 _ rfl; have c6 := G1.out 6 _ rfl; have c7 := G1.out 7 _ rfl
    go_enter Tryd.func64, Tryd.ntmps64
    go_wp2_with fail
    refine (impl_needstar _ t x _ R1.out K1.out K2.out).mono ?_
    rintro e w1 ⟨rfl, hb⟩
    rw [hs]
    go_wp2
    go_ret
    exact .mk (by first | rfl | (rw [HE.out]; rfl)) hb
  · by_cases h0 : lev s x = 0
    case' pos =>
      have HE : Hid (mayL s t x = true) := Lib.hid (by rw [HM.out, hs]; simp [h0])
      have hq : (lev s x == 0) = true := by simpa using h0
    case' neg =>
      have HE : Hid (mayL s t x = false) := Lib.hid (by rw [HM.out, hs]; simp [h0])
      have hq : (lev s x == 0) = false := by simpa using h0
    all_goals
      clear HM h0
      have c0 := G1.out 0 _ rfl; have c1 := G1.out 1 _ rfl; have c2 := G1.out 2 _ rfl; have c3 := G1.out 3 _ rfl; have c4 := G1.out 4 _ rfl; have c5 := G1.out 5 _ rfl; have c6 := G1.out 6 _ rfl; have c7 := G1.out 7 _ rfl
      go_enter Tryd.func64, Tryd.ntmps64
      go_wp2_with fail
      refine (impl_needstar _ t x _ R1.out K1.out K2.out).mono ?_
      rintro e w1 ⟨rfl, hb⟩
      rw [hs]
      have d0 := G2.out.below hb 0 _ rfl
      have d1 := G2.out.below hb 1 _ rfl
      have hz3 := block_lt_of_cell d0
      simp only [] at hz3
      go_wp2_with fail
      refine (impl_lev _ s x _ (R2.out.below hb) KS.out).mono ?_
      rintro e w2 ⟨rfl, hb2⟩
      go_wp2
      go_ret
      exact .mk (by first | rfl | (rw [HE.out]; rfl)) (below_more hb hb2)
end Go.Proofs.YtedaknjjcdlpnaaDoor
