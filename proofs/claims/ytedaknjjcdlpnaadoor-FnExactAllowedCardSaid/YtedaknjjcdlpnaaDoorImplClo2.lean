/-
  Chapter 5 of the program: what Accepts asks of one handle.
-/
import Derived.Test.YtedaknjjcdlpnaaDoorImplClo
namespace Go.Proofs.YtedaknjjcdlpnaaDoor
set_option maxRecDepth 100000
open Go.RowKit

theorem in_min {e r u v d m : Int} (hr : lvOk r = true) (hu : lvOk u = true) (hm : m = if d < (if v < lvMax r u then v else lvMax r u) then d else (if v < lvMax r u then v else lvMax r u)) : inB e r u v d = (decide (e ≤ m) && decide (u ≤ d)) := by
  have h1 : lvMax r u = max r u := by simp [lvMax, hr, hu]
  rw [h1] at hm
  have h2 : (e ≤ m) ↔ (e ≤ max r u ∧ e ≤ v ∧ e ≤ d) := by
    subst hm
    repeat' split
    all_goals omega
  unfold inB
  by_cases a : e ≤ m
  · obtain ⟨b1, b2, b3⟩ := h2.1 a
    simp [a, b1, b2, b3]
  · have : ¬ (e ≤ max r u ∧ e ≤ v ∧ e ≤ d) := fun h => a (h2.2 h)
    by_cases c1 : e ≤ max r u
    · by_cases c2 : e ≤ v
      · by_cases c3 : e ≤ d
        · exact absurd ⟨c1, c2, c3⟩ this
        · simp [a, c3]
      · simp [a, c2]
    · simp [a, c1]

set_option maxHeartbeats 4000000 in
theorem clo_accepts (x : Int) (pT pD pR pE : Nat) (t : Tm) (d r e : Lab) (w : World) (b1 : BoxTm w pT t) (b2 : BoxLab w pD d) (b3 : BoxLab w pR r) (b4 : BoxLab w pE e) :
    Calls Tryd.prog 61 #[.int .i64 x, .pointer (some ⟨pT, 0, none⟩), .pointer (some ⟨pD, 0, none⟩), .pointer (some ⟨pR, 0, none⟩), .pointer (some ⟨pE, 0, none⟩)] w (RetV (.bool (inL e r t d x)) w) := by
  obtain ⟨A0, n0, c0, A1, n1, c1, A2, n2, c2, A3, n3, c3, gt, r1⟩ := b1.rd
  obtain ⟨Ad, nd, cd, gd, rd⟩ := b2.rd
  obtain ⟨Ar, nr, cr, gr, rr⟩ := b3.rd
  obtain ⟨Ae, ne, ce, ge, re⟩ := b4.rd
  obtain ⟨-, -, o2, o3⟩ := termsOk_of b1.ok
  obtain ⟨_, _, _, _, _, _, _, _, _, _, _, _, ek, -, -, q2, q3⟩ := r1
  cases ek
  have RU := Lib.hid q2
  have RV := Lib.hid q3
  have RD := Lib.hid rd
  have RR := Lib.hid rr
  have RE := Lib.hid re
  have KU := Lib.hid (labOk_rises o2)
  have KV := Lib.hid (labOk_rises o3)
  have KD := Lib.hid (labOk_rises b2.ok)
  have KR := Lib.hid (labOk_rises b3.ok)
  have KE := Lib.hid (labOk_rises b4.ok)
  have GT := Lib.hid gt
  have GD := Lib.hid gd
  have GR := Lib.hid gr
  have GE := Lib.hid ge
  obtain ⟨m, hm⟩ : ∃ m, m = if lev d x < (if lev t.verify x < lvMax (lev r x) (lev t.raise x) then lev t.verify x else lvMax (lev r x) (lev t.raise x)) then lev d x else (if lev t.verify x < lvMax (lev r x) (lev t.raise x) then lev t.verify x else lvMax (lev r x) (lev t.raise x)) := ⟨_, rfl⟩
  have HM : Hid (inL e r t d x = (decide (lev e x ≤ m) && decide (lev t.raise x ≤ lev d x))) := Lib.hid (in_min (lev_lv b3.ok x) (lev_lv o2 x) hm)
  have hmin : ∀ (ts : Array TypeId) (ty : TypeId) (w' : World), (Builtin.min_ ts ty #[.int .i64 (lvMax (lev r x) (lev t.raise x)), .int .i64 (lev t.verify x), .int .i64 (lev d x)]).run Tryd.prog w' = .ok (.int .i64 m) w' := fun ts ty w' => by rw [run_min_int3, hm]
  clear gt gd gr ge rd rr re q2 q3 o2 o3 hm
  have HC : Hid (Below w.heap.size w w) := Lib.hid (.refl _ _)
  go_enter Tryd.func61, Tryd.ntmps61
  have f0 := (GT.out.below HC.out) 4 _ rfl
  have f1 := (GT.out.below HC.out) 5 _ rfl
  have f2 := (GD.out.below HC.out) 0 _ rfl
  have f3 := (GD.out.below HC.out) 1 _ rfl
  have zpT := block_lt_of_cell f0
  simp only [] at zpT
  have zpD := block_lt_of_cell f2
  simp only [] at zpD
  go_wp2
  go_region_held3 (fun w' => w'.cell? ⟨pT, 4, none⟩ = some (.int .i64 t.raise.base) ∧ w'.cell? ⟨pT, 5, none⟩ = some (.slice A2 n2 c2) ∧ w'.cell? ⟨pD, 0, none⟩ = some (.int .i64 d.base) ∧ w'.cell? ⟨pD, 1, none⟩ = some (.slice Ad nd cd))
    (first | exact ⟨f0, f1, f2, f3⟩ | go_keep)
    (first
    | (go_at_call_of 62 (Value.agg #[Value.int IntKind.i64 t.raise.base, Value.slice A2 n2 c2])
       refine (impl_lev _ t.raise x _ (by first | exact RU.out.below HC.out | exact (RU.out.below HC.out).drew) KU.out).mono ?_
       rintro e wn ⟨rfl, hb⟩
       have HC' : Hid (Below w.heap.size w wn) := Lib.hid (by first | exact below_more HC.out hb | exact below_more HC.out (below_undrew hb))
       clear HC
       have HC := HC'
       clear HC'
       try clear f0 f1 f2 f3
       have f0 : wn.cell? ⟨pT, 4, none⟩ = some (.int .i64 t.raise.base) := (GT.out.below HC.out) 4 _ rfl
       have f1 : wn.cell? ⟨pT, 5, none⟩ = some (.slice A2 n2 c2) := (GT.out.below HC.out) 5 _ rfl
       have f2 : wn.cell? ⟨pD, 0, none⟩ = some (.int .i64 d.base) := (GD.out.below HC.out) 0 _ rfl
       have f3 : wn.cell? ⟨pD, 1, none⟩ = some (.slice Ad nd cd) := (GD.out.below HC.out) 1 _ rfl
       clear hb)
    | (go_at_call_of 62 (Value.agg #[Value.int IntKind.i64 d.base, Value.slice Ad nd cd])
       refine (impl_lev _ d x _ (by first | exact RD.out.below HC.out | exact (RD.out.below HC.out).drew) KD.out).mono ?_
       rintro e wn ⟨rfl, hb⟩
       have HC' : Hid (Below w.heap.size w wn) := Lib.hid (by first | exact below_more HC.out hb | exact below_more HC.out (below_undrew hb))
       clear HC
       have HC := HC'
       clear HC'
       try clear f0 f1 f2 f3
       have f0 : wn.cell? ⟨pT, 4, none⟩ = some (.int .i64 t.raise.base) := (GT.out.below HC.out) 4 _ rfl
       have f1 : wn.cell? ⟨pT, 5, none⟩ = some (.slice A2 n2 c2) := (GT.out.below HC.out) 5 _ rfl
       have f2 : wn.cell? ⟨pD, 0, none⟩ = some (.int .i64 d.base) := (GD.out.below HC.out) 0 _ rfl
       have f3 : wn.cell? ⟨pD, 1, none⟩ = some (.slice Ad nd cd) := (GD.out.below HC.out) 1 _ rfl
       clear hb))
  clear f0 f1 f2 f3 zpT zpD
  have f0 := (GT.out.below HC.out) 6 _ rfl
  have f1 := (GT.out.below HC.out) 7 _ rfl
  have f2 := (GR.out.below HC.out) 0 _ rfl
  have f3 := (GR.out.below HC.out) 1 _ rfl
  have zpT := block_lt_of_cell f0
  simp only [] at zpT
  have zpR := block_lt_of_cell f2
  simp only [] at zpR
  go_wp2
  go_region_held3 (fun w' => w'.cell? ⟨pT, 6, none⟩ = some (.int .i64 t.verify.base) ∧ w'.cell? ⟨pT, 7, none⟩ = some (.slice A3 n3 c3) ∧ w'.cell? ⟨pR, 0, none⟩ = some (.int .i64 r.base) ∧ w'.cell? ⟨pR, 1, none⟩ = some (.slice Ar nr cr))
    (first | exact ⟨f0, f1, f2, f3⟩ | go_keep)
    (first
    | (go_at_call_of 62 (Value.agg #[Value.int IntKind.i64 t.verify.base, Value.slice A3 n3 c3])
       refine (impl_lev _ t.verify x _ (by first | exact RV.out.below HC.out | exact (RV.out.below HC.out).drew) KV.out).mono ?_
       rintro e wn ⟨rfl, hb⟩
       have HC' : Hid (Below w.heap.size w wn) := Lib.hid (by first | exact below_more HC.out hb | exact below_more HC.out (below_undrew hb))
       clear HC
       have HC := HC'
       clear HC'
       try clear f0 f1 f2 f3
       have f0 : wn.cell? ⟨pT, 6, none⟩ = some (.int .i64 t.verify.base) := (GT.out.below HC.out) 6 _ rfl
       have f1 : wn.cell? ⟨pT, 7, none⟩ = some (.slice A3 n3 c3) := (GT.out.below HC.out) 7 _ rfl
       have f2 : wn.cell? ⟨pR, 0, none⟩ = some (.int .i64 r.base) := (GR.out.below HC.out) 0 _ rfl
       have f3 : wn.cell? ⟨pR, 1, none⟩ = some (.slice Ar nr cr) := (GR.out.below HC.out) 1 _ rfl
       clear hb)
    | (go_at_call_of 62 (Value.agg #[Value.int IntKind.i64 r.base, Value.slice Ar nr cr])
       refine (impl_lev _ r x _ (by first | exact RR.out.below HC.out | exact (RR.out.below HC.out).drew) KR.out).mono ?_
       rintro e wn ⟨rfl, hb⟩
       have HC' : Hid (Below w.heap.size w wn) := Lib.hid (by first | exact below_more HC.out hb | exact below_more HC.out (below_undrew hb))
       clear HC
       have HC := HC'
       clear HC'
       try clear f0 f1 f2 f3
       have f0 : wn.cell? ⟨pT, 6, none⟩ = some (.int .i64 t.verify.base) := (GT.out.below HC.out) 6 _ rfl
       have f1 : wn.cell? ⟨pT, 7, none⟩ = some (.slice A3 n3 c3) := (GT.out.below HC.out) 7 _ rfl
       have f2 : wn.cell? ⟨pR, 0, none⟩ = some (.int .i64 r.base) := (GR.out.below HC.out) 0 _ rfl
       have f3 : wn.cell? ⟨pR, 1, none⟩ = some (.slice Ar nr cr) := (GR.out.below HC.out) 1 _ rfl
       clear hb)
    | (go_at_call 63
       refine (impl_higher (lev r x) (lev t.raise x) _).mono ?_
       rintro e w' ⟨rfl, rfl⟩))
  clear f0 f1 f2 f3 zpT zpR hmin
  have e0 := (GE.out.below HC.out) 0 _ rfl
  have e1 := (GE.out.below HC.out) 1 _ rfl
  have ze := block_lt_of_cell e0
  simp only [] at ze
  go_wp2_with fail
  refine (impl_lev _ e x _ (by first | exact RE.out.below HC.out | exact (RE.out.below HC.out).drew) KE.out).mono ?_
  rintro e' w9 ⟨rfl, hb⟩
  by_cases q1 : lev e x ≤ m
  · go_wp2
    go_ret
    exact .mk (by rw [HM.out]; simp [q1]) (below_more HC.out hb)
  · go_wp2
    go_ret
    exact .mk (by rw [HM.out]; simp; omega) (below_more HC.out hb)
end Go.Proofs.YtedaknjjcdlpnaaDoor
