/-
  Chapter 5 of the model: TermsOk, NoTerms, what may be said of one level, what is let in by one level.
-/
import Derived.Test.YtnpeojlhjbdjiaaTermsPure
import Derived.Test.YtnpeojlhjbdjiaaSpecLab
namespace Go.Proofs.Ytnpeojlhjbdjiaa
set_option maxRecDepth 100000
open Go.RowKit

set_option maxHeartbeats 2000000 in
theorem spec_termsok (v : Value) (t : Tm) (w : World) (hr : RdTm w v t) : Calls Try.prog 28 #[v] w (RetV (.bool (termsOk t)) w) := by
  obtain ⟨A0, n0, c0, A1, n1, c1, A2, n2, c2, A3, n3, c3, rfl, h0, h1, h2, h3⟩ := hr
  have H0 := Lib.hid h0
  have H1 := Lib.hid h1
  have H2 := Lib.hid h2
  have H3 := Lib.hid h3
  clear h0 h1 h2 h3
  cases e0 : labOk t.taint
  · skip
    have HR : Hid (termsOk t = false) := Lib.hid (termsOk_0 e0)
    go_enter Try.func28, Try.ntmps28
    go_wp2_with fail
    generalize hW : w.alloc (.cells #[.int .i64 t.taint.base, .slice A0 n0 c0, .int .i64 t.clear.base, .slice A1 n1 c1, .int .i64 t.raise.base, .slice A2 n2 c2, .int .i64 t.verify.base, .slice A3 n3 c3] 35) = x0
    obtain ⟨pb, hsz, bel⟩ := laid1 (ps := [.int .i64 t.taint.base, .slice A0 n0 c0, .int .i64 t.clear.base, .slice A1 n1 c1, .int .i64 t.raise.base, .slice A2 n2 c2, .int .i64 t.verify.base, .slice A3 n3 c3]) hW
    have PB := Lib.hid pb
    clear hW pb hsz
    refine (spec_labok _ t.taint _ (H0.out.below bel)).mono ?_
    rintro e y0 ⟨rfl, hb⟩
    have PB' := Lib.hid (PB.out.below hb)
    have bel' := below_more bel hb
    clear PB bel hb
    have PB := PB'
    have bel := bel'
    clear PB' bel'
    go_wp2
    go_ret
    exact .mk (by rw [HR.out]; rfl) bel
  · skip
    cases e1 : labOk t.clear
    · skip
      have HR : Hid (termsOk t = false) := Lib.hid (termsOk_1 e1)
      go_enter Try.func28, Try.ntmps28
      go_wp2_with fail
      generalize hW : w.alloc (.cells #[.int .i64 t.taint.base, .slice A0 n0 c0, .int .i64 t.clear.base, .slice A1 n1 c1, .int .i64 t.raise.base, .slice A2 n2 c2, .int .i64 t.verify.base, .slice A3 n3 c3] 35) = x0
      obtain ⟨pb, hsz, bel⟩ := laid1 (ps := [.int .i64 t.taint.base, .slice A0 n0 c0, .int .i64 t.clear.base, .slice A1 n1 c1, .int .i64 t.raise.base, .slice A2 n2 c2, .int .i64 t.verify.base, .slice A3 n3 c3]) hW
      have PB := Lib.hid pb
      clear hW pb hsz
      refine (spec_labok _ t.taint _ (H0.out.below bel)).mono ?_
      rintro e y0 ⟨rfl, hb⟩
      have PB' := Lib.hid (PB.out.below hb)
      have bel' := below_more bel hb
      clear PB bel hb
      have PB := PB'
      have bel := bel'
      clear PB' bel'
      have pc2 := PB.out.cell 2 rfl
      have pc3 := PB.out.cell 3 rfl
      go_wp2_with fail
      refine (spec_labok _ t.clear _ (H1.out.below bel)).mono ?_
      rintro e y1 ⟨rfl, hb⟩
      have PB' := Lib.hid (PB.out.below hb)
      have bel' := below_more bel hb
      clear PB bel hb pc2 pc3
      have PB := PB'
      have bel := bel'
      clear PB' bel'
      go_wp2
      go_ret
      exact .mk (by rw [HR.out]; rfl) bel
    · skip
      cases e2 : labOk t.raise
      · skip
        have HR : Hid (termsOk t = false) := Lib.hid (termsOk_2 e2)
        go_enter Try.func28, Try.ntmps28
        go_wp2_with fail
        generalize hW : w.alloc (.cells #[.int .i64 t.taint.base, .slice A0 n0 c0, .int .i64 t.clear.base, .slice A1 n1 c1, .int .i64 t.raise.base, .slice A2 n2 c2, .int .i64 t.verify.base, .slice A3 n3 c3] 35) = x0
        obtain ⟨pb, hsz, bel⟩ := laid1 (ps := [.int .i64 t.taint.base, .slice A0 n0 c0, .int .i64 t.clear.base, .slice A1 n1 c1, .int .i64 t.raise.base, .slice A2 n2 c2, .int .i64 t.verify.base, .slice A3 n3 c3]) hW
        have PB := Lib.hid pb
        clear hW pb hsz
        refine (spec_labok _ t.taint _ (H0.out.below bel)).mono ?_
        rintro e y0 ⟨rfl, hb⟩
        have PB' := Lib.hid (PB.out.below hb)
        have bel' := below_more bel hb
        clear PB bel hb
        have PB := PB'
        have bel := bel'
        clear PB' bel'
        have pc2 := PB.out.cell 2 rfl
        have pc3 := PB.out.cell 3 rfl
        go_wp2_with fail
        refine (spec_labok _ t.clear _ (H1.out.below bel)).mono ?_
        rintro e y1 ⟨rfl, hb⟩
        have PB' := Lib.hid (PB.out.below hb)
        have bel' := below_more bel hb
        clear PB bel hb pc2 pc3
        have PB := PB'
        have bel := bel'
        clear PB' bel'
        have pc4 := PB.out.cell 4 rfl
        have pc5 := PB.out.cell 5 rfl
        go_wp2_with fail
        refine (spec_labok _ t.raise _ (H2.out.below bel)).mono ?_
        rintro e y2 ⟨rfl, hb⟩
        have PB' := Lib.hid (PB.out.below hb)
        have bel' := below_more bel hb
        clear PB bel hb pc4 pc5
        have PB := PB'
        have bel := bel'
        clear PB' bel'
        go_wp2
        go_ret
        exact .mk (by rw [HR.out]; rfl) bel
      · skip
        cases e3 : labOk t.verify
        · skip
          have HR : Hid (termsOk t = false) := Lib.hid (termsOk_3 e3)
          go_enter Try.func28, Try.ntmps28
          go_wp2_with fail
          generalize hW : w.alloc (.cells #[.int .i64 t.taint.base, .slice A0 n0 c0, .int .i64 t.clear.base, .slice A1 n1 c1, .int .i64 t.raise.base, .slice A2 n2 c2, .int .i64 t.verify.base, .slice A3 n3 c3] 35) = x0
          obtain ⟨pb, hsz, bel⟩ := laid1 (ps := [.int .i64 t.taint.base, .slice A0 n0 c0, .int .i64 t.clear.base, .slice A1 n1 c1, .int .i64 t.raise.base, .slice A2 n2 c2, .int .i64 t.verify.base, .slice A3 n3 c3]) hW
          have PB := Lib.hid pb
          clear hW pb hsz
          refine (spec_labok _ t.taint _ (H0.out.below bel)).mono ?_
          rintro e y0 ⟨rfl, hb⟩
          have PB' := Lib.hid (PB.out.below hb)
          have bel' := below_more bel hb
          clear PB bel hb
          have PB := PB'
          have bel := bel'
          clear PB' bel'
          have pc2 := PB.out.cell 2 rfl
          have pc3 := PB.out.cell 3 rfl
          go_wp2_with fail
          refine (spec_labok _ t.clear _ (H1.out.below bel)).mono ?_
          rintro e y1 ⟨rfl, hb⟩
          have PB' := Lib.hid (PB.out.below hb)
          have bel' := below_more bel hb
          clear PB bel hb pc2 pc3
          have PB := PB'
          have bel := bel'
          clear PB' bel'
          have pc4 := PB.out.cell 4 rfl
          have pc5 := PB.out.cell 5 rfl
          go_wp2_with fail
          refine (spec_labok _ t.raise _ (H2.out.below bel)).mono ?_
          rintro e y2 ⟨rfl, hb⟩
          have PB' := Lib.hid (PB.out.below hb)
          have bel' := below_more bel hb
          clear PB bel hb pc4 pc5
          have PB := PB'
          have bel := bel'
          clear PB' bel'
          have pc6 := PB.out.cell 6 rfl
          have pc7 := PB.out.cell 7 rfl
          go_wp2_with fail
          refine (spec_labok _ t.verify _ (H3.out.below bel)).mono ?_
          rintro e y3 ⟨rfl, hb⟩
          have PB' := Lib.hid (PB.out.below hb)
          have bel' := below_more bel hb
          clear PB bel hb pc6 pc7
          have PB := PB'
          have bel := bel'
          clear PB' bel'
          go_wp2
          go_ret
          exact .mk (by rw [HR.out]; rfl) bel
        · skip
          have HR : Hid (termsOk t = true) := Lib.hid (termsOk_mk e0 e1 e2 e3)
          go_enter Try.func28, Try.ntmps28
          go_wp2_with fail
          generalize hW : w.alloc (.cells #[.int .i64 t.taint.base, .slice A0 n0 c0, .int .i64 t.clear.base, .slice A1 n1 c1, .int .i64 t.raise.base, .slice A2 n2 c2, .int .i64 t.verify.base, .slice A3 n3 c3] 35) = x0
          obtain ⟨pb, hsz, bel⟩ := laid1 (ps := [.int .i64 t.taint.base, .slice A0 n0 c0, .int .i64 t.clear.base, .slice A1 n1 c1, .int .i64 t.raise.base, .slice A2 n2 c2, .int .i64 t.verify.base, .slice A3 n3 c3]) hW
          have PB := Lib.hid pb
          clear hW pb hsz
          refine (spec_labok _ t.taint _ (H0.out.below bel)).mono ?_
          rintro e y0 ⟨rfl, hb⟩
          have PB' := Lib.hid (PB.out.below hb)
          have bel' := below_more bel hb
          clear PB bel hb
          have PB := PB'
          have bel := bel'
          clear PB' bel'
          have pc2 := PB.out.cell 2 rfl
          have pc3 := PB.out.cell 3 rfl
          go_wp2_with fail
          refine (spec_labok _ t.clear _ (H1.out.below bel)).mono ?_
          rintro e y1 ⟨rfl, hb⟩
          have PB' := Lib.hid (PB.out.below hb)
          have bel' := below_more bel hb
          clear PB bel hb pc2 pc3
          have PB := PB'
          have bel := bel'
          clear PB' bel'
          have pc4 := PB.out.cell 4 rfl
          have pc5 := PB.out.cell 5 rfl
          go_wp2_with fail
          refine (spec_labok _ t.raise _ (H2.out.below bel)).mono ?_
          rintro e y2 ⟨rfl, hb⟩
          have PB' := Lib.hid (PB.out.below hb)
          have bel' := below_more bel hb
          clear PB bel hb pc4 pc5
          have PB := PB'
          have bel := bel'
          clear PB' bel'
          have pc6 := PB.out.cell 6 rfl
          have pc7 := PB.out.cell 7 rfl
          go_wp2_with fail
          refine (spec_labok _ t.verify _ (H3.out.below bel)).mono ?_
          rintro e y3 ⟨rfl, hb⟩
          have PB' := Lib.hid (PB.out.below hb)
          have bel' := below_more bel hb
          clear PB bel hb pc6 pc7
          have PB := PB'
          have bel := bel'
          clear PB' bel'
          go_wp2
          go_ret
          exact .mk (by rw [HR.out]; rfl) bel
end Go.Proofs.Ytnpeojlhjbdjiaa
