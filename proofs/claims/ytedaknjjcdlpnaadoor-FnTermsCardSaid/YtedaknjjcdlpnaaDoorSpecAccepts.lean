/-
  Chapter 5 of the model: Accepts.
-/
import Derived.Test.YtedaknjjcdlpnaaDoorSpecTerms
import Derived.Test.YtedaknjjcdlpnaaDoorSpecLab
namespace Go.Proofs.YtedaknjjcdlpnaaDoor
set_option maxRecDepth 100000
open Go.RowKit

set_option maxHeartbeats 8000000 in
theorem spec_accepts (v u u3 u4 : Value) (e : Lab) (r : Lab) (t : Tm) (d : Lab) (w : World) (hr : RdLab w v e) (hq : RdLab w u r) (hu : RdTm w u3 t) (hz : RdLab w u4 d) :
    Calls Tryd.prog 13 #[v, u, u3, u4] w (RetV (.bool (accepts e r t d)) w) := by
  have RA := Lib.hid hr
  obtain ⟨A, n, c, rfl, -⟩ := hr
  have RB := Lib.hid hq
  obtain ⟨B, nb, cb, rfl, -⟩ := hq
  have RC := Lib.hid hu
  obtain ⟨A0, n0, c0, A1, n1, c1, A2, n2, c2, A3, n3, c3, rfl, ht0, ht1, ht2, ht3⟩ := hu
  have HT0 := Lib.hid ht0
  clear ht0
  have HT1 := Lib.hid ht1
  clear ht1
  have HT2 := Lib.hid ht2
  clear ht2
  have HT3 := Lib.hid ht3
  clear ht3
  have RD := Lib.hid hz
  obtain ⟨C, nc, cc, rfl, -⟩ := hz
  cases e0 : labOk e
  · have HR : Hid (accepts e r t d = false) := Lib.hid (accepts_0 e0)
    go_enter Tryd.func13, Tryd.ntmps13
    go_wp2_with fail
    generalize hW : (((w.alloc (.cells #[.int .i64 e.base, .slice A n c] 26)).alloc (.cells #[.int .i64 r.base, .slice B nb cb] 26)).alloc (.cells #[.int .i64 t.taint.base, .slice A0 n0 c0, .int .i64 t.clear.base, .slice A1 n1 c1, .int .i64 t.raise.base, .slice A2 n2 c2, .int .i64 t.verify.base, .slice A3 n3 c3] 28)).alloc (.cells #[.int .i64 d.base, .slice C nc cc] 26) = x0
    obtain ⟨pa, pb, pd, pe, hsz, bel⟩ := laid4b (ps := [.int .i64 e.base, .slice A n c]) (rs := [.int .i64 r.base, .slice B nb cb]) (os := [.int .i64 t.taint.base, .slice A0 n0 c0, .int .i64 t.clear.base, .slice A1 n1 c1, .int .i64 t.raise.base, .slice A2 n2 c2, .int .i64 t.verify.base, .slice A3 n3 c3]) (qs := [.int .i64 d.base, .slice C nc cc]) hW
    have P0 := Lib.hid pa
    have P1 := Lib.hid pb
    have P2 := Lib.hid pd
    have P3 := Lib.hid pe
    clear hW pa pb pd pe hsz
    refine (spec_labok _ e _ (RA.out.below bel)).mono ?_
    rintro e y0 ⟨rfl, hb⟩
    have P0' := Lib.hid (P0.out.below hb)
    clear P0
    have P0 := P0'
    clear P0'
    have P1' := Lib.hid (P1.out.below hb)
    clear P1
    have P1 := P1'
    clear P1'
    have P2' := Lib.hid (P2.out.below hb)
    clear P2
    have P2 := P2'
    clear P2'
    have P3' := Lib.hid (P3.out.below hb)
    clear P3
    have P3 := P3'
    clear P3'
    have bel' := below_more bel hb
    clear bel hb
    have bel := bel'
    clear bel'
    go_wp2
    go_ret
    exact .mk (by rw [HR.out]; rfl) bel
  · skip
    cases e1 : labOk r
    · have HR : Hid (accepts e r t d = false) := Lib.hid (accepts_1 e1)
      go_enter Tryd.func13, Tryd.ntmps13
      go_wp2_with fail
      generalize hW : (((w.alloc (.cells #[.int .i64 e.base, .slice A n c] 26)).alloc (.cells #[.int .i64 r.base, .slice B nb cb] 26)).alloc (.cells #[.int .i64 t.taint.base, .slice A0 n0 c0, .int .i64 t.clear.base, .slice A1 n1 c1, .int .i64 t.raise.base, .slice A2 n2 c2, .int .i64 t.verify.base, .slice A3 n3 c3] 28)).alloc (.cells #[.int .i64 d.base, .slice C nc cc] 26) = x0
      obtain ⟨pa, pb, pd, pe, hsz, bel⟩ := laid4b (ps := [.int .i64 e.base, .slice A n c]) (rs := [.int .i64 r.base, .slice B nb cb]) (os := [.int .i64 t.taint.base, .slice A0 n0 c0, .int .i64 t.clear.base, .slice A1 n1 c1, .int .i64 t.raise.base, .slice A2 n2 c2, .int .i64 t.verify.base, .slice A3 n3 c3]) (qs := [.int .i64 d.base, .slice C nc cc]) hW
      have P0 := Lib.hid pa
      have P1 := Lib.hid pb
      have P2 := Lib.hid pd
      have P3 := Lib.hid pe
      clear hW pa pb pd pe hsz
      refine (spec_labok _ e _ (RA.out.below bel)).mono ?_
      rintro e y0 ⟨rfl, hb⟩
      have P0' := Lib.hid (P0.out.below hb)
      clear P0
      have P0 := P0'
      clear P0'
      have P1' := Lib.hid (P1.out.below hb)
      clear P1
      have P1 := P1'
      clear P1'
      have P2' := Lib.hid (P2.out.below hb)
      clear P2
      have P2 := P2'
      clear P2'
      have P3' := Lib.hid (P3.out.below hb)
      clear P3
      have P3 := P3'
      clear P3'
      have bel' := below_more bel hb
      clear bel hb
      have bel := bel'
      clear bel'
      have k1_0 := P1.out.cell 0 rfl
      have k1_1 := P1.out.cell 1 rfl
      go_wp2_with fail
      refine (spec_labok _ r _ (RB.out.below bel)).mono ?_
      rintro e y1 ⟨rfl, hb⟩
      have P0' := Lib.hid (P0.out.below hb)
      clear P0
      have P0 := P0'
      clear P0'
      have P1' := Lib.hid (P1.out.below hb)
      clear P1
      have P1 := P1'
      clear P1'
      have P2' := Lib.hid (P2.out.below hb)
      clear P2
      have P2 := P2'
      clear P2'
      have P3' := Lib.hid (P3.out.below hb)
      clear P3
      have P3 := P3'
      clear P3'
      have bel' := below_more bel hb
      clear bel hb  k1_0 k1_1
      have bel := bel'
      clear bel'
      go_wp2
      go_ret
      exact .mk (by rw [HR.out]; rfl) bel
    · skip
      cases e2 : termsOk t
      · have HR : Hid (accepts e r t d = false) := Lib.hid (accepts_2 e2)
        go_enter Tryd.func13, Tryd.ntmps13
        go_wp2_with fail
        generalize hW : (((w.alloc (.cells #[.int .i64 e.base, .slice A n c] 26)).alloc (.cells #[.int .i64 r.base, .slice B nb cb] 26)).alloc (.cells #[.int .i64 t.taint.base, .slice A0 n0 c0, .int .i64 t.clear.base, .slice A1 n1 c1, .int .i64 t.raise.base, .slice A2 n2 c2, .int .i64 t.verify.base, .slice A3 n3 c3] 28)).alloc (.cells #[.int .i64 d.base, .slice C nc cc] 26) = x0
        obtain ⟨pa, pb, pd, pe, hsz, bel⟩ := laid4b (ps := [.int .i64 e.base, .slice A n c]) (rs := [.int .i64 r.base, .slice B nb cb]) (os := [.int .i64 t.taint.base, .slice A0 n0 c0, .int .i64 t.clear.base, .slice A1 n1 c1, .int .i64 t.raise.base, .slice A2 n2 c2, .int .i64 t.verify.base, .slice A3 n3 c3]) (qs := [.int .i64 d.base, .slice C nc cc]) hW
        have P0 := Lib.hid pa
        have P1 := Lib.hid pb
        have P2 := Lib.hid pd
        have P3 := Lib.hid pe
        clear hW pa pb pd pe hsz
        refine (spec_labok _ e _ (RA.out.below bel)).mono ?_
        rintro e y0 ⟨rfl, hb⟩
        have P0' := Lib.hid (P0.out.below hb)
        clear P0
        have P0 := P0'
        clear P0'
        have P1' := Lib.hid (P1.out.below hb)
        clear P1
        have P1 := P1'
        clear P1'
        have P2' := Lib.hid (P2.out.below hb)
        clear P2
        have P2 := P2'
        clear P2'
        have P3' := Lib.hid (P3.out.below hb)
        clear P3
        have P3 := P3'
        clear P3'
        have bel' := below_more bel hb
        clear bel hb
        have bel := bel'
        clear bel'
        have k1_0 := P1.out.cell 0 rfl
        have k1_1 := P1.out.cell 1 rfl
        go_wp2_with fail
        refine (spec_labok _ r _ (RB.out.below bel)).mono ?_
        rintro e y1 ⟨rfl, hb⟩
        have P0' := Lib.hid (P0.out.below hb)
        clear P0
        have P0 := P0'
        clear P0'
        have P1' := Lib.hid (P1.out.below hb)
        clear P1
        have P1 := P1'
        clear P1'
        have P2' := Lib.hid (P2.out.below hb)
        clear P2
        have P2 := P2'
        clear P2'
        have P3' := Lib.hid (P3.out.below hb)
        clear P3
        have P3 := P3'
        clear P3'
        have bel' := below_more bel hb
        clear bel hb  k1_0 k1_1
        have bel := bel'
        clear bel'
        have k2_0 := P2.out.cell 0 rfl
        have k2_1 := P2.out.cell 1 rfl
        have k2_2 := P2.out.cell 2 rfl
        have k2_3 := P2.out.cell 3 rfl
        have k2_4 := P2.out.cell 4 rfl
        have k2_5 := P2.out.cell 5 rfl
        have k2_6 := P2.out.cell 6 rfl
        have k2_7 := P2.out.cell 7 rfl
        go_wp2_with fail
        refine (spec_termsok _ t _ (RC.out.below bel)).mono ?_
        rintro e y2 ⟨rfl, hb⟩
        have P0' := Lib.hid (P0.out.below hb)
        clear P0
        have P0 := P0'
        clear P0'
        have P1' := Lib.hid (P1.out.below hb)
        clear P1
        have P1 := P1'
        clear P1'
        have P2' := Lib.hid (P2.out.below hb)
        clear P2
        have P2 := P2'
        clear P2'
        have P3' := Lib.hid (P3.out.below hb)
        clear P3
        have P3 := P3'
        clear P3'
        have bel' := below_more bel hb
        clear bel hb  k2_0 k2_1 k2_2 k2_3 k2_4 k2_5 k2_6 k2_7
        have bel := bel'
        clear bel'
        go_wp2
        go_ret
        exact .mk (by rw [HR.out]; rfl) bel
      · skip
        cases e3 : labOk d
        · have HR : Hid (accepts e r t d = false) := Lib.hid (accepts_3 e3)
          go_enter Tryd.func13, Tryd.ntmps13
          go_wp2_with fail
          generalize hW : (((w.alloc (.cells #[.int .i64 e.base, .slice A n c] 26)).alloc (.cells #[.int .i64 r.base, .slice B nb cb] 26)).alloc (.cells #[.int .i64 t.taint.base, .slice A0 n0 c0, .int .i64 t.clear.base, .slice A1 n1 c1, .int .i64 t.raise.base, .slice A2 n2 c2, .int .i64 t.verify.base, .slice A3 n3 c3] 28)).alloc (.cells #[.int .i64 d.base, .slice C nc cc] 26) = x0
          obtain ⟨pa, pb, pd, pe, hsz, bel⟩ := laid4b (ps := [.int .i64 e.base, .slice A n c]) (rs := [.int .i64 r.base, .slice B nb cb]) (os := [.int .i64 t.taint.base, .slice A0 n0 c0, .int .i64 t.clear.base, .slice A1 n1 c1, .int .i64 t.raise.base, .slice A2 n2 c2, .int .i64 t.verify.base, .slice A3 n3 c3]) (qs := [.int .i64 d.base, .slice C nc cc]) hW
          have P0 := Lib.hid pa
          have P1 := Lib.hid pb
          have P2 := Lib.hid pd
          have P3 := Lib.hid pe
          clear hW pa pb pd pe hsz
          refine (spec_labok _ e _ (RA.out.below bel)).mono ?_
          rintro e y0 ⟨rfl, hb⟩
          have P0' := Lib.hid (P0.out.below hb)
          clear P0
          have P0 := P0'
          clear P0'
          have P1' := Lib.hid (P1.out.below hb)
          clear P1
          have P1 := P1'
          clear P1'
          have P2' := Lib.hid (P2.out.below hb)
          clear P2
          have P2 := P2'
          clear P2'
          have P3' := Lib.hid (P3.out.below hb)
          clear P3
          have P3 := P3'
          clear P3'
          have bel' := below_more bel hb
          clear bel hb
          have bel := bel'
          clear bel'
          have k1_0 := P1.out.cell 0 rfl
          have k1_1 := P1.out.cell 1 rfl
          go_wp2_with fail
          refine (spec_labok _ r _ (RB.out.below bel)).mono ?_
          rintro e y1 ⟨rfl, hb⟩
          have P0' := Lib.hid (P0.out.below hb)
          clear P0
          have P0 := P0'
          clear P0'
          have P1' := Lib.hid (P1.out.below hb)
          clear P1
          have P1 := P1'
          clear P1'
          have P2' := Lib.hid (P2.out.below hb)
          clear P2
          have P2 := P2'
          clear P2'
          have P3' := Lib.hid (P3.out.below hb)
          clear P3
          have P3 := P3'
          clear P3'
          have bel' := below_more bel hb
          clear bel hb  k1_0 k1_1
          have bel := bel'
          clear bel'
          have k2_0 := P2.out.cell 0 rfl
          have k2_1 := P2.out.cell 1 rfl
          have k2_2 := P2.out.cell 2 rfl
          have k2_3 := P2.out.cell 3 rfl
          have k2_4 := P2.out.cell 4 rfl
          have k2_5 := P2.out.cell 5 rfl
          have k2_6 := P2.out.cell 6 rfl
          have k2_7 := P2.out.cell 7 rfl
          go_wp2_with fail
          refine (spec_termsok _ t _ (RC.out.below bel)).mono ?_
          rintro e y2 ⟨rfl, hb⟩
          have P0' := Lib.hid (P0.out.below hb)
          clear P0
          have P0 := P0'
          clear P0'
          have P1' := Lib.hid (P1.out.below hb)
          clear P1
          have P1 := P1'
          clear P1'
          have P2' := Lib.hid (P2.out.below hb)
          clear P2
          have P2 := P2'
          clear P2'
          have P3' := Lib.hid (P3.out.below hb)
          clear P3
          have P3 := P3'
          clear P3'
          have bel' := below_more bel hb
          clear bel hb  k2_0 k2_1 k2_2 k2_3 k2_4 k2_5 k2_6 k2_7
          have bel := bel'
          clear bel'
          have k3_0 := P3.out.cell 0 rfl
          have k3_1 := P3.out.cell 1 rfl
          go_wp2_with fail
          refine (spec_labok _ d _ (RD.out.below bel)).mono ?_
          rintro e y3 ⟨rfl, hb⟩
          have P0' := Lib.hid (P0.out.below hb)
          clear P0
          have P0 := P0'
          clear P0'
          have P1' := Lib.hid (P1.out.below hb)
          clear P1
          have P1 := P1'
          clear P1'
          have P2' := Lib.hid (P2.out.below hb)
          clear P2
          have P2 := P2'
          clear P2'
          have P3' := Lib.hid (P3.out.below hb)
          clear P3
          have P3 := P3'
          clear P3'
          have bel' := below_more bel hb
          clear bel hb  k3_0 k3_1
          have bel := bel'
          clear bel'
          go_wp2
          go_ret
          exact .mk (by rw [HR.out]; rfl) bel
        · skip
          cases hm : inB e.base r.base t.raise.base t.verify.base d.base
          · have HR : Hid (accepts e r t d = false) := Lib.hid (accepts_4 hm)
            go_enter Tryd.func13, Tryd.ntmps13
            go_wp2_with fail
            generalize hW : (((w.alloc (.cells #[.int .i64 e.base, .slice A n c] 26)).alloc (.cells #[.int .i64 r.base, .slice B nb cb] 26)).alloc (.cells #[.int .i64 t.taint.base, .slice A0 n0 c0, .int .i64 t.clear.base, .slice A1 n1 c1, .int .i64 t.raise.base, .slice A2 n2 c2, .int .i64 t.verify.base, .slice A3 n3 c3] 28)).alloc (.cells #[.int .i64 d.base, .slice C nc cc] 26) = x0
            obtain ⟨pa, pb, pd, pe, hsz, bel⟩ := laid4b (ps := [.int .i64 e.base, .slice A n c]) (rs := [.int .i64 r.base, .slice B nb cb]) (os := [.int .i64 t.taint.base, .slice A0 n0 c0, .int .i64 t.clear.base, .slice A1 n1 c1, .int .i64 t.raise.base, .slice A2 n2 c2, .int .i64 t.verify.base, .slice A3 n3 c3]) (qs := [.int .i64 d.base, .slice C nc cc]) hW
            have P0 := Lib.hid pa
            have P1 := Lib.hid pb
            have P2 := Lib.hid pd
            have P3 := Lib.hid pe
            clear hW pa pb pd pe hsz
            refine (spec_labok _ e _ (RA.out.below bel)).mono ?_
            rintro e y0 ⟨rfl, hb⟩
            have P0' := Lib.hid (P0.out.below hb)
            clear P0
            have P0 := P0'
            clear P0'
            have P1' := Lib.hid (P1.out.below hb)
            clear P1
            have P1 := P1'
            clear P1'
            have P2' := Lib.hid (P2.out.below hb)
            clear P2
            have P2 := P2'
            clear P2'
            have P3' := Lib.hid (P3.out.below hb)
            clear P3
            have P3 := P3'
            clear P3'
            have bel' := below_more bel hb
            clear bel hb
            have bel := bel'
            clear bel'
            have k1_0 := P1.out.cell 0 rfl
            have k1_1 := P1.out.cell 1 rfl
            go_wp2_with fail
            refine (spec_labok _ r _ (RB.out.below bel)).mono ?_
            rintro e y1 ⟨rfl, hb⟩
            have P0' := Lib.hid (P0.out.below hb)
            clear P0
            have P0 := P0'
            clear P0'
            have P1' := Lib.hid (P1.out.below hb)
            clear P1
            have P1 := P1'
            clear P1'
            have P2' := Lib.hid (P2.out.below hb)
            clear P2
            have P2 := P2'
            clear P2'
            have P3' := Lib.hid (P3.out.below hb)
            clear P3
            have P3 := P3'
            clear P3'
            have bel' := below_more bel hb
            clear bel hb  k1_0 k1_1
            have bel := bel'
            clear bel'
            have k2_0 := P2.out.cell 0 rfl
            have k2_1 := P2.out.cell 1 rfl
            have k2_2 := P2.out.cell 2 rfl
            have k2_3 := P2.out.cell 3 rfl
            have k2_4 := P2.out.cell 4 rfl
            have k2_5 := P2.out.cell 5 rfl
            have k2_6 := P2.out.cell 6 rfl
            have k2_7 := P2.out.cell 7 rfl
            go_wp2_with fail
            refine (spec_termsok _ t _ (RC.out.below bel)).mono ?_
            rintro e y2 ⟨rfl, hb⟩
            have P0' := Lib.hid (P0.out.below hb)
            clear P0
            have P0 := P0'
            clear P0'
            have P1' := Lib.hid (P1.out.below hb)
            clear P1
            have P1 := P1'
            clear P1'
            have P2' := Lib.hid (P2.out.below hb)
            clear P2
            have P2 := P2'
            clear P2'
            have P3' := Lib.hid (P3.out.below hb)
            clear P3
            have P3 := P3'
            clear P3'
            have bel' := below_more bel hb
            clear bel hb  k2_0 k2_1 k2_2 k2_3 k2_4 k2_5 k2_6 k2_7
            have bel := bel'
            clear bel'
            have k3_0 := P3.out.cell 0 rfl
            have k3_1 := P3.out.cell 1 rfl
            go_wp2_with fail
            refine (spec_labok _ d _ (RD.out.below bel)).mono ?_
            rintro e y3 ⟨rfl, hb⟩
            have P0' := Lib.hid (P0.out.below hb)
            clear P0
            have P0 := P0'
            clear P0'
            have P1' := Lib.hid (P1.out.below hb)
            clear P1
            have P1 := P1'
            clear P1'
            have P2' := Lib.hid (P2.out.below hb)
            clear P2
            have P2 := P2'
            clear P2'
            have P3' := Lib.hid (P3.out.below hb)
            clear P3
            have P3 := P3'
            clear P3'
            have bel' := below_more bel hb
            clear bel hb  k3_0 k3_1
            have bel := bel'
            clear bel'
            have k0_0 := P0.out.cell 0 rfl
            have k0_1 := P0.out.cell 1 rfl
            have k1_0 := P1.out.cell 0 rfl
            have k1_1 := P1.out.cell 1 rfl
            have k2_0 := P2.out.cell 0 rfl
            have k2_1 := P2.out.cell 1 rfl
            have k2_2 := P2.out.cell 2 rfl
            have k2_3 := P2.out.cell 3 rfl
            have k2_4 := P2.out.cell 4 rfl
            have k2_5 := P2.out.cell 5 rfl
            have k2_6 := P2.out.cell 6 rfl
            have k2_7 := P2.out.cell 7 rfl
            have k3_0 := P3.out.cell 0 rfl
            have k3_1 := P3.out.cell 1 rfl
            go_wp2_with (go_at_call 42; refine (spec_in _ _ _ _ _ _).mono ?_; rintro e w' ⟨rfl, rfl⟩)
            go_ret
            exact .mk (by rw [HR.out]; rfl) bel
          · have HY : Hid (accepts e r t d = (hs5 e r t.raise t.verify d).all (inL e r t d)) := Lib.hid (accepts_yes e0 e1 e2 e3 hm)
            have s0 := labOk_short e0
            have s1 := labOk_short e1
            obtain ⟨-, tk1, tk2, tk3⟩ := termsOk_of e2
            have st1 := labOk_short tk1
            have st2 := labOk_short tk2
            have st3 := labOk_short tk3
            have s3 := labOk_short e3
            have hN := hs5_length e r t.raise t.verify d
            have hb0 : 0 + e.parts.length ≤ 1048575 := by omega
            have hb1 : (handlesIn [] e.parts).length + r.parts.length ≤ 1048575 := by have g0 := handlesIn_length [] e.parts; simp only [List.length_nil] at g0; omega
            have hb2 : (handlesIn (handlesIn [] e.parts) r.parts).length + t.raise.parts.length ≤ 1048575 := by have g0 := handlesIn_length [] e.parts; have g1 := handlesIn_length (handlesIn [] e.parts) r.parts; simp only [List.length_nil] at g0; omega
            have hb3 : (handlesIn (handlesIn (handlesIn [] e.parts) r.parts) t.raise.parts).length + t.verify.parts.length ≤ 1048575 := by have g0 := handlesIn_length [] e.parts; have g1 := handlesIn_length (handlesIn [] e.parts) r.parts; have g2 := handlesIn_length (handlesIn (handlesIn [] e.parts) r.parts) t.raise.parts; simp only [List.length_nil] at g0; omega
            have hb4 : (handlesIn (handlesIn (handlesIn (handlesIn [] e.parts) r.parts) t.raise.parts) t.verify.parts).length + d.parts.length ≤ 1048575 := by have g0 := handlesIn_length [] e.parts; have g1 := handlesIn_length (handlesIn [] e.parts) r.parts; have g2 := handlesIn_length (handlesIn (handlesIn [] e.parts) r.parts) t.raise.parts; have g3 := handlesIn_length (handlesIn (handlesIn (handlesIn [] e.parts) r.parts) t.raise.parts) t.verify.parts; simp only [List.length_nil] at g0; omega
            go_enter Tryd.func13, Tryd.ntmps13
            go_wp2_with fail
            generalize hW : (((w.alloc (.cells #[.int .i64 e.base, .slice A n c] 26)).alloc (.cells #[.int .i64 r.base, .slice B nb cb] 26)).alloc (.cells #[.int .i64 t.taint.base, .slice A0 n0 c0, .int .i64 t.clear.base, .slice A1 n1 c1, .int .i64 t.raise.base, .slice A2 n2 c2, .int .i64 t.verify.base, .slice A3 n3 c3] 28)).alloc (.cells #[.int .i64 d.base, .slice C nc cc] 26) = x0
            obtain ⟨pa, pb, pd, pe, hsz, bel⟩ := laid4b (ps := [.int .i64 e.base, .slice A n c]) (rs := [.int .i64 r.base, .slice B nb cb]) (os := [.int .i64 t.taint.base, .slice A0 n0 c0, .int .i64 t.clear.base, .slice A1 n1 c1, .int .i64 t.raise.base, .slice A2 n2 c2, .int .i64 t.verify.base, .slice A3 n3 c3]) (qs := [.int .i64 d.base, .slice C nc cc]) hW
            have P0 := Lib.hid pa
            have P1 := Lib.hid pb
            have P2 := Lib.hid pd
            have P3 := Lib.hid pe
            clear hW pa pb pd pe hsz
            refine (spec_labok _ e _ (RA.out.below bel)).mono ?_
            rintro e y0 ⟨rfl, hb⟩
            have P0' := Lib.hid (P0.out.below hb)
            clear P0
            have P0 := P0'
            clear P0'
            have P1' := Lib.hid (P1.out.below hb)
            clear P1
            have P1 := P1'
            clear P1'
            have P2' := Lib.hid (P2.out.below hb)
            clear P2
            have P2 := P2'
            clear P2'
            have P3' := Lib.hid (P3.out.below hb)
            clear P3
            have P3 := P3'
            clear P3'
            have bel' := below_more bel hb
            clear bel hb
            have bel := bel'
            clear bel'
            have k1_0 := P1.out.cell 0 rfl
            have k1_1 := P1.out.cell 1 rfl
            go_wp2_with fail
            refine (spec_labok _ r _ (RB.out.below bel)).mono ?_
            rintro e y1 ⟨rfl, hb⟩
            have P0' := Lib.hid (P0.out.below hb)
            clear P0
            have P0 := P0'
            clear P0'
            have P1' := Lib.hid (P1.out.below hb)
            clear P1
            have P1 := P1'
            clear P1'
            have P2' := Lib.hid (P2.out.below hb)
            clear P2
            have P2 := P2'
            clear P2'
            have P3' := Lib.hid (P3.out.below hb)
            clear P3
            have P3 := P3'
            clear P3'
            have bel' := below_more bel hb
            clear bel hb  k1_0 k1_1
            have bel := bel'
            clear bel'
            have k2_0 := P2.out.cell 0 rfl
            have k2_1 := P2.out.cell 1 rfl
            have k2_2 := P2.out.cell 2 rfl
            have k2_3 := P2.out.cell 3 rfl
            have k2_4 := P2.out.cell 4 rfl
            have k2_5 := P2.out.cell 5 rfl
            have k2_6 := P2.out.cell 6 rfl
            have k2_7 := P2.out.cell 7 rfl
            go_wp2_with fail
            refine (spec_termsok _ t _ (RC.out.below bel)).mono ?_
            rintro e y2 ⟨rfl, hb⟩
            have P0' := Lib.hid (P0.out.below hb)
            clear P0
            have P0 := P0'
            clear P0'
            have P1' := Lib.hid (P1.out.below hb)
            clear P1
            have P1 := P1'
            clear P1'
            have P2' := Lib.hid (P2.out.below hb)
            clear P2
            have P2 := P2'
            clear P2'
            have P3' := Lib.hid (P3.out.below hb)
            clear P3
            have P3 := P3'
            clear P3'
            have bel' := below_more bel hb
            clear bel hb  k2_0 k2_1 k2_2 k2_3 k2_4 k2_5 k2_6 k2_7
            have bel := bel'
            clear bel'
            have k3_0 := P3.out.cell 0 rfl
            have k3_1 := P3.out.cell 1 rfl
            go_wp2_with fail
            refine (spec_labok _ d _ (RD.out.below bel)).mono ?_
            rintro e y3 ⟨rfl, hb⟩
            have P0' := Lib.hid (P0.out.below hb)
            clear P0
            have P0 := P0'
            clear P0'
            have P1' := Lib.hid (P1.out.below hb)
            clear P1
            have P1 := P1'
            clear P1'
            have P2' := Lib.hid (P2.out.below hb)
            clear P2
            have P2 := P2'
            clear P2'
            have P3' := Lib.hid (P3.out.below hb)
            clear P3
            have P3 := P3'
            clear P3'
            have bel' := below_more bel hb
            clear bel hb  k3_0 k3_1
            have bel := bel'
            clear bel'
            have k0_0 := P0.out.cell 0 rfl
            have k0_1 := P0.out.cell 1 rfl
            have k1_0 := P1.out.cell 0 rfl
            have k1_1 := P1.out.cell 1 rfl
            have k2_0 := P2.out.cell 0 rfl
            have k2_1 := P2.out.cell 1 rfl
            have k2_2 := P2.out.cell 2 rfl
            have k2_3 := P2.out.cell 3 rfl
            have k2_4 := P2.out.cell 4 rfl
            have k2_5 := P2.out.cell 5 rfl
            have k2_6 := P2.out.cell 6 rfl
            have k2_7 := P2.out.cell 7 rfl
            have k3_0 := P3.out.cell 0 rfl
            have k3_1 := P3.out.cell 1 rfl
            go_wp2_with (go_at_call 42; refine (spec_in _ _ _ _ _ _).mono ?_; rintro e w' ⟨rfl, rfl⟩)
            clear k0_0 k0_1 k1_0 k1_1 k2_0 k2_1 k2_2 k2_3 k2_4 k2_5 k2_6 k2_7 k3_0 k3_1
            obtain ⟨x1, hx1⟩ : ∃ x1, x1 = y3 := ⟨_, rfl⟩
            rw [← hx1] at bel P0 P1 P2 P3 ⊢
            clear hx1
            have B0 := Lib.hid P0.out.has
            have B1 := Lib.hid P1.out.has
            have B2 := Lib.hid P2.out.has
            have B3 := Lib.hid P3.out.has
            have RX0 := Lib.hid (RA.out.below bel)
            have RX1 := Lib.hid (RB.out.below bel)
            have RX2 := Lib.hid (HT2.out.below bel)
            have RX3 := Lib.hid (HT3.out.below bel)
            have RX4 := Lib.hid (RD.out.below bel)
            have e0a := B0.out 0 _ rfl
            have e0b := B0.out 1 _ rfl
            have e1a := B1.out 0 _ rfl
            have e1b := B1.out 1 _ rfl
            have e2a := B2.out 4 _ rfl
            have e2b := B2.out 5 _ rfl
            have e3a := B2.out 6 _ rfl
            have e3b := B2.out 7 _ rfl
            have e4a := B3.out 0 _ rfl
            have e4b := B3.out 1 _ rfl
            have HC := Lib.hid (Below.refl x1.heap.size x1)
            go_wp2
            go_region_held3 (fun w' => w'.cell? ⟨w.heap.size, 0, none⟩ = some (.int .i64 e.base) ∧ w'.cell? ⟨w.heap.size, 1, none⟩ = some (.slice A n c) ∧ w'.cell? ⟨w.heap.size + 1, 0, none⟩ = some (.int .i64 r.base) ∧ w'.cell? ⟨w.heap.size + 1, 1, none⟩ = some (.slice B nb cb) ∧ w'.cell? ⟨w.heap.size + 1 + 1, 4, none⟩ = some (.int .i64 t.raise.base) ∧ w'.cell? ⟨w.heap.size + 1 + 1, 5, none⟩ = some (.slice A2 n2 c2) ∧ w'.cell? ⟨w.heap.size + 1 + 1, 6, none⟩ = some (.int .i64 t.verify.base) ∧ w'.cell? ⟨w.heap.size + 1 + 1, 7, none⟩ = some (.slice A3 n3 c3) ∧ w'.cell? ⟨w.heap.size + 1 + 1 + 1, 0, none⟩ = some (.int .i64 d.base) ∧ w'.cell? ⟨w.heap.size + 1 + 1 + 1, 1, none⟩ = some (.slice C nc cc))
              (first | exact ⟨f0a, f0b, f1a, f1b, f2a, f2b, f3a, f3b, f4a, f4b⟩ | go_keep)
              (first
              | (go_at_call_of 40 (Value.agg #[Value.int IntKind.i64 e.base, Value.slice A n c])
                 refine (spec_handles (some ⟨x1.heap.size, 0, none⟩) 0 0 w.heap.size [] _ e _ (by exact World.ownsRow_lit x1 #[] 0 bel.size (by simp [maxLen]) rfl) rfl (RX0.out.below (by go_grown)) (by have := hb0; omega) (by have := bel.size; first | (simp; done) | (simp; omega) | omega)).mono ?_
                 rintro e w0z ⟨v0z, rfl, own, hb⟩
                 have HC0 : Hid (Below x1.heap.size x1 w0z) := Lib.hid (by first | exact Below.trans (by go_grown) (hb.mono (by simp; omega)) | exact Below.trans (by go_grown) (hb.mono (by simp)))
                 have f0a : w0z.cell? ⟨w.heap.size, 0, none⟩ = some (.int .i64 e.base) := B0.out.below HC0.out 0 _ rfl
                 have f0b : w0z.cell? ⟨w.heap.size, 1, none⟩ = some (.slice A n c) := B0.out.below HC0.out 1 _ rfl
                 have f1a : w0z.cell? ⟨w.heap.size + 1, 0, none⟩ = some (.int .i64 r.base) := B1.out.below HC0.out 0 _ rfl
                 have f1b : w0z.cell? ⟨w.heap.size + 1, 1, none⟩ = some (.slice B nb cb) := B1.out.below HC0.out 1 _ rfl
                 have f2a : w0z.cell? ⟨w.heap.size + 1 + 1, 4, none⟩ = some (.int .i64 t.raise.base) := B2.out.below HC0.out 4 _ rfl
                 have f2b : w0z.cell? ⟨w.heap.size + 1 + 1, 5, none⟩ = some (.slice A2 n2 c2) := B2.out.below HC0.out 5 _ rfl
                 have f3a : w0z.cell? ⟨w.heap.size + 1 + 1, 6, none⟩ = some (.int .i64 t.verify.base) := B2.out.below HC0.out 6 _ rfl
                 have f3b : w0z.cell? ⟨w.heap.size + 1 + 1, 7, none⟩ = some (.slice A3 n3 c3) := B2.out.below HC0.out 7 _ rfl
                 have f4a : w0z.cell? ⟨w.heap.size + 1 + 1 + 1, 0, none⟩ = some (.int .i64 d.base) := B3.out.below HC0.out 0 _ rfl
                 have f4b : w0z.cell? ⟨w.heap.size + 1 + 1 + 1, 1, none⟩ = some (.slice C nc cc) := B3.out.below HC0.out 1 _ rfl
                 obtain ⟨A0z, c0z, rfl, -, -, -⟩ := own_at own
                 have HO0 := Lib.hid own
                 clear hb own)
              | (go_at_call_of 40 (Value.agg #[Value.int IntKind.i64 r.base, Value.slice B nb cb])
                 refine (spec_handles A0z _ c0z w.heap.size (handlesIn [] e.parts) _ r _ HO0.out rfl (RX1.out.below (by exact HC0.out)) hb1 (by have := bel.size; have := HC0.out.size; omega)).mono ?_
                 rintro e w1z ⟨v1z, rfl, own, hb⟩
                 have HC1 : Hid (Below x1.heap.size x1 w1z) := Lib.hid (below_more HC0.out hb)
                 have f0a : w1z.cell? ⟨w.heap.size, 0, none⟩ = some (.int .i64 e.base) := B0.out.below HC1.out 0 _ rfl
                 have f0b : w1z.cell? ⟨w.heap.size, 1, none⟩ = some (.slice A n c) := B0.out.below HC1.out 1 _ rfl
                 have f1a : w1z.cell? ⟨w.heap.size + 1, 0, none⟩ = some (.int .i64 r.base) := B1.out.below HC1.out 0 _ rfl
                 have f1b : w1z.cell? ⟨w.heap.size + 1, 1, none⟩ = some (.slice B nb cb) := B1.out.below HC1.out 1 _ rfl
                 have f2a : w1z.cell? ⟨w.heap.size + 1 + 1, 4, none⟩ = some (.int .i64 t.raise.base) := B2.out.below HC1.out 4 _ rfl
                 have f2b : w1z.cell? ⟨w.heap.size + 1 + 1, 5, none⟩ = some (.slice A2 n2 c2) := B2.out.below HC1.out 5 _ rfl
                 have f3a : w1z.cell? ⟨w.heap.size + 1 + 1, 6, none⟩ = some (.int .i64 t.verify.base) := B2.out.below HC1.out 6 _ rfl
                 have f3b : w1z.cell? ⟨w.heap.size + 1 + 1, 7, none⟩ = some (.slice A3 n3 c3) := B2.out.below HC1.out 7 _ rfl
                 have f4a : w1z.cell? ⟨w.heap.size + 1 + 1 + 1, 0, none⟩ = some (.int .i64 d.base) := B3.out.below HC1.out 0 _ rfl
                 have f4b : w1z.cell? ⟨w.heap.size + 1 + 1 + 1, 1, none⟩ = some (.slice C nc cc) := B3.out.below HC1.out 1 _ rfl
                 obtain ⟨A1z, c1z, rfl, -, -, -⟩ := own_at own
                 have HO1 := Lib.hid own
                 clear hb own)
              | (go_at_call_of 40 (Value.agg #[Value.int IntKind.i64 t.raise.base, Value.slice A2 n2 c2])
                 refine (spec_handles A1z _ c1z w.heap.size (handlesIn (handlesIn [] e.parts) r.parts) _ t.raise _ HO1.out rfl (RX2.out.below (by exact HC1.out)) hb2 (by have := bel.size; have := HC1.out.size; omega)).mono ?_
                 rintro e w2z ⟨v2z, rfl, own, hb⟩
                 have HC2 : Hid (Below x1.heap.size x1 w2z) := Lib.hid (below_more HC1.out hb)
                 have f0a : w2z.cell? ⟨w.heap.size, 0, none⟩ = some (.int .i64 e.base) := B0.out.below HC2.out 0 _ rfl
                 have f0b : w2z.cell? ⟨w.heap.size, 1, none⟩ = some (.slice A n c) := B0.out.below HC2.out 1 _ rfl
                 have f1a : w2z.cell? ⟨w.heap.size + 1, 0, none⟩ = some (.int .i64 r.base) := B1.out.below HC2.out 0 _ rfl
                 have f1b : w2z.cell? ⟨w.heap.size + 1, 1, none⟩ = some (.slice B nb cb) := B1.out.below HC2.out 1 _ rfl
                 have f2a : w2z.cell? ⟨w.heap.size + 1 + 1, 4, none⟩ = some (.int .i64 t.raise.base) := B2.out.below HC2.out 4 _ rfl
                 have f2b : w2z.cell? ⟨w.heap.size + 1 + 1, 5, none⟩ = some (.slice A2 n2 c2) := B2.out.below HC2.out 5 _ rfl
                 have f3a : w2z.cell? ⟨w.heap.size + 1 + 1, 6, none⟩ = some (.int .i64 t.verify.base) := B2.out.below HC2.out 6 _ rfl
                 have f3b : w2z.cell? ⟨w.heap.size + 1 + 1, 7, none⟩ = some (.slice A3 n3 c3) := B2.out.below HC2.out 7 _ rfl
                 have f4a : w2z.cell? ⟨w.heap.size + 1 + 1 + 1, 0, none⟩ = some (.int .i64 d.base) := B3.out.below HC2.out 0 _ rfl
                 have f4b : w2z.cell? ⟨w.heap.size + 1 + 1 + 1, 1, none⟩ = some (.slice C nc cc) := B3.out.below HC2.out 1 _ rfl
                 obtain ⟨A2z, c2z, rfl, -, -, -⟩ := own_at own
                 have HO2 := Lib.hid own
                 clear hb own)
              | (go_at_call_of 40 (Value.agg #[Value.int IntKind.i64 t.verify.base, Value.slice A3 n3 c3])
                 refine (spec_handles A2z _ c2z w.heap.size (handlesIn (handlesIn (handlesIn [] e.parts) r.parts) t.raise.parts) _ t.verify _ HO2.out rfl (RX3.out.below (by exact HC2.out)) hb3 (by have := bel.size; have := HC2.out.size; omega)).mono ?_
                 rintro e w3z ⟨v3z, rfl, own, hb⟩
                 have HC3 : Hid (Below x1.heap.size x1 w3z) := Lib.hid (below_more HC2.out hb)
                 have f0a : w3z.cell? ⟨w.heap.size, 0, none⟩ = some (.int .i64 e.base) := B0.out.below HC3.out 0 _ rfl
                 have f0b : w3z.cell? ⟨w.heap.size, 1, none⟩ = some (.slice A n c) := B0.out.below HC3.out 1 _ rfl
                 have f1a : w3z.cell? ⟨w.heap.size + 1, 0, none⟩ = some (.int .i64 r.base) := B1.out.below HC3.out 0 _ rfl
                 have f1b : w3z.cell? ⟨w.heap.size + 1, 1, none⟩ = some (.slice B nb cb) := B1.out.below HC3.out 1 _ rfl
                 have f2a : w3z.cell? ⟨w.heap.size + 1 + 1, 4, none⟩ = some (.int .i64 t.raise.base) := B2.out.below HC3.out 4 _ rfl
                 have f2b : w3z.cell? ⟨w.heap.size + 1 + 1, 5, none⟩ = some (.slice A2 n2 c2) := B2.out.below HC3.out 5 _ rfl
                 have f3a : w3z.cell? ⟨w.heap.size + 1 + 1, 6, none⟩ = some (.int .i64 t.verify.base) := B2.out.below HC3.out 6 _ rfl
                 have f3b : w3z.cell? ⟨w.heap.size + 1 + 1, 7, none⟩ = some (.slice A3 n3 c3) := B2.out.below HC3.out 7 _ rfl
                 have f4a : w3z.cell? ⟨w.heap.size + 1 + 1 + 1, 0, none⟩ = some (.int .i64 d.base) := B3.out.below HC3.out 0 _ rfl
                 have f4b : w3z.cell? ⟨w.heap.size + 1 + 1 + 1, 1, none⟩ = some (.slice C nc cc) := B3.out.below HC3.out 1 _ rfl
                 obtain ⟨A3z, c3z, rfl, -, -, -⟩ := own_at own
                 have HO3 := Lib.hid own
                 clear hb own)
              | (go_at_call_of 40 (Value.agg #[Value.int IntKind.i64 d.base, Value.slice C nc cc])
                 refine (spec_handles A3z _ c3z w.heap.size (handlesIn (handlesIn (handlesIn (handlesIn [] e.parts) r.parts) t.raise.parts) t.verify.parts) _ d _ HO3.out rfl (RX4.out.below (by exact HC3.out)) hb4 (by have := bel.size; have := HC3.out.size; omega)).mono ?_
                 rintro e w4z ⟨v4z, rfl, own, hb⟩
                 have HC4 : Hid (Below x1.heap.size x1 w4z) := Lib.hid (below_more HC3.out hb)
                 have f0a : w4z.cell? ⟨w.heap.size, 0, none⟩ = some (.int .i64 e.base) := B0.out.below HC4.out 0 _ rfl
                 have f0b : w4z.cell? ⟨w.heap.size, 1, none⟩ = some (.slice A n c) := B0.out.below HC4.out 1 _ rfl
                 have f1a : w4z.cell? ⟨w.heap.size + 1, 0, none⟩ = some (.int .i64 r.base) := B1.out.below HC4.out 0 _ rfl
                 have f1b : w4z.cell? ⟨w.heap.size + 1, 1, none⟩ = some (.slice B nb cb) := B1.out.below HC4.out 1 _ rfl
                 have f2a : w4z.cell? ⟨w.heap.size + 1 + 1, 4, none⟩ = some (.int .i64 t.raise.base) := B2.out.below HC4.out 4 _ rfl
                 have f2b : w4z.cell? ⟨w.heap.size + 1 + 1, 5, none⟩ = some (.slice A2 n2 c2) := B2.out.below HC4.out 5 _ rfl
                 have f3a : w4z.cell? ⟨w.heap.size + 1 + 1, 6, none⟩ = some (.int .i64 t.verify.base) := B2.out.below HC4.out 6 _ rfl
                 have f3b : w4z.cell? ⟨w.heap.size + 1 + 1, 7, none⟩ = some (.slice A3 n3 c3) := B2.out.below HC4.out 7 _ rfl
                 have f4a : w4z.cell? ⟨w.heap.size + 1 + 1 + 1, 0, none⟩ = some (.int .i64 d.base) := B3.out.below HC4.out 0 _ rfl
                 have f4b : w4z.cell? ⟨w.heap.size + 1 + 1 + 1, 1, none⟩ = some (.slice C nc cc) := B3.out.below HC4.out 1 _ rfl
                 obtain ⟨A4z, c4z, rfl, -, -, -⟩ := own_at own
                 have HO4 := Lib.hid own
                 clear hb own))
            have HC' := HC4
            have HOW := HO4
            clear HC HC0 HO0 HC1 HO1 HC2 HO2 HC3 HO3 HC4 HO4 f0a f0b f1a f1b f2a f2b f3a f3b f4a f4b
            have HC := HC'
            clear HC'
            clear e0a e0b e1a e1b e2a e2b e3a e3b e4a e4b
            go_wp2
            obtain ⟨wz, hwz⟩ : ∃ wz, wz = w4z := ⟨_, rfl⟩
            rw [← hwz] at HC HOW ⊢
            clear hwz
            obtain ⟨N, hNe⟩ : ∃ N, N = ((handlesIn (handlesIn (handlesIn (handlesIn (handlesIn [] e.parts) r.parts) t.raise.parts) t.verify.parts) d.parts)).length := ⟨_, rfl⟩
            have ho := HOW.out
            clear HOW
            rw [← hNe] at ho ⊢
            have hN1 : N ≤ 1000 := by rw [hNe]; exact Nat.le_trans hN (by omega)
            have HN : Hid (((handlesIn (handlesIn (handlesIn (handlesIn (handlesIn [] e.parts) r.parts) t.raise.parts) t.verify.parts) d.parts)).length = N) := Lib.hid hNe.symm
            have HA := Lib.hid (own_read ho)
            clear ho hNe hN hb0 hb1 hb2 hb3 hb4
            go_loopw [10] (fun i wr => ∃ k : Nat, k ≤ N ∧ i = .int .i64 k ∧ Hid (AllLeft (inL e r t d) ((handlesIn (handlesIn (handlesIn (handlesIn (handlesIn [] e.parts) r.parts) t.raise.parts) t.verify.parts) d.parts)) k) ∧ Hid (Below wz.heap.size wz wr)) (fun i _ => N - (intOf i).toNat)
            case atStart => exact ⟨0, by omega, rfl, Lib.hid (.zero _ _), Lib.hid (.refl _ _)⟩
            case round =>
              obtain ⟨k, hk, rfl, HS, HR⟩ := hrel
              have HB := Lib.hid (below_more HC.out HR.out)
              have BEL := Lib.hid (below_more bel HB.out)
              have Br0 := Lib.hid (B0.out.below HB.out)
              have Br1 := Lib.hid (B1.out.below HB.out)
              have Br2 := Lib.hid (B2.out.below HB.out)
              have Br3 := Lib.hid (B3.out.below HB.out)
              have RXr0 := Lib.hid (RX0.out.below HB.out)
              have RXr1 := Lib.hid (RX1.out.below HB.out)
              have RXr2 := Lib.hid (RX2.out.below HB.out)
              have RXr3 := Lib.hid (RX3.out.below HB.out)
              have RXr4 := Lib.hid (RX4.out.below HB.out)
              have HB0 := Lib.hid (Below.refl wr.heap.size wr)
              by_cases hlt : k < N
              · obtain ⟨b9, o9, x, rfl, hx, cx⟩ := nmat (HA.out.below HR.out) (k := k) (by have := HN.out; omega)
                clear HC
                have c0a := Br0.out.below HB0.out 0 _ rfl
                have c0b := Br0.out.below HB0.out 1 _ rfl
                have c1a := Br1.out.below HB0.out 0 _ rfl
                have c1b := Br1.out.below HB0.out 1 _ rfl
                have c2a := Br2.out.below HB0.out 4 _ rfl
                have c2b := Br2.out.below HB0.out 5 _ rfl
                have c3a := Br2.out.below HB0.out 6 _ rfl
                have c3b := Br2.out.below HB0.out 7 _ rfl
                have c4a := Br3.out.below HB0.out 0 _ rfl
                have c4b := Br3.out.below HB0.out 1 _ rfl
                cases hp : (inL e r t d) x
                · have hd : inB (lev e x) (lev r x) (lev t.raise x) (lev t.verify x) (lev d x) = false := hp
                  have HR1 : Hid (accepts e r t d = false) := Lib.hid (by rw [HY.out]; exact HS.out.bad hx hp)
                  clear hp hx HS
                  have HC := Lib.hid (Below.refl wr.heap.size wr)
                  go_wp2
                  go_region_held3 (fun w' => w'.cell? ⟨w.heap.size, 0, none⟩ = some (.int .i64 e.base) ∧ w'.cell? ⟨w.heap.size, 1, none⟩ = some (.slice A n c) ∧ w'.cell? ⟨w.heap.size + 1, 0, none⟩ = some (.int .i64 r.base) ∧ w'.cell? ⟨w.heap.size + 1, 1, none⟩ = some (.slice B nb cb) ∧ w'.cell? ⟨w.heap.size + 1 + 1, 4, none⟩ = some (.int .i64 t.raise.base) ∧ w'.cell? ⟨w.heap.size + 1 + 1, 5, none⟩ = some (.slice A2 n2 c2) ∧ w'.cell? ⟨w.heap.size + 1 + 1, 6, none⟩ = some (.int .i64 t.verify.base) ∧ w'.cell? ⟨w.heap.size + 1 + 1, 7, none⟩ = some (.slice A3 n3 c3) ∧ w'.cell? ⟨w.heap.size + 1 + 1 + 1, 0, none⟩ = some (.int .i64 d.base) ∧ w'.cell? ⟨w.heap.size + 1 + 1 + 1, 1, none⟩ = some (.slice C nc cc) ∧ w'.cell? ⟨b9, o9 + k, none⟩ = some (.int .i64 x))
                    (first | exact ⟨f0a, f0b, f1a, f1b, f2a, f2b, f3a, f3b, f4a, f4b, f9⟩ | go_keep)
                    (first
                    | (go_at_call_of 41 (Value.agg #[Value.int IntKind.i64 e.base, Value.slice A n c])
                       refine (spec_lev _ e x _ (by first | exact RXr0.out.below (below_more HB0.out HC.out) | exact (RXr0.out.below (below_more HB0.out HC.out)).drew)).mono ?_
                       rintro e wn ⟨rfl, hb⟩
                       have HC' : Hid (Below wr.heap.size wr wn) := Lib.hid (by first | exact below_more HC.out hb | exact below_more HC.out (below_undrew hb))
                       clear HC
                       have HC := HC'
                       clear HC'
                       try clear f0a f0b f1a f1b f2a f2b f3a f3b f4a f4b f9
                       have f0a : wn.cell? ⟨w.heap.size, 0, none⟩ = some (.int .i64 e.base) := Br0.out.below (below_more HB0.out HC.out) 0 _ rfl
                       have f0b : wn.cell? ⟨w.heap.size, 1, none⟩ = some (.slice A n c) := Br0.out.below (below_more HB0.out HC.out) 1 _ rfl
                       have f1a : wn.cell? ⟨w.heap.size + 1, 0, none⟩ = some (.int .i64 r.base) := Br1.out.below (below_more HB0.out HC.out) 0 _ rfl
                       have f1b : wn.cell? ⟨w.heap.size + 1, 1, none⟩ = some (.slice B nb cb) := Br1.out.below (below_more HB0.out HC.out) 1 _ rfl
                       have f2a : wn.cell? ⟨w.heap.size + 1 + 1, 4, none⟩ = some (.int .i64 t.raise.base) := Br2.out.below (below_more HB0.out HC.out) 4 _ rfl
                       have f2b : wn.cell? ⟨w.heap.size + 1 + 1, 5, none⟩ = some (.slice A2 n2 c2) := Br2.out.below (below_more HB0.out HC.out) 5 _ rfl
                       have f3a : wn.cell? ⟨w.heap.size + 1 + 1, 6, none⟩ = some (.int .i64 t.verify.base) := Br2.out.below (below_more HB0.out HC.out) 6 _ rfl
                       have f3b : wn.cell? ⟨w.heap.size + 1 + 1, 7, none⟩ = some (.slice A3 n3 c3) := Br2.out.below (below_more HB0.out HC.out) 7 _ rfl
                       have f4a : wn.cell? ⟨w.heap.size + 1 + 1 + 1, 0, none⟩ = some (.int .i64 d.base) := Br3.out.below (below_more HB0.out HC.out) 0 _ rfl
                       have f4b : wn.cell? ⟨w.heap.size + 1 + 1 + 1, 1, none⟩ = some (.slice C nc cc) := Br3.out.below (below_more HB0.out HC.out) 1 _ rfl
                       have f9 : wn.cell? ⟨b9, o9 + k, none⟩ = some (.int .i64 x) := (HC.out.cell (block_lt_of_cell cx)).trans cx
                       clear hb)
                    | (go_at_call_of 41 (Value.agg #[Value.int IntKind.i64 r.base, Value.slice B nb cb])
                       refine (spec_lev _ r x _ (by first | exact RXr1.out.below (below_more HB0.out HC.out) | exact (RXr1.out.below (below_more HB0.out HC.out)).drew)).mono ?_
                       rintro e wn ⟨rfl, hb⟩
                       have HC' : Hid (Below wr.heap.size wr wn) := Lib.hid (by first | exact below_more HC.out hb | exact below_more HC.out (below_undrew hb))
                       clear HC
                       have HC := HC'
                       clear HC'
                       try clear f0a f0b f1a f1b f2a f2b f3a f3b f4a f4b f9
                       have f0a : wn.cell? ⟨w.heap.size, 0, none⟩ = some (.int .i64 e.base) := Br0.out.below (below_more HB0.out HC.out) 0 _ rfl
                       have f0b : wn.cell? ⟨w.heap.size, 1, none⟩ = some (.slice A n c) := Br0.out.below (below_more HB0.out HC.out) 1 _ rfl
                       have f1a : wn.cell? ⟨w.heap.size + 1, 0, none⟩ = some (.int .i64 r.base) := Br1.out.below (below_more HB0.out HC.out) 0 _ rfl
                       have f1b : wn.cell? ⟨w.heap.size + 1, 1, none⟩ = some (.slice B nb cb) := Br1.out.below (below_more HB0.out HC.out) 1 _ rfl
                       have f2a : wn.cell? ⟨w.heap.size + 1 + 1, 4, none⟩ = some (.int .i64 t.raise.base) := Br2.out.below (below_more HB0.out HC.out) 4 _ rfl
                       have f2b : wn.cell? ⟨w.heap.size + 1 + 1, 5, none⟩ = some (.slice A2 n2 c2) := Br2.out.below (below_more HB0.out HC.out) 5 _ rfl
                       have f3a : wn.cell? ⟨w.heap.size + 1 + 1, 6, none⟩ = some (.int .i64 t.verify.base) := Br2.out.below (below_more HB0.out HC.out) 6 _ rfl
                       have f3b : wn.cell? ⟨w.heap.size + 1 + 1, 7, none⟩ = some (.slice A3 n3 c3) := Br2.out.below (below_more HB0.out HC.out) 7 _ rfl
                       have f4a : wn.cell? ⟨w.heap.size + 1 + 1 + 1, 0, none⟩ = some (.int .i64 d.base) := Br3.out.below (below_more HB0.out HC.out) 0 _ rfl
                       have f4b : wn.cell? ⟨w.heap.size + 1 + 1 + 1, 1, none⟩ = some (.slice C nc cc) := Br3.out.below (below_more HB0.out HC.out) 1 _ rfl
                       have f9 : wn.cell? ⟨b9, o9 + k, none⟩ = some (.int .i64 x) := (HC.out.cell (block_lt_of_cell cx)).trans cx
                       clear hb)
                    | (go_at_call_of 41 (Value.agg #[Value.int IntKind.i64 t.raise.base, Value.slice A2 n2 c2])
                       refine (spec_lev _ t.raise x _ (by first | exact RXr2.out.below (below_more HB0.out HC.out) | exact (RXr2.out.below (below_more HB0.out HC.out)).drew)).mono ?_
                       rintro e wn ⟨rfl, hb⟩
                       have HC' : Hid (Below wr.heap.size wr wn) := Lib.hid (by first | exact below_more HC.out hb | exact below_more HC.out (below_undrew hb))
                       clear HC
                       have HC := HC'
                       clear HC'
                       try clear f0a f0b f1a f1b f2a f2b f3a f3b f4a f4b f9
                       have f0a : wn.cell? ⟨w.heap.size, 0, none⟩ = some (.int .i64 e.base) := Br0.out.below (below_more HB0.out HC.out) 0 _ rfl
                       have f0b : wn.cell? ⟨w.heap.size, 1, none⟩ = some (.slice A n c) := Br0.out.below (below_more HB0.out HC.out) 1 _ rfl
                       have f1a : wn.cell? ⟨w.heap.size + 1, 0, none⟩ = some (.int .i64 r.base) := Br1.out.below (below_more HB0.out HC.out) 0 _ rfl
                       have f1b : wn.cell? ⟨w.heap.size + 1, 1, none⟩ = some (.slice B nb cb) := Br1.out.below (below_more HB0.out HC.out) 1 _ rfl
                       have f2a : wn.cell? ⟨w.heap.size + 1 + 1, 4, none⟩ = some (.int .i64 t.raise.base) := Br2.out.below (below_more HB0.out HC.out) 4 _ rfl
                       have f2b : wn.cell? ⟨w.heap.size + 1 + 1, 5, none⟩ = some (.slice A2 n2 c2) := Br2.out.below (below_more HB0.out HC.out) 5 _ rfl
                       have f3a : wn.cell? ⟨w.heap.size + 1 + 1, 6, none⟩ = some (.int .i64 t.verify.base) := Br2.out.below (below_more HB0.out HC.out) 6 _ rfl
                       have f3b : wn.cell? ⟨w.heap.size + 1 + 1, 7, none⟩ = some (.slice A3 n3 c3) := Br2.out.below (below_more HB0.out HC.out) 7 _ rfl
                       have f4a : wn.cell? ⟨w.heap.size + 1 + 1 + 1, 0, none⟩ = some (.int .i64 d.base) := Br3.out.below (below_more HB0.out HC.out) 0 _ rfl
                       have f4b : wn.cell? ⟨w.heap.size + 1 + 1 + 1, 1, none⟩ = some (.slice C nc cc) := Br3.out.below (below_more HB0.out HC.out) 1 _ rfl
                       have f9 : wn.cell? ⟨b9, o9 + k, none⟩ = some (.int .i64 x) := (HC.out.cell (block_lt_of_cell cx)).trans cx
                       clear hb)
                    | (go_at_call_of 41 (Value.agg #[Value.int IntKind.i64 t.verify.base, Value.slice A3 n3 c3])
                       refine (spec_lev _ t.verify x _ (by first | exact RXr3.out.below (below_more HB0.out HC.out) | exact (RXr3.out.below (below_more HB0.out HC.out)).drew)).mono ?_
                       rintro e wn ⟨rfl, hb⟩
                       have HC' : Hid (Below wr.heap.size wr wn) := Lib.hid (by first | exact below_more HC.out hb | exact below_more HC.out (below_undrew hb))
                       clear HC
                       have HC := HC'
                       clear HC'
                       try clear f0a f0b f1a f1b f2a f2b f3a f3b f4a f4b f9
                       have f0a : wn.cell? ⟨w.heap.size, 0, none⟩ = some (.int .i64 e.base) := Br0.out.below (below_more HB0.out HC.out) 0 _ rfl
                       have f0b : wn.cell? ⟨w.heap.size, 1, none⟩ = some (.slice A n c) := Br0.out.below (below_more HB0.out HC.out) 1 _ rfl
                       have f1a : wn.cell? ⟨w.heap.size + 1, 0, none⟩ = some (.int .i64 r.base) := Br1.out.below (below_more HB0.out HC.out) 0 _ rfl
                       have f1b : wn.cell? ⟨w.heap.size + 1, 1, none⟩ = some (.slice B nb cb) := Br1.out.below (below_more HB0.out HC.out) 1 _ rfl
                       have f2a : wn.cell? ⟨w.heap.size + 1 + 1, 4, none⟩ = some (.int .i64 t.raise.base) := Br2.out.below (below_more HB0.out HC.out) 4 _ rfl
                       have f2b : wn.cell? ⟨w.heap.size + 1 + 1, 5, none⟩ = some (.slice A2 n2 c2) := Br2.out.below (below_more HB0.out HC.out) 5 _ rfl
                       have f3a : wn.cell? ⟨w.heap.size + 1 + 1, 6, none⟩ = some (.int .i64 t.verify.base) := Br2.out.below (below_more HB0.out HC.out) 6 _ rfl
                       have f3b : wn.cell? ⟨w.heap.size + 1 + 1, 7, none⟩ = some (.slice A3 n3 c3) := Br2.out.below (below_more HB0.out HC.out) 7 _ rfl
                       have f4a : wn.cell? ⟨w.heap.size + 1 + 1 + 1, 0, none⟩ = some (.int .i64 d.base) := Br3.out.below (below_more HB0.out HC.out) 0 _ rfl
                       have f4b : wn.cell? ⟨w.heap.size + 1 + 1 + 1, 1, none⟩ = some (.slice C nc cc) := Br3.out.below (below_more HB0.out HC.out) 1 _ rfl
                       have f9 : wn.cell? ⟨b9, o9 + k, none⟩ = some (.int .i64 x) := (HC.out.cell (block_lt_of_cell cx)).trans cx
                       clear hb)
                    | (go_at_call_of 41 (Value.agg #[Value.int IntKind.i64 d.base, Value.slice C nc cc])
                       refine (spec_lev _ d x _ (by first | exact RXr4.out.below (below_more HB0.out HC.out) | exact (RXr4.out.below (below_more HB0.out HC.out)).drew)).mono ?_
                       rintro e wn ⟨rfl, hb⟩
                       have HC' : Hid (Below wr.heap.size wr wn) := Lib.hid (by first | exact below_more HC.out hb | exact below_more HC.out (below_undrew hb))
                       clear HC
                       have HC := HC'
                       clear HC'
                       try clear f0a f0b f1a f1b f2a f2b f3a f3b f4a f4b f9
                       have f0a : wn.cell? ⟨w.heap.size, 0, none⟩ = some (.int .i64 e.base) := Br0.out.below (below_more HB0.out HC.out) 0 _ rfl
                       have f0b : wn.cell? ⟨w.heap.size, 1, none⟩ = some (.slice A n c) := Br0.out.below (below_more HB0.out HC.out) 1 _ rfl
                       have f1a : wn.cell? ⟨w.heap.size + 1, 0, none⟩ = some (.int .i64 r.base) := Br1.out.below (below_more HB0.out HC.out) 0 _ rfl
                       have f1b : wn.cell? ⟨w.heap.size + 1, 1, none⟩ = some (.slice B nb cb) := Br1.out.below (below_more HB0.out HC.out) 1 _ rfl
                       have f2a : wn.cell? ⟨w.heap.size + 1 + 1, 4, none⟩ = some (.int .i64 t.raise.base) := Br2.out.below (below_more HB0.out HC.out) 4 _ rfl
                       have f2b : wn.cell? ⟨w.heap.size + 1 + 1, 5, none⟩ = some (.slice A2 n2 c2) := Br2.out.below (below_more HB0.out HC.out) 5 _ rfl
                       have f3a : wn.cell? ⟨w.heap.size + 1 + 1, 6, none⟩ = some (.int .i64 t.verify.base) := Br2.out.below (below_more HB0.out HC.out) 6 _ rfl
                       have f3b : wn.cell? ⟨w.heap.size + 1 + 1, 7, none⟩ = some (.slice A3 n3 c3) := Br2.out.below (below_more HB0.out HC.out) 7 _ rfl
                       have f4a : wn.cell? ⟨w.heap.size + 1 + 1 + 1, 0, none⟩ = some (.int .i64 d.base) := Br3.out.below (below_more HB0.out HC.out) 0 _ rfl
                       have f4b : wn.cell? ⟨w.heap.size + 1 + 1 + 1, 1, none⟩ = some (.slice C nc cc) := Br3.out.below (below_more HB0.out HC.out) 1 _ rfl
                       have f9 : wn.cell? ⟨b9, o9 + k, none⟩ = some (.int .i64 x) := (HC.out.cell (block_lt_of_cell cx)).trans cx
                       clear hb)
                    | (go_at_call 42
                       refine (spec_in _ _ _ _ _ _).mono ?_
                       rintro e w8 ⟨rfl, rfl⟩))
                  go_wp2
                  go_ret
                  exact .mk (by rw [HR1.out]; rfl) (below_more BEL.out HC.out)
                · have hd : inB (lev e x) (lev r x) (lev t.raise x) (lev t.verify x) (lev d x) = true := hp
                  have HS1 := Lib.hid (HS.out.succ hx hp)
                  clear hp hx HS
                  have HC := Lib.hid (Below.refl wr.heap.size wr)
                  go_wp2
                  go_region_held3 (fun w' => w'.cell? ⟨w.heap.size, 0, none⟩ = some (.int .i64 e.base) ∧ w'.cell? ⟨w.heap.size, 1, none⟩ = some (.slice A n c) ∧ w'.cell? ⟨w.heap.size + 1, 0, none⟩ = some (.int .i64 r.base) ∧ w'.cell? ⟨w.heap.size + 1, 1, none⟩ = some (.slice B nb cb) ∧ w'.cell? ⟨w.heap.size + 1 + 1, 4, none⟩ = some (.int .i64 t.raise.base) ∧ w'.cell? ⟨w.heap.size + 1 + 1, 5, none⟩ = some (.slice A2 n2 c2) ∧ w'.cell? ⟨w.heap.size + 1 + 1, 6, none⟩ = some (.int .i64 t.verify.base) ∧ w'.cell? ⟨w.heap.size + 1 + 1, 7, none⟩ = some (.slice A3 n3 c3) ∧ w'.cell? ⟨w.heap.size + 1 + 1 + 1, 0, none⟩ = some (.int .i64 d.base) ∧ w'.cell? ⟨w.heap.size + 1 + 1 + 1, 1, none⟩ = some (.slice C nc cc) ∧ w'.cell? ⟨b9, o9 + k, none⟩ = some (.int .i64 x))
                    (first | exact ⟨f0a, f0b, f1a, f1b, f2a, f2b, f3a, f3b, f4a, f4b, f9⟩ | go_keep)
                    (first
                    | (go_at_call_of 41 (Value.agg #[Value.int IntKind.i64 e.base, Value.slice A n c])
                       refine (spec_lev _ e x _ (by first | exact RXr0.out.below (below_more HB0.out HC.out) | exact (RXr0.out.below (below_more HB0.out HC.out)).drew)).mono ?_
                       rintro e wn ⟨rfl, hb⟩
                       have HC' : Hid (Below wr.heap.size wr wn) := Lib.hid (by first | exact below_more HC.out hb | exact below_more HC.out (below_undrew hb))
                       clear HC
                       have HC := HC'
                       clear HC'
                       try clear f0a f0b f1a f1b f2a f2b f3a f3b f4a f4b f9
                       have f0a : wn.cell? ⟨w.heap.size, 0, none⟩ = some (.int .i64 e.base) := Br0.out.below (below_more HB0.out HC.out) 0 _ rfl
                       have f0b : wn.cell? ⟨w.heap.size, 1, none⟩ = some (.slice A n c) := Br0.out.below (below_more HB0.out HC.out) 1 _ rfl
                       have f1a : wn.cell? ⟨w.heap.size + 1, 0, none⟩ = some (.int .i64 r.base) := Br1.out.below (below_more HB0.out HC.out) 0 _ rfl
                       have f1b : wn.cell? ⟨w.heap.size + 1, 1, none⟩ = some (.slice B nb cb) := Br1.out.below (below_more HB0.out HC.out) 1 _ rfl
                       have f2a : wn.cell? ⟨w.heap.size + 1 + 1, 4, none⟩ = some (.int .i64 t.raise.base) := Br2.out.below (below_more HB0.out HC.out) 4 _ rfl
                       have f2b : wn.cell? ⟨w.heap.size + 1 + 1, 5, none⟩ = some (.slice A2 n2 c2) := Br2.out.below (below_more HB0.out HC.out) 5 _ rfl
                       have f3a : wn.cell? ⟨w.heap.size + 1 + 1, 6, none⟩ = some (.int .i64 t.verify.base) := Br2.out.below (below_more HB0.out HC.out) 6 _ rfl
                       have f3b : wn.cell? ⟨w.heap.size + 1 + 1, 7, none⟩ = some (.slice A3 n3 c3) := Br2.out.below (below_more HB0.out HC.out) 7 _ rfl
                       have f4a : wn.cell? ⟨w.heap.size + 1 + 1 + 1, 0, none⟩ = some (.int .i64 d.base) := Br3.out.below (below_more HB0.out HC.out) 0 _ rfl
                       have f4b : wn.cell? ⟨w.heap.size + 1 + 1 + 1, 1, none⟩ = some (.slice C nc cc) := Br3.out.below (below_more HB0.out HC.out) 1 _ rfl
                       have f9 : wn.cell? ⟨b9, o9 + k, none⟩ = some (.int .i64 x) := (HC.out.cell (block_lt_of_cell cx)).trans cx
                       clear hb)
                    | (go_at_call_of 41 (Value.agg #[Value.int IntKind.i64 r.base, Value.slice B nb cb])
                       refine (spec_lev _ r x _ (by first | exact RXr1.out.below (below_more HB0.out HC.out) | exact (RXr1.out.below (below_more HB0.out HC.out)).drew)).mono ?_
                       rintro e wn ⟨rfl, hb⟩
                       have HC' : Hid (Below wr.heap.size wr wn) := Lib.hid (by first | exact below_more HC.out hb | exact below_more HC.out (below_undrew hb))
                       clear HC
                       have HC := HC'
                       clear HC'
                       try clear f0a f0b f1a f1b f2a f2b f3a f3b f4a f4b f9
                       have f0a : wn.cell? ⟨w.heap.size, 0, none⟩ = some (.int .i64 e.base) := Br0.out.below (below_more HB0.out HC.out) 0 _ rfl
                       have f0b : wn.cell? ⟨w.heap.size, 1, none⟩ = some (.slice A n c) := Br0.out.below (below_more HB0.out HC.out) 1 _ rfl
                       have f1a : wn.cell? ⟨w.heap.size + 1, 0, none⟩ = some (.int .i64 r.base) := Br1.out.below (below_more HB0.out HC.out) 0 _ rfl
                       have f1b : wn.cell? ⟨w.heap.size + 1, 1, none⟩ = some (.slice B nb cb) := Br1.out.below (below_more HB0.out HC.out) 1 _ rfl
                       have f2a : wn.cell? ⟨w.heap.size + 1 + 1, 4, none⟩ = some (.int .i64 t.raise.base) := Br2.out.below (below_more HB0.out HC.out) 4 _ rfl
                       have f2b : wn.cell? ⟨w.heap.size + 1 + 1, 5, none⟩ = some (.slice A2 n2 c2) := Br2.out.below (below_more HB0.out HC.out) 5 _ rfl
                       have f3a : wn.cell? ⟨w.heap.size + 1 + 1, 6, none⟩ = some (.int .i64 t.verify.base) := Br2.out.below (below_more HB0.out HC.out) 6 _ rfl
                       have f3b : wn.cell? ⟨w.heap.size + 1 + 1, 7, none⟩ = some (.slice A3 n3 c3) := Br2.out.below (below_more HB0.out HC.out) 7 _ rfl
                       have f4a : wn.cell? ⟨w.heap.size + 1 + 1 + 1, 0, none⟩ = some (.int .i64 d.base) := Br3.out.below (below_more HB0.out HC.out) 0 _ rfl
                       have f4b : wn.cell? ⟨w.heap.size + 1 + 1 + 1, 1, none⟩ = some (.slice C nc cc) := Br3.out.below (below_more HB0.out HC.out) 1 _ rfl
                       have f9 : wn.cell? ⟨b9, o9 + k, none⟩ = some (.int .i64 x) := (HC.out.cell (block_lt_of_cell cx)).trans cx
                       clear hb)
                    | (go_at_call_of 41 (Value.agg #[Value.int IntKind.i64 t.raise.base, Value.slice A2 n2 c2])
                       refine (spec_lev _ t.raise x _ (by first | exact RXr2.out.below (below_more HB0.out HC.out) | exact (RXr2.out.below (below_more HB0.out HC.out)).drew)).mono ?_
                       rintro e wn ⟨rfl, hb⟩
                       have HC' : Hid (Below wr.heap.size wr wn) := Lib.hid (by first | exact below_more HC.out hb | exact below_more HC.out (below_undrew hb))
                       clear HC
                       have HC := HC'
                       clear HC'
                       try clear f0a f0b f1a f1b f2a f2b f3a f3b f4a f4b f9
                       have f0a : wn.cell? ⟨w.heap.size, 0, none⟩ = some (.int .i64 e.base) := Br0.out.below (below_more HB0.out HC.out) 0 _ rfl
                       have f0b : wn.cell? ⟨w.heap.size, 1, none⟩ = some (.slice A n c) := Br0.out.below (below_more HB0.out HC.out) 1 _ rfl
                       have f1a : wn.cell? ⟨w.heap.size + 1, 0, none⟩ = some (.int .i64 r.base) := Br1.out.below (below_more HB0.out HC.out) 0 _ rfl
                       have f1b : wn.cell? ⟨w.heap.size + 1, 1, none⟩ = some (.slice B nb cb) := Br1.out.below (below_more HB0.out HC.out) 1 _ rfl
                       have f2a : wn.cell? ⟨w.heap.size + 1 + 1, 4, none⟩ = some (.int .i64 t.raise.base) := Br2.out.below (below_more HB0.out HC.out) 4 _ rfl
                       have f2b : wn.cell? ⟨w.heap.size + 1 + 1, 5, none⟩ = some (.slice A2 n2 c2) := Br2.out.below (below_more HB0.out HC.out) 5 _ rfl
                       have f3a : wn.cell? ⟨w.heap.size + 1 + 1, 6, none⟩ = some (.int .i64 t.verify.base) := Br2.out.below (below_more HB0.out HC.out) 6 _ rfl
                       have f3b : wn.cell? ⟨w.heap.size + 1 + 1, 7, none⟩ = some (.slice A3 n3 c3) := Br2.out.below (below_more HB0.out HC.out) 7 _ rfl
                       have f4a : wn.cell? ⟨w.heap.size + 1 + 1 + 1, 0, none⟩ = some (.int .i64 d.base) := Br3.out.below (below_more HB0.out HC.out) 0 _ rfl
                       have f4b : wn.cell? ⟨w.heap.size + 1 + 1 + 1, 1, none⟩ = some (.slice C nc cc) := Br3.out.below (below_more HB0.out HC.out) 1 _ rfl
                       have f9 : wn.cell? ⟨b9, o9 + k, none⟩ = some (.int .i64 x) := (HC.out.cell (block_lt_of_cell cx)).trans cx
                       clear hb)
                    | (go_at_call_of 41 (Value.agg #[Value.int IntKind.i64 t.verify.base, Value.slice A3 n3 c3])
                       refine (spec_lev _ t.verify x _ (by first | exact RXr3.out.below (below_more HB0.out HC.out) | exact (RXr3.out.below (below_more HB0.out HC.out)).drew)).mono ?_
                       rintro e wn ⟨rfl, hb⟩
                       have HC' : Hid (Below wr.heap.size wr wn) := Lib.hid (by first | exact below_more HC.out hb | exact below_more HC.out (below_undrew hb))
                       clear HC
                       have HC := HC'
                       clear HC'
                       try clear f0a f0b f1a f1b f2a f2b f3a f3b f4a f4b f9
                       have f0a : wn.cell? ⟨w.heap.size, 0, none⟩ = some (.int .i64 e.base) := Br0.out.below (below_more HB0.out HC.out) 0 _ rfl
                       have f0b : wn.cell? ⟨w.heap.size, 1, none⟩ = some (.slice A n c) := Br0.out.below (below_more HB0.out HC.out) 1 _ rfl
                       have f1a : wn.cell? ⟨w.heap.size + 1, 0, none⟩ = some (.int .i64 r.base) := Br1.out.below (below_more HB0.out HC.out) 0 _ rfl
                       have f1b : wn.cell? ⟨w.heap.size + 1, 1, none⟩ = some (.slice B nb cb) := Br1.out.below (below_more HB0.out HC.out) 1 _ rfl
                       have f2a : wn.cell? ⟨w.heap.size + 1 + 1, 4, none⟩ = some (.int .i64 t.raise.base) := Br2.out.below (below_more HB0.out HC.out) 4 _ rfl
                       have f2b : wn.cell? ⟨w.heap.size + 1 + 1, 5, none⟩ = some (.slice A2 n2 c2) := Br2.out.below (below_more HB0.out HC.out) 5 _ rfl
                       have f3a : wn.cell? ⟨w.heap.size + 1 + 1, 6, none⟩ = some (.int .i64 t.verify.base) := Br2.out.below (below_more HB0.out HC.out) 6 _ rfl
                       have f3b : wn.cell? ⟨w.heap.size + 1 + 1, 7, none⟩ = some (.slice A3 n3 c3) := Br2.out.below (below_more HB0.out HC.out) 7 _ rfl
                       have f4a : wn.cell? ⟨w.heap.size + 1 + 1 + 1, 0, none⟩ = some (.int .i64 d.base) := Br3.out.below (below_more HB0.out HC.out) 0 _ rfl
                       have f4b : wn.cell? ⟨w.heap.size + 1 + 1 + 1, 1, none⟩ = some (.slice C nc cc) := Br3.out.below (below_more HB0.out HC.out) 1 _ rfl
                       have f9 : wn.cell? ⟨b9, o9 + k, none⟩ = some (.int .i64 x) := (HC.out.cell (block_lt_of_cell cx)).trans cx
                       clear hb)
                    | (go_at_call_of 41 (Value.agg #[Value.int IntKind.i64 d.base, Value.slice C nc cc])
                       refine (spec_lev _ d x _ (by first | exact RXr4.out.below (below_more HB0.out HC.out) | exact (RXr4.out.below (below_more HB0.out HC.out)).drew)).mono ?_
                       rintro e wn ⟨rfl, hb⟩
                       have HC' : Hid (Below wr.heap.size wr wn) := Lib.hid (by first | exact below_more HC.out hb | exact below_more HC.out (below_undrew hb))
                       clear HC
                       have HC := HC'
                       clear HC'
                       try clear f0a f0b f1a f1b f2a f2b f3a f3b f4a f4b f9
                       have f0a : wn.cell? ⟨w.heap.size, 0, none⟩ = some (.int .i64 e.base) := Br0.out.below (below_more HB0.out HC.out) 0 _ rfl
                       have f0b : wn.cell? ⟨w.heap.size, 1, none⟩ = some (.slice A n c) := Br0.out.below (below_more HB0.out HC.out) 1 _ rfl
                       have f1a : wn.cell? ⟨w.heap.size + 1, 0, none⟩ = some (.int .i64 r.base) := Br1.out.below (below_more HB0.out HC.out) 0 _ rfl
                       have f1b : wn.cell? ⟨w.heap.size + 1, 1, none⟩ = some (.slice B nb cb) := Br1.out.below (below_more HB0.out HC.out) 1 _ rfl
                       have f2a : wn.cell? ⟨w.heap.size + 1 + 1, 4, none⟩ = some (.int .i64 t.raise.base) := Br2.out.below (below_more HB0.out HC.out) 4 _ rfl
                       have f2b : wn.cell? ⟨w.heap.size + 1 + 1, 5, none⟩ = some (.slice A2 n2 c2) := Br2.out.below (below_more HB0.out HC.out) 5 _ rfl
                       have f3a : wn.cell? ⟨w.heap.size + 1 + 1, 6, none⟩ = some (.int .i64 t.verify.base) := Br2.out.below (below_more HB0.out HC.out) 6 _ rfl
                       have f3b : wn.cell? ⟨w.heap.size + 1 + 1, 7, none⟩ = some (.slice A3 n3 c3) := Br2.out.below (below_more HB0.out HC.out) 7 _ rfl
                       have f4a : wn.cell? ⟨w.heap.size + 1 + 1 + 1, 0, none⟩ = some (.int .i64 d.base) := Br3.out.below (below_more HB0.out HC.out) 0 _ rfl
                       have f4b : wn.cell? ⟨w.heap.size + 1 + 1 + 1, 1, none⟩ = some (.slice C nc cc) := Br3.out.below (below_more HB0.out HC.out) 1 _ rfl
                       have f9 : wn.cell? ⟨b9, o9 + k, none⟩ = some (.int .i64 x) := (HC.out.cell (block_lt_of_cell cx)).trans cx
                       clear hb)
                    | (go_at_call 42
                       refine (spec_in _ _ _ _ _ _).mono ?_
                       rintro e w8 ⟨rfl, rfl⟩))
                  go_wp2
                  go_roundw
                  case rel => exact ⟨k + 1, by omega, by go_num, HS1, Lib.hid (below_more HR.out HC.out)⟩
                  case measure => simp [intOf]; omega
              · have HE : Hid (accepts e r t d = true) := Lib.hid (by rw [HY.out]; exact HS.out.done (by have := HN.out; omega))
                clear HS
                go_wp2
                go_ret
                exact .mk (by rw [HE.out]; rfl) BEL.out
end Go.Proofs.YtedaknjjcdlpnaaDoor
