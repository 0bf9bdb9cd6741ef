/-
  Chapter 5 of the model: TermsOk, NoTerms, what may be said of one level, what is let in by one level.
-/
import Derived.Test.YtnpeojlhjbdjiaaGreatDoorTermsPure
import Derived.Test.YtnpeojlhjbdjiaaGreatDoorSpecOrd
import Derived.Test.YtnpeojlhjbdjiaaGreatDoorSpecLab
namespace Go.Proofs.YtnpeojlhjbdjiaaGreatDoor
set_option maxRecDepth 100000
open Go.RowKit

set_option maxHeartbeats 2000000 in
theorem spec_termsok (v : Value) (t : Tm) (w : World) (hr : RdTm w v t) : Calls Tryz.prog 40 #[v] w (RetV (.bool (termsOk t)) w) := by
  obtain ⟨A0, n0, c0, A1, n1, c1, A2, n2, c2, A3, n3, c3, rfl, h0, h1, h2, h3⟩ := hr
  have H0 := Lib.hid h0
  have H1 := Lib.hid h1
  have H2 := Lib.hid h2
  have H3 := Lib.hid h3
  clear h0 h1 h2 h3
  cases e0 : labOk t.taint
  · skip
    have HR : Hid (termsOk t = false) := Lib.hid (termsOk_0 e0)
    go_enter Tryz.func40, Tryz.ntmps40
    go_wp2_with fail
    generalize hW : w.alloc (.cells #[.int .i64 t.taint.base, .slice A0 n0 c0, .int .i64 t.clear.base, .slice A1 n1 c1, .int .i64 t.raise.base, .slice A2 n2 c2, .int .i64 t.verify.base, .slice A3 n3 c3] 33) = x0
    obtain ⟨pb, hsz, bel⟩ := laid1 (ps := [.int .i64 t.taint.base, .slice A0 n0 c0, .int .i64 t.clear.base, .slice A1 n1 c1, .int .i64 t.raise.base, .slice A2 n2 c2, .int .i64 t.verify.base, .slice A3 n3 c3]) hW
    have PB := Lib.hid pb
    clear hW pb hsz
    refine (spec_labok _ t.taint _ (H0.out.below bel)).mono ?_
    rintro e y0 ⟨rfl, hb⟩
    have PB' := Lib.hid (PB.out.below hb)
    have bel' := below_more bel hb
    clear PB bel hb
    have PB := PB'
    have bel := bel'
    clear PB' bel'
    go_wp2
    go_ret
    exact .mk (by rw [HR.out]; rfl) bel
  · skip
    cases e1 : labOk t.clear
    · skip
      have HR : Hid (termsOk t = false) := Lib.hid (termsOk_1 e1)
      go_enter Tryz.func40, Tryz.ntmps40
      go_wp2_with fail
      generalize hW : w.alloc (.cells #[.int .i64 t.taint.base, .slice A0 n0 c0, .int .i64 t.clear.base, .slice A1 n1 c1, .int .i64 t.raise.base, .slice A2 n2 c2, .int .i64 t.verify.base, .slice A3 n3 c3] 33) = x0
      obtain ⟨pb, hsz, bel⟩ := laid1 (ps := [.int .i64 t.taint.base, .slice A0 n0 c0, .int .i64 t.clear.base, .slice A1 n1 c1, .int .i64 t.raise.base, .slice A2 n2 c2, .int .i64 t.verify.base, .slice A3 n3 c3]) hW
      have PB := Lib.hid pb
      clear hW pb hsz
      refine (spec_labok _ t.taint _ (H0.out.below bel)).mono ?_
      rintro e y0 ⟨rfl, hb⟩
      have PB' := Lib.hid (PB.out.below hb)
      have bel' := below_more bel hb
      clear PB bel hb
      have PB := PB'
      have bel := bel'
      clear PB' bel'
      have pc2 := PB.out.cell 2 rfl
      have pc3 := PB.out.cell 3 rfl
      go_wp2_with fail
      refine (spec_labok _ t.clear _ (H1.out.below bel)).mono ?_
      rintro e y1 ⟨rfl, hb⟩
      have PB' := Lib.hid (PB.out.below hb)
      have bel' := below_more bel hb
      clear PB bel hb pc2 pc3
      have PB := PB'
      have bel := bel'
      clear PB' bel'
      go_wp2
      go_ret
      exact .mk (by rw [HR.out]; rfl) bel
    · skip
      cases e2 : labOk t.raise
      · skip
        have HR : Hid (termsOk t = false) := Lib.hid (termsOk_2 e2)
        go_enter Tryz.func40, Tryz.ntmps40
        go_wp2_with fail
        generalize hW : w.alloc (.cells #[.int .i64 t.taint.base, .slice A0 n0 c0, .int .i64 t.clear.base, .slice A1 n1 c1, .int .i64 t.raise.base, .slice A2 n2 c2, .int .i64 t.verify.base, .slice A3 n3 c3] 33) = x0
        obtain ⟨pb, hsz, bel⟩ := laid1 (ps := [.int .i64 t.taint.base, .slice A0 n0 c0, .int .i64 t.clear.base, .slice A1 n1 c1, .int .i64 t.raise.base, .slice A2 n2 c2, .int .i64 t.verify.base, .slice A3 n3 c3]) hW
        have PB := Lib.hid pb
        clear hW pb hsz
        refine (spec_labok _ t.taint _ (H0.out.below bel)).mono ?_
        rintro e y0 ⟨rfl, hb⟩
        have PB' := Lib.hid (PB.out.below hb)
        have bel' := below_more bel hb
        clear PB bel hb
        have PB := PB'
        have bel := bel'
        clear PB' bel'
        have pc2 := PB.out.cell 2 rfl
        have pc3 := PB.out.cell 3 rfl
        go_wp2_with fail
        refine (spec_labok _ t.clear _ (H1.out.below bel)).mono ?_
        rintro e y1 ⟨rfl, hb⟩
        have PB' := Lib.hid (PB.out.below hb)
        have bel' := below_more bel hb
        clear PB bel hb pc2 pc3
        have PB := PB'
        have bel := bel'
        clear PB' bel'
        have pc4 := PB.out.cell 4 rfl
        have pc5 := PB.out.cell 5 rfl
        go_wp2_with fail
        refine (spec_labok _ t.raise _ (H2.out.below bel)).mono ?_
        rintro e y2 ⟨rfl, hb⟩
        have PB' := Lib.hid (PB.out.below hb)
        have bel' := below_more bel hb
        clear PB bel hb pc4 pc5
        have PB := PB'
        have bel := bel'
        clear PB' bel'
        go_wp2
        go_ret
        exact .mk (by rw [HR.out]; rfl) bel
      · skip
        cases e3 : labOk t.verify
        · skip
          have HR : Hid (termsOk t = false) := Lib.hid (termsOk_3 e3)
          go_enter Tryz.func40, Tryz.ntmps40
          go_wp2_with fail
          generalize hW : w.alloc (.cells #[.int .i64 t.taint.base, .slice A0 n0 c0, .int .i64 t.clear.base, .slice A1 n1 c1, .int .i64 t.raise.base, .slice A2 n2 c2, .int .i64 t.verify.base, .slice A3 n3 c3] 33) = x0
          obtain ⟨pb, hsz, bel⟩ := laid1 (ps := [.int .i64 t.taint.base, .slice A0 n0 c0, .int .i64 t.clear.base, .slice A1 n1 c1, .int .i64 t.raise.base, .slice A2 n2 c2, .int .i64 t.verify.base, .slice A3 n3 c3]) hW
          have PB := Lib.hid pb
          clear hW pb hsz
          refine (spec_labok _ t.taint _ (H0.out.below bel)).mono ?_
          rintro e y0 ⟨rfl, hb⟩
          have PB' := Lib.hid (PB.out.below hb)
          have bel' := below_more bel hb
          clear PB bel hb
          have PB := PB'
          have bel := bel'
          clear PB' bel'
          have pc2 := PB.out.cell 2 rfl
          have pc3 := PB.out.cell 3 rfl
          go_wp2_with fail
          refine (spec_labok _ t.clear _ (H1.out.below bel)).mono ?_
          rintro e y1 ⟨rfl, hb⟩
          have PB' := Lib.hid (PB.out.below hb)
          have bel' := below_more bel hb
          clear PB bel hb pc2 pc3
          have PB := PB'
          have bel := bel'
          clear PB' bel'
          have pc4 := PB.out.cell 4 rfl
          have pc5 := PB.out.cell 5 rfl
          go_wp2_with fail
          refine (spec_labok _ t.raise _ (H2.out.below bel)).mono ?_
          rintro e y2 ⟨rfl, hb⟩
          have PB' := Lib.hid (PB.out.below hb)
          have bel' := below_more bel hb
          clear PB bel hb pc4 pc5
          have PB := PB'
          have bel := bel'
          clear PB' bel'
          have pc6 := PB.out.cell 6 rfl
          have pc7 := PB.out.cell 7 rfl
          go_wp2_with fail
          refine (spec_labok _ t.verify _ (H3.out.below bel)).mono ?_
          rintro e y3 ⟨rfl, hb⟩
          have PB' := Lib.hid (PB.out.below hb)
          have bel' := below_more bel hb
          clear PB bel hb pc6 pc7
          have PB := PB'
          have bel := bel'
          clear PB' bel'
          go_wp2
          go_ret
          exact .mk (by rw [HR.out]; rfl) bel
        · skip
          have HR : Hid (termsOk t = true) := Lib.hid (termsOk_mk e0 e1 e2 e3)
          go_enter Tryz.func40, Tryz.ntmps40
          go_wp2_with fail
          generalize hW : w.alloc (.cells #[.int .i64 t.taint.base, .slice A0 n0 c0, .int .i64 t.clear.base, .slice A1 n1 c1, .int .i64 t.raise.base, .slice A2 n2 c2, .int .i64 t.verify.base, .slice A3 n3 c3] 33) = x0
          obtain ⟨pb, hsz, bel⟩ := laid1 (ps := [.int .i64 t.taint.base, .slice A0 n0 c0, .int .i64 t.clear.base, .slice A1 n1 c1, .int .i64 t.raise.base, .slice A2 n2 c2, .int .i64 t.verify.base, .slice A3 n3 c3]) hW
          have PB := Lib.hid pb
          clear hW pb hsz
          refine (spec_labok _ t.taint _ (H0.out.below bel)).mono ?_
          rintro e y0 ⟨rfl, hb⟩
          have PB' := Lib.hid (PB.out.below hb)
          have bel' := below_more bel hb
          clear PB bel hb
          have PB := PB'
          have bel := bel'
          clear PB' bel'
          have pc2 := PB.out.cell 2 rfl
          have pc3 := PB.out.cell 3 rfl
          go_wp2_with fail
          refine (spec_labok _ t.clear _ (H1.out.below bel)).mono ?_
          rintro e y1 ⟨rfl, hb⟩
          have PB' := Lib.hid (PB.out.below hb)
          have bel' := below_more bel hb
          clear PB bel hb pc2 pc3
          have PB := PB'
          have bel := bel'
          clear PB' bel'
          have pc4 := PB.out.cell 4 rfl
          have pc5 := PB.out.cell 5 rfl
          go_wp2_with fail
          refine (spec_labok _ t.raise _ (H2.out.below bel)).mono ?_
          rintro e y2 ⟨rfl, hb⟩
          have PB' := Lib.hid (PB.out.below hb)
          have bel' := below_more bel hb
          clear PB bel hb pc4 pc5
          have PB := PB'
          have bel := bel'
          clear PB' bel'
          have pc6 := PB.out.cell 6 rfl
          have pc7 := PB.out.cell 7 rfl
          go_wp2_with fail
          refine (spec_labok _ t.verify _ (H3.out.below bel)).mono ?_
          rintro e y3 ⟨rfl, hb⟩
          have PB' := Lib.hid (PB.out.below hb)
          have bel' := below_more bel hb
          clear PB bel hb pc6 pc7
          have PB := PB'
          have bel := bel'
          clear PB' bel'
          go_wp2
          go_ret
          exact .mk (by rw [HR.out]; rfl) bel
set_option maxHeartbeats 2000000 in
theorem spec_noterms (w : World) : Calls Tryz.prog 51 #[] w (RetTm noTm w) := by
  go_enter Tryz.func51, Tryz.ntmps51
  go_wp2_with fail
  generalize hW : w.alloc (.cells #[.int .i64 0, .slice none 0 0, .int .i64 0, .slice none 0 0, .int .i64 0, .slice none 0 0, .int .i64 0, .slice none 0 0] 33) = x0
  obtain ⟨pb, hsz, bel⟩ := laid1 (ps := [.int .i64 0, .slice none 0 0, .int .i64 0, .slice none 0 0, .int .i64 0, .slice none 0 0, .int .i64 0, .slice none 0 0]) hW
  have RB := Lib.hid pb
  clear hW pb
  have hlo : w.heap.size + 1 ≤ x0.heap.size := by omega
  clear hsz
  refine (spec_plain 0 _).mono ?_
  rintro e y0 ⟨v0, rfl, own, hb⟩
  have eb : plainL 0 = ⟨0, []⟩ := rfl
  rw [eb] at own
  clear eb
  obtain ⟨B0, m0, d0, rfl, hm0, -, -⟩ := id own
  have V0 : Hid (∀ k, (Value.slice B0 m0 d0).ownBlock = some k → x0.heap.size ≤ k ∧ k < y0.heap.size) := Lib.hid (fun k hk => own.row k hk)
  have W0 := Lib.hid (own.lower (base' := w.heap.size + 1) (by have := hb.size; omega))
  have RB' := Lib.hid (RB.out.below hb)
  have bel' := below_more bel hb
  have s0 : x0.heap.size ≤ y0.heap.size := hb.size
  clear RB bel hb own
  have RB := RB'
  have bel := bel'
  clear RB' bel'
  go_wp2_with fail
  refine (spec_plain 4 _).mono ?_
  rintro e y1 ⟨v1, rfl, own, hb⟩
  have eb : plainL 4 = ⟨4, []⟩ := rfl
  rw [eb] at own
  clear eb
  obtain ⟨B1, m1, d1, rfl, hm1, -, -⟩ := id own
  have V1 : Hid (∀ k, (Value.slice B1 m1 d1).ownBlock = some k → y0.heap.size ≤ k ∧ k < y1.heap.size) := Lib.hid (fun k hk => own.row k hk)
  have W0' := Lib.hid (W0.out.below hb)
  clear W0
  have W0 := W0'
  clear W0'
  have W1 := Lib.hid (own.lower (base' := w.heap.size + 1) (by have := hb.size; omega))
  have RB' := Lib.hid (RB.out.below hb)
  have bel' := below_more bel hb
  have s1 : y0.heap.size ≤ y1.heap.size := hb.size
  clear RB bel hb own
  have RB := RB'
  have bel := bel'
  clear RB' bel'
  go_wp2_with fail
  refine (spec_plain 0 _).mono ?_
  rintro e y2 ⟨v2, rfl, own, hb⟩
  have eb : plainL 0 = ⟨0, []⟩ := rfl
  rw [eb] at own
  clear eb
  obtain ⟨B2, m2, d2, rfl, hm2, -, -⟩ := id own
  have V2 : Hid (∀ k, (Value.slice B2 m2 d2).ownBlock = some k → y1.heap.size ≤ k ∧ k < y2.heap.size) := Lib.hid (fun k hk => own.row k hk)
  have W0' := Lib.hid (W0.out.below hb)
  clear W0
  have W0 := W0'
  clear W0'
  have W1' := Lib.hid (W1.out.below hb)
  clear W1
  have W1 := W1'
  clear W1'
  have W2 := Lib.hid (own.lower (base' := w.heap.size + 1) (by have := hb.size; omega))
  have RB' := Lib.hid (RB.out.below hb)
  have bel' := below_more bel hb
  have s2 : y1.heap.size ≤ y2.heap.size := hb.size
  clear RB bel hb own
  have RB := RB'
  have bel := bel'
  clear RB' bel'
  go_wp2_with fail
  refine (spec_plain 4 _).mono ?_
  rintro e y3 ⟨v3, rfl, own, hb⟩
  have eb : plainL 4 = ⟨4, []⟩ := rfl
  rw [eb] at own
  clear eb
  obtain ⟨B3, m3, d3, rfl, hm3, -, -⟩ := id own
  have V3 : Hid (∀ k, (Value.slice B3 m3 d3).ownBlock = some k → y2.heap.size ≤ k ∧ k < y3.heap.size) := Lib.hid (fun k hk => own.row k hk)
  have W0' := Lib.hid (W0.out.below hb)
  clear W0
  have W0 := W0'
  clear W0'
  have W1' := Lib.hid (W1.out.below hb)
  clear W1
  have W1 := W1'
  clear W1'
  have W2' := Lib.hid (W2.out.below hb)
  clear W2
  have W2 := W2'
  clear W2'
  have W3 := Lib.hid (own.lower (base' := w.heap.size + 1) (by have := hb.size; omega))
  have RB' := Lib.hid (RB.out.below hb)
  have bel' := below_more bel hb
  have s3 : y2.heap.size ≤ y3.heap.size := hb.size
  clear RB bel hb own
  have RB := RB'
  have bel := bel'
  clear RB' bel'
  have rc0 := RB.out.cell 0 rfl
  have rf0 := RB.out.free 0
  have rc1 := RB.out.cell 1 rfl
  have rf1 := RB.out.free 1
  have rc2 := RB.out.cell 2 rfl
  have rf2 := RB.out.free 2
  have rc3 := RB.out.cell 3 rfl
  have rf3 := RB.out.free 3
  have rc4 := RB.out.cell 4 rfl
  have rf4 := RB.out.free 4
  have rc5 := RB.out.cell 5 rfl
  have rf5 := RB.out.free 5
  have rc6 := RB.out.cell 6 rfl
  have rf6 := RB.out.free 6
  have rc7 := RB.out.cell 7 rfl
  have rf7 := RB.out.free 7
  go_wp2
  refine bodyPost_ret (v := .agg #[.int .i64 0, .slice B0 m0 d0, .int .i64 4, .slice B1 m1 d1, .int .i64 0, .slice B2 m2 d2, .int .i64 4, .slice B3 m3 d3]) (by simp [results, Tryz.results51, go_sem, rc0, rc1, rc2, rc3, rc4, rc5, rc6, rc7]) rfl ?_
  refine ⟨_, rfl, ⟨B0, m0, d0, B1, m1, d1, B2, m2, d2, B3, m3, d3, rfl, (((((((((W0.out.past (by omega)).past (by omega)).past (by omega)).past (by omega)).past (by omega)).past (by omega)).past (by omega)).past (by omega))).lower (by omega), (((((((((W1.out.past (by omega)).past (by omega)).past (by omega)).past (by omega)).past (by omega)).past (by omega)).past (by omega)).past (by omega))).lower (by omega), (((((((((W2.out.past (by omega)).past (by omega)).past (by omega)).past (by omega)).past (by omega)).past (by omega)).past (by omega)).past (by omega))).lower (by omega), (((((((((W3.out.past (by omega)).past (by omega)).past (by omega)).past (by omega)).past (by omega)).past (by omega)).past (by omega)).past (by omega))).lower (by omega), ?_⟩, ((((((((bel.setCell (by simp only []; omega) _).setCell (by simp only []; omega) _).setCell (by simp only []; omega) _).setCell (by simp only []; omega) _).setCell (by simp only []; omega) _).setCell (by simp only []; omega) _).setCell (by simp only []; omega) _).setCell (by simp only []; omega) _)⟩
  have ap4 : Apart [] := .nil
  have ap3 : Apart [.int .i64 4, .slice B3 m3 d3] := .int (.cons ap4 (fun k _ hk => by simp [fpOf] at hk)) _
  have ap2 : Apart [.int .i64 0, .slice B2 m2 d2, .int .i64 4, .slice B3 m3 d3] := .int (.cons ap3 (fun k hk hm => by
      have a := V2.out k hk
      simp only [own_int, Option.toList_none, List.nil_append, fpOf_cons, fpOf_nil, List.append_nil, mem_fp] at hm
      rcases hm with hm
      · have b := V3.out k hm; omega)) _
  have ap1 : Apart [.int .i64 4, .slice B1 m1 d1, .int .i64 0, .slice B2 m2 d2, .int .i64 4, .slice B3 m3 d3] := .int (.cons ap2 (fun k hk hm => by
      have a := V1.out k hk
      simp only [own_int, Option.toList_none, List.nil_append, fpOf_cons, fpOf_nil, List.mem_append, List.append_nil, mem_fp] at hm
      rcases hm with hm | hm
      · have b := V2.out k hm; omega
      · have b := V3.out k hm; omega)) _
  have ap0 : Apart [.int .i64 0, .slice B0 m0 d0, .int .i64 4, .slice B1 m1 d1, .int .i64 0, .slice B2 m2 d2, .int .i64 4, .slice B3 m3 d3] := .int (.cons ap1 (fun k hk hm => by
      have a := V0.out k hk
      simp only [own_int, Option.toList_none, List.nil_append, fpOf_cons, fpOf_nil, List.mem_append, List.append_nil, mem_fp] at hm
      rcases hm with hm | hm | hm
      · have b := V1.out k hm; omega
      · have b := V2.out k hm; omega
      · have b := V3.out k hm; omega)) _
  exact ap0
end Go.Proofs.YtnpeojlhjbdjiaaGreatDoor
