/-
  The laws' likeMsg and likeDoor, at messages and doors that are alike.
-/
import Derived.Test.YtnpeojlhjbdjiaaGreatDoorDHelp
import Derived.Test.YtnpeojlhjbdjiaaGreatDoorTermsPure
import Derived.Test.YtnpeojlhjbdjiaaGreatDoorLike
import Derived.Test.YtnpeojlhjbdjiaaGreatDoorSpecDoor
namespace Go.Proofs.YtnpeojlhjbdjiaaGreatDoor
set_option maxRecDepth 100000
open Go.RowKit

theorem likeD_lab {us vs : List Value} {l : Lab} {w : World} (h : Rds w (dtLab l) us) (k : Rds w (dtLab l) vs) (hf : l.parts.length ≤ 1048576) : Calls Tryz.prog 34 #[.agg us.toArray, .agg vs.toArray] w (RetV (.bool true) w) := like_lab _ _ l w (h.lab hf) (k.lab hf)
theorem likeD_tm {us vs : List Value} {t : Tm} {w : World} (h : Rds w (dtTm t) us) (k : Rds w (dtTm t) vs) (hf : tmSz t ≤ 1048576) : Calls Tryz.prog 60 #[.agg us.toArray, .agg vs.toArray] w (RetV (.bool true) w) := like_tm _ _ t w (h.tm hf) (k.tm hf)
set_option maxHeartbeats 4000000 in
theorem likeD_ms {us vs : List Value} {x : Ms} {w : World} (h : Rds w (dtMs x) us) (k : Rds w (dtMs x) vs) (hf : msSz x ≤ 1048576) : Calls Tryz.prog 35 #[.agg us.toArray, .agg vs.toArray] w (RetV (.bool true) w) := by
  unfold msSz at hf
  have S2 : x.eff.parts.length ≤ 1048576 := by omega
  have S3 : tmSz x.terms ≤ 1048576 := by omega
  unfold dtMs at h
  obtain ⟨us, rfl, hg1⟩ := h.num
  clear h
  obtain ⟨us, rfl, hg2⟩ := hg1.num
  clear hg1
  obtain ⟨uf, us, rfl, hf2, hg3⟩ := hg2.split
  clear hg2
  obtain ⟨A0, n0, c0, rfl⟩ := shp_lab hf2
  have H2 := Lib.hid hf2
  clear hf2
  obtain ⟨A1, n1, c1, A2, n2, c2, A3, n3, c3, A4, n4, c4, rfl⟩ := shp_tm hg3
  have H3 := Lib.hid hg3
  clear hg3
  simp only [List.cons_append, List.nil_append]
  unfold dtMs at k
  obtain ⟨us, rfl, kg1⟩ := k.num
  clear k
  obtain ⟨us, rfl, kg2⟩ := kg1.num
  clear kg1
  obtain ⟨uf, us, rfl, hf2, kg3⟩ := kg2.split
  clear kg2
  obtain ⟨B0, m0, d0, rfl⟩ := shp_lab hf2
  have K2 := Lib.hid hf2
  clear hf2
  obtain ⟨B1, m1, d1, B2, m2, d2, B3, m3, d3, B4, m4, d4, rfl⟩ := shp_tm kg3
  have K3 := Lib.hid kg3
  clear kg3
  simp only [List.cons_append, List.nil_append]
  go_enter Tryz.func35, Tryz.ntmps35
  go_wp2_with fail
  generalize hW : (w.alloc (.cells #[.int .i64 x.frm, .int .i64 x.value, .int .i64 x.eff.base, .slice A0 n0 c0, .int .i64 x.terms.taint.base, .slice A1 n1 c1, .int .i64 x.terms.clear.base, .slice A2 n2 c2, .int .i64 x.terms.raise.base, .slice A3 n3 c3, .int .i64 x.terms.verify.base, .slice A4 n4 c4] 35)).alloc (.cells #[.int .i64 x.frm, .int .i64 x.value, .int .i64 x.eff.base, .slice B0 m0 d0, .int .i64 x.terms.taint.base, .slice B1 m1 d1, .int .i64 x.terms.clear.base, .slice B2 m2 d2, .int .i64 x.terms.raise.base, .slice B3 m3 d3, .int .i64 x.terms.verify.base, .slice B4 m4 d4] 35) = x0
  obtain ⟨pb, qb, hsz, bel⟩ := laid2 (ps := [.int .i64 x.frm, .int .i64 x.value, .int .i64 x.eff.base, .slice A0 n0 c0, .int .i64 x.terms.taint.base, .slice A1 n1 c1, .int .i64 x.terms.clear.base, .slice A2 n2 c2, .int .i64 x.terms.raise.base, .slice A3 n3 c3, .int .i64 x.terms.verify.base, .slice A4 n4 c4]) (rs := [.int .i64 x.frm, .int .i64 x.value, .int .i64 x.eff.base, .slice B0 m0 d0, .int .i64 x.terms.taint.base, .slice B1 m1 d1, .int .i64 x.terms.clear.base, .slice B2 m2 d2, .int .i64 x.terms.raise.base, .slice B3 m3 d3, .int .i64 x.terms.verify.base, .slice B4 m4 d4]) hW
  have PB := Lib.hid pb
  have QB := Lib.hid qb
  clear hW pb qb hsz
  refine (likeD_lab (H2.out.below bel) (K2.out.below bel) S2).mono ?_
  rintro e y0 ⟨rfl, hb⟩
  have PB' := Lib.hid (PB.out.below hb)
  have QB' := Lib.hid (QB.out.below hb)
  have bel' := below_more bel hb
  clear PB QB bel hb 
  have PB := PB'
  have QB := QB'
  have bel := bel'
  clear PB' QB' bel'
  have pc4 := PB.out.cell 4 rfl
  have pc5 := PB.out.cell 5 rfl
  have pc6 := PB.out.cell 6 rfl
  have pc7 := PB.out.cell 7 rfl
  have pc8 := PB.out.cell 8 rfl
  have pc9 := PB.out.cell 9 rfl
  have pc10 := PB.out.cell 10 rfl
  have pc11 := PB.out.cell 11 rfl
  have qc4 := QB.out.cell 4 rfl
  have qc5 := QB.out.cell 5 rfl
  have qc6 := QB.out.cell 6 rfl
  have qc7 := QB.out.cell 7 rfl
  have qc8 := QB.out.cell 8 rfl
  have qc9 := QB.out.cell 9 rfl
  have qc10 := QB.out.cell 10 rfl
  have qc11 := QB.out.cell 11 rfl
  go_wp2_with fail
  refine (likeD_tm (H3.out.below bel) (K3.out.below bel) S3).mono ?_
  rintro e y1 ⟨rfl, hb⟩
  have PB' := Lib.hid (PB.out.below hb)
  have QB' := Lib.hid (QB.out.below hb)
  have bel' := below_more bel hb
  clear PB QB bel hb pc4 pc5 pc6 pc7 pc8 pc9 pc10 pc11 qc4 qc5 qc6 qc7 qc8 qc9 qc10 qc11
  have PB := PB'
  have QB := QB'
  have bel := bel'
  clear PB' QB' bel'
  go_wp2
  go_ret
  exact .mk rfl bel
set_option maxHeartbeats 4000000 in
theorem likeD_door {us vs : List Value} {x : Door} {w : World} (h : Rds w (dtDoor x) us) (k : Rds w (dtDoor x) vs) (hf : doorSz x ≤ 1048576) : Calls Tryz.prog 12 #[.agg us.toArray, .agg vs.toArray] w (RetV (.bool true) w) := by
  unfold doorSz at hf
  have S1 : x.label.parts.length ≤ 1048576 := by omega
  have S2 : mssSz x.queue ≤ 1048576 := by omega
  unfold dtDoor at h
  obtain ⟨us, rfl, hg1⟩ := h.num
  clear h
  obtain ⟨uf, us, rfl, hf1, hg2⟩ := hg1.split
  clear hg1
  obtain ⟨A0, n0, c0, rfl⟩ := shp_lab hf1
  have H1 := Lib.hid hf1
  clear hf1
  obtain ⟨A1, n1, c1, rfl⟩ := shp_row hg2
  have H2 := Lib.hid hg2
  clear hg2
  simp only [List.cons_append, List.nil_append]
  unfold dtDoor at k
  obtain ⟨us, rfl, kg1⟩ := k.num
  clear k
  obtain ⟨uf, us, rfl, hf1, kg2⟩ := kg1.split
  clear kg1
  obtain ⟨B0, m0, d0, rfl⟩ := shp_lab hf1
  have K1 := Lib.hid hf1
  clear hf1
  obtain ⟨B1, m1, d1, rfl⟩ := shp_row kg2
  have K2 := Lib.hid kg2
  clear kg2
  simp only [List.cons_append, List.nil_append]
  have hr1 := rds1 H2.out
  have hr2 := rds1 K2.out
  obtain ⟨HN, -, -⟩ := hr1.len dtMs_len (by omega)
  obtain ⟨HM, -, -⟩ := hr2.len dtMs_len (by omega)
  obtain rfl : n1 = m1 := by omega
  have HNX := Lib.hid HN
  have HR0 := Lib.hid hr1
  have HQ0 := Lib.hid hr2
  have hsum := mssSum_le x.queue x.queue.length
  unfold mssSz at S2
  have hl : n1 ≤ 1048576 := by omega
  clear HN HM hr1 hr2
  go_enter Tryz.func12, Tryz.ntmps12
  go_wp2_with fail
  generalize hW : (w.alloc (.cells #[.int .i64 x.handle, .int .i64 x.label.base, .slice A0 n0 c0, .slice A1 n1 c1] 29)).alloc (.cells #[.int .i64 x.handle, .int .i64 x.label.base, .slice B0 m0 d0, .slice B1 n1 d1] 29) = x0
  obtain ⟨pb, qb, hsz, bel⟩ := laid2 (ps := [.int .i64 x.handle, .int .i64 x.label.base, .slice A0 n0 c0, .slice A1 n1 c1]) (rs := [.int .i64 x.handle, .int .i64 x.label.base, .slice B0 m0 d0, .slice B1 n1 d1]) hW
  have PB := Lib.hid pb
  have QB := Lib.hid qb
  clear hW pb qb hsz
  refine (likeD_lab (H1.out.below bel) (K1.out.below bel) S1).mono ?_
  rintro e y0 ⟨rfl, hb⟩
  have PB' := Lib.hid (PB.out.below hb)
  have QB' := Lib.hid (QB.out.below hb)
  have bel' := below_more bel hb
  clear PB QB bel hb 
  have PB := PB'
  have QB := QB'
  have bel := bel'
  clear PB' QB' bel'
  have pc3 := PB.out.cell 3 rfl
  have qc3 := QB.out.cell 3 rfl
  have HW0 := Lib.hid bel
  go_wp2
  go_loopw [5] (fun i wr => ∃ k : Nat, k ≤ n1 ∧ i = .int .i64 k ∧ Hid (Below y0.heap.size y0 wr)) (fun i _ => n1 - (intOf i).toNat)
  case atStart => exact ⟨0, by omega, rfl, Lib.hid (.refl _ _)⟩
  case round =>
    clear pc3 qc3
    obtain ⟨k, hk, rfl, HB⟩ := hrel
    have HBW := Lib.hid (below_more HW0.out HB.out)
    have pc3 := (PB.out.below HB.out).cell 3 rfl
    have qc3 := (QB.out.below HB.out).cell 3 rfl
    have pz := (PB.out.below HB.out).lt
    have qz := (QB.out.below HB.out).lt
    by_cases hlt : k < n1
    · obtain ⟨y, hy⟩ : ∃ y, x.queue[k]? = some y := ⟨x.queue[k]'(by have := HNX.out; omega), List.getElem?_eq_getElem _⟩
      have hsx := mssSum_at hy
      obtain ⟨b, o, E0, e0, f0, E1, e1, f1, E2, e2, f2, E3, e3, f3, E4, e4, f4, rfl, cx0, cx1, cx2, cx3, cx4, cx5, cx6, cx7, cx8, cx9, cx10, cx11, hr⟩ := at_mss (HR0.out.below HBW.out) hy
      obtain ⟨b2, o2, G0, g0, i0, G1, g1, i1, G2, g2, i2, G3, g3, i3, G4, g4, i4, rfl, cy0, cy1, cy2, cy3, cy4, cy5, cy6, cy7, cy8, cy9, cy10, cy11, hr2⟩ := at_mss (HQ0.out.below HBW.out) hy
      have HE := Lib.hid hr
      have HE2 := Lib.hid hr2
      clear hr hr2 hy
      go_wp2
      go_still_tail 10, (by kernel_rfl)
      change wpList _ _ _ _ _ wr.drew
      go_wp2_with fail
      refine (likeD_ms (w := wr.drew) (HE.out.below (Below.refl _ _).drew) (HE2.out.below (Below.refl _ _).drew) (by omega)).mono ?_
      rintro e w1 ⟨rfl, hb⟩
      have HB' := Lib.hid (below_more HB.out (below_undrew hb))
      clear hb cx0 cx1 cx2 cx3 cx4 cx5 cx6 cx7 cx8 cx9 cx10 cx11 cy0 cy1 cy2 cy3 cy4 cy5 cy6 cy7 cy8 cy9 cy10 cy11 pc3 qc3 pz qz
      go_wp2
      go_roundw
      case rel => exact ⟨k + 1, by omega, by go_num, HB'⟩
      case measure => simp [intOf]; omega
    · obtain rfl : k = n1 := by omega
      go_wp2
      go_ret
      exact .mk rfl HBW.out
end Go.Proofs.YtnpeojlhjbdjiaaGreatDoor
