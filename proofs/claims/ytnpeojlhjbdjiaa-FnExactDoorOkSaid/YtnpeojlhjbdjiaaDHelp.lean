/-
  Texts put together: DTm, DMs, DMss, DDoor. What each proves stands ahead of it.
-/
import Derived.Test.YtnpeojlhjbdjiaaDat
import Derived.StillTailTactics
/-
  Terms as data, and the laws' helpers on it.
-/
namespace Go.Proofs.Ytnpeojlhjbdjiaa
set_option maxRecDepth 100000
open Go.RowKit

def tmSz (x : Tm) : Nat := x.taint.parts.length + x.clear.parts.length + x.raise.parts.length + x.verify.parts.length
theorem shp_tm {w : World} {us : List Value} {x : Tm} (h : Rds w (dtTm x) us) : ∃ (A0 : Option Addr) (n0 c0 : Nat) (A1 : Option Addr) (n1 c1 : Nat) (A2 : Option Addr) (n2 c2 : Nat) (A3 : Option Addr) (n3 c3 : Nat), us = [.int .i64 x.taint.base, .slice A0 n0 c0, .int .i64 x.clear.base, .slice A1 n1 c1, .int .i64 x.raise.base, .slice A2 n2 c2, .int .i64 x.verify.base, .slice A3 n3 c3] := by
  simp only [dtTm, dtLab, List.cons_append, List.nil_append] at h
  obtain ⟨us, rfl, h1⟩ := h.num
  obtain ⟨A0, n0, c0, us, rfl, -, h2⟩ := h1.row
  obtain ⟨us, rfl, h3⟩ := h2.num
  obtain ⟨A1, n1, c1, us, rfl, -, h4⟩ := h3.row
  obtain ⟨us, rfl, h5⟩ := h4.num
  obtain ⟨A2, n2, c2, us, rfl, -, h6⟩ := h5.row
  obtain ⟨us, rfl, h7⟩ := h6.num
  obtain ⟨A3, n3, c3, us, rfl, -, h8⟩ := h7.row
  obtain rfl := h8.nil
  exact ⟨A0, n0, c0, A1, n1, c1, A2, n2, c2, A3, n3, c3, rfl⟩
theorem shpm_tm {w : World} {us : List Value} {x : Tm} {k : Int} (h : Rds w (mkt k (dtTm x)) us) : ∃ (A0 : Option Addr) (n0 c0 : Nat) (A1 : Option Addr) (n1 c1 : Nat) (A2 : Option Addr) (n2 c2 : Nat) (A3 : Option Addr) (n3 c3 : Nat), us = [.int .i64 x.taint.base, .slice A0 n0 c0, .int .i64 x.clear.base, .slice A1 n1 c1, .int .i64 x.raise.base, .slice A2 n2 c2, .int .i64 x.verify.base, .slice A3 n3 c3] := by
  simp only [dtTm, dtLab, List.cons_append, mkt, List.nil_append] at h
  obtain ⟨us, rfl, h1⟩ := h.num
  obtain ⟨A0, n0, c0, us, rfl, -, h2⟩ := h1.row
  obtain ⟨us, rfl, h3⟩ := h2.num
  obtain ⟨A1, n1, c1, us, rfl, -, h4⟩ := h3.row
  obtain ⟨us, rfl, h5⟩ := h4.num
  obtain ⟨A2, n2, c2, us, rfl, -, h6⟩ := h5.row
  obtain ⟨us, rfl, h7⟩ := h6.num
  obtain ⟨A3, n3, c3, us, rfl, -, h8⟩ := h7.row
  obtain rfl := h8.nil
  exact ⟨A0, n0, c0, A1, n1, c1, A2, n2, c2, A3, n3, c3, rfl⟩
set_option maxHeartbeats 8000000 in
theorem toD_tm {us : List Value} {x : Tm} {w : World} (h : Rds w (dtTm x) us) (hf : tmSz x ≤ 1048576) : Calls Try.prog 30 #[.agg us.toArray] w (RetD (dtTm x) w) := by
  unfold dtTm at h
  obtain ⟨uf, us, rfl, hf0, hg1⟩ := h.split
  clear h
  obtain ⟨A0, n0, c0, rfl⟩ := shp_lab hf0
  have H0 := Lib.hid hf0
  clear hf0
  obtain ⟨uf, us, rfl, hf1, hg2⟩ := hg1.split
  clear hg1
  obtain ⟨A1, n1, c1, rfl⟩ := shp_lab hf1
  have H1 := Lib.hid hf1
  clear hf1
  obtain ⟨uf, us, rfl, hf2, hg3⟩ := hg2.split
  clear hg2
  obtain ⟨A2, n2, c2, rfl⟩ := shp_lab hf2
  have H2 := Lib.hid hf2
  clear hf2
  obtain ⟨A3, n3, c3, rfl⟩ := shp_lab hg3
  have H3 := Lib.hid hg3
  clear hg3
  simp only [List.cons_append, List.nil_append]
  unfold tmSz at hf
  have S0 : x.taint.parts.length ≤ 1048576 := by omega
  have S1 : x.clear.parts.length ≤ 1048576 := by omega
  have S2 : x.raise.parts.length ≤ 1048576 := by omega
  have S3 : x.verify.parts.length ≤ 1048576 := by omega
  go_enter Try.func30, Try.ntmps30
  go_wp2_with fail
  generalize hW : ((w.alloc (.cells #[.int .i64 x.taint.base, .slice A0 n0 c0, .int .i64 x.clear.base, .slice A1 n1 c1, .int .i64 x.raise.base, .slice A2 n2 c2, .int .i64 x.verify.base, .slice A3 n3 c3] 26)).alloc (.cells #[.int .i64 0, .slice none 0 0, .int .i64 0, .slice none 0 0, .int .i64 0, .slice none 0 0, .int .i64 0, .slice none 0 0] 35)).alloc (.cells #[.int .i64 0, .slice none 0 0, .int .i64 0, .slice none 0 0, .int .i64 0, .slice none 0 0, .int .i64 0, .slice none 0 0] 35) = x0
  obtain ⟨pb, rb, ob, hsz, bel⟩ := laid3 (ps := [.int .i64 x.taint.base, .slice A0 n0 c0, .int .i64 x.clear.base, .slice A1 n1 c1, .int .i64 x.raise.base, .slice A2 n2 c2, .int .i64 x.verify.base, .slice A3 n3 c3]) (rs := [.int .i64 0, .slice none 0 0, .int .i64 0, .slice none 0 0, .int .i64 0, .slice none 0 0, .int .i64 0, .slice none 0 0]) (os := [.int .i64 0, .slice none 0 0, .int .i64 0, .slice none 0 0, .int .i64 0, .slice none 0 0, .int .i64 0, .slice none 0 0]) hW
  have PB := Lib.hid pb
  have RB := Lib.hid rb
  have OB := Lib.hid ob
  have hlo : w.heap.size + 1 + 1 < x0.heap.size := by omega
  clear hW pb rb ob
  refine (toD_lab (H0.out.below bel) S0).mono ?_
  rintro e y1 ⟨uv, rfl, own, hb⟩
  obtain ⟨B0, m0, d0, rfl⟩ := shp_lab own.rd
  have W1 : Hid (OwnR x0.heap.size y1.heap.size y1 (dtLab x.taint) [.int .i64 x.taint.base, .slice B0 m0 d0]) := Lib.hid own.r
  have PB' := Lib.hid (PB.out.below hb)
  have RB' := Lib.hid (RB.out.below hb)
  have OB' := Lib.hid (OB.out.below hb)
  have bel' := below_more bel hb
  have hxy1 : x0.heap.size ≤ y1.heap.size := hb.size
  have hlo' : w.heap.size + 1 + 1 < y1.heap.size := by omega
  clear PB RB OB bel hlo hb own
  have PB := PB'
  have RB := RB'
  have OB := OB'
  have bel := bel'
  have hlo := hlo'
  clear PB' RB' OB' bel' hlo'
  have oc0 := OB.out.cell 0 rfl
  have of0 := OB.out.free 0
  have oc1 := OB.out.cell 1 rfl
  have of1 := OB.out.free 1
  have pc2 := PB.out.cell 2 rfl
  have pc3 := PB.out.cell 3 rfl
  go_wp2_with fail
  generalize hW : ((y1).setCell ⟨w.heap.size + 1 + 1, 0, none⟩ (.int .i64 x.taint.base)).setCell ⟨w.heap.size + 1 + 1, 1, none⟩ (.slice B0 m0 d0) = x1
  have PB' : Hid (Box x1 (w.heap.size) [.int .i64 x.taint.base, .slice A0 n0 c0, .int .i64 x.clear.base, .slice A1 n1 c1, .int .i64 x.raise.base, .slice A2 n2 c2, .int .i64 x.verify.base, .slice A3 n3 c3]) := Lib.hid (by rw [← hW]; exact ((PB.out.far (by omega)).far (by omega)))
  have RB' : Hid (Box x1 (w.heap.size + 1) [.int .i64 0, .slice none 0 0, .int .i64 0, .slice none 0 0, .int .i64 0, .slice none 0 0, .int .i64 0, .slice none 0 0]) := Lib.hid (by rw [← hW]; exact ((RB.out.far (by omega)).far (by omega)))
  have OB' : Hid (Box x1 (w.heap.size + 1 + 1) [.int .i64 x.taint.base, .slice B0 m0 d0, .int .i64 0, .slice none 0 0, .int .i64 0, .slice none 0 0, .int .i64 0, .slice none 0 0]) := Lib.hid (by rw [← hW]; exact ((OB.out.set (by simp)).set (by simp)))
  have W1' := Lib.hid (show _ from (by rw [← hW]; exact ((W1.out.past (by omega)).past (by omega)) : OwnR x0.heap.size y1.heap.size x1 (dtLab x.taint) [.int .i64 x.taint.base, .slice B0 m0 d0]))
  clear W1
  have W1 := W1'
  clear W1'
  have bel' : Below w.heap.size w x1 := by rw [← hW]; exact ((bel.setCell (by simp only []; omega) _).setCell (by simp only []; omega) _)
  have hlo' : w.heap.size + 1 + 1 < x1.heap.size := by rw [← hW]; simpa using hlo
  have hsxx1 : x1.heap.size = y1.heap.size := by rw [← hW]; simp
  clear hW PB RB OB bel hlo oc0 of0 oc1 of1 pc2 pc3
  have PB := PB'
  have RB := RB'
  have OB := OB'
  have bel := bel'
  have hlo := hlo'
  clear PB' RB' OB' bel' hlo'
  refine (toD_lab (H1.out.below bel) S1).mono ?_
  rintro e y2 ⟨uv, rfl, own, hb⟩
  obtain ⟨B1, m1, d1, rfl⟩ := shp_lab own.rd
  have W1' : Hid (OwnR x0.heap.size y1.heap.size y2 (dtLab x.taint) [.int .i64 x.taint.base, .slice B0 m0 d0]) := Lib.hid (W1.out.below hb)
  clear W1
  have W1 := W1'
  clear W1'
  have W2 : Hid (OwnR x1.heap.size y2.heap.size y2 (dtLab x.clear) [.int .i64 x.clear.base, .slice B1 m1 d1]) := Lib.hid own.r
  have PB' := Lib.hid (PB.out.below hb)
  have RB' := Lib.hid (RB.out.below hb)
  have OB' := Lib.hid (OB.out.below hb)
  have bel' := below_more bel hb
  have hxy2 : x1.heap.size ≤ y2.heap.size := hb.size
  have hlo' : w.heap.size + 1 + 1 < y2.heap.size := by omega
  clear PB RB OB bel hlo hb own
  have PB := PB'
  have RB := RB'
  have OB := OB'
  have bel := bel'
  have hlo := hlo'
  clear PB' RB' OB' bel' hlo'
  have oc2 := OB.out.cell 2 rfl
  have of2 := OB.out.free 2
  have oc3 := OB.out.cell 3 rfl
  have of3 := OB.out.free 3
  have pc4 := PB.out.cell 4 rfl
  have pc5 := PB.out.cell 5 rfl
  go_wp2_with fail
  generalize hW : ((y2).setCell ⟨w.heap.size + 1 + 1, 2, none⟩ (.int .i64 x.clear.base)).setCell ⟨w.heap.size + 1 + 1, 3, none⟩ (.slice B1 m1 d1) = x2
  have PB' : Hid (Box x2 (w.heap.size) [.int .i64 x.taint.base, .slice A0 n0 c0, .int .i64 x.clear.base, .slice A1 n1 c1, .int .i64 x.raise.base, .slice A2 n2 c2, .int .i64 x.verify.base, .slice A3 n3 c3]) := Lib.hid (by rw [← hW]; exact ((PB.out.far (by omega)).far (by omega)))
  have RB' : Hid (Box x2 (w.heap.size + 1) [.int .i64 0, .slice none 0 0, .int .i64 0, .slice none 0 0, .int .i64 0, .slice none 0 0, .int .i64 0, .slice none 0 0]) := Lib.hid (by rw [← hW]; exact ((RB.out.far (by omega)).far (by omega)))
  have OB' : Hid (Box x2 (w.heap.size + 1 + 1) [.int .i64 x.taint.base, .slice B0 m0 d0, .int .i64 x.clear.base, .slice B1 m1 d1, .int .i64 0, .slice none 0 0, .int .i64 0, .slice none 0 0]) := Lib.hid (by rw [← hW]; exact ((OB.out.set (by simp)).set (by simp)))
  have W1' := Lib.hid (show _ from (by rw [← hW]; exact ((W1.out.past (by omega)).past (by omega)) : OwnR x0.heap.size y1.heap.size x2 (dtLab x.taint) [.int .i64 x.taint.base, .slice B0 m0 d0]))
  clear W1
  have W1 := W1'
  clear W1'
  have W2' := Lib.hid (show _ from (by rw [← hW]; exact ((W2.out.past (by omega)).past (by omega)) : OwnR x1.heap.size y2.heap.size x2 (dtLab x.clear) [.int .i64 x.clear.base, .slice B1 m1 d1]))
  clear W2
  have W2 := W2'
  clear W2'
  have bel' : Below w.heap.size w x2 := by rw [← hW]; exact ((bel.setCell (by simp only []; omega) _).setCell (by simp only []; omega) _)
  have hlo' : w.heap.size + 1 + 1 < x2.heap.size := by rw [← hW]; simpa using hlo
  have hsxx2 : x2.heap.size = y2.heap.size := by rw [← hW]; simp
  clear hW PB RB OB bel hlo oc2 of2 oc3 of3 pc4 pc5
  have PB := PB'
  have RB := RB'
  have OB := OB'
  have bel := bel'
  have hlo := hlo'
  clear PB' RB' OB' bel' hlo'
  refine (toD_lab (H2.out.below bel) S2).mono ?_
  rintro e y3 ⟨uv, rfl, own, hb⟩
  obtain ⟨B2, m2, d2, rfl⟩ := shp_lab own.rd
  have W1' : Hid (OwnR x0.heap.size y1.heap.size y3 (dtLab x.taint) [.int .i64 x.taint.base, .slice B0 m0 d0]) := Lib.hid (W1.out.below hb)
  clear W1
  have W1 := W1'
  clear W1'
  have W2' : Hid (OwnR x1.heap.size y2.heap.size y3 (dtLab x.clear) [.int .i64 x.clear.base, .slice B1 m1 d1]) := Lib.hid (W2.out.below hb)
  clear W2
  have W2 := W2'
  clear W2'
  have W3 : Hid (OwnR x2.heap.size y3.heap.size y3 (dtLab x.raise) [.int .i64 x.raise.base, .slice B2 m2 d2]) := Lib.hid own.r
  have PB' := Lib.hid (PB.out.below hb)
  have RB' := Lib.hid (RB.out.below hb)
  have OB' := Lib.hid (OB.out.below hb)
  have bel' := below_more bel hb
  have hxy3 : x2.heap.size ≤ y3.heap.size := hb.size
  have hlo' : w.heap.size + 1 + 1 < y3.heap.size := by omega
  clear PB RB OB bel hlo hb own
  have PB := PB'
  have RB := RB'
  have OB := OB'
  have bel := bel'
  have hlo := hlo'
  clear PB' RB' OB' bel' hlo'
  have oc4 := OB.out.cell 4 rfl
  have of4 := OB.out.free 4
  have oc5 := OB.out.cell 5 rfl
  have of5 := OB.out.free 5
  have pc6 := PB.out.cell 6 rfl
  have pc7 := PB.out.cell 7 rfl
  go_wp2_with fail
  generalize hW : ((y3).setCell ⟨w.heap.size + 1 + 1, 4, none⟩ (.int .i64 x.raise.base)).setCell ⟨w.heap.size + 1 + 1, 5, none⟩ (.slice B2 m2 d2) = x3
  have PB' : Hid (Box x3 (w.heap.size) [.int .i64 x.taint.base, .slice A0 n0 c0, .int .i64 x.clear.base, .slice A1 n1 c1, .int .i64 x.raise.base, .slice A2 n2 c2, .int .i64 x.verify.base, .slice A3 n3 c3]) := Lib.hid (by rw [← hW]; exact ((PB.out.far (by omega)).far (by omega)))
  have RB' : Hid (Box x3 (w.heap.size + 1) [.int .i64 0, .slice none 0 0, .int .i64 0, .slice none 0 0, .int .i64 0, .slice none 0 0, .int .i64 0, .slice none 0 0]) := Lib.hid (by rw [← hW]; exact ((RB.out.far (by omega)).far (by omega)))
  have OB' : Hid (Box x3 (w.heap.size + 1 + 1) [.int .i64 x.taint.base, .slice B0 m0 d0, .int .i64 x.clear.base, .slice B1 m1 d1, .int .i64 x.raise.base, .slice B2 m2 d2, .int .i64 0, .slice none 0 0]) := Lib.hid (by rw [← hW]; exact ((OB.out.set (by simp)).set (by simp)))
  have W1' := Lib.hid (show _ from (by rw [← hW]; exact ((W1.out.past (by omega)).past (by omega)) : OwnR x0.heap.size y1.heap.size x3 (dtLab x.taint) [.int .i64 x.taint.base, .slice B0 m0 d0]))
  clear W1
  have W1 := W1'
  clear W1'
  have W2' := Lib.hid (show _ from (by rw [← hW]; exact ((W2.out.past (by omega)).past (by omega)) : OwnR x1.heap.size y2.heap.size x3 (dtLab x.clear) [.int .i64 x.clear.base, .slice B1 m1 d1]))
  clear W2
  have W2 := W2'
  clear W2'
  have W3' := Lib.hid (show _ from (by rw [← hW]; exact ((W3.out.past (by omega)).past (by omega)) : OwnR x2.heap.size y3.heap.size x3 (dtLab x.raise) [.int .i64 x.raise.base, .slice B2 m2 d2]))
  clear W3
  have W3 := W3'
  clear W3'
  have bel' : Below w.heap.size w x3 := by rw [← hW]; exact ((bel.setCell (by simp only []; omega) _).setCell (by simp only []; omega) _)
  have hlo' : w.heap.size + 1 + 1 < x3.heap.size := by rw [← hW]; simpa using hlo
  have hsxx3 : x3.heap.size = y3.heap.size := by rw [← hW]; simp
  clear hW PB RB OB bel hlo oc4 of4 oc5 of5 pc6 pc7
  have PB := PB'
  have RB := RB'
  have OB := OB'
  have bel := bel'
  have hlo := hlo'
  clear PB' RB' OB' bel' hlo'
  refine (toD_lab (H3.out.below bel) S3).mono ?_
  rintro e y4 ⟨uv, rfl, own, hb⟩
  obtain ⟨B3, m3, d3, rfl⟩ := shp_lab own.rd
  have W1' : Hid (OwnR x0.heap.size y1.heap.size y4 (dtLab x.taint) [.int .i64 x.taint.base, .slice B0 m0 d0]) := Lib.hid (W1.out.below hb)
  clear W1
  have W1 := W1'
  clear W1'
  have W2' : Hid (OwnR x1.heap.size y2.heap.size y4 (dtLab x.clear) [.int .i64 x.clear.base, .slice B1 m1 d1]) := Lib.hid (W2.out.below hb)
  clear W2
  have W2 := W2'
  clear W2'
  have W3' : Hid (OwnR x2.heap.size y3.heap.size y4 (dtLab x.raise) [.int .i64 x.raise.base, .slice B2 m2 d2]) := Lib.hid (W3.out.below hb)
  clear W3
  have W3 := W3'
  clear W3'
  have W4 : Hid (OwnR x3.heap.size y4.heap.size y4 (dtLab x.verify) [.int .i64 x.verify.base, .slice B3 m3 d3]) := Lib.hid own.r
  have PB' := Lib.hid (PB.out.below hb)
  have RB' := Lib.hid (RB.out.below hb)
  have OB' := Lib.hid (OB.out.below hb)
  have bel' := below_more bel hb
  have hxy4 : x3.heap.size ≤ y4.heap.size := hb.size
  have hlo' : w.heap.size + 1 + 1 < y4.heap.size := by omega
  clear PB RB OB bel hlo hb own
  have PB := PB'
  have RB := RB'
  have OB := OB'
  have bel := bel'
  have hlo := hlo'
  clear PB' RB' OB' bel' hlo'
  have oc6 := OB.out.cell 6 rfl
  have of6 := OB.out.free 6
  have oc7 := OB.out.cell 7 rfl
  have of7 := OB.out.free 7
  go_upto_region 6 with fail
  generalize hW : ((y4).setCell ⟨w.heap.size + 1 + 1, 6, none⟩ (.int .i64 x.verify.base)).setCell ⟨w.heap.size + 1 + 1, 7, none⟩ (.slice B3 m3 d3) = x4
  have PB' : Hid (Box x4 (w.heap.size) [.int .i64 x.taint.base, .slice A0 n0 c0, .int .i64 x.clear.base, .slice A1 n1 c1, .int .i64 x.raise.base, .slice A2 n2 c2, .int .i64 x.verify.base, .slice A3 n3 c3]) := Lib.hid (by rw [← hW]; exact ((PB.out.far (by omega)).far (by omega)))
  have RB' : Hid (Box x4 (w.heap.size + 1) [.int .i64 0, .slice none 0 0, .int .i64 0, .slice none 0 0, .int .i64 0, .slice none 0 0, .int .i64 0, .slice none 0 0]) := Lib.hid (by rw [← hW]; exact ((RB.out.far (by omega)).far (by omega)))
  have OB' : Hid (Box x4 (w.heap.size + 1 + 1) [.int .i64 x.taint.base, .slice B0 m0 d0, .int .i64 x.clear.base, .slice B1 m1 d1, .int .i64 x.raise.base, .slice B2 m2 d2, .int .i64 x.verify.base, .slice B3 m3 d3]) := Lib.hid (by rw [← hW]; exact ((OB.out.set (by simp)).set (by simp)))
  have W1' := Lib.hid (show _ from (by rw [← hW]; exact ((W1.out.past (by omega)).past (by omega)) : OwnR x0.heap.size y1.heap.size x4 (dtLab x.taint) [.int .i64 x.taint.base, .slice B0 m0 d0]))
  clear W1
  have W1 := W1'
  clear W1'
  have W2' := Lib.hid (show _ from (by rw [← hW]; exact ((W2.out.past (by omega)).past (by omega)) : OwnR x1.heap.size y2.heap.size x4 (dtLab x.clear) [.int .i64 x.clear.base, .slice B1 m1 d1]))
  clear W2
  have W2 := W2'
  clear W2'
  have W3' := Lib.hid (show _ from (by rw [← hW]; exact ((W3.out.past (by omega)).past (by omega)) : OwnR x2.heap.size y3.heap.size x4 (dtLab x.raise) [.int .i64 x.raise.base, .slice B2 m2 d2]))
  clear W3
  have W3 := W3'
  clear W3'
  have W4' := Lib.hid (show _ from (by rw [← hW]; exact ((W4.out.past (by omega)).past (by omega)) : OwnR x3.heap.size y4.heap.size x4 (dtLab x.verify) [.int .i64 x.verify.base, .slice B3 m3 d3]))
  clear W4
  have W4 := W4'
  clear W4'
  have bel' : Below w.heap.size w x4 := by rw [← hW]; exact ((bel.setCell (by simp only []; omega) _).setCell (by simp only []; omega) _)
  have hlo' : w.heap.size + 1 + 1 < x4.heap.size := by rw [← hW]; simpa using hlo
  have hsxx4 : x4.heap.size = y4.heap.size := by rw [← hW]; simp
  clear hW PB RB OB bel hlo oc6 of6 oc7 of7
  have PB := PB'
  have RB := RB'
  have OB := OB'
  have bel := bel'
  have hlo := hlo'
  clear PB' RB' OB' bel' hlo'
  have rc0 := RB.out.cell 0 rfl
  have rf0 := RB.out.free 0
  have oc0 := OB.out.cell 0 rfl
  have rc1 := RB.out.cell 1 rfl
  have rf1 := RB.out.free 1
  have oc1 := OB.out.cell 1 rfl
  have rc2 := RB.out.cell 2 rfl
  have rf2 := RB.out.free 2
  have oc2 := OB.out.cell 2 rfl
  have rc3 := RB.out.cell 3 rfl
  have rf3 := RB.out.free 3
  have oc3 := OB.out.cell 3 rfl
  have rc4 := RB.out.cell 4 rfl
  have rf4 := RB.out.free 4
  have oc4 := OB.out.cell 4 rfl
  have rc5 := RB.out.cell 5 rfl
  have rf5 := RB.out.free 5
  have oc5 := OB.out.cell 5 rfl
  have rc6 := RB.out.cell 6 rfl
  have rf6 := RB.out.free 6
  have oc6 := OB.out.cell 6 rfl
  have rc7 := RB.out.cell 7 rfl
  have rf7 := RB.out.free 7
  have oc7 := OB.out.cell 7 rfl
  go_wp2
  refine bodyPost_ret (v := .agg #[.int .i64 x.taint.base, .slice B0 m0 d0, .int .i64 x.clear.base, .slice B1 m1 d1, .int .i64 x.raise.base, .slice B2 m2 d2, .int .i64 x.verify.base, .slice B3 m3 d3]) (by simp [results, Try.results30, go_sem, rc0, rc1, rc2, rc3, rc4, rc5, rc6, rc7]) rfl ?_
  change RetD (dtTm x) w _ (putRow x4 (w.heap.size + 1) 0 [.int .i64 x.taint.base, .slice B0 m0 d0, .int .i64 x.clear.base, .slice B1 m1 d1, .int .i64 x.raise.base, .slice B2 m2 d2, .int .i64 x.verify.base, .slice B3 m3 d3])
  have hlo2 : w.heap.size + 1 < x0.heap.size := by omega
  exact ⟨[.int .i64 x.taint.base, .slice B0 m0 d0, .int .i64 x.clear.base, .slice B1 m1 d1, .int .i64 x.raise.base, .slice B2 m2 d2, .int .i64 x.verify.base, .slice B3 m3 d3], rfl, OwnR.own (lo := x0.heap.size) (hi := y4.heap.size) ((((OwnR.putRow [.int .i64 x.taint.base, .slice B0 m0 d0, .int .i64 x.clear.base, .slice B1 m1 d1, .int .i64 x.raise.base, .slice B2 m2 d2, .int .i64 x.verify.base, .slice B3 m3 d3] W1.out (by omega))).wide (lo' := x0.heap.size) (hi' := x1.heap.size) (by omega) (by omega)).beside ((((OwnR.putRow [.int .i64 x.taint.base, .slice B0 m0 d0, .int .i64 x.clear.base, .slice B1 m1 d1, .int .i64 x.raise.base, .slice B2 m2 d2, .int .i64 x.verify.base, .slice B3 m3 d3] W2.out (by omega))).wide (lo' := x1.heap.size) (hi' := x2.heap.size) (by omega) (by omega)).beside ((((OwnR.putRow [.int .i64 x.taint.base, .slice B0 m0 d0, .int .i64 x.clear.base, .slice B1 m1 d1, .int .i64 x.raise.base, .slice B2 m2 d2, .int .i64 x.verify.base, .slice B3 m3 d3] W3.out (by omega))).wide (lo' := x2.heap.size) (hi' := x3.heap.size) (by omega) (by omega)).beside ((OwnR.putRow [.int .i64 x.taint.base, .slice B0 m0 d0, .int .i64 x.clear.base, .slice B1 m1 d1, .int .i64 x.raise.base, .slice B2 m2 d2, .int .i64 x.verify.base, .slice B3 m3 d3] W4.out (by omega))) (by omega) (by omega)) (by omega) (by omega)) (by omega) (by omega)) (by omega), below_putRow _ bel (by omega)⟩
set_option maxHeartbeats 4000000 in
theorem szD_tm {us : List Value} {x : Tm} {w : World} {left : Int} (h : Rds w (dtTm x) us) (h0 : 0 ≤ left) (h1 : left ≤ 1048576) : Calls Try.prog 24 #[.agg us.toArray, .int .i64 left] w (RetV (.int .i64 (lft left (tmSz x))) w) := by
  unfold dtTm at h
  obtain ⟨uf, us, rfl, hf0, hg1⟩ := h.split
  clear h
  obtain ⟨A0, n0, c0, rfl⟩ := shp_lab hf0
  have H0 := Lib.hid hf0
  clear hf0
  obtain ⟨uf, us, rfl, hf1, hg2⟩ := hg1.split
  clear hg1
  obtain ⟨A1, n1, c1, rfl⟩ := shp_lab hf1
  have H1 := Lib.hid hf1
  clear hf1
  obtain ⟨uf, us, rfl, hf2, hg3⟩ := hg2.split
  clear hg2
  obtain ⟨A2, n2, c2, rfl⟩ := shp_lab hf2
  have H2 := Lib.hid hf2
  clear hf2
  obtain ⟨A3, n3, c3, rfl⟩ := shp_lab hg3
  have H3 := Lib.hid hg3
  clear hg3
  simp only [List.cons_append, List.nil_append]
  have HZ : Hid (tmSz x = x.taint.parts.length + x.clear.parts.length + x.raise.parts.length + x.verify.parts.length) := Lib.hid rfl
  by_cases e0 : left < (x.taint.parts.length : Nat)
  · skip
    have HR : Hid (lft left (tmSz x) = -1) := Lib.hid (by rw [HZ.out, lft_no (by omega)])
    have HL0 := Lib.hid (lft_no e0)
    go_enter Try.func24, Try.ntmps24
    go_wp2_with fail
    generalize hW : w.alloc (.cells #[.int .i64 x.taint.base, .slice A0 n0 c0, .int .i64 x.clear.base, .slice A1 n1 c1, .int .i64 x.raise.base, .slice A2 n2 c2, .int .i64 x.verify.base, .slice A3 n3 c3] 26) = x0
    obtain ⟨pb, hsz, bel⟩ := laid1 (ps := [.int .i64 x.taint.base, .slice A0 n0 c0, .int .i64 x.clear.base, .slice A1 n1 c1, .int .i64 x.raise.base, .slice A2 n2 c2, .int .i64 x.verify.base, .slice A3 n3 c3]) hW
    have PB := Lib.hid pb
    clear hW pb hsz
    refine (szD_lab (H0.out.below bel) (by omega) (by omega)).mono ?_
    rintro e y0 ⟨rfl, hb⟩
    rw [HL0.out]
    have PB' := Lib.hid (PB.out.below hb)
    have bel' := below_more bel hb
    clear PB bel hb 
    have PB := PB'
    have bel := bel'
    clear PB' bel'
    have pc2 := PB.out.cell 2 rfl
    have pc3 := PB.out.cell 3 rfl
    go_wp2
    go_ret
    exact .mk (by rw [HR.out]; rfl) bel
  by_cases e1 : left - (x.taint.parts.length : Nat) < (x.clear.parts.length : Nat)
  · skip
    have HR : Hid (lft left (tmSz x) = -1) := Lib.hid (by rw [HZ.out, lft_no (by omega)])
    have HL0 := Lib.hid (lft_yes (show ((x.taint.parts.length : Nat) : Int) ≤ left by omega))
    have g0 : ¬ left - (x.taint.parts.length : Nat) < 0 := by omega
    have HL1 := Lib.hid (lft_no e1)
    go_enter Try.func24, Try.ntmps24
    go_wp2_with fail
    generalize hW : w.alloc (.cells #[.int .i64 x.taint.base, .slice A0 n0 c0, .int .i64 x.clear.base, .slice A1 n1 c1, .int .i64 x.raise.base, .slice A2 n2 c2, .int .i64 x.verify.base, .slice A3 n3 c3] 26) = x0
    obtain ⟨pb, hsz, bel⟩ := laid1 (ps := [.int .i64 x.taint.base, .slice A0 n0 c0, .int .i64 x.clear.base, .slice A1 n1 c1, .int .i64 x.raise.base, .slice A2 n2 c2, .int .i64 x.verify.base, .slice A3 n3 c3]) hW
    have PB := Lib.hid pb
    clear hW pb hsz
    refine (szD_lab (H0.out.below bel) (by omega) (by omega)).mono ?_
    rintro e y0 ⟨rfl, hb⟩
    rw [HL0.out]
    have PB' := Lib.hid (PB.out.below hb)
    have bel' := below_more bel hb
    clear PB bel hb 
    have PB := PB'
    have bel := bel'
    clear PB' bel'
    have pc2 := PB.out.cell 2 rfl
    have pc3 := PB.out.cell 3 rfl
    go_wp2_with fail
    refine (szD_lab (H1.out.below bel) (by omega) (by omega)).mono ?_
    rintro e y1 ⟨rfl, hb⟩
    rw [HL1.out]
    have PB' := Lib.hid (PB.out.below hb)
    have bel' := below_more bel hb
    clear PB bel hb pc2 pc3
    have PB := PB'
    have bel := bel'
    clear PB' bel'
    have pc4 := PB.out.cell 4 rfl
    have pc5 := PB.out.cell 5 rfl
    go_wp2
    go_ret
    exact .mk (by rw [HR.out]; rfl) bel
  by_cases e2 : left - (x.taint.parts.length : Nat) - (x.clear.parts.length : Nat) < (x.raise.parts.length : Nat)
  · skip
    have HR : Hid (lft left (tmSz x) = -1) := Lib.hid (by rw [HZ.out, lft_no (by omega)])
    have HL0 := Lib.hid (lft_yes (show ((x.taint.parts.length : Nat) : Int) ≤ left by omega))
    have g0 : ¬ left - (x.taint.parts.length : Nat) < 0 := by omega
    have HL1 := Lib.hid (lft_yes (show ((x.clear.parts.length : Nat) : Int) ≤ left - (x.taint.parts.length : Nat) by omega))
    have g1 : ¬ left - (x.taint.parts.length : Nat) - (x.clear.parts.length : Nat) < 0 := by omega
    have HL2 := Lib.hid (lft_no e2)
    go_enter Try.func24, Try.ntmps24
    go_wp2_with fail
    generalize hW : w.alloc (.cells #[.int .i64 x.taint.base, .slice A0 n0 c0, .int .i64 x.clear.base, .slice A1 n1 c1, .int .i64 x.raise.base, .slice A2 n2 c2, .int .i64 x.verify.base, .slice A3 n3 c3] 26) = x0
    obtain ⟨pb, hsz, bel⟩ := laid1 (ps := [.int .i64 x.taint.base, .slice A0 n0 c0, .int .i64 x.clear.base, .slice A1 n1 c1, .int .i64 x.raise.base, .slice A2 n2 c2, .int .i64 x.verify.base, .slice A3 n3 c3]) hW
    have PB := Lib.hid pb
    clear hW pb hsz
    refine (szD_lab (H0.out.below bel) (by omega) (by omega)).mono ?_
    rintro e y0 ⟨rfl, hb⟩
    rw [HL0.out]
    have PB' := Lib.hid (PB.out.below hb)
    have bel' := below_more bel hb
    clear PB bel hb 
    have PB := PB'
    have bel := bel'
    clear PB' bel'
    have pc2 := PB.out.cell 2 rfl
    have pc3 := PB.out.cell 3 rfl
    go_wp2_with fail
    refine (szD_lab (H1.out.below bel) (by omega) (by omega)).mono ?_
    rintro e y1 ⟨rfl, hb⟩
    rw [HL1.out]
    have PB' := Lib.hid (PB.out.below hb)
    have bel' := below_more bel hb
    clear PB bel hb pc2 pc3
    have PB := PB'
    have bel := bel'
    clear PB' bel'
    have pc4 := PB.out.cell 4 rfl
    have pc5 := PB.out.cell 5 rfl
    go_wp2_with fail
    refine (szD_lab (H2.out.below bel) (by omega) (by omega)).mono ?_
    rintro e y2 ⟨rfl, hb⟩
    rw [HL2.out]
    have PB' := Lib.hid (PB.out.below hb)
    have bel' := below_more bel hb
    clear PB bel hb pc4 pc5
    have PB := PB'
    have bel := bel'
    clear PB' bel'
    have pc6 := PB.out.cell 6 rfl
    have pc7 := PB.out.cell 7 rfl
    go_wp2
    go_ret
    exact .mk (by rw [HR.out]; rfl) bel
  by_cases e3 : left - (x.taint.parts.length : Nat) - (x.clear.parts.length : Nat) - (x.raise.parts.length : Nat) < (x.verify.parts.length : Nat)
  · skip
    have HR : Hid (lft left (tmSz x) = -1) := Lib.hid (by rw [HZ.out, lft_no (by omega)])
    have HL0 := Lib.hid (lft_yes (show ((x.taint.parts.length : Nat) : Int) ≤ left by omega))
    have g0 : ¬ left - (x.taint.parts.length : Nat) < 0 := by omega
    have HL1 := Lib.hid (lft_yes (show ((x.clear.parts.length : Nat) : Int) ≤ left - (x.taint.parts.length : Nat) by omega))
    have g1 : ¬ left - (x.taint.parts.length : Nat) - (x.clear.parts.length : Nat) < 0 := by omega
    have HL2 := Lib.hid (lft_yes (show ((x.raise.parts.length : Nat) : Int) ≤ left - (x.taint.parts.length : Nat) - (x.clear.parts.length : Nat) by omega))
    have g2 : ¬ left - (x.taint.parts.length : Nat) - (x.clear.parts.length : Nat) - (x.raise.parts.length : Nat) < 0 := by omega
    have HL3 := Lib.hid (lft_no e3)
    go_enter Try.func24, Try.ntmps24
    go_wp2_with fail
    generalize hW : w.alloc (.cells #[.int .i64 x.taint.base, .slice A0 n0 c0, .int .i64 x.clear.base, .slice A1 n1 c1, .int .i64 x.raise.base, .slice A2 n2 c2, .int .i64 x.verify.base, .slice A3 n3 c3] 26) = x0
    obtain ⟨pb, hsz, bel⟩ := laid1 (ps := [.int .i64 x.taint.base, .slice A0 n0 c0, .int .i64 x.clear.base, .slice A1 n1 c1, .int .i64 x.raise.base, .slice A2 n2 c2, .int .i64 x.verify.base, .slice A3 n3 c3]) hW
    have PB := Lib.hid pb
    clear hW pb hsz
    refine (szD_lab (H0.out.below bel) (by omega) (by omega)).mono ?_
    rintro e y0 ⟨rfl, hb⟩
    rw [HL0.out]
    have PB' := Lib.hid (PB.out.below hb)
    have bel' := below_more bel hb
    clear PB bel hb 
    have PB := PB'
    have bel := bel'
    clear PB' bel'
    have pc2 := PB.out.cell 2 rfl
    have pc3 := PB.out.cell 3 rfl
    go_wp2_with fail
    refine (szD_lab (H1.out.below bel) (by omega) (by omega)).mono ?_
    rintro e y1 ⟨rfl, hb⟩
    rw [HL1.out]
    have PB' := Lib.hid (PB.out.below hb)
    have bel' := below_more bel hb
    clear PB bel hb pc2 pc3
    have PB := PB'
    have bel := bel'
    clear PB' bel'
    have pc4 := PB.out.cell 4 rfl
    have pc5 := PB.out.cell 5 rfl
    go_wp2_with fail
    refine (szD_lab (H2.out.below bel) (by omega) (by omega)).mono ?_
    rintro e y2 ⟨rfl, hb⟩
    rw [HL2.out]
    have PB' := Lib.hid (PB.out.below hb)
    have bel' := below_more bel hb
    clear PB bel hb pc4 pc5
    have PB := PB'
    have bel := bel'
    clear PB' bel'
    have pc6 := PB.out.cell 6 rfl
    have pc7 := PB.out.cell 7 rfl
    go_wp2_with fail
    refine (szD_lab (H3.out.below bel) (by omega) (by omega)).mono ?_
    rintro e y3 ⟨rfl, hb⟩
    rw [HL3.out]
    have PB' := Lib.hid (PB.out.below hb)
    have bel' := below_more bel hb
    clear PB bel hb pc6 pc7
    have PB := PB'
    have bel := bel'
    clear PB' bel'
    go_wp2
    go_ret
    exact .mk (by rw [HR.out]; rfl) bel
  have HR : Hid (lft left (tmSz x) = left - (x.taint.parts.length : Nat) - (x.clear.parts.length : Nat) - (x.raise.parts.length : Nat) - (x.verify.parts.length : Nat)) := Lib.hid (by rw [HZ.out, lft_yes (by omega)]; omega)
  have HL0 := Lib.hid (lft_yes (show ((x.taint.parts.length : Nat) : Int) ≤ left by omega))
  have g0 : ¬ left - (x.taint.parts.length : Nat) < 0 := by omega
  have HL1 := Lib.hid (lft_yes (show ((x.clear.parts.length : Nat) : Int) ≤ left - (x.taint.parts.length : Nat) by omega))
  have g1 : ¬ left - (x.taint.parts.length : Nat) - (x.clear.parts.length : Nat) < 0 := by omega
  have HL2 := Lib.hid (lft_yes (show ((x.raise.parts.length : Nat) : Int) ≤ left - (x.taint.parts.length : Nat) - (x.clear.parts.length : Nat) by omega))
  have g2 : ¬ left - (x.taint.parts.length : Nat) - (x.clear.parts.length : Nat) - (x.raise.parts.length : Nat) < 0 := by omega
  have HL3 := Lib.hid (lft_yes (show ((x.verify.parts.length : Nat) : Int) ≤ left - (x.taint.parts.length : Nat) - (x.clear.parts.length : Nat) - (x.raise.parts.length : Nat) by omega))
  have g3 : ¬ left - (x.taint.parts.length : Nat) - (x.clear.parts.length : Nat) - (x.raise.parts.length : Nat) - (x.verify.parts.length : Nat) < 0 := by omega
  go_enter Try.func24, Try.ntmps24
  go_wp2_with fail
  generalize hW : w.alloc (.cells #[.int .i64 x.taint.base, .slice A0 n0 c0, .int .i64 x.clear.base, .slice A1 n1 c1, .int .i64 x.raise.base, .slice A2 n2 c2, .int .i64 x.verify.base, .slice A3 n3 c3] 26) = x0
  obtain ⟨pb, hsz, bel⟩ := laid1 (ps := [.int .i64 x.taint.base, .slice A0 n0 c0, .int .i64 x.clear.base, .slice A1 n1 c1, .int .i64 x.raise.base, .slice A2 n2 c2, .int .i64 x.verify.base, .slice A3 n3 c3]) hW
  have PB := Lib.hid pb
  clear hW pb hsz
  refine (szD_lab (H0.out.below bel) (by omega) (by omega)).mono ?_
  rintro e y0 ⟨rfl, hb⟩
  rw [HL0.out]
  have PB' := Lib.hid (PB.out.below hb)
  have bel' := below_more bel hb
  clear PB bel hb 
  have PB := PB'
  have bel := bel'
  clear PB' bel'
  have pc2 := PB.out.cell 2 rfl
  have pc3 := PB.out.cell 3 rfl
  go_wp2_with fail
  refine (szD_lab (H1.out.below bel) (by omega) (by omega)).mono ?_
  rintro e y1 ⟨rfl, hb⟩
  rw [HL1.out]
  have PB' := Lib.hid (PB.out.below hb)
  have bel' := below_more bel hb
  clear PB bel hb pc2 pc3
  have PB := PB'
  have bel := bel'
  clear PB' bel'
  have pc4 := PB.out.cell 4 rfl
  have pc5 := PB.out.cell 5 rfl
  go_wp2_with fail
  refine (szD_lab (H2.out.below bel) (by omega) (by omega)).mono ?_
  rintro e y2 ⟨rfl, hb⟩
  rw [HL2.out]
  have PB' := Lib.hid (PB.out.below hb)
  have bel' := below_more bel hb
  clear PB bel hb pc4 pc5
  have PB := PB'
  have bel := bel'
  clear PB' bel'
  have pc6 := PB.out.cell 6 rfl
  have pc7 := PB.out.cell 7 rfl
  go_wp2_with fail
  refine (szD_lab (H3.out.below bel) (by omega) (by omega)).mono ?_
  rintro e y3 ⟨rfl, hb⟩
  rw [HL3.out]
  have PB' := Lib.hid (PB.out.below hb)
  have bel' := below_more bel hb
  clear PB bel hb pc6 pc7
  have PB := PB'
  have bel := bel'
  clear PB' bel'
  go_wp2
  go_ret
  exact .mk (by rw [HR.out]; rfl) bel
set_option maxHeartbeats 4000000 in
theorem eqD_tm {us vs : List Value} {x : Tm} {w : World} (h : Rds w (dtTm x) us) (k : Rds w (dtTm x) vs) (hf : tmSz x ≤ 1048576) : Calls Try.prog 33 #[.agg us.toArray, .agg vs.toArray] w (RetV (.bool true) w) := by
  unfold tmSz at hf
  have S0 : x.taint.parts.length ≤ 1048576 := by omega
  have S1 : x.clear.parts.length ≤ 1048576 := by omega
  have S2 : x.raise.parts.length ≤ 1048576 := by omega
  have S3 : x.verify.parts.length ≤ 1048576 := by omega
  unfold dtTm at h
  obtain ⟨uf, us, rfl, hf0, hg1⟩ := h.split
  clear h
  obtain ⟨A0, n0, c0, rfl⟩ := shp_lab hf0
  have H0 := Lib.hid hf0
  clear hf0
  obtain ⟨uf, us, rfl, hf1, hg2⟩ := hg1.split
  clear hg1
  obtain ⟨A1, n1, c1, rfl⟩ := shp_lab hf1
  have H1 := Lib.hid hf1
  clear hf1
  obtain ⟨uf, us, rfl, hf2, hg3⟩ := hg2.split
  clear hg2
  obtain ⟨A2, n2, c2, rfl⟩ := shp_lab hf2
  have H2 := Lib.hid hf2
  clear hf2
  obtain ⟨A3, n3, c3, rfl⟩ := shp_lab hg3
  have H3 := Lib.hid hg3
  clear hg3
  simp only [List.cons_append, List.nil_append]
  unfold dtTm at k
  obtain ⟨uf, us, rfl, hf0, kg1⟩ := k.split
  clear k
  obtain ⟨B0, m0, d0, rfl⟩ := shp_lab hf0
  have K0 := Lib.hid hf0
  clear hf0
  obtain ⟨uf, us, rfl, hf1, kg2⟩ := kg1.split
  clear kg1
  obtain ⟨B1, m1, d1, rfl⟩ := shp_lab hf1
  have K1 := Lib.hid hf1
  clear hf1
  obtain ⟨uf, us, rfl, hf2, kg3⟩ := kg2.split
  clear kg2
  obtain ⟨B2, m2, d2, rfl⟩ := shp_lab hf2
  have K2 := Lib.hid hf2
  clear hf2
  obtain ⟨B3, m3, d3, rfl⟩ := shp_lab kg3
  have K3 := Lib.hid kg3
  clear kg3
  simp only [List.cons_append, List.nil_append]
  go_enter Try.func33, Try.ntmps33
  go_wp2_with fail
  generalize hW : (w.alloc (.cells #[.int .i64 x.taint.base, .slice A0 n0 c0, .int .i64 x.clear.base, .slice A1 n1 c1, .int .i64 x.raise.base, .slice A2 n2 c2, .int .i64 x.verify.base, .slice A3 n3 c3] 35)).alloc (.cells #[.int .i64 x.taint.base, .slice B0 m0 d0, .int .i64 x.clear.base, .slice B1 m1 d1, .int .i64 x.raise.base, .slice B2 m2 d2, .int .i64 x.verify.base, .slice B3 m3 d3] 35) = x0
  obtain ⟨pb, qb, hsz, bel⟩ := laid2 (ps := [.int .i64 x.taint.base, .slice A0 n0 c0, .int .i64 x.clear.base, .slice A1 n1 c1, .int .i64 x.raise.base, .slice A2 n2 c2, .int .i64 x.verify.base, .slice A3 n3 c3]) (rs := [.int .i64 x.taint.base, .slice B0 m0 d0, .int .i64 x.clear.base, .slice B1 m1 d1, .int .i64 x.raise.base, .slice B2 m2 d2, .int .i64 x.verify.base, .slice B3 m3 d3]) hW
  have PB := Lib.hid pb
  have QB := Lib.hid qb
  clear hW pb qb hsz
  refine (eqD_lab (H0.out.below bel) (K0.out.below bel) S0).mono ?_
  rintro e y0 ⟨rfl, hb⟩
  have PB' := Lib.hid (PB.out.below hb)
  have QB' := Lib.hid (QB.out.below hb)
  have bel' := below_more bel hb
  clear PB QB bel hb 
  have PB := PB'
  have QB := QB'
  have bel := bel'
  clear PB' QB' bel'
  have pc2 := PB.out.cell 2 rfl
  have pc3 := PB.out.cell 3 rfl
  have qc2 := QB.out.cell 2 rfl
  have qc3 := QB.out.cell 3 rfl
  go_wp2_with fail
  refine (eqD_lab (H1.out.below bel) (K1.out.below bel) S1).mono ?_
  rintro e y1 ⟨rfl, hb⟩
  have PB' := Lib.hid (PB.out.below hb)
  have QB' := Lib.hid (QB.out.below hb)
  have bel' := below_more bel hb
  clear PB QB bel hb pc2 pc3 qc2 qc3
  have PB := PB'
  have QB := QB'
  have bel := bel'
  clear PB' QB' bel'
  have pc4 := PB.out.cell 4 rfl
  have pc5 := PB.out.cell 5 rfl
  have qc4 := QB.out.cell 4 rfl
  have qc5 := QB.out.cell 5 rfl
  go_wp2_with fail
  refine (eqD_lab (H2.out.below bel) (K2.out.below bel) S2).mono ?_
  rintro e y2 ⟨rfl, hb⟩
  have PB' := Lib.hid (PB.out.below hb)
  have QB' := Lib.hid (QB.out.below hb)
  have bel' := below_more bel hb
  clear PB QB bel hb pc4 pc5 qc4 qc5
  have PB := PB'
  have QB := QB'
  have bel := bel'
  clear PB' QB' bel'
  have pc6 := PB.out.cell 6 rfl
  have pc7 := PB.out.cell 7 rfl
  have qc6 := QB.out.cell 6 rfl
  have qc7 := QB.out.cell 7 rfl
  go_wp2_with fail
  refine (eqD_lab (H3.out.below bel) (K3.out.below bel) S3).mono ?_
  rintro e y3 ⟨rfl, hb⟩
  have PB' := Lib.hid (PB.out.below hb)
  have QB' := Lib.hid (QB.out.below hb)
  have bel' := below_more bel hb
  clear PB QB bel hb pc6 pc7 qc6 qc7
  have PB := PB'
  have QB := QB'
  have bel := bel'
  clear PB' QB' bel'
  go_wp2
  go_ret
  exact .mk rfl bel
theorem cntt_le_tm (x : Tm) : cntt (dtTm x) ≤ 40 * tmSz x := by
  have b0 : cntt (dtLab x.taint) ≤ 40 * (x.taint.parts.length) := cntt_lab_le _
  have b1 : cntt (dtLab x.clear) ≤ 40 * (x.clear.parts.length) := cntt_lab_le _
  have b2 : cntt (dtLab x.raise) ≤ 40 * (x.raise.parts.length) := cntt_lab_le _
  have b3 : cntt (dtLab x.verify) ≤ 40 * (x.verify.parts.length) := cntt_lab_le _
  unfold dtTm tmSz
  simp only [cntt_append]
  omega
end Go.Proofs.Ytnpeojlhjbdjiaa

/-
  Msg as data, and the laws' helpers on it.
-/
namespace Go.Proofs.Ytnpeojlhjbdjiaa
set_option maxRecDepth 100000
open Go.RowKit

/-- Msg. -/
structure Ms where
  frm : Int
  value : Int
  eff : Lab
  terms : Tm
def dtMs (x : Ms) : List Dt := .num x.frm :: (.num x.value :: (dtLab x.eff ++ (dtTm x.terms)))
theorem dtMs_len (x : Ms) : (dtMs x).length = 12 := rfl
def msSz (x : Ms) : Nat := x.eff.parts.length + tmSz x.terms
theorem shp_ms {w : World} {us : List Value} {x : Ms} (h : Rds w (dtMs x) us) : ∃ (A0 : Option Addr) (n0 c0 : Nat) (A1 : Option Addr) (n1 c1 : Nat) (A2 : Option Addr) (n2 c2 : Nat) (A3 : Option Addr) (n3 c3 : Nat) (A4 : Option Addr) (n4 c4 : Nat), us = [.int .i64 x.frm, .int .i64 x.value, .int .i64 x.eff.base, .slice A0 n0 c0, .int .i64 x.terms.taint.base, .slice A1 n1 c1, .int .i64 x.terms.clear.base, .slice A2 n2 c2, .int .i64 x.terms.raise.base, .slice A3 n3 c3, .int .i64 x.terms.verify.base, .slice A4 n4 c4] := by
  simp only [dtMs, dtTm, dtLab, List.cons_append, List.nil_append] at h
  obtain ⟨us, rfl, h1⟩ := h.num
  obtain ⟨us, rfl, h2⟩ := h1.num
  obtain ⟨us, rfl, h3⟩ := h2.num
  obtain ⟨A0, n0, c0, us, rfl, -, h4⟩ := h3.row
  obtain ⟨us, rfl, h5⟩ := h4.num
  obtain ⟨A1, n1, c1, us, rfl, -, h6⟩ := h5.row
  obtain ⟨us, rfl, h7⟩ := h6.num
  obtain ⟨A2, n2, c2, us, rfl, -, h8⟩ := h7.row
  obtain ⟨us, rfl, h9⟩ := h8.num
  obtain ⟨A3, n3, c3, us, rfl, -, h10⟩ := h9.row
  obtain ⟨us, rfl, h11⟩ := h10.num
  obtain ⟨A4, n4, c4, us, rfl, -, h12⟩ := h11.row
  obtain rfl := h12.nil
  exact ⟨A0, n0, c0, A1, n1, c1, A2, n2, c2, A3, n3, c3, A4, n4, c4, rfl⟩
theorem shpm_ms {w : World} {us : List Value} {x : Ms} {k : Int} (h : Rds w (mkt k (dtMs x)) us) : ∃ (A0 : Option Addr) (n0 c0 : Nat) (A1 : Option Addr) (n1 c1 : Nat) (A2 : Option Addr) (n2 c2 : Nat) (A3 : Option Addr) (n3 c3 : Nat) (A4 : Option Addr) (n4 c4 : Nat), us = [.int .i64 x.frm, .int .i64 x.value, .int .i64 x.eff.base, .slice A0 n0 c0, .int .i64 x.terms.taint.base, .slice A1 n1 c1, .int .i64 x.terms.clear.base, .slice A2 n2 c2, .int .i64 x.terms.raise.base, .slice A3 n3 c3, .int .i64 x.terms.verify.base, .slice A4 n4 c4] := by
  simp only [dtMs, dtTm, dtLab, List.cons_append, mkt, List.nil_append] at h
  obtain ⟨us, rfl, h1⟩ := h.num
  obtain ⟨us, rfl, h2⟩ := h1.num
  obtain ⟨us, rfl, h3⟩ := h2.num
  obtain ⟨A0, n0, c0, us, rfl, -, h4⟩ := h3.row
  obtain ⟨us, rfl, h5⟩ := h4.num
  obtain ⟨A1, n1, c1, us, rfl, -, h6⟩ := h5.row
  obtain ⟨us, rfl, h7⟩ := h6.num
  obtain ⟨A2, n2, c2, us, rfl, -, h8⟩ := h7.row
  obtain ⟨us, rfl, h9⟩ := h8.num
  obtain ⟨A3, n3, c3, us, rfl, -, h10⟩ := h9.row
  obtain ⟨us, rfl, h11⟩ := h10.num
  obtain ⟨A4, n4, c4, us, rfl, -, h12⟩ := h11.row
  obtain rfl := h12.nil
  exact ⟨A0, n0, c0, A1, n1, c1, A2, n2, c2, A3, n3, c3, A4, n4, c4, rfl⟩
set_option maxHeartbeats 8000000 in
theorem toD_ms {us : List Value} {x : Ms} {w : World} (h : Rds w (dtMs x) us) (hf : msSz x ≤ 1048576) : Calls Try.prog 9 #[.agg us.toArray] w (RetD (dtMs x) w) := by
  unfold dtMs at h
  obtain ⟨us, rfl, hg1⟩ := h.num
  clear h
  obtain ⟨us, rfl, hg2⟩ := hg1.num
  clear hg1
  obtain ⟨uf, us, rfl, hf2, hg3⟩ := hg2.split
  clear hg2
  obtain ⟨A0, n0, c0, rfl⟩ := shp_lab hf2
  have H2 := Lib.hid hf2
  clear hf2
  obtain ⟨A1, n1, c1, A2, n2, c2, A3, n3, c3, A4, n4, c4, rfl⟩ := shp_tm hg3
  have H3 := Lib.hid hg3
  clear hg3
  simp only [List.cons_append, List.nil_append]
  unfold msSz at hf
  have S2 : x.eff.parts.length ≤ 1048576 := by omega
  have S3 : tmSz x.terms ≤ 1048576 := by omega
  go_enter Try.func9, Try.ntmps9
  go_wp2_with fail
  generalize hW : ((w.alloc (.cells #[.int .i64 x.frm, .int .i64 x.value, .int .i64 x.eff.base, .slice A0 n0 c0, .int .i64 x.terms.taint.base, .slice A1 n1 c1, .int .i64 x.terms.clear.base, .slice A2 n2 c2, .int .i64 x.terms.raise.base, .slice A3 n3 c3, .int .i64 x.terms.verify.base, .slice A4 n4 c4] 28)).alloc (.cells #[.int .i64 0, .int .i64 0, .int .i64 0, .slice none 0 0, .int .i64 0, .slice none 0 0, .int .i64 0, .slice none 0 0, .int .i64 0, .slice none 0 0, .int .i64 0, .slice none 0 0] 37)).alloc (.cells #[.int .i64 x.frm, .int .i64 x.value, .int .i64 0, .slice none 0 0, .int .i64 0, .slice none 0 0, .int .i64 0, .slice none 0 0, .int .i64 0, .slice none 0 0, .int .i64 0, .slice none 0 0] 37) = x0
  obtain ⟨pb, rb, ob, hsz, bel⟩ := laid3 (ps := [.int .i64 x.frm, .int .i64 x.value, .int .i64 x.eff.base, .slice A0 n0 c0, .int .i64 x.terms.taint.base, .slice A1 n1 c1, .int .i64 x.terms.clear.base, .slice A2 n2 c2, .int .i64 x.terms.raise.base, .slice A3 n3 c3, .int .i64 x.terms.verify.base, .slice A4 n4 c4]) (rs := [.int .i64 0, .int .i64 0, .int .i64 0, .slice none 0 0, .int .i64 0, .slice none 0 0, .int .i64 0, .slice none 0 0, .int .i64 0, .slice none 0 0, .int .i64 0, .slice none 0 0]) (os := [.int .i64 x.frm, .int .i64 x.value, .int .i64 0, .slice none 0 0, .int .i64 0, .slice none 0 0, .int .i64 0, .slice none 0 0, .int .i64 0, .slice none 0 0, .int .i64 0, .slice none 0 0]) hW
  have PB := Lib.hid pb
  have RB := Lib.hid rb
  have OB := Lib.hid ob
  have hlo : w.heap.size + 1 + 1 < x0.heap.size := by omega
  clear hW pb rb ob
  refine (toD_lab (H2.out.below bel) S2).mono ?_
  rintro e y1 ⟨uv, rfl, own, hb⟩
  obtain ⟨B0, m0, d0, rfl⟩ := shp_lab own.rd
  have W1 : Hid (OwnR x0.heap.size y1.heap.size y1 (dtLab x.eff) [.int .i64 x.eff.base, .slice B0 m0 d0]) := Lib.hid own.r
  have PB' := Lib.hid (PB.out.below hb)
  have RB' := Lib.hid (RB.out.below hb)
  have OB' := Lib.hid (OB.out.below hb)
  have bel' := below_more bel hb
  have hxy1 : x0.heap.size ≤ y1.heap.size := hb.size
  have hlo' : w.heap.size + 1 + 1 < y1.heap.size := by omega
  clear PB RB OB bel hlo hb own
  have PB := PB'
  have RB := RB'
  have OB := OB'
  have bel := bel'
  have hlo := hlo'
  clear PB' RB' OB' bel' hlo'
  have oc2 := OB.out.cell 2 rfl
  have of2 := OB.out.free 2
  have oc3 := OB.out.cell 3 rfl
  have of3 := OB.out.free 3
  have pc4 := PB.out.cell 4 rfl
  have pc5 := PB.out.cell 5 rfl
  have pc6 := PB.out.cell 6 rfl
  have pc7 := PB.out.cell 7 rfl
  have pc8 := PB.out.cell 8 rfl
  have pc9 := PB.out.cell 9 rfl
  have pc10 := PB.out.cell 10 rfl
  have pc11 := PB.out.cell 11 rfl
  go_wp2_with fail
  generalize hW : ((y1).setCell ⟨w.heap.size + 1 + 1, 2, none⟩ (.int .i64 x.eff.base)).setCell ⟨w.heap.size + 1 + 1, 3, none⟩ (.slice B0 m0 d0) = x1
  have PB' : Hid (Box x1 (w.heap.size) [.int .i64 x.frm, .int .i64 x.value, .int .i64 x.eff.base, .slice A0 n0 c0, .int .i64 x.terms.taint.base, .slice A1 n1 c1, .int .i64 x.terms.clear.base, .slice A2 n2 c2, .int .i64 x.terms.raise.base, .slice A3 n3 c3, .int .i64 x.terms.verify.base, .slice A4 n4 c4]) := Lib.hid (by rw [← hW]; exact ((PB.out.far (by omega)).far (by omega)))
  have RB' : Hid (Box x1 (w.heap.size + 1) [.int .i64 0, .int .i64 0, .int .i64 0, .slice none 0 0, .int .i64 0, .slice none 0 0, .int .i64 0, .slice none 0 0, .int .i64 0, .slice none 0 0, .int .i64 0, .slice none 0 0]) := Lib.hid (by rw [← hW]; exact ((RB.out.far (by omega)).far (by omega)))
  have OB' : Hid (Box x1 (w.heap.size + 1 + 1) [.int .i64 x.frm, .int .i64 x.value, .int .i64 x.eff.base, .slice B0 m0 d0, .int .i64 0, .slice none 0 0, .int .i64 0, .slice none 0 0, .int .i64 0, .slice none 0 0, .int .i64 0, .slice none 0 0]) := Lib.hid (by rw [← hW]; exact ((OB.out.set (by simp)).set (by simp)))
  have W1' := Lib.hid (show _ from (by rw [← hW]; exact ((W1.out.past (by omega)).past (by omega)) : OwnR x0.heap.size y1.heap.size x1 (dtLab x.eff) [.int .i64 x.eff.base, .slice B0 m0 d0]))
  clear W1
  have W1 := W1'
  clear W1'
  have bel' : Below w.heap.size w x1 := by rw [← hW]; exact ((bel.setCell (by simp only []; omega) _).setCell (by simp only []; omega) _)
  have hlo' : w.heap.size + 1 + 1 < x1.heap.size := by rw [← hW]; simpa using hlo
  have hsxx1 : x1.heap.size = y1.heap.size := by rw [← hW]; simp
  clear hW PB RB OB bel hlo oc2 of2 oc3 of3 pc4 pc5 pc6 pc7 pc8 pc9 pc10 pc11
  have PB := PB'
  have RB := RB'
  have OB := OB'
  have bel := bel'
  have hlo := hlo'
  clear PB' RB' OB' bel' hlo'
  refine (toD_tm (H3.out.below bel) S3).mono ?_
  rintro e y2 ⟨uv, rfl, own, hb⟩
  obtain ⟨B1, m1, d1, B2, m2, d2, B3, m3, d3, B4, m4, d4, rfl⟩ := shp_tm own.rd
  have W1' : Hid (OwnR x0.heap.size y1.heap.size y2 (dtLab x.eff) [.int .i64 x.eff.base, .slice B0 m0 d0]) := Lib.hid (W1.out.below hb)
  clear W1
  have W1 := W1'
  clear W1'
  have W2 : Hid (OwnR x1.heap.size y2.heap.size y2 (dtTm x.terms) [.int .i64 x.terms.taint.base, .slice B1 m1 d1, .int .i64 x.terms.clear.base, .slice B2 m2 d2, .int .i64 x.terms.raise.base, .slice B3 m3 d3, .int .i64 x.terms.verify.base, .slice B4 m4 d4]) := Lib.hid own.r
  have PB' := Lib.hid (PB.out.below hb)
  have RB' := Lib.hid (RB.out.below hb)
  have OB' := Lib.hid (OB.out.below hb)
  have bel' := below_more bel hb
  have hxy2 : x1.heap.size ≤ y2.heap.size := hb.size
  have hlo' : w.heap.size + 1 + 1 < y2.heap.size := by omega
  clear PB RB OB bel hlo hb own
  have PB := PB'
  have RB := RB'
  have OB := OB'
  have bel := bel'
  have hlo := hlo'
  clear PB' RB' OB' bel' hlo'
  have oc4 := OB.out.cell 4 rfl
  have of4 := OB.out.free 4
  have oc5 := OB.out.cell 5 rfl
  have of5 := OB.out.free 5
  have oc6 := OB.out.cell 6 rfl
  have of6 := OB.out.free 6
  have oc7 := OB.out.cell 7 rfl
  have of7 := OB.out.free 7
  have oc8 := OB.out.cell 8 rfl
  have of8 := OB.out.free 8
  have oc9 := OB.out.cell 9 rfl
  have of9 := OB.out.free 9
  have oc10 := OB.out.cell 10 rfl
  have of10 := OB.out.free 10
  have oc11 := OB.out.cell 11 rfl
  have of11 := OB.out.free 11
  go_upto_region 6 with fail
  generalize hW : ((((((((y2).setCell ⟨w.heap.size + 1 + 1, 4, none⟩ (.int .i64 x.terms.taint.base)).setCell ⟨w.heap.size + 1 + 1, 5, none⟩ (.slice B1 m1 d1)).setCell ⟨w.heap.size + 1 + 1, 6, none⟩ (.int .i64 x.terms.clear.base)).setCell ⟨w.heap.size + 1 + 1, 7, none⟩ (.slice B2 m2 d2)).setCell ⟨w.heap.size + 1 + 1, 8, none⟩ (.int .i64 x.terms.raise.base)).setCell ⟨w.heap.size + 1 + 1, 9, none⟩ (.slice B3 m3 d3)).setCell ⟨w.heap.size + 1 + 1, 10, none⟩ (.int .i64 x.terms.verify.base)).setCell ⟨w.heap.size + 1 + 1, 11, none⟩ (.slice B4 m4 d4) = x2
  have PB' : Hid (Box x2 (w.heap.size) [.int .i64 x.frm, .int .i64 x.value, .int .i64 x.eff.base, .slice A0 n0 c0, .int .i64 x.terms.taint.base, .slice A1 n1 c1, .int .i64 x.terms.clear.base, .slice A2 n2 c2, .int .i64 x.terms.raise.base, .slice A3 n3 c3, .int .i64 x.terms.verify.base, .slice A4 n4 c4]) := Lib.hid (by rw [← hW]; exact ((((((((PB.out.far (by omega)).far (by omega)).far (by omega)).far (by omega)).far (by omega)).far (by omega)).far (by omega)).far (by omega)))
  have RB' : Hid (Box x2 (w.heap.size + 1) [.int .i64 0, .int .i64 0, .int .i64 0, .slice none 0 0, .int .i64 0, .slice none 0 0, .int .i64 0, .slice none 0 0, .int .i64 0, .slice none 0 0, .int .i64 0, .slice none 0 0]) := Lib.hid (by rw [← hW]; exact ((((((((RB.out.far (by omega)).far (by omega)).far (by omega)).far (by omega)).far (by omega)).far (by omega)).far (by omega)).far (by omega)))
  have OB' : Hid (Box x2 (w.heap.size + 1 + 1) [.int .i64 x.frm, .int .i64 x.value, .int .i64 x.eff.base, .slice B0 m0 d0, .int .i64 x.terms.taint.base, .slice B1 m1 d1, .int .i64 x.terms.clear.base, .slice B2 m2 d2, .int .i64 x.terms.raise.base, .slice B3 m3 d3, .int .i64 x.terms.verify.base, .slice B4 m4 d4]) := Lib.hid (by rw [← hW]; exact ((((((((OB.out.set (by simp)).set (by simp)).set (by simp)).set (by simp)).set (by simp)).set (by simp)).set (by simp)).set (by simp)))
  have W1' := Lib.hid (show _ from (by rw [← hW]; exact ((((((((W1.out.past (by omega)).past (by omega)).past (by omega)).past (by omega)).past (by omega)).past (by omega)).past (by omega)).past (by omega)) : OwnR x0.heap.size y1.heap.size x2 (dtLab x.eff) [.int .i64 x.eff.base, .slice B0 m0 d0]))
  clear W1
  have W1 := W1'
  clear W1'
  have W2' := Lib.hid (show _ from (by rw [← hW]; exact ((((((((W2.out.past (by omega)).past (by omega)).past (by omega)).past (by omega)).past (by omega)).past (by omega)).past (by omega)).past (by omega)) : OwnR x1.heap.size y2.heap.size x2 (dtTm x.terms) [.int .i64 x.terms.taint.base, .slice B1 m1 d1, .int .i64 x.terms.clear.base, .slice B2 m2 d2, .int .i64 x.terms.raise.base, .slice B3 m3 d3, .int .i64 x.terms.verify.base, .slice B4 m4 d4]))
  clear W2
  have W2 := W2'
  clear W2'
  have bel' : Below w.heap.size w x2 := by rw [← hW]; exact ((((((((bel.setCell (by simp only []; omega) _).setCell (by simp only []; omega) _).setCell (by simp only []; omega) _).setCell (by simp only []; omega) _).setCell (by simp only []; omega) _).setCell (by simp only []; omega) _).setCell (by simp only []; omega) _).setCell (by simp only []; omega) _)
  have hlo' : w.heap.size + 1 + 1 < x2.heap.size := by rw [← hW]; simpa using hlo
  have hsxx2 : x2.heap.size = y2.heap.size := by rw [← hW]; simp
  clear hW PB RB OB bel hlo oc4 of4 oc5 of5 oc6 of6 oc7 of7 oc8 of8 oc9 of9 oc10 of10 oc11 of11
  have PB := PB'
  have RB := RB'
  have OB := OB'
  have bel := bel'
  have hlo := hlo'
  clear PB' RB' OB' bel' hlo'
  have rc0 := RB.out.cell 0 rfl
  have rf0 := RB.out.free 0
  have oc0 := OB.out.cell 0 rfl
  have rc1 := RB.out.cell 1 rfl
  have rf1 := RB.out.free 1
  have oc1 := OB.out.cell 1 rfl
  have rc2 := RB.out.cell 2 rfl
  have rf2 := RB.out.free 2
  have oc2 := OB.out.cell 2 rfl
  have rc3 := RB.out.cell 3 rfl
  have rf3 := RB.out.free 3
  have oc3 := OB.out.cell 3 rfl
  have rc4 := RB.out.cell 4 rfl
  have rf4 := RB.out.free 4
  have oc4 := OB.out.cell 4 rfl
  have rc5 := RB.out.cell 5 rfl
  have rf5 := RB.out.free 5
  have oc5 := OB.out.cell 5 rfl
  have rc6 := RB.out.cell 6 rfl
  have rf6 := RB.out.free 6
  have oc6 := OB.out.cell 6 rfl
  have rc7 := RB.out.cell 7 rfl
  have rf7 := RB.out.free 7
  have oc7 := OB.out.cell 7 rfl
  have rc8 := RB.out.cell 8 rfl
  have rf8 := RB.out.free 8
  have oc8 := OB.out.cell 8 rfl
  have rc9 := RB.out.cell 9 rfl
  have rf9 := RB.out.free 9
  have oc9 := OB.out.cell 9 rfl
  have rc10 := RB.out.cell 10 rfl
  have rf10 := RB.out.free 10
  have oc10 := OB.out.cell 10 rfl
  have rc11 := RB.out.cell 11 rfl
  have rf11 := RB.out.free 11
  have oc11 := OB.out.cell 11 rfl
  go_wp2
  refine bodyPost_ret (v := .agg #[.int .i64 x.frm, .int .i64 x.value, .int .i64 x.eff.base, .slice B0 m0 d0, .int .i64 x.terms.taint.base, .slice B1 m1 d1, .int .i64 x.terms.clear.base, .slice B2 m2 d2, .int .i64 x.terms.raise.base, .slice B3 m3 d3, .int .i64 x.terms.verify.base, .slice B4 m4 d4]) (by simp [results, Try.results9, go_sem, rc0, rc1, rc2, rc3, rc4, rc5, rc6, rc7, rc8, rc9, rc10, rc11]) rfl ?_
  change RetD (dtMs x) w _ (putRow x2 (w.heap.size + 1) 0 [.int .i64 x.frm, .int .i64 x.value, .int .i64 x.eff.base, .slice B0 m0 d0, .int .i64 x.terms.taint.base, .slice B1 m1 d1, .int .i64 x.terms.clear.base, .slice B2 m2 d2, .int .i64 x.terms.raise.base, .slice B3 m3 d3, .int .i64 x.terms.verify.base, .slice B4 m4 d4])
  have hlo2 : w.heap.size + 1 < x0.heap.size := by omega
  exact ⟨[.int .i64 x.frm, .int .i64 x.value, .int .i64 x.eff.base, .slice B0 m0 d0, .int .i64 x.terms.taint.base, .slice B1 m1 d1, .int .i64 x.terms.clear.base, .slice B2 m2 d2, .int .i64 x.terms.raise.base, .slice B3 m3 d3, .int .i64 x.terms.verify.base, .slice B4 m4 d4], rfl, OwnR.own (lo := x0.heap.size) (hi := y2.heap.size) ((((((OwnR.putRow [.int .i64 x.frm, .int .i64 x.value, .int .i64 x.eff.base, .slice B0 m0 d0, .int .i64 x.terms.taint.base, .slice B1 m1 d1, .int .i64 x.terms.clear.base, .slice B2 m2 d2, .int .i64 x.terms.raise.base, .slice B3 m3 d3, .int .i64 x.terms.verify.base, .slice B4 m4 d4] W1.out (by omega))).wide (lo' := x0.heap.size) (hi' := x1.heap.size) (by omega) (by omega)).beside ((OwnR.putRow [.int .i64 x.frm, .int .i64 x.value, .int .i64 x.eff.base, .slice B0 m0 d0, .int .i64 x.terms.taint.base, .slice B1 m1 d1, .int .i64 x.terms.clear.base, .slice B2 m2 d2, .int .i64 x.terms.raise.base, .slice B3 m3 d3, .int .i64 x.terms.verify.base, .slice B4 m4 d4] W2.out (by omega))) (by omega) (by omega)).num).num) (by omega), below_putRow _ bel (by omega)⟩
set_option maxHeartbeats 4000000 in
theorem szD_ms {us : List Value} {x : Ms} {w : World} {left : Int} (h : Rds w (dtMs x) us) (h0 : 0 ≤ left) (h1 : left ≤ 1048576) : Calls Try.prog 7 #[.agg us.toArray, .int .i64 left] w (RetV (.int .i64 (lft left (msSz x))) w) := by
  unfold dtMs at h
  obtain ⟨us, rfl, hg1⟩ := h.num
  clear h
  obtain ⟨us, rfl, hg2⟩ := hg1.num
  clear hg1
  obtain ⟨uf, us, rfl, hf2, hg3⟩ := hg2.split
  clear hg2
  obtain ⟨A0, n0, c0, rfl⟩ := shp_lab hf2
  have H2 := Lib.hid hf2
  clear hf2
  obtain ⟨A1, n1, c1, A2, n2, c2, A3, n3, c3, A4, n4, c4, rfl⟩ := shp_tm hg3
  have H3 := Lib.hid hg3
  clear hg3
  simp only [List.cons_append, List.nil_append]
  have HZ : Hid (msSz x = x.eff.parts.length + tmSz x.terms) := Lib.hid rfl
  by_cases e0 : left < (x.eff.parts.length : Nat)
  · skip
    have HR : Hid (lft left (msSz x) = -1) := Lib.hid (by rw [HZ.out, lft_no (by omega)])
    have HL0 := Lib.hid (lft_no e0)
    go_enter Try.func7, Try.ntmps7
    go_wp2_with fail
    generalize hW : w.alloc (.cells #[.int .i64 x.frm, .int .i64 x.value, .int .i64 x.eff.base, .slice A0 n0 c0, .int .i64 x.terms.taint.base, .slice A1 n1 c1, .int .i64 x.terms.clear.base, .slice A2 n2 c2, .int .i64 x.terms.raise.base, .slice A3 n3 c3, .int .i64 x.terms.verify.base, .slice A4 n4 c4] 28) = x0
    obtain ⟨pb, hsz, bel⟩ := laid1 (ps := [.int .i64 x.frm, .int .i64 x.value, .int .i64 x.eff.base, .slice A0 n0 c0, .int .i64 x.terms.taint.base, .slice A1 n1 c1, .int .i64 x.terms.clear.base, .slice A2 n2 c2, .int .i64 x.terms.raise.base, .slice A3 n3 c3, .int .i64 x.terms.verify.base, .slice A4 n4 c4]) hW
    have PB := Lib.hid pb
    clear hW pb hsz
    refine (szD_lab (H2.out.below bel) (by omega) (by omega)).mono ?_
    rintro e y0 ⟨rfl, hb⟩
    rw [HL0.out]
    have PB' := Lib.hid (PB.out.below hb)
    have bel' := below_more bel hb
    clear PB bel hb 
    have PB := PB'
    have bel := bel'
    clear PB' bel'
    have pc4 := PB.out.cell 4 rfl
    have pc5 := PB.out.cell 5 rfl
    have pc6 := PB.out.cell 6 rfl
    have pc7 := PB.out.cell 7 rfl
    have pc8 := PB.out.cell 8 rfl
    have pc9 := PB.out.cell 9 rfl
    have pc10 := PB.out.cell 10 rfl
    have pc11 := PB.out.cell 11 rfl
    go_wp2
    go_ret
    exact .mk (by rw [HR.out]; rfl) bel
  by_cases e1 : left - (x.eff.parts.length : Nat) < (tmSz x.terms : Nat)
  · skip
    have HR : Hid (lft left (msSz x) = -1) := Lib.hid (by rw [HZ.out, lft_no (by omega)])
    have HL0 := Lib.hid (lft_yes (show ((x.eff.parts.length : Nat) : Int) ≤ left by omega))
    have g0 : ¬ left - (x.eff.parts.length : Nat) < 0 := by omega
    have HL1 := Lib.hid (lft_no e1)
    go_enter Try.func7, Try.ntmps7
    go_wp2_with fail
    generalize hW : w.alloc (.cells #[.int .i64 x.frm, .int .i64 x.value, .int .i64 x.eff.base, .slice A0 n0 c0, .int .i64 x.terms.taint.base, .slice A1 n1 c1, .int .i64 x.terms.clear.base, .slice A2 n2 c2, .int .i64 x.terms.raise.base, .slice A3 n3 c3, .int .i64 x.terms.verify.base, .slice A4 n4 c4] 28) = x0
    obtain ⟨pb, hsz, bel⟩ := laid1 (ps := [.int .i64 x.frm, .int .i64 x.value, .int .i64 x.eff.base, .slice A0 n0 c0, .int .i64 x.terms.taint.base, .slice A1 n1 c1, .int .i64 x.terms.clear.base, .slice A2 n2 c2, .int .i64 x.terms.raise.base, .slice A3 n3 c3, .int .i64 x.terms.verify.base, .slice A4 n4 c4]) hW
    have PB := Lib.hid pb
    clear hW pb hsz
    refine (szD_lab (H2.out.below bel) (by omega) (by omega)).mono ?_
    rintro e y0 ⟨rfl, hb⟩
    rw [HL0.out]
    have PB' := Lib.hid (PB.out.below hb)
    have bel' := below_more bel hb
    clear PB bel hb 
    have PB := PB'
    have bel := bel'
    clear PB' bel'
    have pc4 := PB.out.cell 4 rfl
    have pc5 := PB.out.cell 5 rfl
    have pc6 := PB.out.cell 6 rfl
    have pc7 := PB.out.cell 7 rfl
    have pc8 := PB.out.cell 8 rfl
    have pc9 := PB.out.cell 9 rfl
    have pc10 := PB.out.cell 10 rfl
    have pc11 := PB.out.cell 11 rfl
    go_wp2_with fail
    refine (szD_tm (H3.out.below bel) (by omega) (by omega)).mono ?_
    rintro e y1 ⟨rfl, hb⟩
    rw [HL1.out]
    have PB' := Lib.hid (PB.out.below hb)
    have bel' := below_more bel hb
    clear PB bel hb pc4 pc5 pc6 pc7 pc8 pc9 pc10 pc11
    have PB := PB'
    have bel := bel'
    clear PB' bel'
    go_wp2
    go_ret
    exact .mk (by rw [HR.out]; rfl) bel
  have HR : Hid (lft left (msSz x) = left - (x.eff.parts.length : Nat) - (tmSz x.terms : Nat)) := Lib.hid (by rw [HZ.out, lft_yes (by omega)]; omega)
  have HL0 := Lib.hid (lft_yes (show ((x.eff.parts.length : Nat) : Int) ≤ left by omega))
  have g0 : ¬ left - (x.eff.parts.length : Nat) < 0 := by omega
  have HL1 := Lib.hid (lft_yes (show ((tmSz x.terms : Nat) : Int) ≤ left - (x.eff.parts.length : Nat) by omega))
  have g1 : ¬ left - (x.eff.parts.length : Nat) - (tmSz x.terms : Nat) < 0 := by omega
  go_enter Try.func7, Try.ntmps7
  go_wp2_with fail
  generalize hW : w.alloc (.cells #[.int .i64 x.frm, .int .i64 x.value, .int .i64 x.eff.base, .slice A0 n0 c0, .int .i64 x.terms.taint.base, .slice A1 n1 c1, .int .i64 x.terms.clear.base, .slice A2 n2 c2, .int .i64 x.terms.raise.base, .slice A3 n3 c3, .int .i64 x.terms.verify.base, .slice A4 n4 c4] 28) = x0
  obtain ⟨pb, hsz, bel⟩ := laid1 (ps := [.int .i64 x.frm, .int .i64 x.value, .int .i64 x.eff.base, .slice A0 n0 c0, .int .i64 x.terms.taint.base, .slice A1 n1 c1, .int .i64 x.terms.clear.base, .slice A2 n2 c2, .int .i64 x.terms.raise.base, .slice A3 n3 c3, .int .i64 x.terms.verify.base, .slice A4 n4 c4]) hW
  have PB := Lib.hid pb
  clear hW pb hsz
  refine (szD_lab (H2.out.below bel) (by omega) (by omega)).mono ?_
  rintro e y0 ⟨rfl, hb⟩
  rw [HL0.out]
  have PB' := Lib.hid (PB.out.below hb)
  have bel' := below_more bel hb
  clear PB bel hb 
  have PB := PB'
  have bel := bel'
  clear PB' bel'
  have pc4 := PB.out.cell 4 rfl
  have pc5 := PB.out.cell 5 rfl
  have pc6 := PB.out.cell 6 rfl
  have pc7 := PB.out.cell 7 rfl
  have pc8 := PB.out.cell 8 rfl
  have pc9 := PB.out.cell 9 rfl
  have pc10 := PB.out.cell 10 rfl
  have pc11 := PB.out.cell 11 rfl
  go_wp2_with fail
  refine (szD_tm (H3.out.below bel) (by omega) (by omega)).mono ?_
  rintro e y1 ⟨rfl, hb⟩
  rw [HL1.out]
  have PB' := Lib.hid (PB.out.below hb)
  have bel' := below_more bel hb
  clear PB bel hb pc4 pc5 pc6 pc7 pc8 pc9 pc10 pc11
  have PB := PB'
  have bel := bel'
  clear PB' bel'
  go_wp2
  go_ret
  exact .mk (by rw [HR.out]; rfl) bel
set_option maxHeartbeats 4000000 in
theorem eqD_ms {us vs : List Value} {x : Ms} {w : World} (h : Rds w (dtMs x) us) (k : Rds w (dtMs x) vs) (hf : msSz x ≤ 1048576) : Calls Try.prog 11 #[.agg us.toArray, .agg vs.toArray] w (RetV (.bool true) w) := by
  unfold msSz at hf
  have S2 : x.eff.parts.length ≤ 1048576 := by omega
  have S3 : tmSz x.terms ≤ 1048576 := by omega
  unfold dtMs at h
  obtain ⟨us, rfl, hg1⟩ := h.num
  clear h
  obtain ⟨us, rfl, hg2⟩ := hg1.num
  clear hg1
  obtain ⟨uf, us, rfl, hf2, hg3⟩ := hg2.split
  clear hg2
  obtain ⟨A0, n0, c0, rfl⟩ := shp_lab hf2
  have H2 := Lib.hid hf2
  clear hf2
  obtain ⟨A1, n1, c1, A2, n2, c2, A3, n3, c3, A4, n4, c4, rfl⟩ := shp_tm hg3
  have H3 := Lib.hid hg3
  clear hg3
  simp only [List.cons_append, List.nil_append]
  unfold dtMs at k
  obtain ⟨us, rfl, kg1⟩ := k.num
  clear k
  obtain ⟨us, rfl, kg2⟩ := kg1.num
  clear kg1
  obtain ⟨uf, us, rfl, hf2, kg3⟩ := kg2.split
  clear kg2
  obtain ⟨B0, m0, d0, rfl⟩ := shp_lab hf2
  have K2 := Lib.hid hf2
  clear hf2
  obtain ⟨B1, m1, d1, B2, m2, d2, B3, m3, d3, B4, m4, d4, rfl⟩ := shp_tm kg3
  have K3 := Lib.hid kg3
  clear kg3
  simp only [List.cons_append, List.nil_append]
  go_enter Try.func11, Try.ntmps11
  go_wp2_with fail
  generalize hW : (w.alloc (.cells #[.int .i64 x.frm, .int .i64 x.value, .int .i64 x.eff.base, .slice A0 n0 c0, .int .i64 x.terms.taint.base, .slice A1 n1 c1, .int .i64 x.terms.clear.base, .slice A2 n2 c2, .int .i64 x.terms.raise.base, .slice A3 n3 c3, .int .i64 x.terms.verify.base, .slice A4 n4 c4] 37)).alloc (.cells #[.int .i64 x.frm, .int .i64 x.value, .int .i64 x.eff.base, .slice B0 m0 d0, .int .i64 x.terms.taint.base, .slice B1 m1 d1, .int .i64 x.terms.clear.base, .slice B2 m2 d2, .int .i64 x.terms.raise.base, .slice B3 m3 d3, .int .i64 x.terms.verify.base, .slice B4 m4 d4] 37) = x0
  obtain ⟨pb, qb, hsz, bel⟩ := laid2 (ps := [.int .i64 x.frm, .int .i64 x.value, .int .i64 x.eff.base, .slice A0 n0 c0, .int .i64 x.terms.taint.base, .slice A1 n1 c1, .int .i64 x.terms.clear.base, .slice A2 n2 c2, .int .i64 x.terms.raise.base, .slice A3 n3 c3, .int .i64 x.terms.verify.base, .slice A4 n4 c4]) (rs := [.int .i64 x.frm, .int .i64 x.value, .int .i64 x.eff.base, .slice B0 m0 d0, .int .i64 x.terms.taint.base, .slice B1 m1 d1, .int .i64 x.terms.clear.base, .slice B2 m2 d2, .int .i64 x.terms.raise.base, .slice B3 m3 d3, .int .i64 x.terms.verify.base, .slice B4 m4 d4]) hW
  have PB := Lib.hid pb
  have QB := Lib.hid qb
  clear hW pb qb hsz
  refine (eqD_lab (H2.out.below bel) (K2.out.below bel) S2).mono ?_
  rintro e y0 ⟨rfl, hb⟩
  have PB' := Lib.hid (PB.out.below hb)
  have QB' := Lib.hid (QB.out.below hb)
  have bel' := below_more bel hb
  clear PB QB bel hb 
  have PB := PB'
  have QB := QB'
  have bel := bel'
  clear PB' QB' bel'
  have pc4 := PB.out.cell 4 rfl
  have pc5 := PB.out.cell 5 rfl
  have pc6 := PB.out.cell 6 rfl
  have pc7 := PB.out.cell 7 rfl
  have pc8 := PB.out.cell 8 rfl
  have pc9 := PB.out.cell 9 rfl
  have pc10 := PB.out.cell 10 rfl
  have pc11 := PB.out.cell 11 rfl
  have qc4 := QB.out.cell 4 rfl
  have qc5 := QB.out.cell 5 rfl
  have qc6 := QB.out.cell 6 rfl
  have qc7 := QB.out.cell 7 rfl
  have qc8 := QB.out.cell 8 rfl
  have qc9 := QB.out.cell 9 rfl
  have qc10 := QB.out.cell 10 rfl
  have qc11 := QB.out.cell 11 rfl
  go_wp2_with fail
  refine (eqD_tm (H3.out.below bel) (K3.out.below bel) S3).mono ?_
  rintro e y1 ⟨rfl, hb⟩
  have PB' := Lib.hid (PB.out.below hb)
  have QB' := Lib.hid (QB.out.below hb)
  have bel' := below_more bel hb
  clear PB QB bel hb pc4 pc5 pc6 pc7 pc8 pc9 pc10 pc11 qc4 qc5 qc6 qc7 qc8 qc9 qc10 qc11
  have PB := PB'
  have QB := QB'
  have bel := bel'
  clear PB' QB' bel'
  go_wp2
  go_ret
  exact .mk rfl bel
theorem cntt_le_ms (x : Ms) : cntt (dtMs x) ≤ 40 * msSz x := by
  have b2 : cntt (dtLab x.eff) ≤ 40 * (x.eff.parts.length) := cntt_lab_le _
  have b3 : cntt (dtTm x.terms) ≤ 40 * (tmSz x.terms) := cntt_le_tm _
  unfold dtMs msSz
  simp only [cntt_num, cntt_append]
  omega
end Go.Proofs.Ytnpeojlhjbdjiaa

/-
  MsgS as data, and the laws' helpers on it.
-/
namespace Go.Proofs.Ytnpeojlhjbdjiaa
set_option maxRecDepth 100000
open Go.RowKit

def mssSum (xs : List Ms) : Nat := (xs.map msSz).sum
def mssSz (xs : List Ms) : Nat := xs.length + mssSum xs
theorem mssSum_take {xs : List Ms} {k : Nat} {x : Ms} (hx : xs[k]? = some x) : mssSum (xs.take (k + 1)) = mssSum (xs.take k) + msSz x := by rw [take_at hx]; simp [mssSum]
theorem mssSum_le (xs : List Ms) (k : Nat) : mssSum (xs.take k) ≤ mssSum xs := by
  have h : mssSum xs = mssSum (xs.take k) + mssSum (xs.drop k) := by
    unfold mssSum
    rw [← List.sum_append, ← List.map_append, List.take_append_drop]
  omega
theorem mssSum_at {xs : List Ms} {k : Nat} {x : Ms} (hx : xs[k]? = some x) : msSz x ≤ mssSum xs := by
  have h1 := mssSum_take hx
  have h2 := mssSum_le xs (k + 1)
  omega
theorem mssinfo : (Try.prog.info? 37).map (fun i => (i.zero, i.size, i.bytes)) = some (some (.agg #[.int .i64 0, .int .i64 0, .int .i64 0, .slice none 0 0, .int .i64 0, .slice none 0 0, .int .i64 0, .slice none 0 0, .int .i64 0, .slice none 0 0, .int .i64 0, .slice none 0 0]), 12, 176) := by kernel_rfl
theorem at_mss {w : World} {t : TypeId} {xs : List Ms} {A : Option Addr} {n c : Nat} (h : Rd w (.row 12 t (xs.flatMap dtMs)) (.slice A n c)) {k : Nat} {x : Ms} (hx : xs[k]? = some x) :
    ∃ (b o : Nat) (A0 : Option Addr) (n0 c0 : Nat) (A1 : Option Addr) (n1 c1 : Nat) (A2 : Option Addr) (n2 c2 : Nat) (A3 : Option Addr) (n3 c3 : Nat) (A4 : Option Addr) (n4 c4 : Nat), A = some ⟨b, o, none⟩ ∧ w.cell? ⟨b, o + k * 12, none⟩ = some (.int .i64 x.frm) ∧ w.cell? ⟨b, o + k * 12 + 1, none⟩ = some (.int .i64 x.value) ∧ w.cell? ⟨b, o + k * 12 + 2, none⟩ = some (.int .i64 x.eff.base) ∧ w.cell? ⟨b, o + k * 12 + 3, none⟩ = some (.slice A0 n0 c0) ∧ w.cell? ⟨b, o + k * 12 + 4, none⟩ = some (.int .i64 x.terms.taint.base) ∧ w.cell? ⟨b, o + k * 12 + 5, none⟩ = some (.slice A1 n1 c1) ∧ w.cell? ⟨b, o + k * 12 + 6, none⟩ = some (.int .i64 x.terms.clear.base) ∧ w.cell? ⟨b, o + k * 12 + 7, none⟩ = some (.slice A2 n2 c2) ∧ w.cell? ⟨b, o + k * 12 + 8, none⟩ = some (.int .i64 x.terms.raise.base) ∧ w.cell? ⟨b, o + k * 12 + 9, none⟩ = some (.slice A3 n3 c3) ∧ w.cell? ⟨b, o + k * 12 + 10, none⟩ = some (.int .i64 x.terms.verify.base) ∧ w.cell? ⟨b, o + k * 12 + 11, none⟩ = some (.slice A4 n4 c4) ∧ Rds w (dtMs x) [.int .i64 x.frm, .int .i64 x.value, .int .i64 x.eff.base, .slice A0 n0 c0, .int .i64 x.terms.taint.base, .slice A1 n1 c1, .int .i64 x.terms.clear.base, .slice A2 n2 c2, .int .i64 x.terms.raise.base, .slice A3 n3 c3, .int .i64 x.terms.verify.base, .slice A4 n4 c4] := by
  obtain ⟨b, o, us, rfl, hc, hr⟩ := h.elem dtMs_len (by omega) hx
  obtain ⟨A0, n0, c0, A1, n1, c1, A2, n2, c2, A3, n3, c3, A4, n4, c4, rfl⟩ := shp_ms hr
  exact ⟨b, o, A0, n0, c0, A1, n1, c1, A2, n2, c2, A3, n3, c3, A4, n4, c4, rfl, hc 0 _ rfl, hc 1 _ rfl, hc 2 _ rfl, hc 3 _ rfl, hc 4 _ rfl, hc 5 _ rfl, hc 6 _ rfl, hc 7 _ rfl, hc 8 _ rfl, hc 9 _ rfl, hc 10 _ rfl, hc 11 _ rfl, hr⟩
set_option maxHeartbeats 8000000 in
theorem toD_mss {A : Option Addr} {n c : Nat} {t : TypeId} {xs : List Ms} {w : World} (h : Rd w (.row 12 t (xs.flatMap dtMs)) (.slice A n c)) (hf : mssSz xs ≤ 1048576) : Calls Try.prog 37 #[.slice A n c] w (RetR (.row 12 37 (xs.flatMap dtMs)) w) := by
  obtain ⟨HN, hnc, hcm⟩ := h.len dtMs_len (by omega)
  have HNX := Lib.hid HN
  have HR := Lib.hid h
  have hsum := mssSum_le xs xs.length
  unfold mssSz at hf
  have hl : n ≤ 1048576 := by omega
  clear HN h hnc hcm
  obtain ⟨i0, hi, hz0, hz1, hz2⟩ := info_parts mssinfo
  obtain ⟨w0, hmk, hown, hgr⟩ := run_make_full (P := Try.prog) (w := w) w.heap.size 46 37 i0 _ 12 Try.underlying46 hi hz0 hz1 .i64 .i64 n (by rw [hz2]; omega) (by unfold maxLen; omega) (Nat.le_refl _)
  clear hi hz0 hz1 hz2
  generalize hcur : (madeCells (Value.cells (Value.agg #[.int .i64 0, .int .i64 0, .int .i64 0, .slice none 0 0, .int .i64 0, .slice none 0 0, .int .i64 0, .slice none 0 0, .int .i64 0, .slice none 0 0, .int .i64 0, .slice none 0 0])) (n * 12)).toList = cur0 at hown
  clear hcur
  have hbel0 : Below w.heap.size w w0 := (Below.refl _ _).grown hgr (Nat.le_refl _) (fun k hk => by cases hk)
  have HP0 : Hid (Part w0 w.heap.size w.heap.size n 12 37 [] 0 cur0 []) := Lib.hid ⟨own_lower hown (Nat.zero_le _), by simp only [Nat.zero_mul, List.take_zero]; exact Ows.mk_nil w0, List.nodup_nil, fun _ h => by cases h⟩
  clear hgr hown
  go_enter Try.func37, Try.ntmps37
  go_wp2
  go_loopw [4] (fun i wr => ∃ (k : Nat) (cur : List Value) (bs : List Nat), k ≤ n ∧ i = .int .i64 k ∧ Hid (Part wr w.heap.size w.heap.size n 12 37 ((xs.take k).flatMap dtMs) k cur bs) ∧ Hid (Below w.heap.size w wr)) (fun i _ => n - (intOf i).toNat)
  case atStart => exact ⟨0, cur0, [], by omega, rfl, HP0, Lib.hid hbel0⟩
  case round =>
    clear HP0 hbel0 hmk
    obtain ⟨k, cur, bs, hk, rfl, HP, HB⟩ := hrel
    by_cases hlt : k < n
    · obtain ⟨x, hx⟩ : ∃ x, xs[k]? = some x := ⟨xs[k]'(by have := HNX.out; omega), List.getElem?_eq_getElem _⟩
      have hsx := mssSum_at hx
      obtain ⟨b, o, A0, n0, c0, A1, n1, c1, A2, n2, c2, A3, n3, c3, A4, n4, c4, rfl, cx0, cx1, cx2, cx3, cx4, cx5, cx6, cx7, cx8, cx9, cx10, cx11, hr⟩ := at_mss (HR.out.below HB.out) hx
      have HX := Lib.hid hx
      have HE := Lib.hid hr
      have hwl : w.heap.size ≤ wr.heap.size := HB.out.size
      clear hr hx
      go_wp2_with fail
      refine (toD_ms HE.out (by omega)).mono ?_
      rintro e w1 ⟨uv, rfl, own, hb⟩
      obtain ⟨B0, m0, d0, B1, m1, d1, B2, m2, d2, B3, m3, d3, B4, m4, d4, rfl⟩ := shp_ms own.rd
      have hown1 := (HP.out.below hb).own
      obtain ⟨⟨u0, p0⟩, q0⟩ := own_cell hown1 (k * 12) (by omega)
      obtain ⟨⟨u1, p1⟩, q1⟩ := own_cell hown1 (k * 12 + 1) (by omega)
      obtain ⟨⟨u2, p2⟩, q2⟩ := own_cell hown1 (k * 12 + 2) (by omega)
      obtain ⟨⟨u3, p3⟩, q3⟩ := own_cell hown1 (k * 12 + 3) (by omega)
      obtain ⟨⟨u4, p4⟩, q4⟩ := own_cell hown1 (k * 12 + 4) (by omega)
      obtain ⟨⟨u5, p5⟩, q5⟩ := own_cell hown1 (k * 12 + 5) (by omega)
      obtain ⟨⟨u6, p6⟩, q6⟩ := own_cell hown1 (k * 12 + 6) (by omega)
      obtain ⟨⟨u7, p7⟩, q7⟩ := own_cell hown1 (k * 12 + 7) (by omega)
      obtain ⟨⟨u8, p8⟩, q8⟩ := own_cell hown1 (k * 12 + 8) (by omega)
      obtain ⟨⟨u9, p9⟩, q9⟩ := own_cell hown1 (k * 12 + 9) (by omega)
      obtain ⟨⟨u10, p10⟩, q10⟩ := own_cell hown1 (k * 12 + 10) (by omega)
      obtain ⟨⟨u11, p11⟩, q11⟩ := own_cell hown1 (k * 12 + 11) (by omega)
      obtain ⟨cur', bs', hp⟩ := HP.out.more hb own hwl hlt rfl
      have HP' := Lib.hid hp
      have HB' : Hid (Below w.heap.size w (putRow w1 w.heap.size (k * 12) [.int .i64 x.frm, .int .i64 x.value, .int .i64 x.eff.base, .slice B0 m0 d0, .int .i64 x.terms.taint.base, .slice B1 m1 d1, .int .i64 x.terms.clear.base, .slice B2 m2 d2, .int .i64 x.terms.raise.base, .slice B3 m3 d3, .int .i64 x.terms.verify.base, .slice B4 m4 d4])) := Lib.hid (below_putRow _ (below_more HB.out hb) (Nat.le_refl _))
      have hgz : w.heap.size < w1.heap.size := (HP.out.below hb).gl
      clear hp own hb hown1 cx0 cx1 cx2 cx3 cx4 cx5 cx6 cx7 cx8 cx9 cx10 cx11
      go_wp2
      go_roundw
      case rel => exact ⟨k + 1, cur', bs', by omega, by go_num, by rw [take_at HX.out, List.flatMap_append, List.flatMap_cons, List.flatMap_nil, List.append_nil]; exact HP', HB'⟩
      case measure => simp [intOf]; omega
    · obtain rfl : k = n := by omega
      go_wp2
      go_ret
      have h1 := HP.out
      rw [List.take_of_length_le (by have := HNX.out; omega)] at h1
      exact ⟨_, rfl, h1.done (Nat.le_refl _), HB.out⟩
set_option maxHeartbeats 8000000 in
theorem szD_mss {A : Option Addr} {n c : Nat} {t : TypeId} {xs : List Ms} {w : World} {left : Int} (h : Rd w (.row 12 t (xs.flatMap dtMs)) (.slice A n c)) (h0 : 0 ≤ left) (h1 : left ≤ 1048576) : Calls Try.prog 34 #[.slice A n c, .int .i64 left] w (RetV (.int .i64 (lft left (mssSz xs))) w) := by
  obtain ⟨HN, hnc, hcm⟩ := h.len dtMs_len (by omega)
  have HNX := Lib.hid HN
  have HR := Lib.hid h
  have hm : n ≤ 9223372036854775807 := by unfold maxLen at hcm; omega
  clear HN h hnc hcm
  by_cases hn : left < (n : Int)
  · have HF : Hid (lft left (mssSz xs) = -1) := Lib.hid (lft_no (by have := HNX.out; unfold mssSz; omega))
    have hlt : left - n < 0 := by omega
    go_enter Try.func34, Try.ntmps34
    go_wp2
    go_ret
    exact .mk (by rw [HF.out]; rfl) (.refl _ _)
  have hge : ¬ left - n < 0 := by omega
  have HZ : Hid (mssSz xs = n + mssSum xs) := Lib.hid (by have := HNX.out; unfold mssSz; omega)
  go_enter Try.func34, Try.ntmps34
  go_wp2
  go_loopw [1, 5] (fun m i wr => ∃ (k : Nat) (l : Int), k ≤ n ∧ 0 ≤ l ∧ l ≤ left ∧ i = .int .i64 k ∧ m = .int .i64 l ∧ Hid (l = left - n - (mssSum (xs.take k) : Nat)) ∧ Hid (Below w.heap.size w wr)) (fun _ i _ => n - (intOf i).toNat)
  case atStart => exact ⟨0, left - n, by omega, by omega, by omega, rfl, rfl, Lib.hid (by simp [mssSum]), Lib.hid (.refl _ _)⟩
  case round =>
    obtain ⟨k, l, hk, hl0, hl1, rfl, rfl, HL, HB⟩ := hrel
    by_cases hlt : k < n
    · obtain ⟨x, hx⟩ : ∃ x, xs[k]? = some x := ⟨xs[k]'(by have := HNX.out; omega), List.getElem?_eq_getElem _⟩
      obtain ⟨b, o, A0, n0, c0, A1, n1, c1, A2, n2, c2, A3, n3, c3, A4, n4, c4, rfl, cx0, cx1, cx2, cx3, cx4, cx5, cx6, cx7, cx8, cx9, cx10, cx11, hr⟩ := at_mss (HR.out.below HB.out) hx
      have HX := Lib.hid hx
      have HE := Lib.hid hr
      clear hr hx
      by_cases hs : l < (msSz x : Nat)
      · have HF : Hid (lft left (mssSz xs) = -1) := Lib.hid (lft_no (by have h1 := mssSum_take HX.out; have h2 := mssSum_le xs (k + 1); have h3 := HZ.out; have h4 := HL.out; omega))
        have HS := Lib.hid (lft_no hs)
        go_wp2_with fail
        refine (szD_ms HE.out hl0 (by omega)).mono ?_
        rintro e w1 ⟨rfl, hb⟩
        rw [HS.out]
        have HB' := Lib.hid (below_more HB.out hb)
        clear hb cx0 cx1 cx2 cx3 cx4 cx5 cx6 cx7 cx8 cx9 cx10 cx11
        go_wp2
        go_ret
        exact .mk (by rw [HF.out]; rfl) HB'.out
      · have HS := Lib.hid (lft_yes (show ((msSz x : Nat) : Int) ≤ l by omega))
        have hg : ¬ l - (msSz x : Nat) < 0 := by omega
        go_wp2_with fail
        refine (szD_ms HE.out hl0 (by omega)).mono ?_
        rintro e w1 ⟨rfl, hb⟩
        rw [HS.out]
        have HB' := Lib.hid (below_more HB.out hb)
        clear hb cx0 cx1 cx2 cx3 cx4 cx5 cx6 cx7 cx8 cx9 cx10 cx11
        go_wp2
        go_roundw
        case rel => exact ⟨k + 1, l - (msSz x : Nat), by omega, by omega, by omega, by go_num, rfl, Lib.hid (by have h1 := mssSum_take HX.out; have h4 := HL.out; omega), HB'⟩
        case measure => simp [intOf]; omega
    · obtain rfl : k = n := by omega
      have HF : Hid (lft left (mssSz xs) = l) := Lib.hid (by have h4 := HL.out; rw [List.take_of_length_le (by have := HNX.out; omega)] at h4; rw [lft_yes (by have := HZ.out; omega), HZ.out]; omega)
      go_wp2
      go_ret
      exact .mk (by rw [HF.out]; rfl) HB.out
set_option maxHeartbeats 8000000 in
theorem eqD_mss {A B : Option Addr} {n c m d : Nat} {t s : TypeId} {xs : List Ms} {w : World} (h : Rd w (.row 12 t (xs.flatMap dtMs)) (.slice A n c)) (k : Rd w (.row 12 s (xs.flatMap dtMs)) (.slice B m d)) (hf : mssSz xs ≤ 1048576) : Calls Try.prog 40 #[.slice A n c, .slice B m d] w (RetV (.bool true) w) := by
  obtain ⟨HN, -, -⟩ := h.len dtMs_len (by omega)
  obtain ⟨HM, -, -⟩ := k.len dtMs_len (by omega)
  obtain rfl : n = m := by omega
  have HNX := Lib.hid HN
  have HR := Lib.hid h
  have HQ := Lib.hid k
  have hsum := mssSum_le xs xs.length
  unfold mssSz at hf
  have hl : n ≤ 1048576 := by omega
  clear HN HM h k
  go_enter Try.func40, Try.ntmps40
  go_wp2
  go_loopw [5] (fun i wr => ∃ k : Nat, k ≤ n ∧ i = .int .i64 k ∧ Hid (Below w.heap.size w wr)) (fun i _ => n - (intOf i).toNat)
  case atStart => exact ⟨0, by omega, rfl, Lib.hid (.refl _ _)⟩
  case round =>
    obtain ⟨k, hk, rfl, HB⟩ := hrel
    by_cases hlt : k < n
    · obtain ⟨x, hx⟩ : ∃ x, xs[k]? = some x := ⟨xs[k]'(by have := HNX.out; omega), List.getElem?_eq_getElem _⟩
      have hsx := mssSum_at hx
      obtain ⟨b, o, A0, n0, c0, A1, n1, c1, A2, n2, c2, A3, n3, c3, A4, n4, c4, rfl, cx0, cx1, cx2, cx3, cx4, cx5, cx6, cx7, cx8, cx9, cx10, cx11, hr⟩ := at_mss (HR.out.below HB.out) hx
      obtain ⟨b2, o2, B0, m0, d0, B1, m1, d1, B2, m2, d2, B3, m3, d3, B4, m4, d4, rfl, cy0, cy1, cy2, cy3, cy4, cy5, cy6, cy7, cy8, cy9, cy10, cy11, hr2⟩ := at_mss (HQ.out.below HB.out) hx
      have HE := Lib.hid hr
      have HE2 := Lib.hid hr2
      clear hr hr2 hx
      go_wp2
      go_still_tail 8, (by kernel_rfl)
      change wpList _ _ _ _ _ wr.drew
      go_wp2_with fail
      refine (eqD_ms (w := wr.drew) (HE.out.below (Below.refl _ _).drew) (HE2.out.below (Below.refl _ _).drew) (by omega)).mono ?_
      rintro e w1 ⟨rfl, hb⟩
      have HB' := Lib.hid (below_more HB.out (below_undrew hb))
      clear hb cx0 cx1 cx2 cx3 cx4 cx5 cx6 cx7 cx8 cx9 cx10 cx11 cy0 cy1 cy2 cy3 cy4 cy5 cy6 cy7 cy8 cy9 cy10 cy11
      go_wp2
      go_roundw
      case rel => exact ⟨k + 1, by omega, by go_num, HB'⟩
      case measure => simp [intOf]; omega
    · obtain rfl : k = n := by omega
      go_wp2
      go_ret
      exact .mk rfl HB.out
theorem cnts_ms (x : Ms) : cnts (dtMs x) = 1 + 1 + 1 + 2 * x.eff.parts.length + 1 + 2 * x.terms.taint.parts.length + 1 + 2 * x.terms.clear.parts.length + 1 + 2 * x.terms.raise.parts.length + 1 + 2 * x.terms.verify.parts.length := by
  simp only [dtMs, dtTm, dtLab, List.cons_append, List.nil_append, cnts, cnt, cnts_parts]
  omega
set_option maxHeartbeats 16000000 in
theorem mkD_mss {A : Option Addr} {n c : Nat} {xs : List Ms} {bs : List Nat} {k : Int} {w : World} (h : Ow w (.row 12 37 (xs.flatMap dtMs)) (.slice A n c) bs) (hn : bs.Nodup) (hf : mssSz xs ≤ 1048576) (h0 : 0 ≤ k) (h1 : k + (cnts (xs.flatMap dtMs) : Nat) ≤ 1000000000000) : Calls Try.prog 46 #[.slice A n c, .int .i64 k] w (RetMkd (.row 12 37 (mkds k (xs.flatMap dtMs))) (.slice A n c) bs (k + (cnts (xs.flatMap dtMs) : Nat)) w) := by
  have hsum := mssSum_le xs xs.length
  unfold mssSz at hf
  have HLX : Hid (xs.length = n) := Lib.hid (ow_len dtMs_len (by omega) h)
  have hl : n ≤ 1048576 := by have := HLX.out; omega
  have HNB := Lib.hid hn
  have HO0 : Hid (Ow w (.row 12 37 (mkds k ((xs.take 0).flatMap dtMs) ++ (xs.drop 0).flatMap dtMs)) (.slice A n c) bs) := Lib.hid (by simpa [mkds] using h)
  clear h hn
  go_enter Try.func46, Try.ntmps46
  go_wp2
  go_loopw [1, 5] (fun m i wr => ∃ (j : Nat) (q : Int), j ≤ n ∧ k ≤ q ∧ i = .int .i64 j ∧ m = .int .i64 q ∧ Hid (q = k + (cnts ((xs.take j).flatMap dtMs) : Nat)) ∧ Hid (Ow wr (.row 12 37 (mkds k ((xs.take j).flatMap dtMs) ++ (xs.drop j).flatMap dtMs)) (.slice A n c) bs) ∧ Hid (Chg bs w wr)) (fun _ i _ => n - (intOf i).toNat)
  case atStart => exact ⟨0, k, by omega, by omega, rfl, rfl, Lib.hid (by simp [cnts]), HO0, Lib.hid (.refl _ _)⟩
  case round =>
    clear HO0
    obtain ⟨j, q, hj, hq, rfl, rfl, HQ, HO, HG⟩ := hrel
    by_cases hlt : j < n
    · obtain ⟨x, hx⟩ : ∃ x, xs[j]? = some x := ⟨xs[j]'(by have := HLX.out; omega), List.getElem?_eq_getElem _⟩
      have hsx := mssSum_at hx
      have HT : Hid (cnts ((xs.take (j + 1)).flatMap dtMs) = cnts ((xs.take j).flatMap dtMs) + (1 + 1 + 1 + 2 * x.eff.parts.length + 1 + 2 * x.terms.taint.parts.length + 1 + 2 * x.terms.clear.parts.length + 1 + 2 * x.terms.raise.parts.length + 1 + 2 * x.terms.verify.parts.length)) := Lib.hid (by rw [take_at hx, List.flatMap_append, List.flatMap_cons, List.flatMap_nil, List.append_nil, cnts_append, cnts_ms])
      have HTL : Hid (cnts ((xs.take (j + 1)).flatMap dtMs) ≤ cnts (xs.flatMap dtMs)) := Lib.hid (cnts_take_le _ _)
      have hbd : q + ((1 + 1 + 1 + 2 * x.eff.parts.length + 1 + 2 * x.terms.taint.parts.length + 1 + 2 * x.terms.clear.parts.length + 1 + 2 * x.terms.raise.parts.length + 1 + 2 * x.terms.verify.parts.length : Nat) : Int) ≤ 1000000000000 := by have h1 := HT.out; have h2 := HTL.out; have h3 := HQ.out; omega
      obtain ⟨PP, hP⟩ : ∃ P, P = mkds k ((xs.take j).flatMap dtMs) := ⟨_, rfl⟩
      have hPl : PP.length = j * 12 := by rw [hP, mkds_length, flatMap_len dtMs_len, List.length_take]; have := HLX.out; rw [Nat.min_eq_left (by omega)]
      obtain ⟨QQ, hQ⟩ : ∃ Q, Q = (xs.drop (j + 1)).flatMap dtMs := ⟨_, rfl⟩
      have hO : Ow wr (.row 12 37 (PP ++ (Dt.num x.frm :: Dt.num x.value :: Dt.num x.eff.base :: (Dt.row 2 82 (x.eff.parts.flatMap dtPart)) :: Dt.num x.terms.taint.base :: (Dt.row 2 82 (x.terms.taint.parts.flatMap dtPart)) :: Dt.num x.terms.clear.base :: (Dt.row 2 82 (x.terms.clear.parts.flatMap dtPart)) :: Dt.num x.terms.raise.base :: (Dt.row 2 82 (x.terms.raise.parts.flatMap dtPart)) :: Dt.num x.terms.verify.base :: (Dt.row 2 82 (x.terms.verify.parts.flatMap dtPart)) :: QQ))) (.slice A n c) bs := by have h1 := HO.out; rw [drop_at hx, List.flatMap_cons, ← hP, ← hQ] at h1; exact h1
      obtain ⟨g, n', c', hv, -⟩ := hO.block (by simp; omega)
      cases hv
      have HH := Lib.hid hO
      have HX := Lib.hid hx
      have HPl := Lib.hid hPl
      have HP := Lib.hid hP
      have HQQ := Lib.hid hQ
      have HG0 := HG
      clear hO HO hx hP hQ HG
      have HG := HG0
      clear HG0
      obtain ⟨us_, cs_, ho_, -, -⟩ := HH.out.open
      obtain ⟨⟨u0, p0⟩, f0⟩ := own_cell ho_ (j * 12) (by omega)
      obtain ⟨⟨u1, p1⟩, f1⟩ := own_cell ho_ (j * 12 + 1) (by omega)
      obtain ⟨⟨u2, p2⟩, f2⟩ := own_cell ho_ (j * 12 + 2) (by omega)
      clear ho_
      go_upto_region 10 with fail
      have hs0 : Ow ((wr).setCell ⟨g, j * 12, none⟩ (.int .i64 (q))) (.row 12 37 (PP ++ (Dt.num (q) :: Dt.num x.value :: Dt.num x.eff.base :: (Dt.row 2 82 (x.eff.parts.flatMap dtPart)) :: Dt.num x.terms.taint.base :: (Dt.row 2 82 (x.terms.taint.parts.flatMap dtPart)) :: Dt.num x.terms.clear.base :: (Dt.row 2 82 (x.terms.clear.parts.flatMap dtPart)) :: Dt.num x.terms.raise.base :: (Dt.row 2 82 (x.terms.raise.parts.flatMap dtPart)) :: Dt.num x.terms.verify.base :: (Dt.row 2 82 (x.terms.verify.parts.flatMap dtPart)) :: QQ))) (.slice (some ⟨g, 0, none⟩) n c) bs := Ow.setNum (pre := PP) (n := x.frm) (post := Dt.num x.value :: Dt.num x.eff.base :: (Dt.row 2 82 (x.eff.parts.flatMap dtPart)) :: Dt.num x.terms.taint.base :: (Dt.row 2 82 (x.terms.taint.parts.flatMap dtPart)) :: Dt.num x.terms.clear.base :: (Dt.row 2 82 (x.terms.clear.parts.flatMap dtPart)) :: Dt.num x.terms.raise.base :: (Dt.row 2 82 (x.terms.raise.parts.flatMap dtPart)) :: Dt.num x.terms.verify.base :: (Dt.row 2 82 (x.terms.verify.parts.flatMap dtPart)) :: QQ) (by simpa using HH.out) HNB.out (by simp [HPl.out]) (q)
      have hs1 : Ow (((wr).setCell ⟨g, j * 12, none⟩ (.int .i64 (q))).setCell ⟨g, j * 12 + 1, none⟩ (.int .i64 (q + 1))) (.row 12 37 ((PP ++ [Dt.num (q)]) ++ (Dt.num (q + 1) :: Dt.num x.eff.base :: (Dt.row 2 82 (x.eff.parts.flatMap dtPart)) :: Dt.num x.terms.taint.base :: (Dt.row 2 82 (x.terms.taint.parts.flatMap dtPart)) :: Dt.num x.terms.clear.base :: (Dt.row 2 82 (x.terms.clear.parts.flatMap dtPart)) :: Dt.num x.terms.raise.base :: (Dt.row 2 82 (x.terms.raise.parts.flatMap dtPart)) :: Dt.num x.terms.verify.base :: (Dt.row 2 82 (x.terms.verify.parts.flatMap dtPart)) :: QQ))) (.slice (some ⟨g, 0, none⟩) n c) bs := Ow.setNum (pre := (PP ++ [Dt.num (q)])) (n := x.value) (post := Dt.num x.eff.base :: (Dt.row 2 82 (x.eff.parts.flatMap dtPart)) :: Dt.num x.terms.taint.base :: (Dt.row 2 82 (x.terms.taint.parts.flatMap dtPart)) :: Dt.num x.terms.clear.base :: (Dt.row 2 82 (x.terms.clear.parts.flatMap dtPart)) :: Dt.num x.terms.raise.base :: (Dt.row 2 82 (x.terms.raise.parts.flatMap dtPart)) :: Dt.num x.terms.verify.base :: (Dt.row 2 82 (x.terms.verify.parts.flatMap dtPart)) :: QQ) (by simpa using hs0) HNB.out (by simp [HPl.out]) (q + 1)
      have hs2 : Ow ((((wr).setCell ⟨g, j * 12, none⟩ (.int .i64 (q))).setCell ⟨g, j * 12 + 1, none⟩ (.int .i64 (q + 1))).setCell ⟨g, j * 12 + 2, none⟩ (.int .i64 (q + 1 + 1))) (.row 12 37 ((PP ++ [Dt.num (q), Dt.num (q + 1)]) ++ (Dt.num (q + 1 + 1) :: (Dt.row 2 82 (x.eff.parts.flatMap dtPart)) :: Dt.num x.terms.taint.base :: (Dt.row 2 82 (x.terms.taint.parts.flatMap dtPart)) :: Dt.num x.terms.clear.base :: (Dt.row 2 82 (x.terms.clear.parts.flatMap dtPart)) :: Dt.num x.terms.raise.base :: (Dt.row 2 82 (x.terms.raise.parts.flatMap dtPart)) :: Dt.num x.terms.verify.base :: (Dt.row 2 82 (x.terms.verify.parts.flatMap dtPart)) :: QQ))) (.slice (some ⟨g, 0, none⟩) n c) bs := Ow.setNum (pre := (PP ++ [Dt.num (q), Dt.num (q + 1)])) (n := x.eff.base) (post := (Dt.row 2 82 (x.eff.parts.flatMap dtPart)) :: Dt.num x.terms.taint.base :: (Dt.row 2 82 (x.terms.taint.parts.flatMap dtPart)) :: Dt.num x.terms.clear.base :: (Dt.row 2 82 (x.terms.clear.parts.flatMap dtPart)) :: Dt.num x.terms.raise.base :: (Dt.row 2 82 (x.terms.raise.parts.flatMap dtPart)) :: Dt.num x.terms.verify.base :: (Dt.row 2 82 (x.terms.verify.parts.flatMap dtPart)) :: QQ) (by simpa using hs1) HNB.out (by simp [HPl.out]) (q + 1 + 1)
      generalize hW : (((wr).setCell ⟨g, j * 12, none⟩ (.int .i64 (q))).setCell ⟨g, j * 12 + 1, none⟩ (.int .i64 (q + 1))).setCell ⟨g, j * 12 + 2, none⟩ (.int .i64 (q + 1 + 1)) = z0
      have HH' : Hid (Ow z0 (.row 12 37 (PP ++ (Dt.num (q) :: Dt.num (q + 1) :: Dt.num (q + 1 + 1) :: (Dt.row 2 82 (x.eff.parts.flatMap dtPart)) :: Dt.num x.terms.taint.base :: (Dt.row 2 82 (x.terms.taint.parts.flatMap dtPart)) :: Dt.num x.terms.clear.base :: (Dt.row 2 82 (x.terms.clear.parts.flatMap dtPart)) :: Dt.num x.terms.raise.base :: (Dt.row 2 82 (x.terms.raise.parts.flatMap dtPart)) :: Dt.num x.terms.verify.base :: (Dt.row 2 82 (x.terms.verify.parts.flatMap dtPart)) :: QQ))) (.slice (some ⟨g, 0, none⟩) n c) bs) := Lib.hid (by rw [← hW]; simpa using hs2)
      have hgb : g ∈ bs := by obtain ⟨_, cs_, -, -, rfl⟩ := HH.out.open; simp
      have HG' : Hid (Chg bs w z0) := Lib.hid (by rw [← hW]; exact (((HG.out).set hgb _).set hgb _).set hgb _)
      clear hW HH HG hgb p0 f0 hs0 p1 f1 hs1 p2 f2 hs2
      have HH := HH'
      have HG := HG'
      clear HH' HG'
      obtain ⟨u_, b_, hu, hou, hnb, hsub, hcont⟩ := Ow.inner (pre := (PP ++ [Dt.num (q), Dt.num (q + 1), Dt.num (q + 1 + 1)])) (d := (Dt.row 2 82 (x.eff.parts.flatMap dtPart))) (post := Dt.num x.terms.taint.base :: (Dt.row 2 82 (x.terms.taint.parts.flatMap dtPart)) :: Dt.num x.terms.clear.base :: (Dt.row 2 82 (x.terms.clear.parts.flatMap dtPart)) :: Dt.num x.terms.raise.base :: (Dt.row 2 82 (x.terms.raise.parts.flatMap dtPart)) :: Dt.num x.terms.verify.base :: (Dt.row 2 82 (x.terms.verify.parts.flatMap dtPart)) :: QQ) (by simpa using HH.out) HNB.out
      obtain ⟨Ar, nr, cr, rfl⟩ := ow_slice hou
      have hlen : (PP ++ [Dt.num (q), Dt.num (q + 1), Dt.num (q + 1 + 1)]).length = j * 12 + 3 := by simp [HPl.out]
      rw [hlen] at hu
      have HOU := Lib.hid hou
      have HCT := Lib.hid hcont
      have HSB := Lib.hid hsub
      have HNN := Lib.hid hnb
      clear hou hcont hsub hlen hnb HH
      go_wp2_with fail
      refine (mkD_pts HOU.out (by unfold msSz tmSz at hsx; omega) (by omega) (by omega)).mono ?_
      rintro e y3 ⟨rfl, hw, hc⟩
      have HH : Hid (Ow y3 (.row 12 37 (PP ++ (Dt.num (q) :: Dt.num (q + 1) :: Dt.num (q + 1 + 1) :: (Dt.row 2 82 (mkds (q + 1 + 1 + 1) (x.eff.parts.flatMap dtPart))) :: Dt.num x.terms.taint.base :: (Dt.row 2 82 (x.terms.taint.parts.flatMap dtPart)) :: Dt.num x.terms.clear.base :: (Dt.row 2 82 (x.terms.clear.parts.flatMap dtPart)) :: Dt.num x.terms.raise.base :: (Dt.row 2 82 (x.terms.raise.parts.flatMap dtPart)) :: Dt.num x.terms.verify.base :: (Dt.row 2 82 (x.terms.verify.parts.flatMap dtPart)) :: QQ))) (.slice (some ⟨g, 0, none⟩) n c) bs) := Lib.hid (by simpa using HCT.out y3 _ hc hw)
      have HG' : Hid (Chg bs w y3) := Lib.hid (HG.out.trans (hc.mono (fun a ha => (HSB.out a ha).1)))
      clear HG hw hc HCT HSB HOU HNN hu
      have HG := HG'
      clear HG'
      obtain ⟨us_, cs_, ho_, -, -⟩ := HH.out.open
      obtain ⟨⟨u4, p4⟩, f4⟩ := own_cell ho_ (j * 12 + 4) (by omega)
      clear ho_
      go_upto_region 13 with fail
      have hs4 : Ow ((y3).setCell ⟨g, j * 12 + 4, none⟩ (.int .i64 (q + 1 + 1 + 1 + 2 * (x.eff.parts.length : Int)))) (.row 12 37 ((PP ++ [Dt.num (q), Dt.num (q + 1), Dt.num (q + 1 + 1), (Dt.row 2 82 (mkds (q + 1 + 1 + 1) (x.eff.parts.flatMap dtPart)))]) ++ (Dt.num (q + 1 + 1 + 1 + 2 * (x.eff.parts.length : Int)) :: (Dt.row 2 82 (x.terms.taint.parts.flatMap dtPart)) :: Dt.num x.terms.clear.base :: (Dt.row 2 82 (x.terms.clear.parts.flatMap dtPart)) :: Dt.num x.terms.raise.base :: (Dt.row 2 82 (x.terms.raise.parts.flatMap dtPart)) :: Dt.num x.terms.verify.base :: (Dt.row 2 82 (x.terms.verify.parts.flatMap dtPart)) :: QQ))) (.slice (some ⟨g, 0, none⟩) n c) bs := Ow.setNum (pre := (PP ++ [Dt.num (q), Dt.num (q + 1), Dt.num (q + 1 + 1), (Dt.row 2 82 (mkds (q + 1 + 1 + 1) (x.eff.parts.flatMap dtPart)))])) (n := x.terms.taint.base) (post := (Dt.row 2 82 (x.terms.taint.parts.flatMap dtPart)) :: Dt.num x.terms.clear.base :: (Dt.row 2 82 (x.terms.clear.parts.flatMap dtPart)) :: Dt.num x.terms.raise.base :: (Dt.row 2 82 (x.terms.raise.parts.flatMap dtPart)) :: Dt.num x.terms.verify.base :: (Dt.row 2 82 (x.terms.verify.parts.flatMap dtPart)) :: QQ) (by simpa using HH.out) HNB.out (by simp [HPl.out]) (q + 1 + 1 + 1 + 2 * (x.eff.parts.length : Int))
      generalize hW : (y3).setCell ⟨g, j * 12 + 4, none⟩ (.int .i64 (q + 1 + 1 + 1 + 2 * (x.eff.parts.length : Int))) = z1
      have HH' : Hid (Ow z1 (.row 12 37 (PP ++ (Dt.num (q) :: Dt.num (q + 1) :: Dt.num (q + 1 + 1) :: (Dt.row 2 82 (mkds (q + 1 + 1 + 1) (x.eff.parts.flatMap dtPart))) :: Dt.num (q + 1 + 1 + 1 + 2 * (x.eff.parts.length : Int)) :: (Dt.row 2 82 (x.terms.taint.parts.flatMap dtPart)) :: Dt.num x.terms.clear.base :: (Dt.row 2 82 (x.terms.clear.parts.flatMap dtPart)) :: Dt.num x.terms.raise.base :: (Dt.row 2 82 (x.terms.raise.parts.flatMap dtPart)) :: Dt.num x.terms.verify.base :: (Dt.row 2 82 (x.terms.verify.parts.flatMap dtPart)) :: QQ))) (.slice (some ⟨g, 0, none⟩) n c) bs) := Lib.hid (by rw [← hW]; simpa using hs4)
      have hgb : g ∈ bs := by obtain ⟨_, cs_, -, -, rfl⟩ := HH.out.open; simp
      have HG' : Hid (Chg bs w z1) := Lib.hid (by rw [← hW]; exact (HG.out).set hgb _)
      clear hW HH HG hgb p4 f4 hs4
      have HH := HH'
      have HG := HG'
      clear HH' HG'
      obtain ⟨u_, b_, hu, hou, hnb, hsub, hcont⟩ := Ow.inner (pre := (PP ++ [Dt.num (q), Dt.num (q + 1), Dt.num (q + 1 + 1), (Dt.row 2 82 (mkds (q + 1 + 1 + 1) (x.eff.parts.flatMap dtPart))), Dt.num (q + 1 + 1 + 1 + 2 * (x.eff.parts.length : Int))])) (d := (Dt.row 2 82 (x.terms.taint.parts.flatMap dtPart))) (post := Dt.num x.terms.clear.base :: (Dt.row 2 82 (x.terms.clear.parts.flatMap dtPart)) :: Dt.num x.terms.raise.base :: (Dt.row 2 82 (x.terms.raise.parts.flatMap dtPart)) :: Dt.num x.terms.verify.base :: (Dt.row 2 82 (x.terms.verify.parts.flatMap dtPart)) :: QQ) (by simpa using HH.out) HNB.out
      obtain ⟨Ar, nr, cr, rfl⟩ := ow_slice hou
      have hlen : (PP ++ [Dt.num (q), Dt.num (q + 1), Dt.num (q + 1 + 1), (Dt.row 2 82 (mkds (q + 1 + 1 + 1) (x.eff.parts.flatMap dtPart))), Dt.num (q + 1 + 1 + 1 + 2 * (x.eff.parts.length : Int))]).length = j * 12 + 5 := by simp [HPl.out]
      rw [hlen] at hu
      have HOU := Lib.hid hou
      have HCT := Lib.hid hcont
      have HSB := Lib.hid hsub
      have HNN := Lib.hid hnb
      clear hou hcont hsub hlen hnb HH
      go_wp2_with fail
      refine (mkD_pts HOU.out (by unfold msSz tmSz at hsx; omega) (by omega) (by omega)).mono ?_
      rintro e y5 ⟨rfl, hw, hc⟩
      have HH : Hid (Ow y5 (.row 12 37 (PP ++ (Dt.num (q) :: Dt.num (q + 1) :: Dt.num (q + 1 + 1) :: (Dt.row 2 82 (mkds (q + 1 + 1 + 1) (x.eff.parts.flatMap dtPart))) :: Dt.num (q + 1 + 1 + 1 + 2 * (x.eff.parts.length : Int)) :: (Dt.row 2 82 (mkds (q + 1 + 1 + 1 + 2 * (x.eff.parts.length : Int) + 1) (x.terms.taint.parts.flatMap dtPart))) :: Dt.num x.terms.clear.base :: (Dt.row 2 82 (x.terms.clear.parts.flatMap dtPart)) :: Dt.num x.terms.raise.base :: (Dt.row 2 82 (x.terms.raise.parts.flatMap dtPart)) :: Dt.num x.terms.verify.base :: (Dt.row 2 82 (x.terms.verify.parts.flatMap dtPart)) :: QQ))) (.slice (some ⟨g, 0, none⟩) n c) bs) := Lib.hid (by simpa using HCT.out y5 _ hc hw)
      have HG' : Hid (Chg bs w y5) := Lib.hid (HG.out.trans (hc.mono (fun a ha => (HSB.out a ha).1)))
      clear HG hw hc HCT HSB HOU HNN hu
      have HG := HG'
      clear HG'
      obtain ⟨us_, cs_, ho_, -, -⟩ := HH.out.open
      obtain ⟨⟨u6, p6⟩, f6⟩ := own_cell ho_ (j * 12 + 6) (by omega)
      clear ho_
      go_upto_region 16 with fail
      have hs6 : Ow ((y5).setCell ⟨g, j * 12 + 6, none⟩ (.int .i64 (q + 1 + 1 + 1 + 2 * (x.eff.parts.length : Int) + 1 + 2 * (x.terms.taint.parts.length : Int)))) (.row 12 37 ((PP ++ [Dt.num (q), Dt.num (q + 1), Dt.num (q + 1 + 1), (Dt.row 2 82 (mkds (q + 1 + 1 + 1) (x.eff.parts.flatMap dtPart))), Dt.num (q + 1 + 1 + 1 + 2 * (x.eff.parts.length : Int)), (Dt.row 2 82 (mkds (q + 1 + 1 + 1 + 2 * (x.eff.parts.length : Int) + 1) (x.terms.taint.parts.flatMap dtPart)))]) ++ (Dt.num (q + 1 + 1 + 1 + 2 * (x.eff.parts.length : Int) + 1 + 2 * (x.terms.taint.parts.length : Int)) :: (Dt.row 2 82 (x.terms.clear.parts.flatMap dtPart)) :: Dt.num x.terms.raise.base :: (Dt.row 2 82 (x.terms.raise.parts.flatMap dtPart)) :: Dt.num x.terms.verify.base :: (Dt.row 2 82 (x.terms.verify.parts.flatMap dtPart)) :: QQ))) (.slice (some ⟨g, 0, none⟩) n c) bs := Ow.setNum (pre := (PP ++ [Dt.num (q), Dt.num (q + 1), Dt.num (q + 1 + 1), (Dt.row 2 82 (mkds (q + 1 + 1 + 1) (x.eff.parts.flatMap dtPart))), Dt.num (q + 1 + 1 + 1 + 2 * (x.eff.parts.length : Int)), (Dt.row 2 82 (mkds (q + 1 + 1 + 1 + 2 * (x.eff.parts.length : Int) + 1) (x.terms.taint.parts.flatMap dtPart)))])) (n := x.terms.clear.base) (post := (Dt.row 2 82 (x.terms.clear.parts.flatMap dtPart)) :: Dt.num x.terms.raise.base :: (Dt.row 2 82 (x.terms.raise.parts.flatMap dtPart)) :: Dt.num x.terms.verify.base :: (Dt.row 2 82 (x.terms.verify.parts.flatMap dtPart)) :: QQ) (by simpa using HH.out) HNB.out (by simp [HPl.out]) (q + 1 + 1 + 1 + 2 * (x.eff.parts.length : Int) + 1 + 2 * (x.terms.taint.parts.length : Int))
      generalize hW : (y5).setCell ⟨g, j * 12 + 6, none⟩ (.int .i64 (q + 1 + 1 + 1 + 2 * (x.eff.parts.length : Int) + 1 + 2 * (x.terms.taint.parts.length : Int))) = z2
      have HH' : Hid (Ow z2 (.row 12 37 (PP ++ (Dt.num (q) :: Dt.num (q + 1) :: Dt.num (q + 1 + 1) :: (Dt.row 2 82 (mkds (q + 1 + 1 + 1) (x.eff.parts.flatMap dtPart))) :: Dt.num (q + 1 + 1 + 1 + 2 * (x.eff.parts.length : Int)) :: (Dt.row 2 82 (mkds (q + 1 + 1 + 1 + 2 * (x.eff.parts.length : Int) + 1) (x.terms.taint.parts.flatMap dtPart))) :: Dt.num (q + 1 + 1 + 1 + 2 * (x.eff.parts.length : Int) + 1 + 2 * (x.terms.taint.parts.length : Int)) :: (Dt.row 2 82 (x.terms.clear.parts.flatMap dtPart)) :: Dt.num x.terms.raise.base :: (Dt.row 2 82 (x.terms.raise.parts.flatMap dtPart)) :: Dt.num x.terms.verify.base :: (Dt.row 2 82 (x.terms.verify.parts.flatMap dtPart)) :: QQ))) (.slice (some ⟨g, 0, none⟩) n c) bs) := Lib.hid (by rw [← hW]; simpa using hs6)
      have hgb : g ∈ bs := by obtain ⟨_, cs_, -, -, rfl⟩ := HH.out.open; simp
      have HG' : Hid (Chg bs w z2) := Lib.hid (by rw [← hW]; exact (HG.out).set hgb _)
      clear hW HH HG hgb p6 f6 hs6
      have HH := HH'
      have HG := HG'
      clear HH' HG'
      obtain ⟨u_, b_, hu, hou, hnb, hsub, hcont⟩ := Ow.inner (pre := (PP ++ [Dt.num (q), Dt.num (q + 1), Dt.num (q + 1 + 1), (Dt.row 2 82 (mkds (q + 1 + 1 + 1) (x.eff.parts.flatMap dtPart))), Dt.num (q + 1 + 1 + 1 + 2 * (x.eff.parts.length : Int)), (Dt.row 2 82 (mkds (q + 1 + 1 + 1 + 2 * (x.eff.parts.length : Int) + 1) (x.terms.taint.parts.flatMap dtPart))), Dt.num (q + 1 + 1 + 1 + 2 * (x.eff.parts.length : Int) + 1 + 2 * (x.terms.taint.parts.length : Int))])) (d := (Dt.row 2 82 (x.terms.clear.parts.flatMap dtPart))) (post := Dt.num x.terms.raise.base :: (Dt.row 2 82 (x.terms.raise.parts.flatMap dtPart)) :: Dt.num x.terms.verify.base :: (Dt.row 2 82 (x.terms.verify.parts.flatMap dtPart)) :: QQ) (by simpa using HH.out) HNB.out
      obtain ⟨Ar, nr, cr, rfl⟩ := ow_slice hou
      have hlen : (PP ++ [Dt.num (q), Dt.num (q + 1), Dt.num (q + 1 + 1), (Dt.row 2 82 (mkds (q + 1 + 1 + 1) (x.eff.parts.flatMap dtPart))), Dt.num (q + 1 + 1 + 1 + 2 * (x.eff.parts.length : Int)), (Dt.row 2 82 (mkds (q + 1 + 1 + 1 + 2 * (x.eff.parts.length : Int) + 1) (x.terms.taint.parts.flatMap dtPart))), Dt.num (q + 1 + 1 + 1 + 2 * (x.eff.parts.length : Int) + 1 + 2 * (x.terms.taint.parts.length : Int))]).length = j * 12 + 7 := by simp [HPl.out]
      rw [hlen] at hu
      have HOU := Lib.hid hou
      have HCT := Lib.hid hcont
      have HSB := Lib.hid hsub
      have HNN := Lib.hid hnb
      clear hou hcont hsub hlen hnb HH
      go_wp2_with fail
      refine (mkD_pts HOU.out (by unfold msSz tmSz at hsx; omega) (by omega) (by omega)).mono ?_
      rintro e y7 ⟨rfl, hw, hc⟩
      have HH : Hid (Ow y7 (.row 12 37 (PP ++ (Dt.num (q) :: Dt.num (q + 1) :: Dt.num (q + 1 + 1) :: (Dt.row 2 82 (mkds (q + 1 + 1 + 1) (x.eff.parts.flatMap dtPart))) :: Dt.num (q + 1 + 1 + 1 + 2 * (x.eff.parts.length : Int)) :: (Dt.row 2 82 (mkds (q + 1 + 1 + 1 + 2 * (x.eff.parts.length : Int) + 1) (x.terms.taint.parts.flatMap dtPart))) :: Dt.num (q + 1 + 1 + 1 + 2 * (x.eff.parts.length : Int) + 1 + 2 * (x.terms.taint.parts.length : Int)) :: (Dt.row 2 82 (mkds (q + 1 + 1 + 1 + 2 * (x.eff.parts.length : Int) + 1 + 2 * (x.terms.taint.parts.length : Int) + 1) (x.terms.clear.parts.flatMap dtPart))) :: Dt.num x.terms.raise.base :: (Dt.row 2 82 (x.terms.raise.parts.flatMap dtPart)) :: Dt.num x.terms.verify.base :: (Dt.row 2 82 (x.terms.verify.parts.flatMap dtPart)) :: QQ))) (.slice (some ⟨g, 0, none⟩) n c) bs) := Lib.hid (by simpa using HCT.out y7 _ hc hw)
      have HG' : Hid (Chg bs w y7) := Lib.hid (HG.out.trans (hc.mono (fun a ha => (HSB.out a ha).1)))
      clear HG hw hc HCT HSB HOU HNN hu
      have HG := HG'
      clear HG'
      obtain ⟨us_, cs_, ho_, -, -⟩ := HH.out.open
      obtain ⟨⟨u8, p8⟩, f8⟩ := own_cell ho_ (j * 12 + 8) (by omega)
      clear ho_
      go_upto_region 19 with fail
      have hs8 : Ow ((y7).setCell ⟨g, j * 12 + 8, none⟩ (.int .i64 (q + 1 + 1 + 1 + 2 * (x.eff.parts.length : Int) + 1 + 2 * (x.terms.taint.parts.length : Int) + 1 + 2 * (x.terms.clear.parts.length : Int)))) (.row 12 37 ((PP ++ [Dt.num (q), Dt.num (q + 1), Dt.num (q + 1 + 1), (Dt.row 2 82 (mkds (q + 1 + 1 + 1) (x.eff.parts.flatMap dtPart))), Dt.num (q + 1 + 1 + 1 + 2 * (x.eff.parts.length : Int)), (Dt.row 2 82 (mkds (q + 1 + 1 + 1 + 2 * (x.eff.parts.length : Int) + 1) (x.terms.taint.parts.flatMap dtPart))), Dt.num (q + 1 + 1 + 1 + 2 * (x.eff.parts.length : Int) + 1 + 2 * (x.terms.taint.parts.length : Int)), (Dt.row 2 82 (mkds (q + 1 + 1 + 1 + 2 * (x.eff.parts.length : Int) + 1 + 2 * (x.terms.taint.parts.length : Int) + 1) (x.terms.clear.parts.flatMap dtPart)))]) ++ (Dt.num (q + 1 + 1 + 1 + 2 * (x.eff.parts.length : Int) + 1 + 2 * (x.terms.taint.parts.length : Int) + 1 + 2 * (x.terms.clear.parts.length : Int)) :: (Dt.row 2 82 (x.terms.raise.parts.flatMap dtPart)) :: Dt.num x.terms.verify.base :: (Dt.row 2 82 (x.terms.verify.parts.flatMap dtPart)) :: QQ))) (.slice (some ⟨g, 0, none⟩) n c) bs := Ow.setNum (pre := (PP ++ [Dt.num (q), Dt.num (q + 1), Dt.num (q + 1 + 1), (Dt.row 2 82 (mkds (q + 1 + 1 + 1) (x.eff.parts.flatMap dtPart))), Dt.num (q + 1 + 1 + 1 + 2 * (x.eff.parts.length : Int)), (Dt.row 2 82 (mkds (q + 1 + 1 + 1 + 2 * (x.eff.parts.length : Int) + 1) (x.terms.taint.parts.flatMap dtPart))), Dt.num (q + 1 + 1 + 1 + 2 * (x.eff.parts.length : Int) + 1 + 2 * (x.terms.taint.parts.length : Int)), (Dt.row 2 82 (mkds (q + 1 + 1 + 1 + 2 * (x.eff.parts.length : Int) + 1 + 2 * (x.terms.taint.parts.length : Int) + 1) (x.terms.clear.parts.flatMap dtPart)))])) (n := x.terms.raise.base) (post := (Dt.row 2 82 (x.terms.raise.parts.flatMap dtPart)) :: Dt.num x.terms.verify.base :: (Dt.row 2 82 (x.terms.verify.parts.flatMap dtPart)) :: QQ) (by simpa using HH.out) HNB.out (by simp [HPl.out]) (q + 1 + 1 + 1 + 2 * (x.eff.parts.length : Int) + 1 + 2 * (x.terms.taint.parts.length : Int) + 1 + 2 * (x.terms.clear.parts.length : Int))
      generalize hW : (y7).setCell ⟨g, j * 12 + 8, none⟩ (.int .i64 (q + 1 + 1 + 1 + 2 * (x.eff.parts.length : Int) + 1 + 2 * (x.terms.taint.parts.length : Int) + 1 + 2 * (x.terms.clear.parts.length : Int))) = z3
      have HH' : Hid (Ow z3 (.row 12 37 (PP ++ (Dt.num (q) :: Dt.num (q + 1) :: Dt.num (q + 1 + 1) :: (Dt.row 2 82 (mkds (q + 1 + 1 + 1) (x.eff.parts.flatMap dtPart))) :: Dt.num (q + 1 + 1 + 1 + 2 * (x.eff.parts.length : Int)) :: (Dt.row 2 82 (mkds (q + 1 + 1 + 1 + 2 * (x.eff.parts.length : Int) + 1) (x.terms.taint.parts.flatMap dtPart))) :: Dt.num (q + 1 + 1 + 1 + 2 * (x.eff.parts.length : Int) + 1 + 2 * (x.terms.taint.parts.length : Int)) :: (Dt.row 2 82 (mkds (q + 1 + 1 + 1 + 2 * (x.eff.parts.length : Int) + 1 + 2 * (x.terms.taint.parts.length : Int) + 1) (x.terms.clear.parts.flatMap dtPart))) :: Dt.num (q + 1 + 1 + 1 + 2 * (x.eff.parts.length : Int) + 1 + 2 * (x.terms.taint.parts.length : Int) + 1 + 2 * (x.terms.clear.parts.length : Int)) :: (Dt.row 2 82 (x.terms.raise.parts.flatMap dtPart)) :: Dt.num x.terms.verify.base :: (Dt.row 2 82 (x.terms.verify.parts.flatMap dtPart)) :: QQ))) (.slice (some ⟨g, 0, none⟩) n c) bs) := Lib.hid (by rw [← hW]; simpa using hs8)
      have hgb : g ∈ bs := by obtain ⟨_, cs_, -, -, rfl⟩ := HH.out.open; simp
      have HG' : Hid (Chg bs w z3) := Lib.hid (by rw [← hW]; exact (HG.out).set hgb _)
      clear hW HH HG hgb p8 f8 hs8
      have HH := HH'
      have HG := HG'
      clear HH' HG'
      obtain ⟨u_, b_, hu, hou, hnb, hsub, hcont⟩ := Ow.inner (pre := (PP ++ [Dt.num (q), Dt.num (q + 1), Dt.num (q + 1 + 1), (Dt.row 2 82 (mkds (q + 1 + 1 + 1) (x.eff.parts.flatMap dtPart))), Dt.num (q + 1 + 1 + 1 + 2 * (x.eff.parts.length : Int)), (Dt.row 2 82 (mkds (q + 1 + 1 + 1 + 2 * (x.eff.parts.length : Int) + 1) (x.terms.taint.parts.flatMap dtPart))), Dt.num (q + 1 + 1 + 1 + 2 * (x.eff.parts.length : Int) + 1 + 2 * (x.terms.taint.parts.length : Int)), (Dt.row 2 82 (mkds (q + 1 + 1 + 1 + 2 * (x.eff.parts.length : Int) + 1 + 2 * (x.terms.taint.parts.length : Int) + 1) (x.terms.clear.parts.flatMap dtPart))), Dt.num (q + 1 + 1 + 1 + 2 * (x.eff.parts.length : Int) + 1 + 2 * (x.terms.taint.parts.length : Int) + 1 + 2 * (x.terms.clear.parts.length : Int))])) (d := (Dt.row 2 82 (x.terms.raise.parts.flatMap dtPart))) (post := Dt.num x.terms.verify.base :: (Dt.row 2 82 (x.terms.verify.parts.flatMap dtPart)) :: QQ) (by simpa using HH.out) HNB.out
      obtain ⟨Ar, nr, cr, rfl⟩ := ow_slice hou
      have hlen : (PP ++ [Dt.num (q), Dt.num (q + 1), Dt.num (q + 1 + 1), (Dt.row 2 82 (mkds (q + 1 + 1 + 1) (x.eff.parts.flatMap dtPart))), Dt.num (q + 1 + 1 + 1 + 2 * (x.eff.parts.length : Int)), (Dt.row 2 82 (mkds (q + 1 + 1 + 1 + 2 * (x.eff.parts.length : Int) + 1) (x.terms.taint.parts.flatMap dtPart))), Dt.num (q + 1 + 1 + 1 + 2 * (x.eff.parts.length : Int) + 1 + 2 * (x.terms.taint.parts.length : Int)), (Dt.row 2 82 (mkds (q + 1 + 1 + 1 + 2 * (x.eff.parts.length : Int) + 1 + 2 * (x.terms.taint.parts.length : Int) + 1) (x.terms.clear.parts.flatMap dtPart))), Dt.num (q + 1 + 1 + 1 + 2 * (x.eff.parts.length : Int) + 1 + 2 * (x.terms.taint.parts.length : Int) + 1 + 2 * (x.terms.clear.parts.length : Int))]).length = j * 12 + 9 := by simp [HPl.out]
      rw [hlen] at hu
      have HOU := Lib.hid hou
      have HCT := Lib.hid hcont
      have HSB := Lib.hid hsub
      have HNN := Lib.hid hnb
      clear hou hcont hsub hlen hnb HH
      go_wp2_with fail
      refine (mkD_pts HOU.out (by unfold msSz tmSz at hsx; omega) (by omega) (by omega)).mono ?_
      rintro e y9 ⟨rfl, hw, hc⟩
      have HH : Hid (Ow y9 (.row 12 37 (PP ++ (Dt.num (q) :: Dt.num (q + 1) :: Dt.num (q + 1 + 1) :: (Dt.row 2 82 (mkds (q + 1 + 1 + 1) (x.eff.parts.flatMap dtPart))) :: Dt.num (q + 1 + 1 + 1 + 2 * (x.eff.parts.length : Int)) :: (Dt.row 2 82 (mkds (q + 1 + 1 + 1 + 2 * (x.eff.parts.length : Int) + 1) (x.terms.taint.parts.flatMap dtPart))) :: Dt.num (q + 1 + 1 + 1 + 2 * (x.eff.parts.length : Int) + 1 + 2 * (x.terms.taint.parts.length : Int)) :: (Dt.row 2 82 (mkds (q + 1 + 1 + 1 + 2 * (x.eff.parts.length : Int) + 1 + 2 * (x.terms.taint.parts.length : Int) + 1) (x.terms.clear.parts.flatMap dtPart))) :: Dt.num (q + 1 + 1 + 1 + 2 * (x.eff.parts.length : Int) + 1 + 2 * (x.terms.taint.parts.length : Int) + 1 + 2 * (x.terms.clear.parts.length : Int)) :: (Dt.row 2 82 (mkds (q + 1 + 1 + 1 + 2 * (x.eff.parts.length : Int) + 1 + 2 * (x.terms.taint.parts.length : Int) + 1 + 2 * (x.terms.clear.parts.length : Int) + 1) (x.terms.raise.parts.flatMap dtPart))) :: Dt.num x.terms.verify.base :: (Dt.row 2 82 (x.terms.verify.parts.flatMap dtPart)) :: QQ))) (.slice (some ⟨g, 0, none⟩) n c) bs) := Lib.hid (by simpa using HCT.out y9 _ hc hw)
      have HG' : Hid (Chg bs w y9) := Lib.hid (HG.out.trans (hc.mono (fun a ha => (HSB.out a ha).1)))
      clear HG hw hc HCT HSB HOU HNN hu
      have HG := HG'
      clear HG'
      obtain ⟨us_, cs_, ho_, -, -⟩ := HH.out.open
      obtain ⟨⟨u10, p10⟩, f10⟩ := own_cell ho_ (j * 12 + 10) (by omega)
      clear ho_
      go_upto_region 22 with fail
      have hs10 : Ow ((y9).setCell ⟨g, j * 12 + 10, none⟩ (.int .i64 (q + 1 + 1 + 1 + 2 * (x.eff.parts.length : Int) + 1 + 2 * (x.terms.taint.parts.length : Int) + 1 + 2 * (x.terms.clear.parts.length : Int) + 1 + 2 * (x.terms.raise.parts.length : Int)))) (.row 12 37 ((PP ++ [Dt.num (q), Dt.num (q + 1), Dt.num (q + 1 + 1), (Dt.row 2 82 (mkds (q + 1 + 1 + 1) (x.eff.parts.flatMap dtPart))), Dt.num (q + 1 + 1 + 1 + 2 * (x.eff.parts.length : Int)), (Dt.row 2 82 (mkds (q + 1 + 1 + 1 + 2 * (x.eff.parts.length : Int) + 1) (x.terms.taint.parts.flatMap dtPart))), Dt.num (q + 1 + 1 + 1 + 2 * (x.eff.parts.length : Int) + 1 + 2 * (x.terms.taint.parts.length : Int)), (Dt.row 2 82 (mkds (q + 1 + 1 + 1 + 2 * (x.eff.parts.length : Int) + 1 + 2 * (x.terms.taint.parts.length : Int) + 1) (x.terms.clear.parts.flatMap dtPart))), Dt.num (q + 1 + 1 + 1 + 2 * (x.eff.parts.length : Int) + 1 + 2 * (x.terms.taint.parts.length : Int) + 1 + 2 * (x.terms.clear.parts.length : Int)), (Dt.row 2 82 (mkds (q + 1 + 1 + 1 + 2 * (x.eff.parts.length : Int) + 1 + 2 * (x.terms.taint.parts.length : Int) + 1 + 2 * (x.terms.clear.parts.length : Int) + 1) (x.terms.raise.parts.flatMap dtPart)))]) ++ (Dt.num (q + 1 + 1 + 1 + 2 * (x.eff.parts.length : Int) + 1 + 2 * (x.terms.taint.parts.length : Int) + 1 + 2 * (x.terms.clear.parts.length : Int) + 1 + 2 * (x.terms.raise.parts.length : Int)) :: (Dt.row 2 82 (x.terms.verify.parts.flatMap dtPart)) :: QQ))) (.slice (some ⟨g, 0, none⟩) n c) bs := Ow.setNum (pre := (PP ++ [Dt.num (q), Dt.num (q + 1), Dt.num (q + 1 + 1), (Dt.row 2 82 (mkds (q + 1 + 1 + 1) (x.eff.parts.flatMap dtPart))), Dt.num (q + 1 + 1 + 1 + 2 * (x.eff.parts.length : Int)), (Dt.row 2 82 (mkds (q + 1 + 1 + 1 + 2 * (x.eff.parts.length : Int) + 1) (x.terms.taint.parts.flatMap dtPart))), Dt.num (q + 1 + 1 + 1 + 2 * (x.eff.parts.length : Int) + 1 + 2 * (x.terms.taint.parts.length : Int)), (Dt.row 2 82 (mkds (q + 1 + 1 + 1 + 2 * (x.eff.parts.length : Int) + 1 + 2 * (x.terms.taint.parts.length : Int) + 1) (x.terms.clear.parts.flatMap dtPart))), Dt.num (q + 1 + 1 + 1 + 2 * (x.eff.parts.length : Int) + 1 + 2 * (x.terms.taint.parts.length : Int) + 1 + 2 * (x.terms.clear.parts.length : Int)), (Dt.row 2 82 (mkds (q + 1 + 1 + 1 + 2 * (x.eff.parts.length : Int) + 1 + 2 * (x.terms.taint.parts.length : Int) + 1 + 2 * (x.terms.clear.parts.length : Int) + 1) (x.terms.raise.parts.flatMap dtPart)))])) (n := x.terms.verify.base) (post := (Dt.row 2 82 (x.terms.verify.parts.flatMap dtPart)) :: QQ) (by simpa using HH.out) HNB.out (by simp [HPl.out]) (q + 1 + 1 + 1 + 2 * (x.eff.parts.length : Int) + 1 + 2 * (x.terms.taint.parts.length : Int) + 1 + 2 * (x.terms.clear.parts.length : Int) + 1 + 2 * (x.terms.raise.parts.length : Int))
      generalize hW : (y9).setCell ⟨g, j * 12 + 10, none⟩ (.int .i64 (q + 1 + 1 + 1 + 2 * (x.eff.parts.length : Int) + 1 + 2 * (x.terms.taint.parts.length : Int) + 1 + 2 * (x.terms.clear.parts.length : Int) + 1 + 2 * (x.terms.raise.parts.length : Int))) = z4
      have HH' : Hid (Ow z4 (.row 12 37 (PP ++ (Dt.num (q) :: Dt.num (q + 1) :: Dt.num (q + 1 + 1) :: (Dt.row 2 82 (mkds (q + 1 + 1 + 1) (x.eff.parts.flatMap dtPart))) :: Dt.num (q + 1 + 1 + 1 + 2 * (x.eff.parts.length : Int)) :: (Dt.row 2 82 (mkds (q + 1 + 1 + 1 + 2 * (x.eff.parts.length : Int) + 1) (x.terms.taint.parts.flatMap dtPart))) :: Dt.num (q + 1 + 1 + 1 + 2 * (x.eff.parts.length : Int) + 1 + 2 * (x.terms.taint.parts.length : Int)) :: (Dt.row 2 82 (mkds (q + 1 + 1 + 1 + 2 * (x.eff.parts.length : Int) + 1 + 2 * (x.terms.taint.parts.length : Int) + 1) (x.terms.clear.parts.flatMap dtPart))) :: Dt.num (q + 1 + 1 + 1 + 2 * (x.eff.parts.length : Int) + 1 + 2 * (x.terms.taint.parts.length : Int) + 1 + 2 * (x.terms.clear.parts.length : Int)) :: (Dt.row 2 82 (mkds (q + 1 + 1 + 1 + 2 * (x.eff.parts.length : Int) + 1 + 2 * (x.terms.taint.parts.length : Int) + 1 + 2 * (x.terms.clear.parts.length : Int) + 1) (x.terms.raise.parts.flatMap dtPart))) :: Dt.num (q + 1 + 1 + 1 + 2 * (x.eff.parts.length : Int) + 1 + 2 * (x.terms.taint.parts.length : Int) + 1 + 2 * (x.terms.clear.parts.length : Int) + 1 + 2 * (x.terms.raise.parts.length : Int)) :: (Dt.row 2 82 (x.terms.verify.parts.flatMap dtPart)) :: QQ))) (.slice (some ⟨g, 0, none⟩) n c) bs) := Lib.hid (by rw [← hW]; simpa using hs10)
      have hgb : g ∈ bs := by obtain ⟨_, cs_, -, -, rfl⟩ := HH.out.open; simp
      have HG' : Hid (Chg bs w z4) := Lib.hid (by rw [← hW]; exact (HG.out).set hgb _)
      clear hW HH HG hgb p10 f10 hs10
      have HH := HH'
      have HG := HG'
      clear HH' HG'
      obtain ⟨u_, b_, hu, hou, hnb, hsub, hcont⟩ := Ow.inner (pre := (PP ++ [Dt.num (q), Dt.num (q + 1), Dt.num (q + 1 + 1), (Dt.row 2 82 (mkds (q + 1 + 1 + 1) (x.eff.parts.flatMap dtPart))), Dt.num (q + 1 + 1 + 1 + 2 * (x.eff.parts.length : Int)), (Dt.row 2 82 (mkds (q + 1 + 1 + 1 + 2 * (x.eff.parts.length : Int) + 1) (x.terms.taint.parts.flatMap dtPart))), Dt.num (q + 1 + 1 + 1 + 2 * (x.eff.parts.length : Int) + 1 + 2 * (x.terms.taint.parts.length : Int)), (Dt.row 2 82 (mkds (q + 1 + 1 + 1 + 2 * (x.eff.parts.length : Int) + 1 + 2 * (x.terms.taint.parts.length : Int) + 1) (x.terms.clear.parts.flatMap dtPart))), Dt.num (q + 1 + 1 + 1 + 2 * (x.eff.parts.length : Int) + 1 + 2 * (x.terms.taint.parts.length : Int) + 1 + 2 * (x.terms.clear.parts.length : Int)), (Dt.row 2 82 (mkds (q + 1 + 1 + 1 + 2 * (x.eff.parts.length : Int) + 1 + 2 * (x.terms.taint.parts.length : Int) + 1 + 2 * (x.terms.clear.parts.length : Int) + 1) (x.terms.raise.parts.flatMap dtPart))), Dt.num (q + 1 + 1 + 1 + 2 * (x.eff.parts.length : Int) + 1 + 2 * (x.terms.taint.parts.length : Int) + 1 + 2 * (x.terms.clear.parts.length : Int) + 1 + 2 * (x.terms.raise.parts.length : Int))])) (d := (Dt.row 2 82 (x.terms.verify.parts.flatMap dtPart))) (post := QQ) (by simpa using HH.out) HNB.out
      obtain ⟨Ar, nr, cr, rfl⟩ := ow_slice hou
      have hlen : (PP ++ [Dt.num (q), Dt.num (q + 1), Dt.num (q + 1 + 1), (Dt.row 2 82 (mkds (q + 1 + 1 + 1) (x.eff.parts.flatMap dtPart))), Dt.num (q + 1 + 1 + 1 + 2 * (x.eff.parts.length : Int)), (Dt.row 2 82 (mkds (q + 1 + 1 + 1 + 2 * (x.eff.parts.length : Int) + 1) (x.terms.taint.parts.flatMap dtPart))), Dt.num (q + 1 + 1 + 1 + 2 * (x.eff.parts.length : Int) + 1 + 2 * (x.terms.taint.parts.length : Int)), (Dt.row 2 82 (mkds (q + 1 + 1 + 1 + 2 * (x.eff.parts.length : Int) + 1 + 2 * (x.terms.taint.parts.length : Int) + 1) (x.terms.clear.parts.flatMap dtPart))), Dt.num (q + 1 + 1 + 1 + 2 * (x.eff.parts.length : Int) + 1 + 2 * (x.terms.taint.parts.length : Int) + 1 + 2 * (x.terms.clear.parts.length : Int)), (Dt.row 2 82 (mkds (q + 1 + 1 + 1 + 2 * (x.eff.parts.length : Int) + 1 + 2 * (x.terms.taint.parts.length : Int) + 1 + 2 * (x.terms.clear.parts.length : Int) + 1) (x.terms.raise.parts.flatMap dtPart))), Dt.num (q + 1 + 1 + 1 + 2 * (x.eff.parts.length : Int) + 1 + 2 * (x.terms.taint.parts.length : Int) + 1 + 2 * (x.terms.clear.parts.length : Int) + 1 + 2 * (x.terms.raise.parts.length : Int))]).length = j * 12 + 11 := by simp [HPl.out]
      rw [hlen] at hu
      have HOU := Lib.hid hou
      have HCT := Lib.hid hcont
      have HSB := Lib.hid hsub
      have HNN := Lib.hid hnb
      clear hou hcont hsub hlen hnb HH
      go_wp2_with fail
      refine (mkD_pts HOU.out (by unfold msSz tmSz at hsx; omega) (by omega) (by omega)).mono ?_
      rintro e y11 ⟨rfl, hw, hc⟩
      have HH : Hid (Ow y11 (.row 12 37 (PP ++ (Dt.num (q) :: Dt.num (q + 1) :: Dt.num (q + 1 + 1) :: (Dt.row 2 82 (mkds (q + 1 + 1 + 1) (x.eff.parts.flatMap dtPart))) :: Dt.num (q + 1 + 1 + 1 + 2 * (x.eff.parts.length : Int)) :: (Dt.row 2 82 (mkds (q + 1 + 1 + 1 + 2 * (x.eff.parts.length : Int) + 1) (x.terms.taint.parts.flatMap dtPart))) :: Dt.num (q + 1 + 1 + 1 + 2 * (x.eff.parts.length : Int) + 1 + 2 * (x.terms.taint.parts.length : Int)) :: (Dt.row 2 82 (mkds (q + 1 + 1 + 1 + 2 * (x.eff.parts.length : Int) + 1 + 2 * (x.terms.taint.parts.length : Int) + 1) (x.terms.clear.parts.flatMap dtPart))) :: Dt.num (q + 1 + 1 + 1 + 2 * (x.eff.parts.length : Int) + 1 + 2 * (x.terms.taint.parts.length : Int) + 1 + 2 * (x.terms.clear.parts.length : Int)) :: (Dt.row 2 82 (mkds (q + 1 + 1 + 1 + 2 * (x.eff.parts.length : Int) + 1 + 2 * (x.terms.taint.parts.length : Int) + 1 + 2 * (x.terms.clear.parts.length : Int) + 1) (x.terms.raise.parts.flatMap dtPart))) :: Dt.num (q + 1 + 1 + 1 + 2 * (x.eff.parts.length : Int) + 1 + 2 * (x.terms.taint.parts.length : Int) + 1 + 2 * (x.terms.clear.parts.length : Int) + 1 + 2 * (x.terms.raise.parts.length : Int)) :: (Dt.row 2 82 (mkds (q + 1 + 1 + 1 + 2 * (x.eff.parts.length : Int) + 1 + 2 * (x.terms.taint.parts.length : Int) + 1 + 2 * (x.terms.clear.parts.length : Int) + 1 + 2 * (x.terms.raise.parts.length : Int) + 1) (x.terms.verify.parts.flatMap dtPart))) :: QQ))) (.slice (some ⟨g, 0, none⟩) n c) bs) := Lib.hid (by simpa using HCT.out y11 _ hc hw)
      have HG' : Hid (Chg bs w y11) := Lib.hid (HG.out.trans (hc.mono (fun a ha => (HSB.out a ha).1)))
      clear HG hw hc HCT HSB HOU HNN hu
      have HG := HG'
      clear HG'
      have HD : Hid (mkds k ((xs.take (j + 1)).flatMap dtMs) ++ (xs.drop (j + 1)).flatMap dtMs = PP ++ (Dt.num (q) :: Dt.num (q + 1) :: Dt.num (q + 1 + 1) :: (Dt.row 2 82 (mkds (q + 1 + 1 + 1) (x.eff.parts.flatMap dtPart))) :: Dt.num (q + 1 + 1 + 1 + 2 * (x.eff.parts.length : Int)) :: (Dt.row 2 82 (mkds (q + 1 + 1 + 1 + 2 * (x.eff.parts.length : Int) + 1) (x.terms.taint.parts.flatMap dtPart))) :: Dt.num (q + 1 + 1 + 1 + 2 * (x.eff.parts.length : Int) + 1 + 2 * (x.terms.taint.parts.length : Int)) :: (Dt.row 2 82 (mkds (q + 1 + 1 + 1 + 2 * (x.eff.parts.length : Int) + 1 + 2 * (x.terms.taint.parts.length : Int) + 1) (x.terms.clear.parts.flatMap dtPart))) :: Dt.num (q + 1 + 1 + 1 + 2 * (x.eff.parts.length : Int) + 1 + 2 * (x.terms.taint.parts.length : Int) + 1 + 2 * (x.terms.clear.parts.length : Int)) :: (Dt.row 2 82 (mkds (q + 1 + 1 + 1 + 2 * (x.eff.parts.length : Int) + 1 + 2 * (x.terms.taint.parts.length : Int) + 1 + 2 * (x.terms.clear.parts.length : Int) + 1) (x.terms.raise.parts.flatMap dtPart))) :: Dt.num (q + 1 + 1 + 1 + 2 * (x.eff.parts.length : Int) + 1 + 2 * (x.terms.taint.parts.length : Int) + 1 + 2 * (x.terms.clear.parts.length : Int) + 1 + 2 * (x.terms.raise.parts.length : Int)) :: (Dt.row 2 82 (mkds (q + 1 + 1 + 1 + 2 * (x.eff.parts.length : Int) + 1 + 2 * (x.terms.taint.parts.length : Int) + 1 + 2 * (x.terms.clear.parts.length : Int) + 1 + 2 * (x.terms.raise.parts.length : Int) + 1) (x.terms.verify.parts.flatMap dtPart))) :: QQ)) := Lib.hid (by
        rw [take_at HX.out, List.flatMap_append, List.flatMap_cons, List.flatMap_nil, List.append_nil, mkds_append, ← HP.out, ← HQQ.out, ← HQ.out]
        simp [dtMs, dtTm, dtLab, mkds, mkd, cnt, cnts_parts, Int.add_assoc])
      go_wp2
      go_roundw
      case rel => exact ⟨j + 1, q + 1 + 1 + 1 + 2 * (x.eff.parts.length : Int) + 1 + 2 * (x.terms.taint.parts.length : Int) + 1 + 2 * (x.terms.clear.parts.length : Int) + 1 + 2 * (x.terms.raise.parts.length : Int) + 1 + 2 * (x.terms.verify.parts.length : Int), by omega, by omega, by go_num, by go_num, Lib.hid (by have h1 := HQ.out; have h2 := HT.out; omega), Lib.hid (by rw [HD.out]; exact HH.out), HG⟩
      case measure => simp [intOf]; omega
    · obtain rfl : j = n := by omega
      have HE : Hid (q = k + (cnts (xs.flatMap dtMs) : Nat)) := Lib.hid (by have h1 := HQ.out; rwa [List.take_of_length_le (by have := HLX.out; omega)] at h1)
      have HF : Hid (Ow wr (.row 12 37 (mkds k (xs.flatMap dtMs))) (.slice A j c) bs) := Lib.hid (by have h1 := HO.out; rwa [List.take_of_length_le (by have := HLX.out; omega), List.drop_eq_nil_of_le (by have := HLX.out; omega), List.flatMap_nil, List.append_nil] at h1)
      go_wp2
      go_ret
      exact ⟨by rw [← HE.out]; rfl, HF.out, HG.out⟩
set_option maxHeartbeats 16000000 in
theorem hdD_mss {A : Option Addr} {n c : Nat} {t : TypeId} {xs : List Ms} {k : Int} {w : World} (h : Rd w (.row 12 t (mkds k (xs.flatMap dtMs))) (.slice A n c)) (hf : mssSz xs ≤ 1048576) (h0 : 0 ≤ k) (h1 : k + (cnts (xs.flatMap dtMs) : Nat) ≤ 1000000000000) : Calls Try.prog 48 #[.slice A n c, .int .i64 k] w (RetV (.int .i64 (k + (cnts (xs.flatMap dtMs) : Nat))) w) := by
  have hsum := mssSum_le xs xs.length
  unfold mssSz at hf
  have HLX : Hid (xs.length = n) := Lib.hid (rd_len h (by rw [mkds_length, flatMap_len dtMs_len]) (by omega))
  have hl : n ≤ 1048576 := by have := HLX.out; omega
  have HR := Lib.hid h
  clear h
  go_enter Try.func48, Try.ntmps48
  go_wp2
  go_loopw [1, 5] (fun m i wr => ∃ (j : Nat) (q : Int), j ≤ n ∧ k ≤ q ∧ i = .int .i64 j ∧ m = .int .i64 q ∧ Hid (q = k + (cnts ((xs.take j).flatMap dtMs) : Nat)) ∧ Hid (Below w.heap.size w wr)) (fun _ i _ => n - (intOf i).toNat)
  case atStart => exact ⟨0, k, by omega, by omega, rfl, rfl, Lib.hid (by simp [cnts]), Lib.hid (.refl _ _)⟩
  case round =>
    obtain ⟨j, q, hj, hq, rfl, rfl, HQ, HB⟩ := hrel
    by_cases hlt : j < n
    · obtain ⟨x, hx⟩ : ∃ x, xs[j]? = some x := ⟨xs[j]'(by have := HLX.out; omega), List.getElem?_eq_getElem _⟩
      have hsx := mssSum_at hx
      have HT : Hid (cnts ((xs.take (j + 1)).flatMap dtMs) = cnts ((xs.take j).flatMap dtMs) + (1 + 1 + 1 + 2 * x.eff.parts.length + 1 + 2 * x.terms.taint.parts.length + 1 + 2 * x.terms.clear.parts.length + 1 + 2 * x.terms.raise.parts.length + 1 + 2 * x.terms.verify.parts.length)) := Lib.hid (by rw [take_at hx, List.flatMap_append, List.flatMap_cons, List.flatMap_nil, List.append_nil, cnts_append, cnts_ms])
      have HTL : Hid (cnts ((xs.take (j + 1)).flatMap dtMs) ≤ cnts (xs.flatMap dtMs)) := Lib.hid (cnts_take_le _ _)
      have hbd : q + ((1 + 1 + 1 + 2 * x.eff.parts.length + 1 + 2 * x.terms.taint.parts.length + 1 + 2 * x.terms.clear.parts.length + 1 + 2 * x.terms.raise.parts.length + 1 + 2 * x.terms.verify.parts.length : Nat) : Int) ≤ 1000000000000 := by have h1 := HT.out; have h2 := HTL.out; have h3 := HQ.out; omega
      have hr := HR.out.below HB.out
      rw [flatMap_split hx, mkds_append, mkds_append, ← HQ.out] at hr
      obtain ⟨b, o, us, rfl, hc, hr⟩ := hr.piece (i := j * 12) (by rw [mkds_length, flatMap_len dtMs_len, List.length_take]; have := HLX.out; rw [Nat.min_eq_left (by omega)]) (by rw [mkds_length, dtMs_len]; omega)
      have hMK : mkds q (dtMs x) = [Dt.num (q), Dt.num (q + 1), Dt.num (q + 1 + 1), (Dt.row 2 82 (mkds (q + 1 + 1 + 1) (x.eff.parts.flatMap dtPart))), Dt.num (q + 1 + 1 + 1 + 2 * (x.eff.parts.length : Int)), (Dt.row 2 82 (mkds (q + 1 + 1 + 1 + 2 * (x.eff.parts.length : Int) + 1) (x.terms.taint.parts.flatMap dtPart))), Dt.num (q + 1 + 1 + 1 + 2 * (x.eff.parts.length : Int) + 1 + 2 * (x.terms.taint.parts.length : Int)), (Dt.row 2 82 (mkds (q + 1 + 1 + 1 + 2 * (x.eff.parts.length : Int) + 1 + 2 * (x.terms.taint.parts.length : Int) + 1) (x.terms.clear.parts.flatMap dtPart))), Dt.num (q + 1 + 1 + 1 + 2 * (x.eff.parts.length : Int) + 1 + 2 * (x.terms.taint.parts.length : Int) + 1 + 2 * (x.terms.clear.parts.length : Int)), (Dt.row 2 82 (mkds (q + 1 + 1 + 1 + 2 * (x.eff.parts.length : Int) + 1 + 2 * (x.terms.taint.parts.length : Int) + 1 + 2 * (x.terms.clear.parts.length : Int) + 1) (x.terms.raise.parts.flatMap dtPart))), Dt.num (q + 1 + 1 + 1 + 2 * (x.eff.parts.length : Int) + 1 + 2 * (x.terms.taint.parts.length : Int) + 1 + 2 * (x.terms.clear.parts.length : Int) + 1 + 2 * (x.terms.raise.parts.length : Int)), (Dt.row 2 82 (mkds (q + 1 + 1 + 1 + 2 * (x.eff.parts.length : Int) + 1 + 2 * (x.terms.taint.parts.length : Int) + 1 + 2 * (x.terms.clear.parts.length : Int) + 1 + 2 * (x.terms.raise.parts.length : Int) + 1) (x.terms.verify.parts.flatMap dtPart)))] := by simp [dtMs, dtTm, dtLab, mkds, mkd, cnt, cnts_parts, Int.add_assoc]
      rw [hMK] at hr
      obtain ⟨us, rfl, hr0⟩ := hr.num
      clear hr
      obtain ⟨us, rfl, hr1⟩ := hr0.num
      clear hr0
      obtain ⟨us, rfl, hr2⟩ := hr1.num
      clear hr1
      obtain ⟨A3, n3, c3, us, rfl, hw3, hr3⟩ := hr2.row
      have R3 := Lib.hid hw3
      clear hw3
      clear hr2
      obtain ⟨us, rfl, hr4⟩ := hr3.num
      clear hr3
      obtain ⟨A5, n5, c5, us, rfl, hw5, hr5⟩ := hr4.row
      have R5 := Lib.hid hw5
      clear hw5
      clear hr4
      obtain ⟨us, rfl, hr6⟩ := hr5.num
      clear hr5
      obtain ⟨A7, n7, c7, us, rfl, hw7, hr7⟩ := hr6.row
      have R7 := Lib.hid hw7
      clear hw7
      clear hr6
      obtain ⟨us, rfl, hr8⟩ := hr7.num
      clear hr7
      obtain ⟨A9, n9, c9, us, rfl, hw9, hr9⟩ := hr8.row
      have R9 := Lib.hid hw9
      clear hw9
      clear hr8
      obtain ⟨us, rfl, hr10⟩ := hr9.num
      clear hr9
      obtain ⟨A11, n11, c11, us, rfl, hw11, hr11⟩ := hr10.row
      have R11 := Lib.hid hw11
      clear hw11
      clear hr10
      obtain rfl := hr11.nil
      clear hr11 hMK
      have HX := Lib.hid hx
      have HC0 := Lib.hid hc
      clear hx hc
      have cx0 : wr.cell? ⟨b, o + j * 12, none⟩ = some (.int .i64 (q)) := HC0.out 0 _ rfl
      have cx1 : wr.cell? ⟨b, o + j * 12 + 1, none⟩ = some (.int .i64 (q + 1)) := HC0.out 1 _ rfl
      have cx2 : wr.cell? ⟨b, o + j * 12 + 2, none⟩ = some (.int .i64 (q + 1 + 1)) := HC0.out 2 _ rfl
      have cx3 : wr.cell? ⟨b, o + j * 12 + 3, none⟩ = some (.slice A3 n3 c3) := HC0.out 3 _ rfl
      have g3 : ¬ q + 1 + 1 + 1 + 2 * (x.eff.parts.length : Int) < 0 := by omega
      go_wp2_with fail
      refine (hdD_pts (R3.out) (by unfold msSz tmSz at hsx; omega) (by omega) (by omega)).mono ?_
      rintro e y3 ⟨rfl, hb⟩
      have HC1 : Hid (∀ (j' : Nat) (u : Value), [.int .i64 (q), .int .i64 (q + 1), .int .i64 (q + 1 + 1), .slice A3 n3 c3, .int .i64 (q + 1 + 1 + 1 + 2 * (x.eff.parts.length : Int)), .slice A5 n5 c5, .int .i64 (q + 1 + 1 + 1 + 2 * (x.eff.parts.length : Int) + 1 + 2 * (x.terms.taint.parts.length : Int)), .slice A7 n7 c7, .int .i64 (q + 1 + 1 + 1 + 2 * (x.eff.parts.length : Int) + 1 + 2 * (x.terms.taint.parts.length : Int) + 1 + 2 * (x.terms.clear.parts.length : Int)), .slice A9 n9 c9, .int .i64 (q + 1 + 1 + 1 + 2 * (x.eff.parts.length : Int) + 1 + 2 * (x.terms.taint.parts.length : Int) + 1 + 2 * (x.terms.clear.parts.length : Int) + 1 + 2 * (x.terms.raise.parts.length : Int)), .slice A11 n11 c11][j']? = some u → y3.cell? ⟨b, o + j * 12 + j', none⟩ = some u) := Lib.hid (fun j' u hj => (hb.cell (block_lt_of_cell (HC0.out j' u hj))).trans (HC0.out j' u hj))
      have HB1 : Hid (Below wr.heap.size wr y3) := Lib.hid (hb)
      clear hb cx0 cx1 cx2 cx3 g3
      have cx4 : y3.cell? ⟨b, o + j * 12 + 4, none⟩ = some (.int .i64 (q + 1 + 1 + 1 + 2 * (x.eff.parts.length : Int))) := HC1.out 4 _ rfl
      have cx5 : y3.cell? ⟨b, o + j * 12 + 5, none⟩ = some (.slice A5 n5 c5) := HC1.out 5 _ rfl
      have g5 : ¬ q + 1 + 1 + 1 + 2 * (x.eff.parts.length : Int) + 1 + 2 * (x.terms.taint.parts.length : Int) < 0 := by omega
      go_wp2_with fail
      refine (hdD_pts (R5.out.below HB1.out) (by unfold msSz tmSz at hsx; omega) (by omega) (by omega)).mono ?_
      rintro e y5 ⟨rfl, hb⟩
      have HC2 : Hid (∀ (j' : Nat) (u : Value), [.int .i64 (q), .int .i64 (q + 1), .int .i64 (q + 1 + 1), .slice A3 n3 c3, .int .i64 (q + 1 + 1 + 1 + 2 * (x.eff.parts.length : Int)), .slice A5 n5 c5, .int .i64 (q + 1 + 1 + 1 + 2 * (x.eff.parts.length : Int) + 1 + 2 * (x.terms.taint.parts.length : Int)), .slice A7 n7 c7, .int .i64 (q + 1 + 1 + 1 + 2 * (x.eff.parts.length : Int) + 1 + 2 * (x.terms.taint.parts.length : Int) + 1 + 2 * (x.terms.clear.parts.length : Int)), .slice A9 n9 c9, .int .i64 (q + 1 + 1 + 1 + 2 * (x.eff.parts.length : Int) + 1 + 2 * (x.terms.taint.parts.length : Int) + 1 + 2 * (x.terms.clear.parts.length : Int) + 1 + 2 * (x.terms.raise.parts.length : Int)), .slice A11 n11 c11][j']? = some u → y5.cell? ⟨b, o + j * 12 + j', none⟩ = some u) := Lib.hid (fun j' u hj => (hb.cell (block_lt_of_cell (HC1.out j' u hj))).trans (HC1.out j' u hj))
      have HB2 : Hid (Below wr.heap.size wr y5) := Lib.hid (below_more HB1.out hb)
      clear hb cx4 cx5 g5
      have cx6 : y5.cell? ⟨b, o + j * 12 + 6, none⟩ = some (.int .i64 (q + 1 + 1 + 1 + 2 * (x.eff.parts.length : Int) + 1 + 2 * (x.terms.taint.parts.length : Int))) := HC2.out 6 _ rfl
      have cx7 : y5.cell? ⟨b, o + j * 12 + 7, none⟩ = some (.slice A7 n7 c7) := HC2.out 7 _ rfl
      have g7 : ¬ q + 1 + 1 + 1 + 2 * (x.eff.parts.length : Int) + 1 + 2 * (x.terms.taint.parts.length : Int) + 1 + 2 * (x.terms.clear.parts.length : Int) < 0 := by omega
      go_wp2_with fail
      refine (hdD_pts (R7.out.below HB2.out) (by unfold msSz tmSz at hsx; omega) (by omega) (by omega)).mono ?_
      rintro e y7 ⟨rfl, hb⟩
      have HC3 : Hid (∀ (j' : Nat) (u : Value), [.int .i64 (q), .int .i64 (q + 1), .int .i64 (q + 1 + 1), .slice A3 n3 c3, .int .i64 (q + 1 + 1 + 1 + 2 * (x.eff.parts.length : Int)), .slice A5 n5 c5, .int .i64 (q + 1 + 1 + 1 + 2 * (x.eff.parts.length : Int) + 1 + 2 * (x.terms.taint.parts.length : Int)), .slice A7 n7 c7, .int .i64 (q + 1 + 1 + 1 + 2 * (x.eff.parts.length : Int) + 1 + 2 * (x.terms.taint.parts.length : Int) + 1 + 2 * (x.terms.clear.parts.length : Int)), .slice A9 n9 c9, .int .i64 (q + 1 + 1 + 1 + 2 * (x.eff.parts.length : Int) + 1 + 2 * (x.terms.taint.parts.length : Int) + 1 + 2 * (x.terms.clear.parts.length : Int) + 1 + 2 * (x.terms.raise.parts.length : Int)), .slice A11 n11 c11][j']? = some u → y7.cell? ⟨b, o + j * 12 + j', none⟩ = some u) := Lib.hid (fun j' u hj => (hb.cell (block_lt_of_cell (HC2.out j' u hj))).trans (HC2.out j' u hj))
      have HB3 : Hid (Below wr.heap.size wr y7) := Lib.hid (below_more HB2.out hb)
      clear hb cx6 cx7 g7
      have cx8 : y7.cell? ⟨b, o + j * 12 + 8, none⟩ = some (.int .i64 (q + 1 + 1 + 1 + 2 * (x.eff.parts.length : Int) + 1 + 2 * (x.terms.taint.parts.length : Int) + 1 + 2 * (x.terms.clear.parts.length : Int))) := HC3.out 8 _ rfl
      have cx9 : y7.cell? ⟨b, o + j * 12 + 9, none⟩ = some (.slice A9 n9 c9) := HC3.out 9 _ rfl
      have g9 : ¬ q + 1 + 1 + 1 + 2 * (x.eff.parts.length : Int) + 1 + 2 * (x.terms.taint.parts.length : Int) + 1 + 2 * (x.terms.clear.parts.length : Int) + 1 + 2 * (x.terms.raise.parts.length : Int) < 0 := by omega
      go_wp2_with fail
      refine (hdD_pts (R9.out.below HB3.out) (by unfold msSz tmSz at hsx; omega) (by omega) (by omega)).mono ?_
      rintro e y9 ⟨rfl, hb⟩
      have HC4 : Hid (∀ (j' : Nat) (u : Value), [.int .i64 (q), .int .i64 (q + 1), .int .i64 (q + 1 + 1), .slice A3 n3 c3, .int .i64 (q + 1 + 1 + 1 + 2 * (x.eff.parts.length : Int)), .slice A5 n5 c5, .int .i64 (q + 1 + 1 + 1 + 2 * (x.eff.parts.length : Int) + 1 + 2 * (x.terms.taint.parts.length : Int)), .slice A7 n7 c7, .int .i64 (q + 1 + 1 + 1 + 2 * (x.eff.parts.length : Int) + 1 + 2 * (x.terms.taint.parts.length : Int) + 1 + 2 * (x.terms.clear.parts.length : Int)), .slice A9 n9 c9, .int .i64 (q + 1 + 1 + 1 + 2 * (x.eff.parts.length : Int) + 1 + 2 * (x.terms.taint.parts.length : Int) + 1 + 2 * (x.terms.clear.parts.length : Int) + 1 + 2 * (x.terms.raise.parts.length : Int)), .slice A11 n11 c11][j']? = some u → y9.cell? ⟨b, o + j * 12 + j', none⟩ = some u) := Lib.hid (fun j' u hj => (hb.cell (block_lt_of_cell (HC3.out j' u hj))).trans (HC3.out j' u hj))
      have HB4 : Hid (Below wr.heap.size wr y9) := Lib.hid (below_more HB3.out hb)
      clear hb cx8 cx9 g9
      have cx10 : y9.cell? ⟨b, o + j * 12 + 10, none⟩ = some (.int .i64 (q + 1 + 1 + 1 + 2 * (x.eff.parts.length : Int) + 1 + 2 * (x.terms.taint.parts.length : Int) + 1 + 2 * (x.terms.clear.parts.length : Int) + 1 + 2 * (x.terms.raise.parts.length : Int))) := HC4.out 10 _ rfl
      have cx11 : y9.cell? ⟨b, o + j * 12 + 11, none⟩ = some (.slice A11 n11 c11) := HC4.out 11 _ rfl
      have g11 : ¬ q + 1 + 1 + 1 + 2 * (x.eff.parts.length : Int) + 1 + 2 * (x.terms.taint.parts.length : Int) + 1 + 2 * (x.terms.clear.parts.length : Int) + 1 + 2 * (x.terms.raise.parts.length : Int) + 1 + 2 * (x.terms.verify.parts.length : Int) < 0 := by omega
      go_wp2_with fail
      refine (hdD_pts (R11.out.below HB4.out) (by unfold msSz tmSz at hsx; omega) (by omega) (by omega)).mono ?_
      rintro e y11 ⟨rfl, hb⟩
      have HC5 : Hid (∀ (j' : Nat) (u : Value), [.int .i64 (q), .int .i64 (q + 1), .int .i64 (q + 1 + 1), .slice A3 n3 c3, .int .i64 (q + 1 + 1 + 1 + 2 * (x.eff.parts.length : Int)), .slice A5 n5 c5, .int .i64 (q + 1 + 1 + 1 + 2 * (x.eff.parts.length : Int) + 1 + 2 * (x.terms.taint.parts.length : Int)), .slice A7 n7 c7, .int .i64 (q + 1 + 1 + 1 + 2 * (x.eff.parts.length : Int) + 1 + 2 * (x.terms.taint.parts.length : Int) + 1 + 2 * (x.terms.clear.parts.length : Int)), .slice A9 n9 c9, .int .i64 (q + 1 + 1 + 1 + 2 * (x.eff.parts.length : Int) + 1 + 2 * (x.terms.taint.parts.length : Int) + 1 + 2 * (x.terms.clear.parts.length : Int) + 1 + 2 * (x.terms.raise.parts.length : Int)), .slice A11 n11 c11][j']? = some u → y11.cell? ⟨b, o + j * 12 + j', none⟩ = some u) := Lib.hid (fun j' u hj => (hb.cell (block_lt_of_cell (HC4.out j' u hj))).trans (HC4.out j' u hj))
      have HB5 : Hid (Below wr.heap.size wr y11) := Lib.hid (below_more HB4.out hb)
      clear hb cx10 cx11 g11
      go_wp2
      go_roundw
      case rel => exact ⟨j + 1, q + 1 + 1 + 1 + 2 * (x.eff.parts.length : Int) + 1 + 2 * (x.terms.taint.parts.length : Int) + 1 + 2 * (x.terms.clear.parts.length : Int) + 1 + 2 * (x.terms.raise.parts.length : Int) + 1 + 2 * (x.terms.verify.parts.length : Int), by omega, by omega, by go_num, by go_num, Lib.hid (by have h1 := HQ.out; have h2 := HT.out; omega), Lib.hid (below_more HB.out HB5.out)⟩
      case measure => simp [intOf]; omega
    · obtain rfl : j = n := by omega
      have HE : Hid (q = k + (cnts (xs.flatMap dtMs) : Nat)) := Lib.hid (by have h1 := HQ.out; rwa [List.take_of_length_le (by have := HLX.out; omega)] at h1)
      go_wp2
      go_ret
      exact .mk (by rw [← HE.out]; rfl) HB.out
theorem cnts1_ms (x : Ms) : cnts (dtMs x) ≤ 40 * msSz x + 40 := by
  have h1 := cnts_ms x
  unfold msSz tmSz
  omega
theorem cnts_le_mss (xs : List Ms) : cnts (xs.flatMap dtMs) ≤ 40 * mssSz xs := by
  induction xs with
  | nil => simp [cnts]
  | cons x xs ih =>
    have h1 := cnts1_ms x
    unfold mssSz mssSum at ih ⊢
    simp only [List.flatMap_cons, cnts_append, List.length_cons, List.map_cons, List.sum_cons]
    omega
end Go.Proofs.Ytnpeojlhjbdjiaa

/-
  Door as data, and the laws' helpers on it.
-/
namespace Go.Proofs.Ytnpeojlhjbdjiaa
set_option maxRecDepth 100000
open Go.RowKit

/-- Door. -/
structure Door where
  handle : Int
  label : Lab
  queue : List Ms
def dtDoor (x : Door) : List Dt := .num x.handle :: (dtLab x.label ++ ([(.row 12 37 (x.queue.flatMap dtMs))]))
theorem dtDoor_len (x : Door) : (dtDoor x).length = 4 := rfl
/-- What such a one that came in has besides. -/
def WfDoor (x : Door) : Prop := InI64 x.handle
def doorSz (x : Door) : Nat := x.label.parts.length + mssSz x.queue
theorem shp_door {w : World} {us : List Value} {x : Door} (h : Rds w (dtDoor x) us) : ∃ (A0 : Option Addr) (n0 c0 : Nat) (A1 : Option Addr) (n1 c1 : Nat), us = [.int .i64 x.handle, .int .i64 x.label.base, .slice A0 n0 c0, .slice A1 n1 c1] := by
  simp only [dtDoor, dtLab, List.cons_append, List.nil_append] at h
  obtain ⟨us, rfl, h1⟩ := h.num
  obtain ⟨us, rfl, h2⟩ := h1.num
  obtain ⟨A0, n0, c0, us, rfl, -, h3⟩ := h2.row
  obtain ⟨A1, n1, c1, us, rfl, -, h4⟩ := h3.row
  obtain rfl := h4.nil
  exact ⟨A0, n0, c0, A1, n1, c1, rfl⟩
theorem shpm_door {w : World} {us : List Value} {x : Door} {k : Int} (h : Rds w (mkt k (dtDoor x)) us) : ∃ (A0 : Option Addr) (n0 c0 : Nat) (A1 : Option Addr) (n1 c1 : Nat), us = [.int .i64 x.handle, .int .i64 x.label.base, .slice A0 n0 c0, .slice A1 n1 c1] := by
  simp only [dtDoor, dtLab, List.cons_append, mkt, List.nil_append] at h
  obtain ⟨us, rfl, h1⟩ := h.num
  obtain ⟨us, rfl, h2⟩ := h1.num
  obtain ⟨A0, n0, c0, us, rfl, -, h3⟩ := h2.row
  obtain ⟨A1, n1, c1, us, rfl, -, h4⟩ := h3.row
  obtain rfl := h4.nil
  exact ⟨A0, n0, c0, A1, n1, c1, rfl⟩
set_option maxHeartbeats 8000000 in
theorem toD_door {us : List Value} {x : Door} {w : World} (h : Rds w (dtDoor x) us) (hf : doorSz x ≤ 1048576) : Calls Try.prog 14 #[.agg us.toArray] w (RetD (dtDoor x) w) := by
  unfold dtDoor at h
  obtain ⟨us, rfl, hg1⟩ := h.num
  clear h
  obtain ⟨uf, us, rfl, hf1, hg2⟩ := hg1.split
  clear hg1
  obtain ⟨A0, n0, c0, rfl⟩ := shp_lab hf1
  have H1 := Lib.hid hf1
  clear hf1
  obtain ⟨A1, n1, c1, rfl⟩ := shp_row hg2
  have H2 := Lib.hid hg2
  clear hg2
  simp only [List.cons_append, List.nil_append]
  unfold doorSz at hf
  have S1 : x.label.parts.length ≤ 1048576 := by omega
  have S2 : mssSz x.queue ≤ 1048576 := by omega
  go_enter Try.func14, Try.ntmps14
  go_wp2_with fail
  generalize hW : ((w.alloc (.cells #[.int .i64 x.handle, .int .i64 x.label.base, .slice A0 n0 c0, .slice A1 n1 c1] 43)).alloc (.cells #[.int .i64 0, .int .i64 0, .slice none 0 0, .slice none 0 0] 48)).alloc (.cells #[.int .i64 x.handle, .int .i64 0, .slice none 0 0, .slice none 0 0] 48) = x0
  obtain ⟨pb, rb, ob, hsz, bel⟩ := laid3 (ps := [.int .i64 x.handle, .int .i64 x.label.base, .slice A0 n0 c0, .slice A1 n1 c1]) (rs := [.int .i64 0, .int .i64 0, .slice none 0 0, .slice none 0 0]) (os := [.int .i64 x.handle, .int .i64 0, .slice none 0 0, .slice none 0 0]) hW
  have PB := Lib.hid pb
  have RB := Lib.hid rb
  have OB := Lib.hid ob
  have hlo : w.heap.size + 1 + 1 < x0.heap.size := by omega
  clear hW pb rb ob
  refine (toD_lab (H1.out.below bel) S1).mono ?_
  rintro e y1 ⟨uv, rfl, own, hb⟩
  obtain ⟨B0, m0, d0, rfl⟩ := shp_lab own.rd
  have W1 : Hid (OwnR x0.heap.size y1.heap.size y1 (dtLab x.label) [.int .i64 x.label.base, .slice B0 m0 d0]) := Lib.hid own.r
  have PB' := Lib.hid (PB.out.below hb)
  have RB' := Lib.hid (RB.out.below hb)
  have OB' := Lib.hid (OB.out.below hb)
  have bel' := below_more bel hb
  have hxy1 : x0.heap.size ≤ y1.heap.size := hb.size
  have hlo' : w.heap.size + 1 + 1 < y1.heap.size := by omega
  clear PB RB OB bel hlo hb own
  have PB := PB'
  have RB := RB'
  have OB := OB'
  have bel := bel'
  have hlo := hlo'
  clear PB' RB' OB' bel' hlo'
  have oc1 := OB.out.cell 1 rfl
  have of1 := OB.out.free 1
  have oc2 := OB.out.cell 2 rfl
  have of2 := OB.out.free 2
  have pc3 := PB.out.cell 3 rfl
  go_wp2_with fail
  generalize hW : ((y1).setCell ⟨w.heap.size + 1 + 1, 1, none⟩ (.int .i64 x.label.base)).setCell ⟨w.heap.size + 1 + 1, 2, none⟩ (.slice B0 m0 d0) = x1
  have PB' : Hid (Box x1 (w.heap.size) [.int .i64 x.handle, .int .i64 x.label.base, .slice A0 n0 c0, .slice A1 n1 c1]) := Lib.hid (by rw [← hW]; exact ((PB.out.far (by omega)).far (by omega)))
  have RB' : Hid (Box x1 (w.heap.size + 1) [.int .i64 0, .int .i64 0, .slice none 0 0, .slice none 0 0]) := Lib.hid (by rw [← hW]; exact ((RB.out.far (by omega)).far (by omega)))
  have OB' : Hid (Box x1 (w.heap.size + 1 + 1) [.int .i64 x.handle, .int .i64 x.label.base, .slice B0 m0 d0, .slice none 0 0]) := Lib.hid (by rw [← hW]; exact ((OB.out.set (by simp)).set (by simp)))
  have W1' := Lib.hid (show _ from (by rw [← hW]; exact ((W1.out.past (by omega)).past (by omega)) : OwnR x0.heap.size y1.heap.size x1 (dtLab x.label) [.int .i64 x.label.base, .slice B0 m0 d0]))
  clear W1
  have W1 := W1'
  clear W1'
  have bel' : Below w.heap.size w x1 := by rw [← hW]; exact ((bel.setCell (by simp only []; omega) _).setCell (by simp only []; omega) _)
  have hlo' : w.heap.size + 1 + 1 < x1.heap.size := by rw [← hW]; simpa using hlo
  have hsxx1 : x1.heap.size = y1.heap.size := by rw [← hW]; simp
  clear hW PB RB OB bel hlo oc1 of1 oc2 of2 pc3
  have PB := PB'
  have RB := RB'
  have OB := OB'
  have bel := bel'
  have hlo := hlo'
  clear PB' RB' OB' bel' hlo'
  refine (toD_mss (rds1 (H2.out.below bel)) S2).mono ?_
  rintro e y2 ⟨v, rfl, own, hb⟩
  obtain ⟨B1, m1, d1, ev⟩ := shp_row own.rd
  obtain rfl := (List.cons.inj ev).1
  clear ev
  have W1' : Hid (OwnR x0.heap.size y1.heap.size y2 (dtLab x.label) [.int .i64 x.label.base, .slice B0 m0 d0]) := Lib.hid (W1.out.below hb)
  clear W1
  have W1 := W1'
  clear W1'
  have W2 : Hid (OwnR x1.heap.size y2.heap.size y2 ([(.row 12 37 (x.queue.flatMap dtMs))]) [.slice B1 m1 d1]) := Lib.hid own.r
  have PB' := Lib.hid (PB.out.below hb)
  have RB' := Lib.hid (RB.out.below hb)
  have OB' := Lib.hid (OB.out.below hb)
  have bel' := below_more bel hb
  have hxy2 : x1.heap.size ≤ y2.heap.size := hb.size
  have hlo' : w.heap.size + 1 + 1 < y2.heap.size := by omega
  clear PB RB OB bel hlo hb own
  have PB := PB'
  have RB := RB'
  have OB := OB'
  have bel := bel'
  have hlo := hlo'
  clear PB' RB' OB' bel' hlo'
  have oc3 := OB.out.cell 3 rfl
  have of3 := OB.out.free 3
  go_upto_region 5 with fail
  generalize hW : (y2).setCell ⟨w.heap.size + 1 + 1, 3, none⟩ (.slice B1 m1 d1) = x2
  have PB' : Hid (Box x2 (w.heap.size) [.int .i64 x.handle, .int .i64 x.label.base, .slice A0 n0 c0, .slice A1 n1 c1]) := Lib.hid (by rw [← hW]; exact (PB.out.far (by omega)))
  have RB' : Hid (Box x2 (w.heap.size + 1) [.int .i64 0, .int .i64 0, .slice none 0 0, .slice none 0 0]) := Lib.hid (by rw [← hW]; exact (RB.out.far (by omega)))
  have OB' : Hid (Box x2 (w.heap.size + 1 + 1) [.int .i64 x.handle, .int .i64 x.label.base, .slice B0 m0 d0, .slice B1 m1 d1]) := Lib.hid (by rw [← hW]; exact (OB.out.set (by simp)))
  have W1' := Lib.hid (show _ from (by rw [← hW]; exact (W1.out.past (by omega)) : OwnR x0.heap.size y1.heap.size x2 (dtLab x.label) [.int .i64 x.label.base, .slice B0 m0 d0]))
  clear W1
  have W1 := W1'
  clear W1'
  have W2' := Lib.hid (show _ from (by rw [← hW]; exact (W2.out.past (by omega)) : OwnR x1.heap.size y2.heap.size x2 ([(.row 12 37 (x.queue.flatMap dtMs))]) [.slice B1 m1 d1]))
  clear W2
  have W2 := W2'
  clear W2'
  have bel' : Below w.heap.size w x2 := by rw [← hW]; exact (bel.setCell (by simp only []; omega) _)
  have hlo' : w.heap.size + 1 + 1 < x2.heap.size := by rw [← hW]; simpa using hlo
  have hsxx2 : x2.heap.size = y2.heap.size := by rw [← hW]; simp
  clear hW PB RB OB bel hlo oc3 of3
  have PB := PB'
  have RB := RB'
  have OB := OB'
  have bel := bel'
  have hlo := hlo'
  clear PB' RB' OB' bel' hlo'
  have rc0 := RB.out.cell 0 rfl
  have rf0 := RB.out.free 0
  have oc0 := OB.out.cell 0 rfl
  have rc1 := RB.out.cell 1 rfl
  have rf1 := RB.out.free 1
  have oc1 := OB.out.cell 1 rfl
  have rc2 := RB.out.cell 2 rfl
  have rf2 := RB.out.free 2
  have oc2 := OB.out.cell 2 rfl
  have rc3 := RB.out.cell 3 rfl
  have rf3 := RB.out.free 3
  have oc3 := OB.out.cell 3 rfl
  go_wp2
  refine bodyPost_ret (v := .agg #[.int .i64 x.handle, .int .i64 x.label.base, .slice B0 m0 d0, .slice B1 m1 d1]) (by simp [results, Try.results14, go_sem, rc0, rc1, rc2, rc3]) rfl ?_
  change RetD (dtDoor x) w _ (putRow x2 (w.heap.size + 1) 0 [.int .i64 x.handle, .int .i64 x.label.base, .slice B0 m0 d0, .slice B1 m1 d1])
  have hlo2 : w.heap.size + 1 < x0.heap.size := by omega
  exact ⟨[.int .i64 x.handle, .int .i64 x.label.base, .slice B0 m0 d0, .slice B1 m1 d1], rfl, OwnR.own (lo := x0.heap.size) (hi := y2.heap.size) (((((OwnR.putRow [.int .i64 x.handle, .int .i64 x.label.base, .slice B0 m0 d0, .slice B1 m1 d1] W1.out (by omega))).wide (lo' := x0.heap.size) (hi' := x1.heap.size) (by omega) (by omega)).beside ((OwnR.putRow [.int .i64 x.handle, .int .i64 x.label.base, .slice B0 m0 d0, .slice B1 m1 d1] W2.out (by omega))) (by omega) (by omega)).num) (by omega), below_putRow _ bel (by omega)⟩
set_option maxHeartbeats 4000000 in
theorem szD_door {us : List Value} {x : Door} {w : World} {left : Int} (h : Rds w (dtDoor x) us) (h0 : 0 ≤ left) (h1 : left ≤ 1048576) : Calls Try.prog 12 #[.agg us.toArray, .int .i64 left] w (RetV (.int .i64 (lft left (doorSz x))) w) := by
  unfold dtDoor at h
  obtain ⟨us, rfl, hg1⟩ := h.num
  clear h
  obtain ⟨uf, us, rfl, hf1, hg2⟩ := hg1.split
  clear hg1
  obtain ⟨A0, n0, c0, rfl⟩ := shp_lab hf1
  have H1 := Lib.hid hf1
  clear hf1
  obtain ⟨A1, n1, c1, rfl⟩ := shp_row hg2
  have H2 := Lib.hid hg2
  clear hg2
  simp only [List.cons_append, List.nil_append]
  have HZ : Hid (doorSz x = x.label.parts.length + mssSz x.queue) := Lib.hid rfl
  by_cases e0 : left < (x.label.parts.length : Nat)
  · skip
    have HR : Hid (lft left (doorSz x) = -1) := Lib.hid (by rw [HZ.out, lft_no (by omega)])
    have HL0 := Lib.hid (lft_no e0)
    go_enter Try.func12, Try.ntmps12
    go_wp2_with fail
    generalize hW : w.alloc (.cells #[.int .i64 x.handle, .int .i64 x.label.base, .slice A0 n0 c0, .slice A1 n1 c1] 43) = x0
    obtain ⟨pb, hsz, bel⟩ := laid1 (ps := [.int .i64 x.handle, .int .i64 x.label.base, .slice A0 n0 c0, .slice A1 n1 c1]) hW
    have PB := Lib.hid pb
    clear hW pb hsz
    refine (szD_lab (H1.out.below bel) (by omega) (by omega)).mono ?_
    rintro e y0 ⟨rfl, hb⟩
    rw [HL0.out]
    have PB' := Lib.hid (PB.out.below hb)
    have bel' := below_more bel hb
    clear PB bel hb 
    have PB := PB'
    have bel := bel'
    clear PB' bel'
    have pc3 := PB.out.cell 3 rfl
    go_wp2
    go_ret
    exact .mk (by rw [HR.out]; rfl) bel
  by_cases e1 : left - (x.label.parts.length : Nat) < (mssSz x.queue : Nat)
  · skip
    have HR : Hid (lft left (doorSz x) = -1) := Lib.hid (by rw [HZ.out, lft_no (by omega)])
    have HL0 := Lib.hid (lft_yes (show ((x.label.parts.length : Nat) : Int) ≤ left by omega))
    have g0 : ¬ left - (x.label.parts.length : Nat) < 0 := by omega
    have HL1 := Lib.hid (lft_no e1)
    go_enter Try.func12, Try.ntmps12
    go_wp2_with fail
    generalize hW : w.alloc (.cells #[.int .i64 x.handle, .int .i64 x.label.base, .slice A0 n0 c0, .slice A1 n1 c1] 43) = x0
    obtain ⟨pb, hsz, bel⟩ := laid1 (ps := [.int .i64 x.handle, .int .i64 x.label.base, .slice A0 n0 c0, .slice A1 n1 c1]) hW
    have PB := Lib.hid pb
    clear hW pb hsz
    refine (szD_lab (H1.out.below bel) (by omega) (by omega)).mono ?_
    rintro e y0 ⟨rfl, hb⟩
    rw [HL0.out]
    have PB' := Lib.hid (PB.out.below hb)
    have bel' := below_more bel hb
    clear PB bel hb 
    have PB := PB'
    have bel := bel'
    clear PB' bel'
    have pc3 := PB.out.cell 3 rfl
    go_wp2_with fail
    refine (szD_mss (rds1 (H2.out.below bel)) (by omega) (by omega)).mono ?_
    rintro e y1 ⟨rfl, hb⟩
    rw [HL1.out]
    have PB' := Lib.hid (PB.out.below hb)
    have bel' := below_more bel hb
    clear PB bel hb pc3
    have PB := PB'
    have bel := bel'
    clear PB' bel'
    go_wp2
    go_ret
    exact .mk (by rw [HR.out]; rfl) bel
  have HR : Hid (lft left (doorSz x) = left - (x.label.parts.length : Nat) - (mssSz x.queue : Nat)) := Lib.hid (by rw [HZ.out, lft_yes (by omega)]; omega)
  have HL0 := Lib.hid (lft_yes (show ((x.label.parts.length : Nat) : Int) ≤ left by omega))
  have g0 : ¬ left - (x.label.parts.length : Nat) < 0 := by omega
  have HL1 := Lib.hid (lft_yes (show ((mssSz x.queue : Nat) : Int) ≤ left - (x.label.parts.length : Nat) by omega))
  have g1 : ¬ left - (x.label.parts.length : Nat) - (mssSz x.queue : Nat) < 0 := by omega
  go_enter Try.func12, Try.ntmps12
  go_wp2_with fail
  generalize hW : w.alloc (.cells #[.int .i64 x.handle, .int .i64 x.label.base, .slice A0 n0 c0, .slice A1 n1 c1] 43) = x0
  obtain ⟨pb, hsz, bel⟩ := laid1 (ps := [.int .i64 x.handle, .int .i64 x.label.base, .slice A0 n0 c0, .slice A1 n1 c1]) hW
  have PB := Lib.hid pb
  clear hW pb hsz
  refine (szD_lab (H1.out.below bel) (by omega) (by omega)).mono ?_
  rintro e y0 ⟨rfl, hb⟩
  rw [HL0.out]
  have PB' := Lib.hid (PB.out.below hb)
  have bel' := below_more bel hb
  clear PB bel hb 
  have PB := PB'
  have bel := bel'
  clear PB' bel'
  have pc3 := PB.out.cell 3 rfl
  go_wp2_with fail
  refine (szD_mss (rds1 (H2.out.below bel)) (by omega) (by omega)).mono ?_
  rintro e y1 ⟨rfl, hb⟩
  rw [HL1.out]
  have PB' := Lib.hid (PB.out.below hb)
  have bel' := below_more bel hb
  clear PB bel hb pc3
  have PB := PB'
  have bel := bel'
  clear PB' bel'
  go_wp2
  go_ret
  exact .mk (by rw [HR.out]; rfl) bel
set_option maxHeartbeats 4000000 in
theorem eqD_door {us vs : List Value} {x : Door} {w : World} (h : Rds w (dtDoor x) us) (k : Rds w (dtDoor x) vs) (hf : doorSz x ≤ 1048576) : Calls Try.prog 16 #[.agg us.toArray, .agg vs.toArray] w (RetV (.bool true) w) := by
  unfold doorSz at hf
  have S1 : x.label.parts.length ≤ 1048576 := by omega
  have S2 : mssSz x.queue ≤ 1048576 := by omega
  unfold dtDoor at h
  obtain ⟨us, rfl, hg1⟩ := h.num
  clear h
  obtain ⟨uf, us, rfl, hf1, hg2⟩ := hg1.split
  clear hg1
  obtain ⟨A0, n0, c0, rfl⟩ := shp_lab hf1
  have H1 := Lib.hid hf1
  clear hf1
  obtain ⟨A1, n1, c1, rfl⟩ := shp_row hg2
  have H2 := Lib.hid hg2
  clear hg2
  simp only [List.cons_append, List.nil_append]
  unfold dtDoor at k
  obtain ⟨us, rfl, kg1⟩ := k.num
  clear k
  obtain ⟨uf, us, rfl, hf1, kg2⟩ := kg1.split
  clear kg1
  obtain ⟨B0, m0, d0, rfl⟩ := shp_lab hf1
  have K1 := Lib.hid hf1
  clear hf1
  obtain ⟨B1, m1, d1, rfl⟩ := shp_row kg2
  have K2 := Lib.hid kg2
  clear kg2
  simp only [List.cons_append, List.nil_append]
  go_enter Try.func16, Try.ntmps16
  go_wp2_with fail
  generalize hW : (w.alloc (.cells #[.int .i64 x.handle, .int .i64 x.label.base, .slice A0 n0 c0, .slice A1 n1 c1] 48)).alloc (.cells #[.int .i64 x.handle, .int .i64 x.label.base, .slice B0 m0 d0, .slice B1 m1 d1] 48) = x0
  obtain ⟨pb, qb, hsz, bel⟩ := laid2 (ps := [.int .i64 x.handle, .int .i64 x.label.base, .slice A0 n0 c0, .slice A1 n1 c1]) (rs := [.int .i64 x.handle, .int .i64 x.label.base, .slice B0 m0 d0, .slice B1 m1 d1]) hW
  have PB := Lib.hid pb
  have QB := Lib.hid qb
  clear hW pb qb hsz
  refine (eqD_lab (H1.out.below bel) (K1.out.below bel) S1).mono ?_
  rintro e y0 ⟨rfl, hb⟩
  have PB' := Lib.hid (PB.out.below hb)
  have QB' := Lib.hid (QB.out.below hb)
  have bel' := below_more bel hb
  clear PB QB bel hb 
  have PB := PB'
  have QB := QB'
  have bel := bel'
  clear PB' QB' bel'
  have pc3 := PB.out.cell 3 rfl
  have qc3 := QB.out.cell 3 rfl
  go_wp2_with fail
  refine (eqD_mss (rds1 (H2.out.below bel)) (rds1 (K2.out.below bel)) S2).mono ?_
  rintro e y1 ⟨rfl, hb⟩
  have PB' := Lib.hid (PB.out.below hb)
  have QB' := Lib.hid (QB.out.below hb)
  have bel' := below_more bel hb
  clear PB QB bel hb pc3 qc3
  have PB := PB'
  have QB := QB'
  have bel := bel'
  clear PB' QB' bel'
  go_wp2
  go_ret
  exact .mk rfl bel
set_option maxHeartbeats 4000000 in
theorem mkD_door {us : List Value} {x : Door} {bs : List Nat} {k : Int} {w : World} (h : Ows w (dtDoor x) us bs) (hn : bs.Nodup) (hf : doorSz x ≤ 1048576) (h0 : 0 ≤ k) (h1 : k + (cntt (dtDoor x) : Nat) ≤ 1000000000000) : Calls Try.prog 19 #[.agg us.toArray, .int .i64 k] w (RetMks (mkt k (dtDoor x)) us bs (k + (cntt (dtDoor x) : Nat)) w) := by
  unfold doorSz at hf
  have S1 : x.label.parts.length ≤ 1048576 := by omega
  have S2 : mssSz x.queue ≤ 1048576 := by omega
  have HC : Hid (k + ((cntt (dtDoor x) : Nat) : Int) = k + 2 * (x.label.parts.length : Int) + (cnts (x.queue.flatMap dtMs) : Nat)) := Lib.hid (by
    have q1 : ((cntt (dtLab x.label) : Nat) : Int) = 2 * (x.label.parts.length : Int) := by rw [cntt_lab]; omega
    have q2 : ((cntt ([(.row 12 37 (x.queue.flatMap dtMs))]) : Nat) : Int) = (cnts (x.queue.flatMap dtMs) : Nat) := by rw [cntt_row]
    unfold dtDoor
    simp only [cntt_num, cntt_append]
    omega)
  have HM : Hid (mkt k (dtDoor x) = .num x.handle :: (mkt (k) (dtLab x.label) ++ (mkt (k + 2 * (x.label.parts.length : Int)) ([(.row 12 37 (x.queue.flatMap dtMs))])))) := Lib.hid (by
    have q1 : ((cntt (dtLab x.label) : Nat) : Int) = 2 * (x.label.parts.length : Int) := by rw [cntt_lab]; omega
    unfold dtDoor
    simp only [mkt_num, mkt_append, q1])
  unfold dtDoor at h
  obtain ⟨us, rfl, hg1⟩ := h.num
  clear h
  obtain ⟨uf, us, b1, bt1, rfl, rfl, hf1, hg2⟩ := hg1.split
  clear hg1
  obtain ⟨A0, n0, c0, rfl⟩ := shp_lab hf1.rd
  have W1 := Lib.hid hf1
  clear hf1
  obtain ⟨m1, hn1, d1, e1⟩ := nd2 hn
  have N1 := Lib.hid m1
  have D1 := Lib.hid d1
  have E1 := Lib.hid e1
  clear hn m1 d1 e1
  obtain ⟨A1, n1, c1, rfl⟩ := shp_row hg2.rd
  have W2 := Lib.hid hg2
  have N2 := Lib.hid hn1
  clear hg2 hn1
  simp only [List.cons_append, List.nil_append]
  have L1 := Lib.hid W1.out.lt
  have L2 := Lib.hid W2.out.lt
  go_enter Try.func19, Try.ntmps19
  go_wp2_with fail
  generalize hW : w.alloc (.cells #[.int .i64 x.handle, .int .i64 x.label.base, .slice A0 n0 c0, .slice A1 n1 c1] 48) = x0
  obtain ⟨pb, hsz, bel⟩ := laid1 (ps := [.int .i64 x.handle, .int .i64 x.label.base, .slice A0 n0 c0, .slice A1 n1 c1]) hW
  have PB := Lib.hid pb
  clear hW pb hsz
  have W1' := Lib.hid (W1.out.below bel)
  clear W1
  have W1 := W1'
  clear W1'
  have W2' := Lib.hid (W2.out.below bel)
  clear W2
  have W2 := W2'
  clear W2'
  have hsz : w.heap.size < x0.heap.size := PB.out.lt
  refine (mkD_lab W1.out S1 (by omega) (by have := HC.out; omega)).mono ?_
  rintro e y0 ⟨rfl, hw, hc⟩
  have W2' := Lib.hid (W2.out.chg hc (fun y hy => D1.out y (by simp [hy])))
  clear W2
  have W2 := W2'
  clear W2'
  clear W1
  have W1 := Lib.hid hw
  have PB' := Lib.hid (hc.box PB.out (fun hy => by have := L1.out _ hy; omega))
  clear PB 
  have PB := PB'
  clear PB'
  have HG : Hid (Chg (b1 ++ bt1) w y0) := Lib.hid ((Chg.of_below bel _).trans (hc.mono (fun y hy => by simp [hy])))
  clear hw hc bel
  have pc3 := PB.out.cell 3 rfl
  go_wp2_with fail
  refine (mkD_mss (ows1 W2.out) N2.out S2 (by omega) (by have := HC.out; omega)).mono ?_
  rintro e y1 ⟨rfl, hw, hc⟩
  have hw := ows1_mk hw
  have W1' := Lib.hid (W1.out.chg hc (fun y hy hy' => E1.out y hy (by simp [hy'])))
  clear W1
  have W1 := W1'
  clear W1'
  clear W2
  have W2 := Lib.hid hw
  have PB' := Lib.hid (hc.box PB.out (fun hy => by have := L2.out _ hy; omega))
  clear PB pc3
  have PB := PB'
  clear PB'
  have HG' : Hid (Chg (b1 ++ bt1) w y1) := Lib.hid (HG.out.trans (hc.mono (fun y hy => by simp [hy])))
  clear hw hc HG
  have HG := HG'
  clear HG'
  go_wp2
  go_ret
  refine ⟨by rw [HC.out]; rfl, ?_, HG.out⟩
  rw [HM.out]
  exact ((W1.out).append (W2.out)).mk_num
set_option maxHeartbeats 4000000 in
theorem hdD_door {us : List Value} {x : Door} {k : Int} {w : World} (h : Rds w (mkt k (dtDoor x)) us) (hf : doorSz x ≤ 1048576) (h0 : 0 ≤ k) (h1 : k + (cntt (dtDoor x) : Nat) ≤ 1000000000000) : Calls Try.prog 20 #[.agg us.toArray, .int .i64 k] w (RetV (.int .i64 (k + (cntt (dtDoor x) : Nat))) w) := by
  unfold doorSz at hf
  have S1 : x.label.parts.length ≤ 1048576 := by omega
  have S2 : mssSz x.queue ≤ 1048576 := by omega
  have HC : Hid (k + ((cntt (dtDoor x) : Nat) : Int) = k + 2 * (x.label.parts.length : Int) + (cnts (x.queue.flatMap dtMs) : Nat)) := Lib.hid (by
    have q1 : ((cntt (dtLab x.label) : Nat) : Int) = 2 * (x.label.parts.length : Int) := by rw [cntt_lab]; omega
    have q2 : ((cntt ([(.row 12 37 (x.queue.flatMap dtMs))]) : Nat) : Int) = (cnts (x.queue.flatMap dtMs) : Nat) := by rw [cntt_row]
    unfold dtDoor
    simp only [cntt_num, cntt_append]
    omega)
  have HM : Hid (mkt k (dtDoor x) = .num x.handle :: (mkt (k) (dtLab x.label) ++ (mkt (k + 2 * (x.label.parts.length : Int)) ([(.row 12 37 (x.queue.flatMap dtMs))])))) := Lib.hid (by
    have q1 : ((cntt (dtLab x.label) : Nat) : Int) = 2 * (x.label.parts.length : Int) := by rw [cntt_lab]; omega
    unfold dtDoor
    simp only [mkt_num, mkt_append, q1])
  rw [HM.out] at h
  obtain ⟨us, rfl, hg1⟩ := h.num
  clear h
  obtain ⟨uf, us, rfl, hf1, hg2⟩ := hg1.split
  clear hg1
  obtain ⟨A0, n0, c0, rfl⟩ := shpm_lab hf1
  have H1 := Lib.hid hf1
  clear hf1
  obtain ⟨A1, n1, c1, rfl⟩ := shpm_row hg2
  have H2 := Lib.hid hg2
  clear hg2
  simp only [List.cons_append, List.nil_append]
  have z0 : ¬ k + 2 * (x.label.parts.length : Int) < 0 := by omega
  have z1 : ¬ k + 2 * (x.label.parts.length : Int) + (cnts (x.queue.flatMap dtMs) : Nat) < 0 := by omega
  go_enter Try.func20, Try.ntmps20
  go_wp2_with fail
  generalize hW : w.alloc (.cells #[.int .i64 x.handle, .int .i64 x.label.base, .slice A0 n0 c0, .slice A1 n1 c1] 48) = x0
  obtain ⟨pb, hsz, bel⟩ := laid1 (ps := [.int .i64 x.handle, .int .i64 x.label.base, .slice A0 n0 c0, .slice A1 n1 c1]) hW
  have PB := Lib.hid pb
  clear hW pb hsz
  refine (hdD_lab (H1.out.below bel) S1 (by omega) (by have := HC.out; omega)).mono ?_
  rintro e y0 ⟨rfl, hb⟩
  have PB' := Lib.hid (PB.out.below hb)
  have bel' := below_more bel hb
  clear PB bel hb 
  have PB := PB'
  have bel := bel'
  clear PB' bel'
  have pc3 := PB.out.cell 3 rfl
  go_wp2_with fail
  refine (hdD_mss (rds1 (by simpa only [mkt] using H2.out.below bel)) S2 (by omega) (by have := HC.out; omega)).mono ?_
  rintro e y1 ⟨rfl, hb⟩
  have PB' := Lib.hid (PB.out.below hb)
  have bel' := below_more bel hb
  clear PB bel hb pc3
  have PB := PB'
  have bel := bel'
  clear PB' bel'
  go_wp2
  go_ret
  exact .mk (by rw [HC.out]; rfl) bel
theorem cntt_le_door (x : Door) : cntt (dtDoor x) ≤ 40 * doorSz x := by
  have b1 : cntt (dtLab x.label) ≤ 40 * (x.label.parts.length) := cntt_lab_le _
  have b2 : cntt ([(.row 12 37 (x.queue.flatMap dtMs))]) ≤ 40 * (mssSz x.queue) := by rw [cntt_row]; exact cnts_le_mss _
  unfold dtDoor doorSz
  simp only [cntt_num, cntt_append]
  omega
end Go.Proofs.Ytnpeojlhjbdjiaa
