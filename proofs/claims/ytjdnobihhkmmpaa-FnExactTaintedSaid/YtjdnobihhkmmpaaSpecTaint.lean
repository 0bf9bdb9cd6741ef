/-
  Chapter 4 of the model: Tainted, at every argument.
-/
import Derived.Test.YtjdnobihhkmmpaaSpecTaint0
namespace Go.Proofs.Ytjdnobihhkmmpaa
set_option maxRecDepth 100000
open Go.RowKit

set_option maxHeartbeats 2000000 in
theorem spec_tainted (v u v3 : Value) (l m o : Lab) (w : World) (hr : RdLab w v l) (hq : RdLab w u m) (hu : RdLab w v3 o) :
    Calls Try.prog 9 #[v, u, v3] w (RetLab2 (taintL l m o).1 (taintL l m o).2 w) := by
  have RL := Lib.hid hr
  have RM := Lib.hid hq
  have RO := Lib.hid hu
  obtain ⟨A, n, c, rfl, -⟩ := hr
  obtain ⟨B, n', d, rfl, -⟩ := hq
  obtain ⟨C, n'', f, rfl, -⟩ := hu
  cases hl : labOk l
  · -- the first is not right
    have HR := Lib.hid (taintL_no (m := m) (n := o) (.inl hl))
    go_enter Try.func9, Try.ntmps9
    go_wp2_with fail
    generalize hW : (((w.alloc (.cells #[.int .i64 l.base, .slice A n c] 26)).alloc (.cells #[.int .i64 m.base, .slice B n' d] 26)).alloc (.cells #[.int .i64 o.base, .slice C n'' f] 26)).alloc (.cells #[.int .i64 0, .slice none 0 0] 26) = w0
    obtain ⟨hsz, bel, bl, bm, bo, br, hfr⟩ := laid4 hW
    clear hW
    have BL := Lib.hid bl
    have BM := Lib.hid bm
    have BO := Lib.hid bo
    have BR := Lib.hid br
    have F0 : Hid (w0.frozen? ⟨w.heap.size + 1 + 1 + 1, 0, none⟩ = false) := Lib.hid (hfr _ _ (by omega) (by omega))
    have F1 : Hid (w0.frozen? ⟨w.heap.size + 1 + 1 + 1, 1, none⟩ = false) := Lib.hid (hfr _ _ (by omega) (by omega))
    clear bl bm bo br hfr
    refine (spec_labok _ l _ (RL.out.below bel)).mono ?_
    rintro e w1 ⟨rfl, hb⟩
    have BL' := Lib.hid (BL.out.below hb)
    clear BL
    have BL := BL'
    clear BL'
    have BM' := Lib.hid (BM.out.below hb)
    clear BM
    have BM := BM'
    clear BM'
    have BO' := Lib.hid (BO.out.below hb)
    clear BO
    have BO := BO'
    clear BO'
    have BR' := Lib.hid (BR.out.below hb)
    clear BR
    have BR := BR'
    clear BR'
    have F0' := Lib.hid ((hb.frozen (p := ⟨w.heap.size + 1 + 1 + 1, 0, none⟩) (by simp only []; omega)).trans F0.out)
    have F1' := Lib.hid ((hb.frozen (p := ⟨w.heap.size + 1 + 1 + 1, 1, none⟩) (by simp only []; omega)).trans F1.out)
    clear F0 F1
    have F0 := F0'
    have F1 := F1'
    clear F0' F1'
    have bel' := below_more bel hb
    clear bel hb hsz
    have bel := bel'
    clear bel'
    have hz := block_lt_of_cell (BR.out 0 _ rfl)
    have r0 := BR.out 0 _ rfl
    have r1 := BR.out 1 _ rfl
    have f0 := F0.out
    have f1 := F1.out
    go_wp2
    refine bodyPost_ret (v := .tuple #[.agg #[.int .i64 0, .slice none 0 0], .bool false]) (by simp [results, Try.results9, go_sem, r0, r1]) rfl ?_
    rw [HR.out]
    exact ⟨_, rfl, own_nil _ _ _, (bel.setCell (by simp only []; omega) _).setCell (by simp only []; omega) _⟩
  cases hm : labOk m
  · -- the second is not right
    have HR := Lib.hid (taintL_no (l := l) (n := o) (.inr (.inl hm)))
    go_enter Try.func9, Try.ntmps9
    go_wp2_with fail
    generalize hW : (((w.alloc (.cells #[.int .i64 l.base, .slice A n c] 26)).alloc (.cells #[.int .i64 m.base, .slice B n' d] 26)).alloc (.cells #[.int .i64 o.base, .slice C n'' f] 26)).alloc (.cells #[.int .i64 0, .slice none 0 0] 26) = w0
    obtain ⟨hsz, bel, bl, bm, bo, br, hfr⟩ := laid4 hW
    clear hW
    have BL := Lib.hid bl
    have BM := Lib.hid bm
    have BO := Lib.hid bo
    have BR := Lib.hid br
    have F0 : Hid (w0.frozen? ⟨w.heap.size + 1 + 1 + 1, 0, none⟩ = false) := Lib.hid (hfr _ _ (by omega) (by omega))
    have F1 : Hid (w0.frozen? ⟨w.heap.size + 1 + 1 + 1, 1, none⟩ = false) := Lib.hid (hfr _ _ (by omega) (by omega))
    clear bl bm bo br hfr
    refine (spec_labok _ l _ (RL.out.below bel)).mono ?_
    rintro e w1 ⟨rfl, hb⟩
    have BL' := Lib.hid (BL.out.below hb)
    clear BL
    have BL := BL'
    clear BL'
    have BM' := Lib.hid (BM.out.below hb)
    clear BM
    have BM := BM'
    clear BM'
    have BO' := Lib.hid (BO.out.below hb)
    clear BO
    have BO := BO'
    clear BO'
    have BR' := Lib.hid (BR.out.below hb)
    clear BR
    have BR := BR'
    clear BR'
    have F0' := Lib.hid ((hb.frozen (p := ⟨w.heap.size + 1 + 1 + 1, 0, none⟩) (by simp only []; omega)).trans F0.out)
    have F1' := Lib.hid ((hb.frozen (p := ⟨w.heap.size + 1 + 1 + 1, 1, none⟩) (by simp only []; omega)).trans F1.out)
    clear F0 F1
    have F0 := F0'
    have F1 := F1'
    clear F0' F1'
    have bel' := below_more bel hb
    clear bel hb hsz
    have bel := bel'
    clear bel'
    have hz := block_lt_of_cell (BR.out 0 _ rfl)
    have k0 := BM.out 0 _ rfl
    have k1 := BM.out 1 _ rfl
    go_wp2_with fail
    clear k0 k1
    refine (spec_labok _ m _ (RM.out.below bel)).mono ?_
    rintro e w2 ⟨rfl, hb⟩
    have BL' := Lib.hid (BL.out.below hb)
    clear BL
    have BL := BL'
    clear BL'
    have BM' := Lib.hid (BM.out.below hb)
    clear BM
    have BM := BM'
    clear BM'
    have BO' := Lib.hid (BO.out.below hb)
    clear BO
    have BO := BO'
    clear BO'
    have BR' := Lib.hid (BR.out.below hb)
    clear BR
    have BR := BR'
    clear BR'
    have F0' := Lib.hid ((hb.frozen (p := ⟨w.heap.size + 1 + 1 + 1, 0, none⟩) hz).trans F0.out)
    have F1' := Lib.hid ((hb.frozen (p := ⟨w.heap.size + 1 + 1 + 1, 1, none⟩) hz).trans F1.out)
    clear F0 F1
    have F0 := F0'
    have F1 := F1'
    clear F0' F1'
    have bel' := below_more bel hb
    clear bel hb hz
    have bel := bel'
    clear bel'
    have hz := block_lt_of_cell (BR.out 0 _ rfl)
    have r0 := BR.out 0 _ rfl
    have r1 := BR.out 1 _ rfl
    have f0 := F0.out
    have f1 := F1.out
    go_wp2
    refine bodyPost_ret (v := .tuple #[.agg #[.int .i64 0, .slice none 0 0], .bool false]) (by simp [results, Try.results9, go_sem, r0, r1]) rfl ?_
    rw [HR.out]
    exact ⟨_, rfl, own_nil _ _ _, (bel.setCell (by simp only []; omega) _).setCell (by simp only []; omega) _⟩
  cases ho : labOk o
  · -- the third is not right
    have HR := Lib.hid (taintL_no (l := l) (m := m) (.inr (.inr ho)))
    go_enter Try.func9, Try.ntmps9
    go_wp2_with fail
    generalize hW : (((w.alloc (.cells #[.int .i64 l.base, .slice A n c] 26)).alloc (.cells #[.int .i64 m.base, .slice B n' d] 26)).alloc (.cells #[.int .i64 o.base, .slice C n'' f] 26)).alloc (.cells #[.int .i64 0, .slice none 0 0] 26) = w0
    obtain ⟨hsz, bel, bl, bm, bo, br, hfr⟩ := laid4 hW
    clear hW
    have BL := Lib.hid bl
    have BM := Lib.hid bm
    have BO := Lib.hid bo
    have BR := Lib.hid br
    have F0 : Hid (w0.frozen? ⟨w.heap.size + 1 + 1 + 1, 0, none⟩ = false) := Lib.hid (hfr _ _ (by omega) (by omega))
    have F1 : Hid (w0.frozen? ⟨w.heap.size + 1 + 1 + 1, 1, none⟩ = false) := Lib.hid (hfr _ _ (by omega) (by omega))
    clear bl bm bo br hfr
    refine (spec_labok _ l _ (RL.out.below bel)).mono ?_
    rintro e w1 ⟨rfl, hb⟩
    have BL' := Lib.hid (BL.out.below hb)
    clear BL
    have BL := BL'
    clear BL'
    have BM' := Lib.hid (BM.out.below hb)
    clear BM
    have BM := BM'
    clear BM'
    have BO' := Lib.hid (BO.out.below hb)
    clear BO
    have BO := BO'
    clear BO'
    have BR' := Lib.hid (BR.out.below hb)
    clear BR
    have BR := BR'
    clear BR'
    have F0' := Lib.hid ((hb.frozen (p := ⟨w.heap.size + 1 + 1 + 1, 0, none⟩) (by simp only []; omega)).trans F0.out)
    have F1' := Lib.hid ((hb.frozen (p := ⟨w.heap.size + 1 + 1 + 1, 1, none⟩) (by simp only []; omega)).trans F1.out)
    clear F0 F1
    have F0 := F0'
    have F1 := F1'
    clear F0' F1'
    have bel' := below_more bel hb
    clear bel hb hsz
    have bel := bel'
    clear bel'
    have hz := block_lt_of_cell (BR.out 0 _ rfl)
    have k0 := BM.out 0 _ rfl
    have k1 := BM.out 1 _ rfl
    go_wp2_with fail
    clear k0 k1
    refine (spec_labok _ m _ (RM.out.below bel)).mono ?_
    rintro e w2 ⟨rfl, hb⟩
    have BL' := Lib.hid (BL.out.below hb)
    clear BL
    have BL := BL'
    clear BL'
    have BM' := Lib.hid (BM.out.below hb)
    clear BM
    have BM := BM'
    clear BM'
    have BO' := Lib.hid (BO.out.below hb)
    clear BO
    have BO := BO'
    clear BO'
    have BR' := Lib.hid (BR.out.below hb)
    clear BR
    have BR := BR'
    clear BR'
    have F0' := Lib.hid ((hb.frozen (p := ⟨w.heap.size + 1 + 1 + 1, 0, none⟩) hz).trans F0.out)
    have F1' := Lib.hid ((hb.frozen (p := ⟨w.heap.size + 1 + 1 + 1, 1, none⟩) hz).trans F1.out)
    clear F0 F1
    have F0 := F0'
    have F1 := F1'
    clear F0' F1'
    have bel' := below_more bel hb
    clear bel hb hz
    have bel := bel'
    clear bel'
    have hz := block_lt_of_cell (BR.out 0 _ rfl)
    have k0 := BO.out 0 _ rfl
    have k1 := BO.out 1 _ rfl
    go_wp2_with fail
    clear k0 k1
    refine (spec_labok _ o _ (RO.out.below bel)).mono ?_
    rintro e w3 ⟨rfl, hb⟩
    have BL' := Lib.hid (BL.out.below hb)
    clear BL
    have BL := BL'
    clear BL'
    have BM' := Lib.hid (BM.out.below hb)
    clear BM
    have BM := BM'
    clear BM'
    have BO' := Lib.hid (BO.out.below hb)
    clear BO
    have BO := BO'
    clear BO'
    have BR' := Lib.hid (BR.out.below hb)
    clear BR
    have BR := BR'
    clear BR'
    have F0' := Lib.hid ((hb.frozen (p := ⟨w.heap.size + 1 + 1 + 1, 0, none⟩) hz).trans F0.out)
    have F1' := Lib.hid ((hb.frozen (p := ⟨w.heap.size + 1 + 1 + 1, 1, none⟩) hz).trans F1.out)
    clear F0 F1
    have F0 := F0'
    have F1 := F1'
    clear F0' F1'
    have bel' := below_more bel hb
    clear bel hb hz
    have bel := bel'
    clear bel'
    have hz := block_lt_of_cell (BR.out 0 _ rfl)
    have r0 := BR.out 0 _ rfl
    have r1 := BR.out 1 _ rfl
    have f0 := F0.out
    have f1 := F1.out
    go_wp2
    refine bodyPost_ret (v := .tuple #[.agg #[.int .i64 0, .slice none 0 0], .bool false]) (by simp [results, Try.results9, go_sem, r0, r1]) rfl ?_
    rw [HR.out]
    exact ⟨_, rfl, own_nil _ _ _, (bel.setCell (by simp only []; omega) _).setCell (by simp only []; omega) _⟩
  · -- all are
    have HR := Lib.hid (taintL_yes hl hm ho)
    have s1 := labOk_short hl
    have s2 := labOk_short hm
    have s3 := labOk_short ho
    go_enter Try.func9, Try.ntmps9
    go_wp2_with fail
    generalize hW : (((w.alloc (.cells #[.int .i64 l.base, .slice A n c] 26)).alloc (.cells #[.int .i64 m.base, .slice B n' d] 26)).alloc (.cells #[.int .i64 o.base, .slice C n'' f] 26)).alloc (.cells #[.int .i64 0, .slice none 0 0] 26) = w0
    obtain ⟨hsz, bel, bl, bm, bo, br, hfr⟩ := laid4 hW
    clear hW
    have BL := Lib.hid bl
    have BM := Lib.hid bm
    have BO := Lib.hid bo
    have BR := Lib.hid br
    have F0 : Hid (w0.frozen? ⟨w.heap.size + 1 + 1 + 1, 0, none⟩ = false) := Lib.hid (hfr _ _ (by omega) (by omega))
    have F1 : Hid (w0.frozen? ⟨w.heap.size + 1 + 1 + 1, 1, none⟩ = false) := Lib.hid (hfr _ _ (by omega) (by omega))
    clear bl bm bo br hfr
    refine (spec_labok _ l _ (RL.out.below bel)).mono ?_
    rintro e w1 ⟨rfl, hb⟩
    have BL' := Lib.hid (BL.out.below hb)
    clear BL
    have BL := BL'
    clear BL'
    have BM' := Lib.hid (BM.out.below hb)
    clear BM
    have BM := BM'
    clear BM'
    have BO' := Lib.hid (BO.out.below hb)
    clear BO
    have BO := BO'
    clear BO'
    have BR' := Lib.hid (BR.out.below hb)
    clear BR
    have BR := BR'
    clear BR'
    have F0' := Lib.hid ((hb.frozen (p := ⟨w.heap.size + 1 + 1 + 1, 0, none⟩) (by simp only []; omega)).trans F0.out)
    have F1' := Lib.hid ((hb.frozen (p := ⟨w.heap.size + 1 + 1 + 1, 1, none⟩) (by simp only []; omega)).trans F1.out)
    clear F0 F1
    have F0 := F0'
    have F1 := F1'
    clear F0' F1'
    have bel' := below_more bel hb
    clear bel hb hsz
    have bel := bel'
    clear bel'
    have hz := block_lt_of_cell (BR.out 0 _ rfl)
    have k0 := BM.out 0 _ rfl
    have k1 := BM.out 1 _ rfl
    go_wp2_with fail
    clear k0 k1
    refine (spec_labok _ m _ (RM.out.below bel)).mono ?_
    rintro e w2 ⟨rfl, hb⟩
    have BL' := Lib.hid (BL.out.below hb)
    clear BL
    have BL := BL'
    clear BL'
    have BM' := Lib.hid (BM.out.below hb)
    clear BM
    have BM := BM'
    clear BM'
    have BO' := Lib.hid (BO.out.below hb)
    clear BO
    have BO := BO'
    clear BO'
    have BR' := Lib.hid (BR.out.below hb)
    clear BR
    have BR := BR'
    clear BR'
    have F0' := Lib.hid ((hb.frozen (p := ⟨w.heap.size + 1 + 1 + 1, 0, none⟩) hz).trans F0.out)
    have F1' := Lib.hid ((hb.frozen (p := ⟨w.heap.size + 1 + 1 + 1, 1, none⟩) hz).trans F1.out)
    clear F0 F1
    have F0 := F0'
    have F1 := F1'
    clear F0' F1'
    have bel' := below_more bel hb
    clear bel hb hz
    have bel := bel'
    clear bel'
    have hz := block_lt_of_cell (BR.out 0 _ rfl)
    have k0 := BO.out 0 _ rfl
    have k1 := BO.out 1 _ rfl
    go_wp2_with fail
    clear k0 k1
    refine (spec_labok _ o _ (RO.out.below bel)).mono ?_
    rintro e w3 ⟨rfl, hb⟩
    have BL' := Lib.hid (BL.out.below hb)
    clear BL
    have BL := BL'
    clear BL'
    have BM' := Lib.hid (BM.out.below hb)
    clear BM
    have BM := BM'
    clear BM'
    have BO' := Lib.hid (BO.out.below hb)
    clear BO
    have BO := BO'
    clear BO'
    have BR' := Lib.hid (BR.out.below hb)
    clear BR
    have BR := BR'
    clear BR'
    have F0' := Lib.hid ((hb.frozen (p := ⟨w.heap.size + 1 + 1 + 1, 0, none⟩) hz).trans F0.out)
    have F1' := Lib.hid ((hb.frozen (p := ⟨w.heap.size + 1 + 1 + 1, 1, none⟩) hz).trans F1.out)
    clear F0 F1
    have F0 := F0'
    have F1 := F1'
    clear F0' F1'
    have bel' := below_more bel hb
    clear bel hb hz
    have bel := bel'
    clear bel'
    have hz := block_lt_of_cell (BR.out 0 _ rfl)
    have bl0 := BL.out 0 _ rfl
    have bl1 := BL.out 1 _ rfl
    have bm0 := BM.out 0 _ rfl
    have bm1 := BM.out 1 _ rfl
    have bo0 := BO.out 0 _ rfl
    have bo1 := BO.out 1 _ rfl
    go_wp2_with fail
    refine (spec_taint0 _ _ _ l m o _ (RL.out.below bel) (RM.out.below bel) (RO.out.below bel) (by omega)).mono ?_
    rintro e w4 ⟨v4, rfl, hown, hb⟩
    clear bl0 bl1 bm0 bm1 bo0 bo1
    have r0 := BR.out.below hb 0 _ rfl
    have r1 := BR.out.below hb 1 _ rfl
    have f0 := (hb.frozen (p := ⟨w.heap.size + 1 + 1 + 1, 0, none⟩) hz).trans F0.out
    have f1 := (hb.frozen (p := ⟨w.heap.size + 1 + 1 + 1, 1, none⟩) hz).trans F1.out
    have bel4 := below_more bel hb
    have hs0 := bel.size
    obtain ⟨A3, n3, c3, rfl, hn3, hl3, ho3⟩ := hown
    have HN3 := Lib.hid hn3
    have HO3 := Lib.hid ho3
    clear hb hn3 ho3
    go_wp2
    refine bodyPost_ret (v := .tuple #[.agg #[.int .i64 (ofLev (taintLev l.base m.base o.base) (fun h => taintLev (lev l h) (lev m h) (lev o h)) (hs3 l m o)).1.base, .slice A3 n3 c3], .bool (ofLev (taintLev l.base m.base o.base) (fun h => taintLev (lev l h) (lev m h) (lev o h)) (hs3 l m o)).2]) (by simp [results, Try.results9, go_sem, r0, r1]) rfl ?_
    rw [HR.out]
    exact ⟨_, rfl, ⟨A3, n3, c3, rfl, HN3.out, hl3, own_lower (ownsRow_setCell_below (ownsRow_setCell_below HO3.out (by simp only []; omega) _) (by simp only []; omega) _) (by omega)⟩, (bel4.setCell (by simp only []; omega) _).setCell (by simp only []; omega) _⟩
end Go.Proofs.Ytjdnobihhkmmpaa
