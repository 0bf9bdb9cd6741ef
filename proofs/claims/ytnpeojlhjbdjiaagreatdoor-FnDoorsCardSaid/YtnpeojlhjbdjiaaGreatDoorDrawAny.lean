/-
  The draw of any label, right or not (chapter 2 of the model): some label of the call's own; the cursor stays one; nothing else is written.
-/
import Derived.Test.YtnpeojlhjbdjiaaGreatDoorDrawLab
import Derived.Test.YtnpeojlhjbdjiaaGreatDoorCur
import Derived.Test.YtnpeojlhjbdjiaaGreatDoorMem
import Derived.Deep.RegionWith
import Derived.Deep.RegionLaw
namespace Go.Proofs.YtnpeojlhjbdjiaaGreatDoor
set_option maxRecDepth 100000
open Go.RowKit

set_option maxHeartbeats 8000000 in
theorem draw_any (p : Nat) (a : Option Addr) (len cap : Nat) (zs : List Int) (w : World) (hl : len ≤ 4096) (hc : IsCur p a len cap w) (hr : CurRow w p a len cap zs) :
    Calls Tryz.prog 50 #[.pointer (some ⟨p, 0, none⟩)] w (DrawnLab 100 p a len cap w) := by
  have hp := hc.lt
  go_enter Tryz.func50, Tryz.ntmps50
  go_wp2_with fail
  refine (draw_lab p a len cap zs _ hl (hc.alloc _) (hr.kept (World.grownBy_alloc _ _ _))).mono ?_
  rintro e w1 ⟨v, l, rfl, hown, h8, hc1, hg1⟩
  have hs1 : w.heap.size < w1.heap.size := by have := hg1.size; simp at this; omega
  have hg01 := gb_trans (World.grownBy_alloc w _ _) hg1
  obtain ⟨A, n, c, rfl, hn, hnl, ho⟩ := hown
  have HD : Hid (Dr p a len cap w1.heap.size w (w1.alloc (.cells #[.int .i64 l.base, .slice A n c] 26)) A n c l) := Lib.hid (by
    have r0 := hg1.cell (a := ⟨w.heap.size, 0, none⟩) (v := .int .i64 0) (by simp) (fun e => by have := Option.some.inj e; first | omega | (simp only [] at this; omega))
    have r1 := hg1.cell (a := ⟨w.heap.size, 1, none⟩) (v := .slice none 0 0) (by simp) (fun e => by have := Option.some.inj e; first | omega | (simp only [] at this; omega))
    have f0 := new_frozen hg1 (fun e => by have := Option.some.inj e; omega) 0
    have f1 := new_frozen hg1 (fun e => by have := Option.some.inj e; omega) 1
    exact ⟨hc1.alloc _, gb_alloc hg01 _, hs1, by simp, by simp [go_sem, hs1, r0], by simp [go_sem, hs1, r1], by simp [go_sem, hs1, f0], by simp [go_sem, hs1, f1], by simp, by simp, by simp, by simp,
      own_lower (ho.alloc _) (by simp), fun k hk => by have := (ho.lt k hk).2; omega, hn, by omega⟩)
  obtain ⟨g, hg⟩ : ∃ g, g = w1.heap.size := ⟨_, rfl⟩
  rw [← hg] at HD
  have HG := Lib.hid hg
  have hn8 : n ≤ 8 := by omega
  clear hg hg1 hg01 ho hn hnl hc1 h8
  go_wp2_with fail
  refine (once_any p a len cap zs 6 _ hl (by omega) (by omega) HD.out.cur (hr.kept HD.out.grown)).mono ?_
  rintro e w2 ⟨b, rfl, hc2, hg2⟩
  have HD2 := Lib.hid (HD.out.gb hp hc2 hg2)
  clear hg2 hc2 HD
  rw [← HG.out]
  cases b
  · -- not bent
    have hgl := HD2.out.gl
    have hgg := HD2.out.hg
    have r0 := HD2.out.r0
    have r1 := HD2.out.r1
    have f0 := HD2.out.f0
    have f1 := HD2.out.f1
    have o0 := HD2.out.o0
    have o1 := HD2.out.o1
    have d0 := HD2.out.d0
    have d1 := HD2.out.d1
    go_wp2
    refine bodyPost_ret (v := .agg #[.int .i64 (l).base, .slice A n c]) (by simp [results, Tryz.results50, go_sem, r0, r1]) rfl ?_
    exact HD2.out.done hp
  go_wp2_with fail
  refine (below_any p a len cap zs _ _ hl (by omega) (by omega) HD2.out.cur (hr.kept HD2.out.grown)).mono ?_
  rintro e w3 ⟨x, hx0, hx1, rfl, hc3, hg3⟩
  have HD3 := Lib.hid (HD2.out.gb hp hc3 hg3)
  clear hg3 hc3 HD2
  have hgl := HD3.out.gl
  have hgg := HD3.out.hg
  have r0 := HD3.out.r0
  have r1 := HD3.out.r1
  have f0 := HD3.out.f0
  have f1 := HD3.out.f1
  have o0 := HD3.out.o0
  have o1 := HD3.out.o1
  have d0 := HD3.out.d0
  have d1 := HD3.out.d1
  obtain rfl | rfl | rfl | rfl | rfl : x = 0 ∨ x = 1 ∨ x = 2 ∨ x = 3 ∨ x = 4 := by omega
  · -- another base
    go_wp2_with fail
    refine (from_any p a len cap zs _ _ _ hl (by omega) (by omega) (by omega) HD3.out.cur (hr.kept HD3.out.grown)).mono ?_
    rintro e w4 ⟨y, hy0, hy1, rfl, hc4, hg4⟩
    have HD4 := Lib.hid (HD3.out.gb hp hc4 hg4)
    have HD5 := Lib.hid (HD4.out.base hp y)
    clear hg4 hc4 HD3 hgl hgg r0 r1 f0 f1 o0 o1 d0 d1
    have hgl := HD4.out.gl
    have hgg := HD4.out.hg
    have r0 := HD4.out.r0
    have r1 := HD4.out.r1
    have f0 := HD4.out.f0
    have f1 := HD4.out.f1
    have o0 := HD4.out.o0
    have o1 := HD4.out.o1
    have d0 := HD4.out.d0
    have d1 := HD4.out.d1
    go_wp2
    refine bodyPost_ret (v := .agg #[.int .i64 y, .slice A n c]) (by simp [results, Tryz.results50, go_sem, r0, r1]) rfl ?_
    exact HD5.out.done hp
  · -- a part behind the others
    have HDc := HD3
    clear HD3
    go_wp2
    go_region_law
      (first
        | (go_simp; go_at_call 49
           refine (num_any p a len cap zs _ _ hl (by omega) (by omega) (by first | exact HDc.out.cur | exact HDc.out.cur.drew) (by first | exact hr.kept HDc.out.grown | exact hr.kept (gb_drew HDc.out.grown))).mono ?_
           rintro e w4 ⟨y, rfl, hc4, hg4⟩
           have HDc : Hid (Dr p a len cap g w w4 A n c l) := Lib.hid (by first | exact HDc.out.gb hp hc4 hg4 | exact HDc.out.gb hp hc4 (gb_undrew hg4))
           have k1 := HDc.out.d1
           have z4 := HDc.out.gl
           clear hc4 hg4)
        | (go_simp; go_at_call 53
           refine (from_any p a len cap zs _ _ _ hl (by omega) (by omega) (by omega) (by first | exact HDc.out.cur | exact HDc.out.cur.drew) (by first | exact hr.kept HDc.out.grown | exact hr.kept (gb_drew HDc.out.grown))).mono ?_
           rintro e w5 ⟨z, hz0, hz1, rfl, hc5, hg5⟩
           have HDc : Hid (Dr p a len cap g w w5 A n c l) := Lib.hid (by first | exact HDc.out.gb hp hc5 hg5 | exact HDc.out.gb hp hc5 (gb_undrew hg5))
           have k1 := HDc.out.d1
           have z5 := HDc.out.gl
           have hw5 := HDc.out.grown.size
           clear hc5 hg5)
        | (refine step_app elemPart rfl (.tmp 19) (.tmp 25) rfl (w.heap.size + 1) (.slice A n c) n (ptcells l.parts) rfl (HDc.out.own.alloc _) (some ⟨w5.heap.size, 0, none⟩) 1 1 (ptcells [(y, z)]) rfl (by exact At.new w5 #[Value.int .i64 y, Value.int .i64 z] 80 _ rfl) rfl (ptcells_one _) (by have := HDc.out.few; omega) (by have := HDc.out.few; omega) (by simp; omega) ?_
           intro v6 w6 hap
           obtain ⟨A6, c6, rfl, -, -, -⟩ := own_at hap.own
           have HAP := Lib.hid hap
           have HDw := Lib.hid (HDc.out.alloc hp (.cells #[Value.int .i64 y, Value.int .i64 z] 80))
           have k1 : w6.cell? ⟨g, 1, none⟩ = some (.slice A n c) := (World.cell?_of_block (hap.grown.block g HDw.out.gl (fun e => HDc.out.apart g e.symm rfl))).trans HDw.out.d1
           have q1 : w6.frozen? ⟨g, 1, none⟩ = false := (World.frozen?_of_block (hap.grown.block g HDw.out.gl (fun e => HDc.out.apart g e.symm rfl))).trans HDw.out.o1
           have HD6 : Hid (Dr p a len cap g w (w6.setCell ⟨g, 1, none⟩ (.slice A6 (n + 1) c6)) A6 (n + 1) c6 ⟨l.base, l.parts ++ [(y, z)]⟩) := Lib.hid (HDw.out.store hp (by rw [ptcells_append]; exact hap) rfl (by have := HDc.out.len; simp; omega) (by omega))
           clear hap HAP))
    all_goals
      clear HDc HDw hgl hgg r0 r1 f0 f1 o0 o1 d0 d1 k1 q1 z4 z5 hw5
      have hgl := HD6.out.gl
      have hgg := HD6.out.hg
      have r0 := HD6.out.r0
      have r1 := HD6.out.r1
      have f0 := HD6.out.f0
      have f1 := HD6.out.f1
      have o0 := HD6.out.o0
      have o1 := HD6.out.o1
      have d0 := HD6.out.d0
      have d1 := HD6.out.d1
      go_wp2
      refine bodyPost_ret (v := .agg #[.int .i64 l.base, .slice A6 (n + 1) c6]) (by simp [results, Tryz.results50, go_sem, r0, r1]) rfl ?_
      exact HD6.out.done hp
  · -- another level of the first part
    by_cases hn0 : 0 < n
    · have hn0' : (0 : Int) < (n : Int) := by omega
      obtain ⟨b, rfl⟩ := own_form HD3.out.own hn0
      obtain ⟨h0, y0, rest, hps⟩ : ∃ h0 y0 rest, l.parts = (h0, y0) :: rest := by
        match hq : l.parts with
        | [] => have := HD3.out.len; rw [hq] at this; simp at this; omega
        | (h0, y0) :: rest => exact ⟨h0, y0, rest, rfl⟩
      have HPS := Lib.hid hps
      clear hps
      have hbg := HD3.out.apart b rfl
      have hbw := (HD3.out.own.lt b rfl).1
      go_wp2
      go_region_held3 (fun w' => w'.cell? ⟨g, 1, none⟩ = some (.slice (some ⟨b, 0, none⟩) n c))
        (first | exact k1 | (simp [hbg, k1]; done) | go_keep)
        (first
          | (go_at_call 53
             refine (from_any p a len cap zs _ _ _ hl (by omega) (by omega) (by omega) (by first | exact HD3.out.cur | exact HD3.out.cur.drew) (by first | exact hr.kept HD3.out.grown | exact hr.kept (gb_drew HD3.out.grown))).mono ?_
             rintro e w5 ⟨z, hz0, hz1, rfl, hc5, hg5⟩
             have HD5 : Hid (Dr p a len cap g w w5 (some ⟨b, 0, none⟩) n c l) := Lib.hid (by first | exact HD3.out.gb hp hc5 hg5 | exact HD3.out.gb hp hc5 (gb_undrew hg5))
             have k1 := HD5.out.d1
             have z5 := HD5.out.gl
             obtain ⟨⟨uu, q1⟩, q2⟩ := own_cell HD5.out.own 1 (by omega)
             clear hc5 hg5))
      have HD6 : Hid (Dr p a len cap g w (w5.setCell ⟨b, 1, none⟩ (.int .i64 z)) (some ⟨b, 0, none⟩) n c ⟨l.base, (h0, z) :: rest⟩) := Lib.hid (HD5.out.cell hp 1 _ _ (by rw [HPS.out]; simp [ptcells, flat, encPart, setAll]) (by have := HD5.out.len; rw [HPS.out] at this; simpa using this))
      clear HD5 HD3 hgl hgg r0 r1 f0 f1 o0 o1 d0 d1 k1 q1 q2 z5
      have hgl := HD6.out.gl
      have hgg := HD6.out.hg
      have r0 := HD6.out.r0
      have r1 := HD6.out.r1
      have f0 := HD6.out.f0
      have f1 := HD6.out.f1
      have o0 := HD6.out.o0
      have o1 := HD6.out.o1
      have d0 := HD6.out.d0
      have d1 := HD6.out.d1
      go_wp2
      refine bodyPost_ret (v := .agg #[.int .i64 l.base, .slice (some ⟨b, 0, none⟩) n c]) (by simp [results, Tryz.results50, go_sem, r0, r1]) rfl ?_
      exact HD6.out.done hp
    · obtain rfl : n = 0 := by omega
      go_wp2
      refine bodyPost_ret (v := .agg #[.int .i64 (l).base, .slice A 0 c]) (by simp [results, Tryz.results50, go_sem, r0, r1]) rfl ?_
      exact HD3.out.done hp
  · -- the first part's handle is the second's
    by_cases hn0 : 1 < n
    · have hn0' : (1 : Int) < (n : Int) := by omega
      obtain ⟨b, rfl⟩ := own_form HD3.out.own (by omega)
      obtain ⟨h0, y0, h1, y1, rest, hps⟩ : ∃ h0 y0 h1 y1 rest, l.parts = (h0, y0) :: (h1, y1) :: rest := by
        match hq : l.parts with
        | [] => have := HD3.out.len; rw [hq] at this; simp at this; omega
        | [_] => have := HD3.out.len; rw [hq] at this; simp at this; omega
        | (h0, y0) :: (h1, y1) :: rest => exact ⟨h0, y0, h1, y1, rest, rfl⟩
      have c2 : w3.cell? ⟨b, 2, none⟩ = some (.int .i64 h1) := by rw [HD3.out.own.cellAt 2 (by omega), hps]; rfl
      have c0 : w3.cell? ⟨b, 0, none⟩ = some (.int .i64 h0) := by rw [HD3.out.own.cellAt 0 (by omega), hps]; rfl
      have q0 := HD3.out.own.frozenAt 0
      have HPS := Lib.hid hps
      clear hps
      have hbg := HD3.out.apart b rfl
      have hbw := (HD3.out.own.lt b rfl).1
      go_wp2
      go_region
      have HD6 : Hid (Dr p a len cap g w (w3.setCell ⟨b, 0, none⟩ (.int .i64 h1)).drew (some ⟨b, 0, none⟩) n c ⟨l.base, (h1, y0) :: (h1, y1) :: rest⟩) := Lib.hid ((HD3.out.cell hp 0 _ _ (by rw [HPS.out]; simp [ptcells, flat, encPart, setAll]) (by have := HD3.out.len; rw [HPS.out] at this; simpa using this)).drew hp)
      clear HD3 hgl hgg r0 r1 f0 f1 o0 o1 d0 d1 q0 c2 c0
      generalize (w3.setCell ⟨b, 0, none⟩ (.int .i64 h1)).drew = w4 at HD6 ⊢
      have hgl := HD6.out.gl
      have hgg := HD6.out.hg
      have r0 := HD6.out.r0
      have r1 := HD6.out.r1
      have f0 := HD6.out.f0
      have f1 := HD6.out.f1
      have o0 := HD6.out.o0
      have o1 := HD6.out.o1
      have d0 := HD6.out.d0
      have d1 := HD6.out.d1
      go_wp2
      refine bodyPost_ret (v := .agg #[.int .i64 l.base, .slice (some ⟨b, 0, none⟩) n c]) (by simp [results, Tryz.results50, go_sem, r0, r1]) rfl ?_
      exact HD6.out.done hp
    · have hn1 : ¬ (1 : Int) < (n : Int) := by omega
      go_wp2
      refine bodyPost_ret (v := .agg #[.int .i64 (l).base, .slice A n c]) (by simp [results, Tryz.results50, go_sem, r0, r1]) rfl ?_
      exact HD3.out.done hp
  · -- eight parts, or nine
    go_wp2
    have HD4 : Hid (Dr p a len cap g w ((w3.setCell ⟨g, 0, none⟩ (.int .i64 1)).setCell ⟨g, 1, none⟩ (.slice none 0 0)) none 0 0 ⟨1, []⟩) := Lib.hid (HD3.out.reset hp 1)
    clear HD3 hgl hgg r0 r1 f0 f1 o0 o1 d0 d1
    go_loopw [4] (fun i wr => ∃ (k c : Nat) (A : Option Addr) (l : Lab), k ≤ 9 ∧ i = .int .i64 k ∧ Hid (Dr p a len cap g w wr A k c l)) (fun i _ => 9 - (intOf i).toNat)
    case atStart => exact ⟨0, 0, none, ⟨1, []⟩, by omega, rfl, HD4⟩
    case round =>
      clear HD4
      obtain ⟨k, c, A, l, hk, rfl, HD⟩ := hrel
      go_wp2_with fail
      refine (below_any p a len cap zs _ _ hl (by omega) (by omega) HD.out.cur (hr.kept HD.out.grown)).mono ?_
      rintro e w4 ⟨x, hx0, hx1, rfl, hc4, hg4⟩
      have HD5 := Lib.hid (HD.out.gb hp hc4 hg4)
      clear hg4 hc4 HD
      have hgl := HD5.out.gl
      have hgg := HD5.out.hg
      have r0 := HD5.out.r0
      have r1 := HD5.out.r1
      have f0 := HD5.out.f0
      have f1 := HD5.out.f1
      have o0 := HD5.out.o0
      have o1 := HD5.out.o1
      have d0 := HD5.out.d0
      have d1 := HD5.out.d1
      have HW5 := Lib.hid HD5.out.grown.size
      by_cases hlt : (k : Int) < 8 + x
      · have hk8 : k ≤ 8 := by omega
        go_wp2_with (at_builtin; refine wpList_app elemPart rfl (.tmp 66) (.tmp 70) rfl (w.heap.size + 1) (.slice A k c) k (ptcells l.parts) rfl (HD5.out.own.alloc _) (some ⟨w4.heap.size, 0, none⟩) 1 1 (ptcells [(10 * (k : Int), 3)]) rfl (by exact At.new w4 #[Value.int .i64 (10 * (k : Int)), Value.int .i64 3] 80 _ rfl) rfl (ptcells_one _) (by omega) (by omega) (by have := HW5.out; simp; omega) ?_; intro v6 w6 hap; obtain ⟨A6, c6, rfl, -, -, -⟩ := own_at hap.own; have HD6 : Hid (Dr p a len cap g w (w6.setCell ⟨g, 1, none⟩ (.slice A6 (k + 1) c6)) A6 (k + 1) c6 ⟨l.base, l.parts ++ [(10 * (k : Int), 3)]⟩) := Lib.hid ((HD5.out.alloc hp _).store hp (by rw [ptcells_append]; exact hap) rfl (by have := HD5.out.len; simp; omega) (by omega)); have u1 : w6.cell? ⟨g, 1, none⟩ = some (.slice A k c) := (World.cell?_of_block (hap.grown.block g (HD5.out.alloc hp _).gl (fun e => HD5.out.apart g e.symm rfl))).trans (HD5.out.alloc hp _).d1; have q1 : w6.frozen? ⟨g, 1, none⟩ = false := (World.frozen?_of_block (hap.grown.block g (HD5.out.alloc hp _).gl (fun e => HD5.out.apart g e.symm rfl))).trans (HD5.out.alloc hp _).o1; clear hap)
        go_roundw
        case rel => exact ⟨k + 1, c6, A6, ⟨l.base, l.parts ++ [(10 * (k : Int), 3)]⟩, by omega, by go_num, HD6⟩
        case measure => simp [intOf]; omega
      · go_wp2
        refine bodyPost_ret (v := .agg #[.int .i64 l.base, .slice A k c]) (by simp [results, Tryz.results50, go_sem, r0, r1]) rfl ?_
        exact HD5.out.done hp
end Go.Proofs.YtnpeojlhjbdjiaaGreatDoor
