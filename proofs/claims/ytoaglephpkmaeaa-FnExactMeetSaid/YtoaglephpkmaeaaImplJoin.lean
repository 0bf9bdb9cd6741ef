/-
  Chapter 3 of the program: Join: of each handle what a function value tells of both levels.
-/
import Derived.Test.YtoaglephpkmaeaaImplEvery
import Derived.Deep.RegionLaw
namespace Go.Proofs.Ytoaglephpkmaeaa
set_option maxRecDepth 100000
open Go.RowKit

theorem impl_max {a b : Int} (h : lvOk a = true) (k : lvOk b = true) (w : World) : Calls Try.prog 25 #[.int .i64 a, .int .i64 b] w (RetS (.int .i64 (max a b)) w) := by
  have e : lvMax a b = max a b := by simp [lvMax, h, k]
  rw [← e]
  exact impl_higher a b w

set_option maxHeartbeats 8000000 in
theorem impl_combined_max (v u : Value) (l m : Lab) (w : World) (hr : RdLab w v l) (hq : RdLab w u m) :
    Calls Try.prog 24 #[v, u, .func (.func 25) #[] #[]] w (RetLab2 (joinL l m).1 (joinL l m).2 w) := by
  have RL0 := Lib.hid hr
  have RM0 := Lib.hid hq
  obtain ⟨A, n, c, rfl, -⟩ := hr
  obtain ⟨B, n', d, rfl, -⟩ := hq
  cases hl : labOk l
  · have HR := Lib.hid (joinL_no (m := m) (.inl hl))
    go_enter Try.func24, Try.ntmps24
    go_wp2_with fail
    refine (impl_labok0 _ l _ (((RL0.out.alloc _).alloc _).alloc _)).mono ?_
    rintro e w1 ⟨rfl, hb1⟩
    obtain ⟨bl, bm, fr, hz, hbel⟩ := boxes3 hb1
    have FR1 := Lib.hid fr
    have BL1 := Lib.hid bl
    have BM1 := Lib.hid bm
    obtain ⟨c0, c1⟩ := bl.cells2
    obtain ⟨c2, c3⟩ := bm.cells2
    clear bl bm fr
    clear hb1
    have r0 := FR1.out.c0
    have r1 := FR1.out.c1
    have q0 := FR1.out.f0
    have q1 := FR1.out.f1
    go_wp2
    refine bodyPost_ret (v := .tuple #[.agg #[.int .i64 0, .slice none 0 0], .bool false]) (by simp [results, Try.results24, go_sem, r0, r1]) rfl ?_
    rw [HR.out]
    exact ⟨_, rfl, own_nil _ _ _, (hbel.setCell (by simp only []; omega) _).setCell (by simp only []; omega) _⟩
  cases hm : labOk m
  · have HR := Lib.hid (joinL_no (l := l) (.inr hm))
    go_enter Try.func24, Try.ntmps24
    go_wp2_with fail
    refine (impl_labok0 _ l _ (((RL0.out.alloc _).alloc _).alloc _)).mono ?_
    rintro e w1 ⟨rfl, hb1⟩
    obtain ⟨bl, bm, fr, hz, hbel⟩ := boxes3 hb1
    have FR1 := Lib.hid fr
    have BL1 := Lib.hid bl
    have BM1 := Lib.hid bm
    obtain ⟨c0, c1⟩ := bl.cells2
    obtain ⟨c2, c3⟩ := bm.cells2
    clear bl bm fr
    clear hb1
    go_wp2_with fail
    refine (impl_labok0 _ m _ (RM0.out.below hbel)).mono ?_
    rintro e w2 ⟨rfl, hb2⟩
    have FR2 := Lib.hid (FR1.out.below hb2)
    have hbel2 := below_more hbel hb2
    have hz2 := hb2.size
    clear hb2 c0 c1 c2 c3
    have r0 := FR2.out.c0
    have r1 := FR2.out.c1
    have q0 := FR2.out.f0
    have q1 := FR2.out.f1
    go_wp2
    refine bodyPost_ret (v := .tuple #[.agg #[.int .i64 0, .slice none 0 0], .bool false]) (by simp [results, Try.results24, go_sem, r0, r1]) rfl ?_
    rw [HR.out]
    exact ⟨_, rfl, own_nil _ _ _, (hbel2.setCell (by simp only []; omega) _).setCell (by simp only []; omega) _⟩
  · have HY := Lib.hid (joinL_yes hl hm)
    have HL := Lib.hid hl
    have HM := Lib.hid hm
    have RIL := Lib.hid (labOk_rises hl)
    have RIM := Lib.hid (labOk_rises hm)
    have LB := Lib.hid (labOk_base_of hl)
    have MB := Lib.hid (labOk_base_of hm)
    have HH : Hid (handlesOf l m = hs2 l m) := Lib.hid (handlesOf_yes hl hm)
    have s1 := labOk_short hl
    have s2 := labOk_short hm
    have s3 := hs2_length l m
    go_enter Try.func24, Try.ntmps24
    go_wp2_with fail
    refine (impl_labok0 _ l _ (((RL0.out.alloc _).alloc _).alloc _)).mono ?_
    rintro e w1 ⟨rfl, hb1⟩
    obtain ⟨bl, bm, fr, hz, hbel⟩ := boxes3 hb1
    have FR1 := Lib.hid fr
    have BL1 := Lib.hid bl
    have BM1 := Lib.hid bm
    obtain ⟨c0, c1⟩ := bl.cells2
    obtain ⟨c2, c3⟩ := bm.cells2
    clear bl bm fr
    clear hb1
    go_wp2_with fail
    refine (impl_labok0 _ m _ (RM0.out.below hbel)).mono ?_
    rintro e w2 ⟨rfl, hb2⟩
    have FR2 := Lib.hid (FR1.out.below hb2)
    have BL2 := Lib.hid (BL1.out.below hb2)
    have BM2 := Lib.hid (BM1.out.below hb2)
    have hbel2 := below_more hbel hb2
    have hz2 : w.heap.size + 1 + 1 < w2.heap.size := by have := hb2.size; omega
    obtain ⟨e0, e1⟩ := BL2.out.cells2
    obtain ⟨e2, e3⟩ := BM2.out.cells2
    have hza : w.heap.size < w2.heap.size := by omega
    have hzb : w.heap.size + 1 < w2.heap.size := by omega
    clear hb2 c0 c1 c2 c3 hz hbel BL1 BM1 FR1
    go_wp2_with (go_at_call 25; refine (impl_max LB.out MB.out _).mono ?_; rintro e w' ⟨rfl, rfl⟩)
    generalize hW : w2.alloc (.cells #[.int .i64 (max l.base m.base), .slice none 0 0] 26) = w3
    have hb3 : Below w2.heap.size w2 w3 := by rw [← hW]; exact (Below.refl _ _).alloc (Nat.le_refl _) _
    have G3 : Hid (Has w3 w2.heap.size [.int .i64 (max l.base m.base), .slice none 0 0]) := Lib.hid (by rw [← hW]; exact Has.new (Below.refl _ _))
    have GF : w3.frozen? ⟨w2.heap.size, 1, none⟩ = false := by rw [← hW]; simp [go_sem]
    have hz3 : w2.heap.size < w3.heap.size := by rw [← hW]; simp
    have hbel3 := below_more hbel2 hb3
    have BL3 := Lib.hid (BL2.out.below hb3)
    have BM3 := Lib.hid (BM2.out.below hb3)
    have FR3 := Lib.hid (FR2.out.below hb3)
    obtain ⟨i0, i1⟩ := BL3.out.cells2
    obtain ⟨i2, i3⟩ := BM3.out.cells2
    clear hW hb3 e0 e1 e2 e3 BL2 BM2 FR2 hbel2
    go_wp2_with fail
    refine (impl_handlesof _ _ l m _ (RL0.out.below hbel3) (RM0.out.below hbel3)).mono ?_
    rintro e w1z ⟨v3, rfl, hown, hb4⟩
    rw [HH.out] at hown
    obtain ⟨N, hNe⟩ : ∃ N, N = (hs2 l m).length := ⟨_, rfl⟩
    rw [← hNe] at hown
    have hN1 : N ≤ 1000 := by omega
    have HN : Hid ((hs2 l m).length = N) := Lib.hid hNe.symm
    obtain ⟨A1z, c1z, rfl, -, -, -⟩ := own_at hown
    have HO := Lib.hid hown
    have BLz := Lib.hid (BL3.out.below hb4)
    have BMz := Lib.hid (BM3.out.below hb4)
    have FRz := Lib.hid (FR3.out.below hb4)
    have Gz := Lib.hid (G3.out.below hb4)
    have GFz : w1z.frozen? ⟨w2.heap.size, 1, none⟩ = false := (hb4.frozen (p := ⟨w2.heap.size, 1, none⟩) hz3).trans GF
    have HBG : Hid (Bld w1z w2.heap.size (max l.base m.base) w1z none 0 0 []) := Lib.hid (.begin (Gz.out 0 _ rfl) (Gz.out 1 _ rfl) GFz)
    have BELz := Lib.hid (below_more hbel3 hb4)
    have hzz : w3.heap.size ≤ w1z.heap.size := hb4.size
    clear hown hb4 hNe s1 s2 s3 i0 i1 i2 i3 BL3 BM3 FR3 G3 GF GFz Gz hbel3
    go_wp2
    go_loopw [32] (fun i wr => ∃ (k n9 c9 : Nat) (A9 : Option Addr) (out : List (Int × Int)), k ≤ N ∧ n9 ≤ k ∧ i = .int .i64 k ∧ Hid (mkParts (max l.base m.base) (fun h => max (lev l h) (lev m h)) ((hs2 l m).take k) = out) ∧ Hid (Bld w1z w2.heap.size (max l.base m.base) wr A9 n9 c9 out)) (fun i _ => N - (intOf i).toNat)
    case atStart => exact ⟨0, 0, 0, none, [], by omega, by omega, rfl, Lib.hid rfl, HBG⟩
    case round =>
      clear HBG
      obtain ⟨k, n9, c9, A9, out, hk, hn9, rfl, HS, HB⟩ := hrel
      by_cases hlt : k < N
      · have BLr := Lib.hid (HB.out.has (by omega) BLz.out)
        have BMr := Lib.hid (HB.out.has (by omega) BMz.out)
        have RLr := Lib.hid (RL0.out.below (HB.out.under BELz.out (by omega)))
        have RMr := Lib.hid (RM0.out.below (HB.out.under BELz.out (by omega)))
        have HAr := Lib.hid (HB.out.row HO.out hz3)
        have HB0 := Lib.hid (Below.refl wr.heap.size wr)
        obtain ⟨c0a, c0b⟩ := BLr.out.cells2
        obtain ⟨c1a, c1b⟩ := BMr.out.cells2
        obtain ⟨b9, o9, x, rfl, hx, cx⟩ := nmat HAr.out (k := k) (by have := HN.out; omega)
        have hkn : (k : Int) < (N : Int) := by omega
        by_cases hne : max (lev l x) (lev m x) = max l.base m.base
        · have hd : (max (lev l x) (lev m x) != max l.base m.base) = false := by simpa using hne
          have HS1 : Hid (mkParts (max l.base m.base) (fun h => max (lev l h) (lev m h)) ((hs2 l m).take (k + 1)) = out) := Lib.hid (by rw [take_at hx, mkParts_append, HS.out]; simp [mkParts, hne])
          clear hne hx HS
          have HC := Lib.hid (Below.refl wr.heap.size wr)
          go_wp2
          go_region_held3 (fun w' => w'.cell? ⟨w.heap.size, 0, none⟩ = some (.int .i64 l.base) ∧ w'.cell? ⟨w.heap.size, 1, none⟩ = some (.slice A n c) ∧ w'.cell? ⟨w.heap.size + 1, 0, none⟩ = some (.int .i64 m.base) ∧ w'.cell? ⟨w.heap.size + 1, 1, none⟩ = some (.slice B n' d))
            (first | exact ⟨f0a, f0b, f1a, f1b⟩ | go_keep)
            (first
            | (go_at_call_of 41 (Value.agg #[Value.int IntKind.i64 l.base, Value.slice A n c])
               refine (impl_lev _ l x _ (by first | exact RLr.out.below (below_more HB0.out HC.out) | exact (RLr.out.below (below_more HB0.out HC.out)).drew) RIL.out).mono ?_
               rintro e wn ⟨rfl, hb⟩
               have HC' : Hid (Below wr.heap.size wr wn) := Lib.hid (by first | exact below_more HC.out hb | exact below_more HC.out (below_undrew hb))
               clear HC
               have HC := HC'
               clear HC'
               try clear f0a f0b f1a f1b
               have f0a : wn.cell? ⟨w.heap.size, 0, none⟩ = some (.int .i64 l.base) := BLr.out.below (below_more HB0.out HC.out) 0 _ rfl
               have f0b : wn.cell? ⟨w.heap.size, 1, none⟩ = some (.slice A n c) := BLr.out.below (below_more HB0.out HC.out) 1 _ rfl
               have f1a : wn.cell? ⟨w.heap.size + 1, 0, none⟩ = some (.int .i64 m.base) := BMr.out.below (below_more HB0.out HC.out) 0 _ rfl
               have f1b : wn.cell? ⟨w.heap.size + 1, 1, none⟩ = some (.slice B n' d) := BMr.out.below (below_more HB0.out HC.out) 1 _ rfl
               clear hb)
            | (go_at_call_of 41 (Value.agg #[Value.int IntKind.i64 m.base, Value.slice B n' d])
               refine (impl_lev _ m x _ (by first | exact RMr.out.below (below_more HB0.out HC.out) | exact (RMr.out.below (below_more HB0.out HC.out)).drew) RIM.out).mono ?_
               rintro e wn ⟨rfl, hb⟩
               have HC' : Hid (Below wr.heap.size wr wn) := Lib.hid (by first | exact below_more HC.out hb | exact below_more HC.out (below_undrew hb))
               clear HC
               have HC := HC'
               clear HC'
               try clear f0a f0b f1a f1b
               have f0a : wn.cell? ⟨w.heap.size, 0, none⟩ = some (.int .i64 l.base) := BLr.out.below (below_more HB0.out HC.out) 0 _ rfl
               have f0b : wn.cell? ⟨w.heap.size, 1, none⟩ = some (.slice A n c) := BLr.out.below (below_more HB0.out HC.out) 1 _ rfl
               have f1a : wn.cell? ⟨w.heap.size + 1, 0, none⟩ = some (.int .i64 m.base) := BMr.out.below (below_more HB0.out HC.out) 0 _ rfl
               have f1b : wn.cell? ⟨w.heap.size + 1, 1, none⟩ = some (.slice B n' d) := BMr.out.below (below_more HB0.out HC.out) 1 _ rfl
               clear hb)
            | (go_at_call 25
               refine (impl_max (lev_lv HL.out x) (lev_lv HM.out x) _).mono ?_
               rintro e w8 ⟨rfl, rfl⟩))
          have HBn := Lib.hid (HB.out.below HC.out)
          have h0 := HBn.out.g0
          go_wp2
          go_roundw
          case rel => exact ⟨k + 1, n9, c9, A9, out, by omega, by omega, by go_num, HS1, HBn⟩
          case measure => simp [intOf]; omega
        · have hd : (max (lev l x) (lev m x) != max l.base m.base) = true := by simpa using hne
          have HS1 : Hid (mkParts (max l.base m.base) (fun h => max (lev l h) (lev m h)) ((hs2 l m).take (k + 1)) = out ++ [(x, max (lev l x) (lev m x))]) := Lib.hid (by rw [take_at hx, mkParts_append, HS.out]; simp [mkParts, hne])
          clear hne hx HS
          have HC := Lib.hid (Below.refl wr.heap.size wr)
          go_wp2
          go_region_held3 (fun w' => w'.cell? ⟨w.heap.size, 0, none⟩ = some (.int .i64 l.base) ∧ w'.cell? ⟨w.heap.size, 1, none⟩ = some (.slice A n c) ∧ w'.cell? ⟨w.heap.size + 1, 0, none⟩ = some (.int .i64 m.base) ∧ w'.cell? ⟨w.heap.size + 1, 1, none⟩ = some (.slice B n' d))
            (first | exact ⟨f0a, f0b, f1a, f1b⟩ | go_keep)
            (first
            | (go_at_call_of 41 (Value.agg #[Value.int IntKind.i64 l.base, Value.slice A n c])
               refine (impl_lev _ l x _ (by first | exact RLr.out.below (below_more HB0.out HC.out) | exact (RLr.out.below (below_more HB0.out HC.out)).drew) RIL.out).mono ?_
               rintro e wn ⟨rfl, hb⟩
               have HC' : Hid (Below wr.heap.size wr wn) := Lib.hid (by first | exact below_more HC.out hb | exact below_more HC.out (below_undrew hb))
               clear HC
               have HC := HC'
               clear HC'
               try clear f0a f0b f1a f1b
               have f0a : wn.cell? ⟨w.heap.size, 0, none⟩ = some (.int .i64 l.base) := BLr.out.below (below_more HB0.out HC.out) 0 _ rfl
               have f0b : wn.cell? ⟨w.heap.size, 1, none⟩ = some (.slice A n c) := BLr.out.below (below_more HB0.out HC.out) 1 _ rfl
               have f1a : wn.cell? ⟨w.heap.size + 1, 0, none⟩ = some (.int .i64 m.base) := BMr.out.below (below_more HB0.out HC.out) 0 _ rfl
               have f1b : wn.cell? ⟨w.heap.size + 1, 1, none⟩ = some (.slice B n' d) := BMr.out.below (below_more HB0.out HC.out) 1 _ rfl
               clear hb)
            | (go_at_call_of 41 (Value.agg #[Value.int IntKind.i64 m.base, Value.slice B n' d])
               refine (impl_lev _ m x _ (by first | exact RMr.out.below (below_more HB0.out HC.out) | exact (RMr.out.below (below_more HB0.out HC.out)).drew) RIM.out).mono ?_
               rintro e wn ⟨rfl, hb⟩
               have HC' : Hid (Below wr.heap.size wr wn) := Lib.hid (by first | exact below_more HC.out hb | exact below_more HC.out (below_undrew hb))
               clear HC
               have HC := HC'
               clear HC'
               try clear f0a f0b f1a f1b
               have f0a : wn.cell? ⟨w.heap.size, 0, none⟩ = some (.int .i64 l.base) := BLr.out.below (below_more HB0.out HC.out) 0 _ rfl
               have f0b : wn.cell? ⟨w.heap.size, 1, none⟩ = some (.slice A n c) := BLr.out.below (below_more HB0.out HC.out) 1 _ rfl
               have f1a : wn.cell? ⟨w.heap.size + 1, 0, none⟩ = some (.int .i64 m.base) := BMr.out.below (below_more HB0.out HC.out) 0 _ rfl
               have f1b : wn.cell? ⟨w.heap.size + 1, 1, none⟩ = some (.slice B n' d) := BMr.out.below (below_more HB0.out HC.out) 1 _ rfl
               clear hb)
            | (go_at_call 25
               refine (impl_max (lev_lv HL.out x) (lev_lv HM.out x) _).mono ?_
               rintro e w8 ⟨rfl, rfl⟩))
          have HBn := Lib.hid (HB.out.below HC.out)
          have h0 := HBn.out.g0
          have g1 := HBn.out.g1
          have q1 := HBn.out.f1
          have gsz : w2.heap.size < wn.heap.size := block_lt_of_cell g1
          have hszn := HBn.out.kept.size
          go_wp2_with
            (at_builtin
             refine wpList_app elemPart2 rfl (.tmp 49) (.tmp 53) rfl w1z.heap.size (.slice A9 n9 c9) n9 (ptcells out) rfl (HBn.out.own.alloc _) (some ⟨wn.heap.size, 0, none⟩) 1 1 (ptcells [(x, max (lev l x) (lev m x))]) rfl (by exact At.new wn #[Value.int .i64 x, Value.int .i64 (max (lev l x) (lev m x))] 47 _ rfl) rfl (ptcells_one _) (by omega) (by omega) (by first | (simp; omega) | omega) ?_
             intro v6 w6 hap
             obtain ⟨A6, c6, rfl, -, -, -⟩ := own_at hap.own
             have HB6 : Hid (Bld w1z w2.heap.size (max l.base m.base) (w6.setCell ⟨w2.heap.size, 1, none⟩ (.slice A6 (n9 + 1) c6)) A6 (n9 + 1) c6 (out ++ [(x, max (lev l x) (lev m x))])) := Lib.hid (Bld.store (HBn.out.alloc _) hap rfl)
             have hne6 : (Value.slice A9 n9 c9).ownBlock ≠ some (w2.heap.size) := fun e => by have := (HBn.out.own.lt _ e).1; have := HBn.out.gl; omega
             have u1 : w6.cell? ⟨w2.heap.size, 1, none⟩ = some (.slice A9 n9 c9) := hap.grown.cell ((HBn.out.alloc _).g1) (fun e => hne6 e.symm)
             have u2 : w6.frozen? ⟨w2.heap.size, 1, none⟩ = false := (World.frozen?_of_block (hap.grown.block (w2.heap.size) (by simp; omega) (fun e => hne6 e.symm))).trans ((HBn.out.alloc _).f1)
             clear hap hne6)
          go_roundw
          case rel => exact ⟨k + 1, n9 + 1, c6, A6, out ++ [(x, max (lev l x) (lev m x))], by omega, by omega, by go_num, HS1, HB6⟩
          case measure => simp [intOf]; omega
      · obtain rfl : k = N := by omega
        have HS1 : Hid (mkParts (max l.base m.base) (fun h => max (lev l h) (lev m h)) (hs2 l m) = out) := Lib.hid (by have := HS.out; rwa [List.take_of_length_le (by have := HN.out; omega)] at this)
        have HLn := Lib.hid HB.out.len
        have BELr := Lib.hid (HB.out.under BELz.out (by omega))
        have r0 := HB.out.cell (k := w.heap.size + 1 + 1) (by omega) FRz.out.c0
        have r1 := HB.out.cell (k := w.heap.size + 1 + 1) (by omega) FRz.out.c1
        have q0 := (HB.out.frozen (k := w.heap.size + 1 + 1) (i := 0) (by omega) (block_lt_of_cell FRz.out.c0)).trans FRz.out.f0
        have q1 := (HB.out.frozen (k := w.heap.size + 1 + 1) (i := 1) (by omega) (block_lt_of_cell FRz.out.c0)).trans FRz.out.f1
        have h0 := HB.out.g0
        have h1 := HB.out.g1
        have hgl := HB.out.gl
        clear HS
        by_cases h8' : 8 < n9
        · have HR : Hid (joinL l m = (noLab, false)) := Lib.hid (by rw [HY.out]; exact ofLev_long HS1.out (by have := HLn.out; omega))
          have h8n : (8 : Int) < (n9 : Int) := by omega
          go_wp2
          refine bodyPost_ret (v := .tuple #[.agg #[.int .i64 0, .slice none 0 0], .bool false]) (by simp [results, Try.results24, go_sem, r0, r1]) rfl ?_
          rw [HR.out]
          exact ⟨_, rfl, own_nil _ _ _, (BELr.out.setCell (by simp only []; omega) _).setCell (by simp only []; omega) _⟩
        · have HR : Hid (joinL l m = (⟨max l.base m.base, out⟩, true)) := Lib.hid (by rw [HY.out]; exact ofLev_short HS1.out (by have := HLn.out; omega))
          have h8n : (n9 : Int) ≤ 8 := by omega
          go_wp2
          refine bodyPost_ret (v := .tuple #[.agg #[.int .i64 (max l.base m.base), .slice A9 n9 c9], .bool true]) (by simp [results, Try.results24, go_sem, r0, r1]) rfl ?_
          rw [HR.out]
          refine ⟨_, rfl, ⟨A9, n9, c9, rfl, HLn.out, by omega, own_lower (ownsRow_setCell_below (ownsRow_setCell_below HB.out.own (by simp only []; omega) _) (by simp only []; omega) _) (by omega)⟩, (BELr.out.setCell (by simp only []; omega) _).setCell (by simp only []; omega) _⟩

set_option maxHeartbeats 1000000 in
theorem impl_join (v u : Value) (l m : Lab) (w : World) (hr : RdLab w v l) (hq : RdLab w u m) : Calls Try.prog 10 #[v, u] w (RetLab2 (joinL l m).1 (joinL l m).2 w) := by
  have RL0 := Lib.hid hr
  have RM0 := Lib.hid hq
  obtain ⟨A, n, c, rfl, -⟩ := hr
  obtain ⟨B, n', d, rfl, -⟩ := hq
  go_enter Try.func10, Try.ntmps10
  go_wp2_with fail
  refine (impl_combined_max _ _ l m _ (((RL0.out.alloc _).alloc _).alloc _) (((RM0.out.alloc _).alloc _).alloc _)).mono ?_
  rintro e w1 ⟨v3, rfl, hown, hb1⟩
  obtain ⟨-, -, fr, hz, hbel⟩ := boxes3 hb1
  have FR1 := Lib.hid fr
  have r0 := FR1.out.c0
  have r1 := FR1.out.c1
  have q0 := FR1.out.f0
  have q1 := FR1.out.f1
  obtain ⟨A3, n3, c3, rfl, hn3, hl3, ho3⟩ := hown
  have HN3 := Lib.hid hn3
  have HO3 := Lib.hid ho3
  clear hb1 hn3 ho3
  go_wp2
  refine bodyPost_ret (v := .tuple #[.agg #[.int .i64 (joinL l m).1.base, .slice A3 n3 c3], .bool (joinL l m).2]) (by simp [results, Try.results10, go_sem, r0, r1]) rfl ?_
  exact ⟨_, rfl, ⟨A3, n3, c3, rfl, HN3.out, hl3, own_lower (ownsRow_setCell_below (ownsRow_setCell_below HO3.out (by simp) _) (by simp) _) (by simp; omega)⟩, (hbel.setCell (by simp only []; omega) _).setCell (by simp only []; omega) _⟩
end Go.Proofs.Ytoaglephpkmaeaa
