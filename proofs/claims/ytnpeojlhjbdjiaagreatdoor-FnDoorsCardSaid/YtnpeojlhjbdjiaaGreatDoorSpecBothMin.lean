/-
  Chapter 3 of the model: of each handle the one of both.
-/
import Derived.Test.YtnpeojlhjbdjiaaGreatDoorSpecOrd
namespace Go.Proofs.YtnpeojlhjbdjiaaGreatDoor
set_option maxRecDepth 100000
open Go.RowKit

set_option maxHeartbeats 8000000 in
theorem spec_both_min (v u : Value) (l m : Lab) (w : World) (hr : RdLab w v l) (hq : RdLab w u m) (h8 : l.parts.length + m.parts.length ≤ 1000) :
    Calls Tryz.prog 102 #[v, u, .bool false] w (RetLab2 (bothL min l m).1 (bothL min l m).2 w) := by
  have RL0 := Lib.hid hr
  have RM0 := Lib.hid hq
  obtain ⟨A, n, c, rfl, -⟩ := hr
  obtain ⟨B, n', d, rfl, -⟩ := hq
  have hb0 : 0 + l.parts.length ≤ 1048575 := by omega
  have hb1 : (handlesIn [] l.parts).length + m.parts.length ≤ 1048575 := by have := handlesIn_length [] l.parts; simp at this; omega
  have hN : (handlesIn (handlesIn [] l.parts) m.parts).length ≤ 1000 := by have := hs2_length l m; unfold hs2 at this; omega
  go_enter Tryz.func102, Tryz.ntmps102
  go_wp2_with (first | (go_at_call 75; refine (spec_min _ _ _).mono ?_; rintro e w' ⟨rfl, rfl⟩) | (go_at_call 104; refine (spec_max _ _ _).mono ?_; rintro e w' ⟨rfl, rfl⟩))
  generalize hW : (((w.alloc (.cells #[.int .i64 l.base, .slice A n c] 26)).alloc (.cells #[.int .i64 m.base, .slice B n' d] 26)).alloc (.cells #[.int .i64 0, .slice none 0 0] 26)).alloc (.cells #[.int .i64 (min l.base m.base), .slice none 0 0] 26) = w1
  obtain ⟨hsz, bel, bl, bm, br, bg, hfr⟩ := laid4 hW
  clear hW
  have BL := Lib.hid bl
  have BM := Lib.hid bm
  have BR := Lib.hid br
  have BG := Lib.hid bg
  have RL := Lib.hid (RL0.out.below bel)
  have RM := Lib.hid (RM0.out.below bel)
  have FR := Lib.hid hfr
  have HSZ := Lib.hid hsz
  have e0 := bl 0 _ rfl
  have e1 := bl 1 _ rfl
  have e2 := bm 0 _ rfl
  have e3 := bm 1 _ rfl
  clear bl bm br bg hfr hsz
  have HC := Lib.hid (Below.refl w1.heap.size w1)
  go_wp2
  go_region_held3 (fun w' => w'.cell? ⟨w.heap.size, 0, none⟩ = some (.int .i64 l.base) ∧ w'.cell? ⟨w.heap.size, 1, none⟩ = some (.slice A n c) ∧ w'.cell? ⟨w.heap.size + 1, 0, none⟩ = some (.int .i64 m.base) ∧ w'.cell? ⟨w.heap.size + 1, 1, none⟩ = some (.slice B n' d))
    (first | exact ⟨f0a, f0b, f1a, f1b⟩ | go_keep)
    (first
    | (go_at_call_of 105 (Value.agg #[Value.int IntKind.i64 l.base, Value.slice A n c])
       refine (spec_handles (some ⟨w1.heap.size, 0, none⟩) 0 0 w1.heap.size [] _ l _ (by exact World.ownsRow_lit w1 #[] 0 (Nat.le_refl w1.heap.size) (by simp [maxLen]) rfl) rfl (RL.out.below (by go_grown)) (by have := hb0; omega) (by have := (Nat.le_refl w1.heap.size); first | (simp; done) | (simp; omega) | omega)).mono ?_
       rintro e w0z ⟨v0z, rfl, own, hb⟩
       have HC0 : Hid (Below w1.heap.size w1 w0z) := Lib.hid (by first | exact Below.trans (by go_grown) (hb.mono (by simp; omega)) | exact Below.trans (by go_grown) (hb.mono (by simp)))
       have f0a : w0z.cell? ⟨w.heap.size, 0, none⟩ = some (.int .i64 l.base) := BL.out.below HC0.out 0 _ rfl
       have f0b : w0z.cell? ⟨w.heap.size, 1, none⟩ = some (.slice A n c) := BL.out.below HC0.out 1 _ rfl
       have f1a : w0z.cell? ⟨w.heap.size + 1, 0, none⟩ = some (.int .i64 m.base) := BM.out.below HC0.out 0 _ rfl
       have f1b : w0z.cell? ⟨w.heap.size + 1, 1, none⟩ = some (.slice B n' d) := BM.out.below HC0.out 1 _ rfl
       obtain ⟨A0z, c0z, rfl, -, -, -⟩ := own_at own
       have HO0 := Lib.hid own
       clear hb own)
    | (go_at_call_of 105 (Value.agg #[Value.int IntKind.i64 m.base, Value.slice B n' d])
       refine (spec_handles A0z _ c0z w1.heap.size (handlesIn [] l.parts) _ m _ HO0.out rfl (RM.out.below (by exact HC0.out)) hb1 (by have := (Nat.le_refl w1.heap.size); have := HC0.out.size; omega)).mono ?_
       rintro e w1z ⟨v1z, rfl, own, hb⟩
       have HC1 : Hid (Below w1.heap.size w1 w1z) := Lib.hid (below_more HC0.out hb)
       have f0a : w1z.cell? ⟨w.heap.size, 0, none⟩ = some (.int .i64 l.base) := BL.out.below HC1.out 0 _ rfl
       have f0b : w1z.cell? ⟨w.heap.size, 1, none⟩ = some (.slice A n c) := BL.out.below HC1.out 1 _ rfl
       have f1a : w1z.cell? ⟨w.heap.size + 1, 0, none⟩ = some (.int .i64 m.base) := BM.out.below HC1.out 0 _ rfl
       have f1b : w1z.cell? ⟨w.heap.size + 1, 1, none⟩ = some (.slice B n' d) := BM.out.below HC1.out 1 _ rfl
       obtain ⟨A1z, c1z, rfl, -, -, -⟩ := own_at own
       have HO1 := Lib.hid own
       clear hb own))
  have HC' := HC1
  have HOW := HO1
  clear HC HC0 HO0 HC1 HO1 f0a f0b f1a f1b
  have HC := HC'
  clear HC'
  clear e0 e1 e2 e3
  go_wp2
  obtain ⟨N, hNe⟩ : ∃ N, N = (handlesIn (handlesIn [] l.parts) m.parts).length := ⟨_, rfl⟩
  have ho := HOW.out
  clear HOW
  rw [← hNe] at ho ⊢
  have hN1 : N ≤ 1000 := by omega
  have HN : Hid ((hs2 l m).length = N) := Lib.hid (by unfold hs2; exact hNe.symm)
  have HO : Hid (w1z.ownsRow w1.heap.size 2 1 (.slice A1z N c1z) N (nmcells (hs2 l m))) := Lib.hid ho
  have BLz := Lib.hid (BL.out.below HC.out)
  have BMz := Lib.hid (BM.out.below HC.out)
  have BRz := Lib.hid (BR.out.below HC.out)
  have FRz : Hid (∀ k i, w.heap.size ≤ k → k < w1.heap.size → w1z.frozen? ⟨k, i, none⟩ = false) := Lib.hid (fun k i h1 h2 => (HC.out.frozen (p := ⟨k, i, none⟩) h2).trans (FR.out k i h1 h2))
  have HBG : Hid (Bld w1z (w.heap.size + 1 + 1 + 1) (min l.base m.base) w1z none 0 0 []) := Lib.hid (.begin (BG.out.below HC.out 0 _ rfl) (BG.out.below HC.out 1 _ rfl) (FRz.out _ 1 (by omega) (by have := HSZ.out; omega)))
  have BELz := Lib.hid (below_more bel HC.out)
  have hgz : w.heap.size + 1 + 1 + 1 < w1.heap.size := by have := HSZ.out; omega
  clear ho hNe hN hb0 hb1 BL BM BR BG RL RM FR HC bel HSZ
  go_loopw [10] (fun i wr => ∃ (k n9 c9 : Nat) (A9 : Option Addr) (out : List (Int × Int)), k ≤ N ∧ n9 ≤ k ∧ i = .int .i64 k ∧ Hid (mkParts (min l.base m.base) (fun h => min (lev l h) (lev m h)) ((hs2 l m).take k) = out) ∧ Hid (Bld w1z (w.heap.size + 1 + 1 + 1) (min l.base m.base) wr A9 n9 c9 out)) (fun i _ => N - (intOf i).toNat)
  case atStart => exact ⟨0, 0, 0, none, [], by omega, by omega, rfl, Lib.hid rfl, HBG⟩
  case round =>
    clear HBG
    obtain ⟨k, n9, c9, A9, out, hk, hn9, rfl, HS, HB⟩ := hrel
    by_cases hlt : k < N
    · have BLr := Lib.hid (HB.out.has (by omega) BLz.out)
      have BMr := Lib.hid (HB.out.has (by omega) BMz.out)
      have RLr := Lib.hid (RL0.out.below (HB.out.under BELz.out (by omega)))
      have RMr := Lib.hid (RM0.out.below (HB.out.under BELz.out (by omega)))
      have HAr := Lib.hid (HB.out.row HO.out hgz)
      have HB0 := Lib.hid (Below.refl wr.heap.size wr)
      have c0a := BLr.out.below HB0.out 0 _ rfl
      have c0b := BLr.out.below HB0.out 1 _ rfl
      have c1a := BMr.out.below HB0.out 0 _ rfl
      have c1b := BMr.out.below HB0.out 1 _ rfl
      obtain ⟨b9, o9, x, rfl, hx, cx⟩ := nmat HAr.out (k := k) (by have := HN.out; omega)
      have hkn : (k : Int) < (N : Int) := by omega
      by_cases hne : min (lev l x) (lev m x) = min l.base m.base
      · have hd : (min (lev l x) (lev m x) != min l.base m.base) = false := by simpa using hne
        have HS1 : Hid (mkParts (min l.base m.base) (fun h => min (lev l h) (lev m h)) ((hs2 l m).take (k + 1)) = out) := Lib.hid (by rw [take_at hx, mkParts_append, HS.out]; simp [mkParts, hne])
        clear hne hx HS
        have HC := Lib.hid (Below.refl wr.heap.size wr)
        go_wp2
        go_region_held3 (fun w' => w'.cell? ⟨w.heap.size, 0, none⟩ = some (.int .i64 l.base) ∧ w'.cell? ⟨w.heap.size, 1, none⟩ = some (.slice A n c) ∧ w'.cell? ⟨w.heap.size + 1, 0, none⟩ = some (.int .i64 m.base) ∧ w'.cell? ⟨w.heap.size + 1, 1, none⟩ = some (.slice B n' d) ∧ w'.cell? ⟨b9, o9 + k, none⟩ = some (.int .i64 x))
          (first | exact ⟨f0a, f0b, f1a, f1b, f9⟩ | go_keep)
          (first
          | (go_at_call_of 106 (Value.agg #[Value.int IntKind.i64 l.base, Value.slice A n c])
             refine (spec_lev _ l x _ (by first | exact RLr.out.below (below_more HB0.out HC.out) | exact (RLr.out.below (below_more HB0.out HC.out)).drew)).mono ?_
             rintro e wn ⟨rfl, hb⟩
             have HC' : Hid (Below wr.heap.size wr wn) := Lib.hid (by first | exact below_more HC.out hb | exact below_more HC.out (below_undrew hb))
             clear HC
             have HC := HC'
             clear HC'
             try clear f0a f0b f1a f1b f9
             have f0a : wn.cell? ⟨w.heap.size, 0, none⟩ = some (.int .i64 l.base) := BLr.out.below (below_more HB0.out HC.out) 0 _ rfl
             have f0b : wn.cell? ⟨w.heap.size, 1, none⟩ = some (.slice A n c) := BLr.out.below (below_more HB0.out HC.out) 1 _ rfl
             have f1a : wn.cell? ⟨w.heap.size + 1, 0, none⟩ = some (.int .i64 m.base) := BMr.out.below (below_more HB0.out HC.out) 0 _ rfl
             have f1b : wn.cell? ⟨w.heap.size + 1, 1, none⟩ = some (.slice B n' d) := BMr.out.below (below_more HB0.out HC.out) 1 _ rfl
             have f9 : wn.cell? ⟨b9, o9 + k, none⟩ = some (.int .i64 x) := (HC.out.cell (block_lt_of_cell cx)).trans cx
             clear hb)
          | (go_at_call_of 106 (Value.agg #[Value.int IntKind.i64 m.base, Value.slice B n' d])
             refine (spec_lev _ m x _ (by first | exact RMr.out.below (below_more HB0.out HC.out) | exact (RMr.out.below (below_more HB0.out HC.out)).drew)).mono ?_
             rintro e wn ⟨rfl, hb⟩
             have HC' : Hid (Below wr.heap.size wr wn) := Lib.hid (by first | exact below_more HC.out hb | exact below_more HC.out (below_undrew hb))
             clear HC
             have HC := HC'
             clear HC'
             try clear f0a f0b f1a f1b f9
             have f0a : wn.cell? ⟨w.heap.size, 0, none⟩ = some (.int .i64 l.base) := BLr.out.below (below_more HB0.out HC.out) 0 _ rfl
             have f0b : wn.cell? ⟨w.heap.size, 1, none⟩ = some (.slice A n c) := BLr.out.below (below_more HB0.out HC.out) 1 _ rfl
             have f1a : wn.cell? ⟨w.heap.size + 1, 0, none⟩ = some (.int .i64 m.base) := BMr.out.below (below_more HB0.out HC.out) 0 _ rfl
             have f1b : wn.cell? ⟨w.heap.size + 1, 1, none⟩ = some (.slice B n' d) := BMr.out.below (below_more HB0.out HC.out) 1 _ rfl
             have f9 : wn.cell? ⟨b9, o9 + k, none⟩ = some (.int .i64 x) := (HC.out.cell (block_lt_of_cell cx)).trans cx
             clear hb)
          | (go_at_call 75
             refine (spec_min _ _ _).mono ?_
             rintro e w8 ⟨rfl, rfl⟩))
        have HBn := Lib.hid (HB.out.below HC.out)
        have h0 := HBn.out.g0
        go_wp2
        go_roundw
        case rel => exact ⟨k + 1, n9, c9, A9, out, by omega, by omega, by go_num, HS1, HBn⟩
        case measure => simp [intOf]; omega
      · have hd : (min (lev l x) (lev m x) != min l.base m.base) = true := by simpa using hne
        have HS1 : Hid (mkParts (min l.base m.base) (fun h => min (lev l h) (lev m h)) ((hs2 l m).take (k + 1)) = out ++ [(x, min (lev l x) (lev m x))]) := Lib.hid (by rw [take_at hx, mkParts_append, HS.out]; simp [mkParts, hne])
        clear hne hx HS
        have HC := Lib.hid (Below.refl wr.heap.size wr)
        go_wp2
        go_region_held3 (fun w' => w'.cell? ⟨w.heap.size, 0, none⟩ = some (.int .i64 l.base) ∧ w'.cell? ⟨w.heap.size, 1, none⟩ = some (.slice A n c) ∧ w'.cell? ⟨w.heap.size + 1, 0, none⟩ = some (.int .i64 m.base) ∧ w'.cell? ⟨w.heap.size + 1, 1, none⟩ = some (.slice B n' d) ∧ w'.cell? ⟨b9, o9 + k, none⟩ = some (.int .i64 x))
          (first | exact ⟨f0a, f0b, f1a, f1b, f9⟩ | go_keep)
          (first
          | (go_at_call_of 106 (Value.agg #[Value.int IntKind.i64 l.base, Value.slice A n c])
             refine (spec_lev _ l x _ (by first | exact RLr.out.below (below_more HB0.out HC.out) | exact (RLr.out.below (below_more HB0.out HC.out)).drew)).mono ?_
             rintro e wn ⟨rfl, hb⟩
             have HC' : Hid (Below wr.heap.size wr wn) := Lib.hid (by first | exact below_more HC.out hb | exact below_more HC.out (below_undrew hb))
             clear HC
             have HC := HC'
             clear HC'
             try clear f0a f0b f1a f1b f9
             have f0a : wn.cell? ⟨w.heap.size, 0, none⟩ = some (.int .i64 l.base) := BLr.out.below (below_more HB0.out HC.out) 0 _ rfl
             have f0b : wn.cell? ⟨w.heap.size, 1, none⟩ = some (.slice A n c) := BLr.out.below (below_more HB0.out HC.out) 1 _ rfl
             have f1a : wn.cell? ⟨w.heap.size + 1, 0, none⟩ = some (.int .i64 m.base) := BMr.out.below (below_more HB0.out HC.out) 0 _ rfl
             have f1b : wn.cell? ⟨w.heap.size + 1, 1, none⟩ = some (.slice B n' d) := BMr.out.below (below_more HB0.out HC.out) 1 _ rfl
             have f9 : wn.cell? ⟨b9, o9 + k, none⟩ = some (.int .i64 x) := (HC.out.cell (block_lt_of_cell cx)).trans cx
             clear hb)
          | (go_at_call_of 106 (Value.agg #[Value.int IntKind.i64 m.base, Value.slice B n' d])
             refine (spec_lev _ m x _ (by first | exact RMr.out.below (below_more HB0.out HC.out) | exact (RMr.out.below (below_more HB0.out HC.out)).drew)).mono ?_
             rintro e wn ⟨rfl, hb⟩
             have HC' : Hid (Below wr.heap.size wr wn) := Lib.hid (by first | exact below_more HC.out hb | exact below_more HC.out (below_undrew hb))
             clear HC
             have HC := HC'
             clear HC'
             try clear f0a f0b f1a f1b f9
             have f0a : wn.cell? ⟨w.heap.size, 0, none⟩ = some (.int .i64 l.base) := BLr.out.below (below_more HB0.out HC.out) 0 _ rfl
             have f0b : wn.cell? ⟨w.heap.size, 1, none⟩ = some (.slice A n c) := BLr.out.below (below_more HB0.out HC.out) 1 _ rfl
             have f1a : wn.cell? ⟨w.heap.size + 1, 0, none⟩ = some (.int .i64 m.base) := BMr.out.below (below_more HB0.out HC.out) 0 _ rfl
             have f1b : wn.cell? ⟨w.heap.size + 1, 1, none⟩ = some (.slice B n' d) := BMr.out.below (below_more HB0.out HC.out) 1 _ rfl
             have f9 : wn.cell? ⟨b9, o9 + k, none⟩ = some (.int .i64 x) := (HC.out.cell (block_lt_of_cell cx)).trans cx
             clear hb)
          | (go_at_call 75
             refine (spec_min _ _ _).mono ?_
             rintro e w8 ⟨rfl, rfl⟩))
        have HBn := Lib.hid (HB.out.below HC.out)
        have h0 := HBn.out.g0
        go_wp2
        have gz := HBn.out.own
        have g1 := HBn.out.g1
        have q1 := HBn.out.f1
        have gsz : w.heap.size + 1 + 1 + 1 < wn.heap.size := block_lt_of_cell g1
        have hszn := HBn.out.kept.size
        clear gz
        go_region_law
          (first
          | (refine step_app elemPart2 rfl (.tmp 68) (.tmp 75) rfl w1z.heap.size (.slice A9 n9 c9) n9 (ptcells out) rfl (by first | exact HBn.out.own.alloc _ | exact (HBn.out.drew.own).alloc _) (some ⟨wn.heap.size, 0, none⟩) 1 1 (ptcells [(x, min (lev l x) (lev m x))]) rfl (by first | exact At.new wn #[Value.int .i64 x, Value.int .i64 (min (lev l x) (lev m x))] 80 _ rfl | exact At.new wn.drew #[Value.int .i64 x, Value.int .i64 (min (lev l x) (lev m x))] 80 _ rfl) rfl (ptcells_one _) (by omega) (by omega) (by first | (simp; omega) | omega) ?_
             intro v6 w6 hap
             obtain ⟨A6, c6, rfl, -, -, -⟩ := own_at hap.own
             have HB6 : Hid (Bld w1z (w.heap.size + 1 + 1 + 1) (min l.base m.base) (w6.setCell ⟨w.heap.size + 1 + 1 + 1, 1, none⟩ (.slice A6 (n9 + 1) c6)) A6 (n9 + 1) c6 (out ++ [(x, min (lev l x) (lev m x))])) := Lib.hid (Bld.store (by first | exact HBn.out.alloc _ | exact HBn.out.drew.alloc _ | exact (HBn.out.alloc _).drew) hap rfl)
             have hne6 : (Value.slice A9 n9 c9).ownBlock ≠ some (w.heap.size + 1 + 1 + 1) := fun e => by have := (HBn.out.own.lt _ e).1; have := HBn.out.gl; omega
             have u1 : w6.cell? ⟨w.heap.size + 1 + 1 + 1, 1, none⟩ = some (.slice A9 n9 c9) := hap.grown.cell (by first | exact (HBn.out.alloc _).g1 | exact (HBn.out.drew.alloc _).g1 | exact (HBn.out.alloc _).drew.g1) (fun e => hne6 e.symm)
             have u2 : w6.frozen? ⟨w.heap.size + 1 + 1 + 1, 1, none⟩ = false := (World.frozen?_of_block (hap.grown.block (w.heap.size + 1 + 1 + 1) (by simp; omega) (fun e => hne6 e.symm))).trans (by first | exact (HBn.out.alloc _).f1 | exact (HBn.out.drew.alloc _).f1 | exact (HBn.out.alloc _).drew.f1)
             clear hap hne6))
        all_goals
          go_wp2
          go_roundw
          case rel => exact ⟨k + 1, n9 + 1, c6, A6, out ++ [(x, min (lev l x) (lev m x))], by omega, by omega, by go_num, HS1, HB6⟩
          case measure => simp [intOf]; omega
    · obtain rfl : k = N := by omega
      have HS1 : Hid (mkParts (min l.base m.base) (fun h => min (lev l h) (lev m h)) (hs2 l m) = out) := Lib.hid (by have := HS.out; rwa [List.take_of_length_le (by have := HN.out; omega)] at this)
      have HL := Lib.hid HB.out.len
      have BELr := Lib.hid (HB.out.under BELz.out (by omega))
      have r0 := HB.out.has (by omega) BRz.out 0 _ rfl
      have r1 := HB.out.has (by omega) BRz.out 1 _ rfl
      have q0 := (HB.out.frozen (k := w.heap.size + 1 + 1) (i := 0) (by omega) (block_lt_of_cell (BRz.out 0 _ rfl))).trans (FRz.out _ 0 (by omega) (by omega))
      have q1 := (HB.out.frozen (k := w.heap.size + 1 + 1) (i := 1) (by omega) (block_lt_of_cell (BRz.out 0 _ rfl))).trans (FRz.out _ 1 (by omega) (by omega))
      have h0 := HB.out.g0
      have h1 := HB.out.g1
      have hzz : w.heap.size ≤ w1z.heap.size := BELz.out.size
      have hgl := HB.out.gl
      clear HS
      by_cases h8' : 8 < n9
      · have HR : Hid (bothL min l m = (noLab, false)) := Lib.hid (ofLev_long HS1.out (by have := HL.out; omega))
        have h8n : (8 : Int) < (n9 : Int) := by omega
        go_wp2
        refine bodyPost_ret (v := .tuple #[.agg #[.int .i64 0, .slice none 0 0], .bool false]) (by simp [results, Tryz.results102, go_sem, r0, r1]) rfl ?_
        rw [HR.out]
        exact ⟨_, rfl, own_nil _ _ _, (BELr.out.setCell (by simp only []; omega) _).setCell (by simp only []; omega) _⟩
      · have HR : Hid (bothL min l m = (⟨min l.base m.base, out⟩, true)) := Lib.hid (ofLev_short HS1.out (by have := HL.out; omega))
        have h8n : (n9 : Int) ≤ 8 := by omega
        go_wp2
        refine bodyPost_ret (v := .tuple #[.agg #[.int .i64 (min l.base m.base), .slice A9 n9 c9], .bool true]) (by simp [results, Tryz.results102, go_sem, r0, r1]) rfl ?_
        rw [HR.out]
        refine ⟨_, rfl, ⟨A9, n9, c9, rfl, HL.out, by omega, own_lower (ownsRow_setCell_below (ownsRow_setCell_below HB.out.own (by simp only []; omega) _) (by simp only []; omega) _) hzz⟩, (BELr.out.setCell (by simp only []; omega) _).setCell (by simp only []; omega) _⟩
end Go.Proofs.YtnpeojlhjbdjiaaGreatDoor
