/-
  Texts put together: SpecTaint0, SpecTaint. What each proves stands ahead of it.
-/
import Derived.Test.YtjdnobihhkmmpaaSpecOrd
/-
  Chapter 4 of the model: taint, of right labels.
-/
namespace Go.Proofs.Ytjdnobihhkmmpaa
set_option maxRecDepth 100000
open Go.RowKit

theorem spec_taintlev (x y z : Int) (w : World) : Calls Try.prog 63 #[.int .i64 x, .int .i64 y, .int .i64 z] w (RetS (.int .i64 (taintLev x y z)) w) := by
  by_cases h : x = 0
  · have HE : Hid (taintLev x y z = 0) := Lib.hid (by simp [taintLev, h])
    have h1 : (x == 0) = true := by simpa using h
    clear h
    go_enter Try.func63, Try.ntmps63
    go_wp2
    go_ret
    exact .mk (by rw [HE.out]; rfl)
  · have HE : Hid (taintLev x y z = max z (min x y)) := Lib.hid (by simp [taintLev, h])
    have h1 : (x == 0) = false := by simpa using h
    clear h
    go_enter Try.func63, Try.ntmps63
    go_wp2_with (first | (go_at_call 72; refine (spec_min _ _ _).mono ?_; rintro e w' ⟨rfl, rfl⟩) | (go_at_call 81; refine (spec_max _ _ _).mono ?_; rintro e w' ⟨rfl, rfl⟩))
    go_ret
    exact .mk (by rw [HE.out]; rfl)

set_option maxHeartbeats 8000000 in
theorem spec_taint0 (v u v3 : Value) (l m o : Lab) (w : World) (hr : RdLab w v l) (hq : RdLab w u m) (hu : RdLab w v3 o) (h8 : l.parts.length + m.parts.length + o.parts.length ≤ 1000) :
    Calls Try.prog 35 #[v, u, v3] w (RetLab2 (ofLev (taintLev l.base m.base o.base) (fun h => taintLev (lev l h) (lev m h) (lev o h)) (hs3 l m o)).1 (ofLev (taintLev l.base m.base o.base) (fun h => taintLev (lev l h) (lev m h) (lev o h)) (hs3 l m o)).2 w) := by
  have RL0 := Lib.hid hr
  have RM0 := Lib.hid hq
  have RO0 := Lib.hid hu
  obtain ⟨A, n, c, rfl, -⟩ := hr
  obtain ⟨B, n', d, rfl, -⟩ := hq
  obtain ⟨C, n'', f, rfl, -⟩ := hu
  have hb0 : 0 + l.parts.length ≤ 1048575 := by omega
  have hb1 : (handlesIn [] l.parts).length + m.parts.length ≤ 1048575 := by have := handlesIn_length [] l.parts; simp at this; omega
  have hb2 : (handlesIn (handlesIn [] l.parts) m.parts).length + o.parts.length ≤ 1048575 := by have := hs2_length l m; unfold hs2 at this; omega
  have hN : (handlesIn (handlesIn (handlesIn [] l.parts) m.parts) o.parts).length ≤ 1000 := by have := hs3_length l m o; unfold hs3 hs2 at this; omega
  go_enter Try.func35, Try.ntmps35
  go_wp2_with (go_at_call 63; refine (spec_taintlev _ _ _ _).mono ?_; rintro e w' ⟨rfl, rfl⟩)
  generalize hW : ((((w.alloc (.cells #[.int .i64 l.base, .slice A n c] 26)).alloc (.cells #[.int .i64 m.base, .slice B n' d] 26)).alloc (.cells #[.int .i64 o.base, .slice C n'' f] 26)).alloc (.cells #[.int .i64 0, .slice none 0 0] 26)).alloc (.cells #[.int .i64 (taintLev l.base m.base o.base), .slice none 0 0] 26) = w1
  obtain ⟨hsz, bel, bl, bm, bo, br, bg, hfr⟩ := laid5 hW
  clear hW
  have BL := Lib.hid bl
  have BM := Lib.hid bm
  have BO := Lib.hid bo
  have BR := Lib.hid br
  have BG := Lib.hid bg
  have RL := Lib.hid (RL0.out.below bel)
  have RM := Lib.hid (RM0.out.below bel)
  have RO := Lib.hid (RO0.out.below bel)
  have FR := Lib.hid hfr
  have HSZ := Lib.hid hsz
  have e0 := bl 0 _ rfl
  have e1 := bl 1 _ rfl
  have e2 := bm 0 _ rfl
  have e3 := bm 1 _ rfl
  have e4 := bo 0 _ rfl
  have e5 := bo 1 _ rfl
  clear bl bm bo br bg hfr hsz
  have HC := Lib.hid (Below.refl w1.heap.size w1)
  go_wp2
  go_region_held3 (fun w' => w'.cell? ⟨w.heap.size, 0, none⟩ = some (.int .i64 l.base) ∧ w'.cell? ⟨w.heap.size, 1, none⟩ = some (.slice A n c) ∧ w'.cell? ⟨w.heap.size + 1, 0, none⟩ = some (.int .i64 m.base) ∧ w'.cell? ⟨w.heap.size + 1, 1, none⟩ = some (.slice B n' d) ∧ w'.cell? ⟨w.heap.size + 1 + 1, 0, none⟩ = some (.int .i64 o.base) ∧ w'.cell? ⟨w.heap.size + 1 + 1, 1, none⟩ = some (.slice C n'' f))
    (first | exact ⟨f0a, f0b, f1a, f1b, f2a, f2b⟩ | go_keep)
    (first
    | (go_at_call_of 38 (Value.agg #[Value.int IntKind.i64 l.base, Value.slice A n c])
       refine (spec_handles (some ⟨w1.heap.size, 0, none⟩) 0 0 w1.heap.size [] _ l _ (by exact World.ownsRow_lit w1 #[] 0 (Nat.le_refl w1.heap.size) (by simp [maxLen]) rfl) rfl (RL.out.below (by go_grown)) (by have := hb0; omega) (by have := (Nat.le_refl w1.heap.size); first | (simp; done) | (simp; omega) | omega)).mono ?_
       rintro e w0z ⟨v0z, rfl, own, hb⟩
       have HC0 : Hid (Below w1.heap.size w1 w0z) := Lib.hid (by first | exact Below.trans (by go_grown) (hb.mono (by simp; omega)) | exact Below.trans (by go_grown) (hb.mono (by simp)))
       have f0a : w0z.cell? ⟨w.heap.size, 0, none⟩ = some (.int .i64 l.base) := BL.out.below HC0.out 0 _ rfl
       have f0b : w0z.cell? ⟨w.heap.size, 1, none⟩ = some (.slice A n c) := BL.out.below HC0.out 1 _ rfl
       have f1a : w0z.cell? ⟨w.heap.size + 1, 0, none⟩ = some (.int .i64 m.base) := BM.out.below HC0.out 0 _ rfl
       have f1b : w0z.cell? ⟨w.heap.size + 1, 1, none⟩ = some (.slice B n' d) := BM.out.below HC0.out 1 _ rfl
       have f2a : w0z.cell? ⟨w.heap.size + 1 + 1, 0, none⟩ = some (.int .i64 o.base) := BO.out.below HC0.out 0 _ rfl
       have f2b : w0z.cell? ⟨w.heap.size + 1 + 1, 1, none⟩ = some (.slice C n'' f) := BO.out.below HC0.out 1 _ rfl
       obtain ⟨A0z, c0z, rfl, -, -, -⟩ := own_at own
       have HO0 := Lib.hid own
       clear hb own)
    | (go_at_call_of 38 (Value.agg #[Value.int IntKind.i64 m.base, Value.slice B n' d])
       refine (spec_handles A0z _ c0z w1.heap.size (handlesIn [] l.parts) _ m _ HO0.out rfl (RM.out.below (by exact HC0.out)) hb1 (by have := (Nat.le_refl w1.heap.size); have := HC0.out.size; omega)).mono ?_
       rintro e w1z ⟨v1z, rfl, own, hb⟩
       have HC1 : Hid (Below w1.heap.size w1 w1z) := Lib.hid (below_more HC0.out hb)
       have f0a : w1z.cell? ⟨w.heap.size, 0, none⟩ = some (.int .i64 l.base) := BL.out.below HC1.out 0 _ rfl
       have f0b : w1z.cell? ⟨w.heap.size, 1, none⟩ = some (.slice A n c) := BL.out.below HC1.out 1 _ rfl
       have f1a : w1z.cell? ⟨w.heap.size + 1, 0, none⟩ = some (.int .i64 m.base) := BM.out.below HC1.out 0 _ rfl
       have f1b : w1z.cell? ⟨w.heap.size + 1, 1, none⟩ = some (.slice B n' d) := BM.out.below HC1.out 1 _ rfl
       have f2a : w1z.cell? ⟨w.heap.size + 1 + 1, 0, none⟩ = some (.int .i64 o.base) := BO.out.below HC1.out 0 _ rfl
       have f2b : w1z.cell? ⟨w.heap.size + 1 + 1, 1, none⟩ = some (.slice C n'' f) := BO.out.below HC1.out 1 _ rfl
       obtain ⟨A1z, c1z, rfl, -, -, -⟩ := own_at own
       have HO1 := Lib.hid own
       clear hb own)
    | (go_at_call_of 38 (Value.agg #[Value.int IntKind.i64 o.base, Value.slice C n'' f])
       refine (spec_handles A1z _ c1z w1.heap.size (handlesIn (handlesIn [] l.parts) m.parts) _ o _ HO1.out rfl (RO.out.below (by exact HC1.out)) hb2 (by have := (Nat.le_refl w1.heap.size); have := HC1.out.size; omega)).mono ?_
       rintro e w2z ⟨v2z, rfl, own, hb⟩
       have HC2 : Hid (Below w1.heap.size w1 w2z) := Lib.hid (below_more HC1.out hb)
       have f0a : w2z.cell? ⟨w.heap.size, 0, none⟩ = some (.int .i64 l.base) := BL.out.below HC2.out 0 _ rfl
       have f0b : w2z.cell? ⟨w.heap.size, 1, none⟩ = some (.slice A n c) := BL.out.below HC2.out 1 _ rfl
       have f1a : w2z.cell? ⟨w.heap.size + 1, 0, none⟩ = some (.int .i64 m.base) := BM.out.below HC2.out 0 _ rfl
       have f1b : w2z.cell? ⟨w.heap.size + 1, 1, none⟩ = some (.slice B n' d) := BM.out.below HC2.out 1 _ rfl
       have f2a : w2z.cell? ⟨w.heap.size + 1 + 1, 0, none⟩ = some (.int .i64 o.base) := BO.out.below HC2.out 0 _ rfl
       have f2b : w2z.cell? ⟨w.heap.size + 1 + 1, 1, none⟩ = some (.slice C n'' f) := BO.out.below HC2.out 1 _ rfl
       obtain ⟨A2z, c2z, rfl, -, -, -⟩ := own_at own
       have HO2 := Lib.hid own
       clear hb own))
  have HC' := HC2
  have HOW := HO2
  clear HC HC0 HO0 HC1 HO1 HC2 HO2 f0a f0b f1a f1b f2a f2b
  have HC := HC'
  clear HC'
  clear e0 e1 e2 e3 e4 e5
  go_wp2
  obtain ⟨N, hNe⟩ : ∃ N, N = (handlesIn (handlesIn (handlesIn [] l.parts) m.parts) o.parts).length := ⟨_, rfl⟩
  have ho := HOW.out
  clear HOW
  rw [← hNe] at ho ⊢
  have hN1 : N ≤ 1000 := by omega
  have HN : Hid ((hs3 l m o).length = N) := Lib.hid (by unfold hs3 hs2; exact hNe.symm)
  have HO : Hid (w2z.ownsRow w1.heap.size 2 1 (.slice A2z N c2z) N (nmcells (hs3 l m o))) := Lib.hid ho
  have BLz := Lib.hid (BL.out.below HC.out)
  have BMz := Lib.hid (BM.out.below HC.out)
  have BOz := Lib.hid (BO.out.below HC.out)
  have BRz := Lib.hid (BR.out.below HC.out)
  have FRz : Hid (∀ k i, w.heap.size ≤ k → k < w1.heap.size → w2z.frozen? ⟨k, i, none⟩ = false) := Lib.hid (fun k i h1 h2 => (HC.out.frozen (p := ⟨k, i, none⟩) h2).trans (FR.out k i h1 h2))
  have HBG : Hid (Bld w2z (w.heap.size + 1 + 1 + 1 + 1) (taintLev l.base m.base o.base) w2z none 0 0 []) := Lib.hid (.begin (BG.out.below HC.out 0 _ rfl) (BG.out.below HC.out 1 _ rfl) (FRz.out _ 1 (by omega) (by have := HSZ.out; omega)))
  have BELz := Lib.hid (below_more bel HC.out)
  have hgz : w.heap.size + 1 + 1 + 1 + 1 < w1.heap.size := by have := HSZ.out; omega
  clear ho hNe hN hb0 hb1 hb2 BL BM BO BR BG RL RM RO FR HC bel HSZ
  go_loopw [10] (fun i wr => ∃ (k n9 c9 : Nat) (A9 : Option Addr) (out : List (Int × Int)), k ≤ N ∧ n9 ≤ k ∧ i = .int .i64 k ∧ Hid (mkParts (taintLev l.base m.base o.base) (fun h => taintLev (lev l h) (lev m h) (lev o h)) ((hs3 l m o).take k) = out) ∧ Hid (Bld w2z (w.heap.size + 1 + 1 + 1 + 1) (taintLev l.base m.base o.base) wr A9 n9 c9 out)) (fun i _ => N - (intOf i).toNat)
  case atStart => exact ⟨0, 0, 0, none, [], by omega, by omega, rfl, Lib.hid rfl, HBG⟩
  case round =>
    clear HBG
    obtain ⟨k, n9, c9, A9, out, hk, hn9, rfl, HS, HB⟩ := hrel
    by_cases hlt : k < N
    · have BLr := Lib.hid (HB.out.has (by omega) BLz.out)
      have BMr := Lib.hid (HB.out.has (by omega) BMz.out)
      have BOr := Lib.hid (HB.out.has (by omega) BOz.out)
      have RLr := Lib.hid (RL0.out.below (HB.out.under BELz.out (by omega)))
      have RMr := Lib.hid (RM0.out.below (HB.out.under BELz.out (by omega)))
      have ROr := Lib.hid (RO0.out.below (HB.out.under BELz.out (by omega)))
      have HAr := Lib.hid (HB.out.row HO.out hgz)
      have HB0 := Lib.hid (Below.refl wr.heap.size wr)
      have c0a := BLr.out.below HB0.out 0 _ rfl
      have c0b := BLr.out.below HB0.out 1 _ rfl
      have c1a := BMr.out.below HB0.out 0 _ rfl
      have c1b := BMr.out.below HB0.out 1 _ rfl
      have c2a := BOr.out.below HB0.out 0 _ rfl
      have c2b := BOr.out.below HB0.out 1 _ rfl
      obtain ⟨b9, o9, x, rfl, hx, cx⟩ := nmat HAr.out (k := k) (by have := HN.out; omega)
      have hkn : (k : Int) < (N : Int) := by omega
      by_cases hne : taintLev (lev l x) (lev m x) (lev o x) = taintLev l.base m.base o.base
      · have hd : (taintLev (lev l x) (lev m x) (lev o x) != taintLev l.base m.base o.base) = false := by simpa using hne
        have HS1 : Hid (mkParts (taintLev l.base m.base o.base) (fun h => taintLev (lev l h) (lev m h) (lev o h)) ((hs3 l m o).take (k + 1)) = out) := Lib.hid (by rw [take_at hx, mkParts_append, HS.out]; simp [mkParts, hne])
        clear hne hx HS
        have HC := Lib.hid (Below.refl wr.heap.size wr)
        go_wp2
        go_region_held3 (fun w' => w'.cell? ⟨w.heap.size, 0, none⟩ = some (.int .i64 l.base) ∧ w'.cell? ⟨w.heap.size, 1, none⟩ = some (.slice A n c) ∧ w'.cell? ⟨w.heap.size + 1, 0, none⟩ = some (.int .i64 m.base) ∧ w'.cell? ⟨w.heap.size + 1, 1, none⟩ = some (.slice B n' d) ∧ w'.cell? ⟨w.heap.size + 1 + 1, 0, none⟩ = some (.int .i64 o.base) ∧ w'.cell? ⟨w.heap.size + 1 + 1, 1, none⟩ = some (.slice C n'' f) ∧ w'.cell? ⟨b9, o9 + k, none⟩ = some (.int .i64 x))
          (first | exact ⟨f0a, f0b, f1a, f1b, f2a, f2b, f9⟩ | go_keep)
          (first
          | (go_at_call_of 40 (Value.agg #[Value.int IntKind.i64 l.base, Value.slice A n c])
             refine (spec_lev _ l x _ (by first | exact RLr.out.below (below_more HB0.out HC.out) | exact (RLr.out.below (below_more HB0.out HC.out)).drew)).mono ?_
             rintro e wn ⟨rfl, hb⟩
             have HC' : Hid (Below wr.heap.size wr wn) := Lib.hid (by first | exact below_more HC.out hb | exact below_more HC.out (below_undrew hb))
             clear HC
             have HC := HC'
             clear HC'
             try clear f0a f0b f1a f1b f2a f2b f9
             have f0a : wn.cell? ⟨w.heap.size, 0, none⟩ = some (.int .i64 l.base) := BLr.out.below (below_more HB0.out HC.out) 0 _ rfl
             have f0b : wn.cell? ⟨w.heap.size, 1, none⟩ = some (.slice A n c) := BLr.out.below (below_more HB0.out HC.out) 1 _ rfl
             have f1a : wn.cell? ⟨w.heap.size + 1, 0, none⟩ = some (.int .i64 m.base) := BMr.out.below (below_more HB0.out HC.out) 0 _ rfl
             have f1b : wn.cell? ⟨w.heap.size + 1, 1, none⟩ = some (.slice B n' d) := BMr.out.below (below_more HB0.out HC.out) 1 _ rfl
             have f2a : wn.cell? ⟨w.heap.size + 1 + 1, 0, none⟩ = some (.int .i64 o.base) := BOr.out.below (below_more HB0.out HC.out) 0 _ rfl
             have f2b : wn.cell? ⟨w.heap.size + 1 + 1, 1, none⟩ = some (.slice C n'' f) := BOr.out.below (below_more HB0.out HC.out) 1 _ rfl
             have f9 : wn.cell? ⟨b9, o9 + k, none⟩ = some (.int .i64 x) := (HC.out.cell (block_lt_of_cell cx)).trans cx
             clear hb)
          | (go_at_call_of 40 (Value.agg #[Value.int IntKind.i64 m.base, Value.slice B n' d])
             refine (spec_lev _ m x _ (by first | exact RMr.out.below (below_more HB0.out HC.out) | exact (RMr.out.below (below_more HB0.out HC.out)).drew)).mono ?_
             rintro e wn ⟨rfl, hb⟩
             have HC' : Hid (Below wr.heap.size wr wn) := Lib.hid (by first | exact below_more HC.out hb | exact below_more HC.out (below_undrew hb))
             clear HC
             have HC := HC'
             clear HC'
             try clear f0a f0b f1a f1b f2a f2b f9
             have f0a : wn.cell? ⟨w.heap.size, 0, none⟩ = some (.int .i64 l.base) := BLr.out.below (below_more HB0.out HC.out) 0 _ rfl
             have f0b : wn.cell? ⟨w.heap.size, 1, none⟩ = some (.slice A n c) := BLr.out.below (below_more HB0.out HC.out) 1 _ rfl
             have f1a : wn.cell? ⟨w.heap.size + 1, 0, none⟩ = some (.int .i64 m.base) := BMr.out.below (below_more HB0.out HC.out) 0 _ rfl
             have f1b : wn.cell? ⟨w.heap.size + 1, 1, none⟩ = some (.slice B n' d) := BMr.out.below (below_more HB0.out HC.out) 1 _ rfl
             have f2a : wn.cell? ⟨w.heap.size + 1 + 1, 0, none⟩ = some (.int .i64 o.base) := BOr.out.below (below_more HB0.out HC.out) 0 _ rfl
             have f2b : wn.cell? ⟨w.heap.size + 1 + 1, 1, none⟩ = some (.slice C n'' f) := BOr.out.below (below_more HB0.out HC.out) 1 _ rfl
             have f9 : wn.cell? ⟨b9, o9 + k, none⟩ = some (.int .i64 x) := (HC.out.cell (block_lt_of_cell cx)).trans cx
             clear hb)
          | (go_at_call_of 40 (Value.agg #[Value.int IntKind.i64 o.base, Value.slice C n'' f])
             refine (spec_lev _ o x _ (by first | exact ROr.out.below (below_more HB0.out HC.out) | exact (ROr.out.below (below_more HB0.out HC.out)).drew)).mono ?_
             rintro e wn ⟨rfl, hb⟩
             have HC' : Hid (Below wr.heap.size wr wn) := Lib.hid (by first | exact below_more HC.out hb | exact below_more HC.out (below_undrew hb))
             clear HC
             have HC := HC'
             clear HC'
             try clear f0a f0b f1a f1b f2a f2b f9
             have f0a : wn.cell? ⟨w.heap.size, 0, none⟩ = some (.int .i64 l.base) := BLr.out.below (below_more HB0.out HC.out) 0 _ rfl
             have f0b : wn.cell? ⟨w.heap.size, 1, none⟩ = some (.slice A n c) := BLr.out.below (below_more HB0.out HC.out) 1 _ rfl
             have f1a : wn.cell? ⟨w.heap.size + 1, 0, none⟩ = some (.int .i64 m.base) := BMr.out.below (below_more HB0.out HC.out) 0 _ rfl
             have f1b : wn.cell? ⟨w.heap.size + 1, 1, none⟩ = some (.slice B n' d) := BMr.out.below (below_more HB0.out HC.out) 1 _ rfl
             have f2a : wn.cell? ⟨w.heap.size + 1 + 1, 0, none⟩ = some (.int .i64 o.base) := BOr.out.below (below_more HB0.out HC.out) 0 _ rfl
             have f2b : wn.cell? ⟨w.heap.size + 1 + 1, 1, none⟩ = some (.slice C n'' f) := BOr.out.below (below_more HB0.out HC.out) 1 _ rfl
             have f9 : wn.cell? ⟨b9, o9 + k, none⟩ = some (.int .i64 x) := (HC.out.cell (block_lt_of_cell cx)).trans cx
             clear hb)
          | (go_at_call 63
             refine (spec_taintlev _ _ _ _).mono ?_
             rintro e w8 ⟨rfl, rfl⟩))
        have HBn := Lib.hid (HB.out.below HC.out)
        have h0 := HBn.out.g0
        go_wp2
        go_roundw
        case rel => exact ⟨k + 1, n9, c9, A9, out, by omega, by omega, by go_num, HS1, HBn⟩
        case measure => simp [intOf]; omega
      · have hd : (taintLev (lev l x) (lev m x) (lev o x) != taintLev l.base m.base o.base) = true := by simpa using hne
        have HS1 : Hid (mkParts (taintLev l.base m.base o.base) (fun h => taintLev (lev l h) (lev m h) (lev o h)) ((hs3 l m o).take (k + 1)) = out ++ [(x, taintLev (lev l x) (lev m x) (lev o x))]) := Lib.hid (by rw [take_at hx, mkParts_append, HS.out]; simp [mkParts, hne])
        clear hne hx HS
        have HC := Lib.hid (Below.refl wr.heap.size wr)
        go_wp2
        go_region_held3 (fun w' => w'.cell? ⟨w.heap.size, 0, none⟩ = some (.int .i64 l.base) ∧ w'.cell? ⟨w.heap.size, 1, none⟩ = some (.slice A n c) ∧ w'.cell? ⟨w.heap.size + 1, 0, none⟩ = some (.int .i64 m.base) ∧ w'.cell? ⟨w.heap.size + 1, 1, none⟩ = some (.slice B n' d) ∧ w'.cell? ⟨w.heap.size + 1 + 1, 0, none⟩ = some (.int .i64 o.base) ∧ w'.cell? ⟨w.heap.size + 1 + 1, 1, none⟩ = some (.slice C n'' f) ∧ w'.cell? ⟨b9, o9 + k, none⟩ = some (.int .i64 x))
          (first | exact ⟨f0a, f0b, f1a, f1b, f2a, f2b, f9⟩ | go_keep)
          (first
          | (go_at_call_of 40 (Value.agg #[Value.int IntKind.i64 l.base, Value.slice A n c])
             refine (spec_lev _ l x _ (by first | exact RLr.out.below (below_more HB0.out HC.out) | exact (RLr.out.below (below_more HB0.out HC.out)).drew)).mono ?_
             rintro e wn ⟨rfl, hb⟩
             have HC' : Hid (Below wr.heap.size wr wn) := Lib.hid (by first | exact below_more HC.out hb | exact below_more HC.out (below_undrew hb))
             clear HC
             have HC := HC'
             clear HC'
             try clear f0a f0b f1a f1b f2a f2b f9
             have f0a : wn.cell? ⟨w.heap.size, 0, none⟩ = some (.int .i64 l.base) := BLr.out.below (below_more HB0.out HC.out) 0 _ rfl
             have f0b : wn.cell? ⟨w.heap.size, 1, none⟩ = some (.slice A n c) := BLr.out.below (below_more HB0.out HC.out) 1 _ rfl
             have f1a : wn.cell? ⟨w.heap.size + 1, 0, none⟩ = some (.int .i64 m.base) := BMr.out.below (below_more HB0.out HC.out) 0 _ rfl
             have f1b : wn.cell? ⟨w.heap.size + 1, 1, none⟩ = some (.slice B n' d) := BMr.out.below (below_more HB0.out HC.out) 1 _ rfl
             have f2a : wn.cell? ⟨w.heap.size + 1 + 1, 0, none⟩ = some (.int .i64 o.base) := BOr.out.below (below_more HB0.out HC.out) 0 _ rfl
             have f2b : wn.cell? ⟨w.heap.size + 1 + 1, 1, none⟩ = some (.slice C n'' f) := BOr.out.below (below_more HB0.out HC.out) 1 _ rfl
             have f9 : wn.cell? ⟨b9, o9 + k, none⟩ = some (.int .i64 x) := (HC.out.cell (block_lt_of_cell cx)).trans cx
             clear hb)
          | (go_at_call_of 40 (Value.agg #[Value.int IntKind.i64 m.base, Value.slice B n' d])
             refine (spec_lev _ m x _ (by first | exact RMr.out.below (below_more HB0.out HC.out) | exact (RMr.out.below (below_more HB0.out HC.out)).drew)).mono ?_
             rintro e wn ⟨rfl, hb⟩
             have HC' : Hid (Below wr.heap.size wr wn) := Lib.hid (by first | exact below_more HC.out hb | exact below_more HC.out (below_undrew hb))
             clear HC
             have HC := HC'
             clear HC'
             try clear f0a f0b f1a f1b f2a f2b f9
             have f0a : wn.cell? ⟨w.heap.size, 0, none⟩ = some (.int .i64 l.base) := BLr.out.below (below_more HB0.out HC.out) 0 _ rfl
             have f0b : wn.cell? ⟨w.heap.size, 1, none⟩ = some (.slice A n c) := BLr.out.below (below_more HB0.out HC.out) 1 _ rfl
             have f1a : wn.cell? ⟨w.heap.size + 1, 0, none⟩ = some (.int .i64 m.base) := BMr.out.below (below_more HB0.out HC.out) 0 _ rfl
             have f1b : wn.cell? ⟨w.heap.size + 1, 1, none⟩ = some (.slice B n' d) := BMr.out.below (below_more HB0.out HC.out) 1 _ rfl
             have f2a : wn.cell? ⟨w.heap.size + 1 + 1, 0, none⟩ = some (.int .i64 o.base) := BOr.out.below (below_more HB0.out HC.out) 0 _ rfl
             have f2b : wn.cell? ⟨w.heap.size + 1 + 1, 1, none⟩ = some (.slice C n'' f) := BOr.out.below (below_more HB0.out HC.out) 1 _ rfl
             have f9 : wn.cell? ⟨b9, o9 + k, none⟩ = some (.int .i64 x) := (HC.out.cell (block_lt_of_cell cx)).trans cx
             clear hb)
          | (go_at_call_of 40 (Value.agg #[Value.int IntKind.i64 o.base, Value.slice C n'' f])
             refine (spec_lev _ o x _ (by first | exact ROr.out.below (below_more HB0.out HC.out) | exact (ROr.out.below (below_more HB0.out HC.out)).drew)).mono ?_
             rintro e wn ⟨rfl, hb⟩
             have HC' : Hid (Below wr.heap.size wr wn) := Lib.hid (by first | exact below_more HC.out hb | exact below_more HC.out (below_undrew hb))
             clear HC
             have HC := HC'
             clear HC'
             try clear f0a f0b f1a f1b f2a f2b f9
             have f0a : wn.cell? ⟨w.heap.size, 0, none⟩ = some (.int .i64 l.base) := BLr.out.below (below_more HB0.out HC.out) 0 _ rfl
             have f0b : wn.cell? ⟨w.heap.size, 1, none⟩ = some (.slice A n c) := BLr.out.below (below_more HB0.out HC.out) 1 _ rfl
             have f1a : wn.cell? ⟨w.heap.size + 1, 0, none⟩ = some (.int .i64 m.base) := BMr.out.below (below_more HB0.out HC.out) 0 _ rfl
             have f1b : wn.cell? ⟨w.heap.size + 1, 1, none⟩ = some (.slice B n' d) := BMr.out.below (below_more HB0.out HC.out) 1 _ rfl
             have f2a : wn.cell? ⟨w.heap.size + 1 + 1, 0, none⟩ = some (.int .i64 o.base) := BOr.out.below (below_more HB0.out HC.out) 0 _ rfl
             have f2b : wn.cell? ⟨w.heap.size + 1 + 1, 1, none⟩ = some (.slice C n'' f) := BOr.out.below (below_more HB0.out HC.out) 1 _ rfl
             have f9 : wn.cell? ⟨b9, o9 + k, none⟩ = some (.int .i64 x) := (HC.out.cell (block_lt_of_cell cx)).trans cx
             clear hb)
          | (go_at_call 63
             refine (spec_taintlev _ _ _ _).mono ?_
             rintro e w8 ⟨rfl, rfl⟩))
        have HBn := Lib.hid (HB.out.below HC.out)
        have h0 := HBn.out.g0
        go_wp2
        have g1 := HBn.out.g1
        have q1 := HBn.out.f1
        have gsz : w.heap.size + 1 + 1 + 1 + 1 < wn.heap.size := block_lt_of_cell g1
        have hszn := HBn.out.kept.size
        go_region_law
          (first
          | (refine step_app elemPart2 rfl (.tmp 57) (.tmp 64) rfl w2z.heap.size (.slice A9 n9 c9) n9 (ptcells out) rfl (by first | exact HBn.out.own.alloc _ | exact (HBn.out.drew.own).alloc _) (some ⟨wn.heap.size, 0, none⟩) 1 1 (ptcells [(x, taintLev (lev l x) (lev m x) (lev o x))]) rfl (by first | exact At.new wn #[Value.int .i64 x, Value.int .i64 (taintLev (lev l x) (lev m x) (lev o x))] 56 _ rfl | exact At.new wn.drew #[Value.int .i64 x, Value.int .i64 (taintLev (lev l x) (lev m x) (lev o x))] 56 _ rfl) rfl (ptcells_one _) (by omega) (by omega) (by first | (simp; omega) | omega) ?_
             intro v6 w6 hap
             obtain ⟨A6, c6, rfl, -, -, -⟩ := own_at hap.own
             have HB6 : Hid (Bld w2z (w.heap.size + 1 + 1 + 1 + 1) (taintLev l.base m.base o.base) (w6.setCell ⟨w.heap.size + 1 + 1 + 1 + 1, 1, none⟩ (.slice A6 (n9 + 1) c6)) A6 (n9 + 1) c6 (out ++ [(x, taintLev (lev l x) (lev m x) (lev o x))])) := Lib.hid (Bld.store (by first | exact HBn.out.alloc _ | exact HBn.out.drew.alloc _ | exact (HBn.out.alloc _).drew) hap rfl)
             have hne6 : (Value.slice A9 n9 c9).ownBlock ≠ some (w.heap.size + 1 + 1 + 1 + 1) := fun e => by have := (HBn.out.own.lt _ e).1; have := HBn.out.gl; omega
             have u1 : w6.cell? ⟨w.heap.size + 1 + 1 + 1 + 1, 1, none⟩ = some (.slice A9 n9 c9) := hap.grown.cell (by first | exact (HBn.out.alloc _).g1 | exact (HBn.out.drew.alloc _).g1 | exact (HBn.out.alloc _).drew.g1) (fun e => hne6 e.symm)
             have u2 : w6.frozen? ⟨w.heap.size + 1 + 1 + 1 + 1, 1, none⟩ = false := (World.frozen?_of_block (hap.grown.block (w.heap.size + 1 + 1 + 1 + 1) (by simp; omega) (fun e => hne6 e.symm))).trans (by first | exact (HBn.out.alloc _).f1 | exact (HBn.out.drew.alloc _).f1 | exact (HBn.out.alloc _).drew.f1)
             clear hap hne6))
        all_goals
          go_wp2
          go_roundw
          case rel => exact ⟨k + 1, n9 + 1, c6, A6, out ++ [(x, taintLev (lev l x) (lev m x) (lev o x))], by omega, by omega, by go_num, HS1, HB6⟩
          case measure => simp [intOf]; omega
    · obtain rfl : k = N := by omega
      have HS1 : Hid (mkParts (taintLev l.base m.base o.base) (fun h => taintLev (lev l h) (lev m h) (lev o h)) (hs3 l m o) = out) := Lib.hid (by have := HS.out; rwa [List.take_of_length_le (by have := HN.out; omega)] at this)
      have HL := Lib.hid HB.out.len
      have BELr := Lib.hid (HB.out.under BELz.out (by omega))
      have r0 := HB.out.has (by omega) BRz.out 0 _ rfl
      have r1 := HB.out.has (by omega) BRz.out 1 _ rfl
      have q0 := (HB.out.frozen (k := w.heap.size + 1 + 1 + 1) (i := 0) (by omega) (block_lt_of_cell (BRz.out 0 _ rfl))).trans (FRz.out _ 0 (by omega) (by omega))
      have q1 := (HB.out.frozen (k := w.heap.size + 1 + 1 + 1) (i := 1) (by omega) (block_lt_of_cell (BRz.out 0 _ rfl))).trans (FRz.out _ 1 (by omega) (by omega))
      have h0 := HB.out.g0
      have h1 := HB.out.g1
      have hzz : w.heap.size ≤ w2z.heap.size := BELz.out.size
      have hgl := HB.out.gl
      clear HS
      by_cases h8' : 8 < n9
      · have HR : Hid (ofLev (taintLev l.base m.base o.base) (fun h => taintLev (lev l h) (lev m h) (lev o h)) (hs3 l m o) = (noLab, false)) := Lib.hid (ofLev_long HS1.out (by have := HL.out; omega))
        have h8n : (8 : Int) < (n9 : Int) := by omega
        go_wp2
        refine bodyPost_ret (v := .tuple #[.agg #[.int .i64 0, .slice none 0 0], .bool false]) (by simp [results, Try.results35, go_sem, r0, r1]) rfl ?_
        rw [HR.out]
        exact ⟨_, rfl, own_nil _ _ _, (BELr.out.setCell (by simp only []; omega) _).setCell (by simp only []; omega) _⟩
      · have HR : Hid (ofLev (taintLev l.base m.base o.base) (fun h => taintLev (lev l h) (lev m h) (lev o h)) (hs3 l m o) = (⟨taintLev l.base m.base o.base, out⟩, true)) := Lib.hid (ofLev_short HS1.out (by have := HL.out; omega))
        have h8n : (n9 : Int) ≤ 8 := by omega
        go_wp2
        refine bodyPost_ret (v := .tuple #[.agg #[.int .i64 (taintLev l.base m.base o.base), .slice A9 n9 c9], .bool true]) (by simp [results, Try.results35, go_sem, r0, r1]) rfl ?_
        rw [HR.out]
        exact ⟨_, rfl, ⟨A9, n9, c9, rfl, HL.out, by omega, own_lower (ownsRow_setCell_below (ownsRow_setCell_below HB.out.own (by simp only []; omega) _) (by simp only []; omega) _) hzz⟩, (BELr.out.setCell (by simp only []; omega) _).setCell (by simp only []; omega) _⟩
end Go.Proofs.Ytjdnobihhkmmpaa

/-
  Chapter 4 of the model: Tainted, at every argument.
-/
namespace Go.Proofs.Ytjdnobihhkmmpaa
set_option maxRecDepth 100000
open Go.RowKit

set_option maxHeartbeats 2000000 in
theorem spec_tainted (v u v3 : Value) (l m o : Lab) (w : World) (hr : RdLab w v l) (hq : RdLab w u m) (hu : RdLab w v3 o) :
    Calls Try.prog 9 #[v, u, v3] w (RetLab2 (taintL l m o).1 (taintL l m o).2 w) := by
  have RL := Lib.hid hr
  have RM := Lib.hid hq
  have RO := Lib.hid hu
  obtain ⟨A, n, c, rfl, -⟩ := hr
  obtain ⟨B, n', d, rfl, -⟩ := hq
  obtain ⟨C, n'', f, rfl, -⟩ := hu
  cases hl : labOk l
  · -- the first is not right
    have HR := Lib.hid (taintL_no (m := m) (n := o) (.inl hl))
    go_enter Try.func9, Try.ntmps9
    go_wp2_with fail
    generalize hW : (((w.alloc (.cells #[.int .i64 l.base, .slice A n c] 26)).alloc (.cells #[.int .i64 m.base, .slice B n' d] 26)).alloc (.cells #[.int .i64 o.base, .slice C n'' f] 26)).alloc (.cells #[.int .i64 0, .slice none 0 0] 26) = w0
    obtain ⟨hsz, bel, bl, bm, bo, br, hfr⟩ := laid4 hW
    clear hW
    have BL := Lib.hid bl
    have BM := Lib.hid bm
    have BO := Lib.hid bo
    have BR := Lib.hid br
    have F0 : Hid (w0.frozen? ⟨w.heap.size + 1 + 1 + 1, 0, none⟩ = false) := Lib.hid (hfr _ _ (by omega) (by omega))
    have F1 : Hid (w0.frozen? ⟨w.heap.size + 1 + 1 + 1, 1, none⟩ = false) := Lib.hid (hfr _ _ (by omega) (by omega))
    clear bl bm bo br hfr
    refine (spec_labok _ l _ (RL.out.below bel)).mono ?_
    rintro e w1 ⟨rfl, hb⟩
    have BL' := Lib.hid (BL.out.below hb)
    clear BL
    have BL := BL'
    clear BL'
    have BM' := Lib.hid (BM.out.below hb)
    clear BM
    have BM := BM'
    clear BM'
    have BO' := Lib.hid (BO.out.below hb)
    clear BO
    have BO := BO'
    clear BO'
    have BR' := Lib.hid (BR.out.below hb)
    clear BR
    have BR := BR'
    clear BR'
    have F0' := Lib.hid ((hb.frozen (p := ⟨w.heap.size + 1 + 1 + 1, 0, none⟩) (by simp only []; omega)).trans F0.out)
    have F1' := Lib.hid ((hb.frozen (p := ⟨w.heap.size + 1 + 1 + 1, 1, none⟩) (by simp only []; omega)).trans F1.out)
    clear F0 F1
    have F0 := F0'
    have F1 := F1'
    clear F0' F1'
    have bel' := below_more bel hb
    clear bel hb hsz
    have bel := bel'
    clear bel'
    have hz := block_lt_of_cell (BR.out 0 _ rfl)
    have r0 := BR.out 0 _ rfl
    have r1 := BR.out 1 _ rfl
    have f0 := F0.out
    have f1 := F1.out
    go_wp2
    refine bodyPost_ret (v := .tuple #[.agg #[.int .i64 0, .slice none 0 0], .bool false]) (by simp [results, Try.results9, go_sem, r0, r1]) rfl ?_
    rw [HR.out]
    exact ⟨_, rfl, own_nil _ _ _, (bel.setCell (by simp only []; omega) _).setCell (by simp only []; omega) _⟩
  cases hm : labOk m
  · -- the second is not right
    have HR := Lib.hid (taintL_no (l := l) (n := o) (.inr (.inl hm)))
    go_enter Try.func9, Try.ntmps9
    go_wp2_with fail
    generalize hW : (((w.alloc (.cells #[.int .i64 l.base, .slice A n c] 26)).alloc (.cells #[.int .i64 m.base, .slice B n' d] 26)).alloc (.cells #[.int .i64 o.base, .slice C n'' f] 26)).alloc (.cells #[.int .i64 0, .slice none 0 0] 26) = w0
    obtain ⟨hsz, bel, bl, bm, bo, br, hfr⟩ := laid4 hW
    clear hW
    have BL := Lib.hid bl
    have BM := Lib.hid bm
    have BO := Lib.hid bo
    have BR := Lib.hid br
    have F0 : Hid (w0.frozen? ⟨w.heap.size + 1 + 1 + 1, 0, none⟩ = false) := Lib.hid (hfr _ _ (by omega) (by omega))
    have F1 : Hid (w0.frozen? ⟨w.heap.size + 1 + 1 + 1, 1, none⟩ = false) := Lib.hid (hfr _ _ (by omega) (by omega))
    clear bl bm bo br hfr
    refine (spec_labok _ l _ (RL.out.below bel)).mono ?_
    rintro e w1 ⟨rfl, hb⟩
    have BL' := Lib.hid (BL.out.below hb)
    clear BL
    have BL := BL'
    clear BL'
    have BM' := Lib.hid (BM.out.below hb)
    clear BM
    have BM := BM'
    clear BM'
    have BO' := Lib.hid (BO.out.below hb)
    clear BO
    have BO := BO'
    clear BO'
    have BR' := Lib.hid (BR.out.below hb)
    clear BR
    have BR := BR'
    clear BR'
    have F0' := Lib.hid ((hb.frozen (p := ⟨w.heap.size + 1 + 1 + 1, 0, none⟩) (by simp only []; omega)).trans F0.out)
    have F1' := Lib.hid ((hb.frozen (p := ⟨w.heap.size + 1 + 1 + 1, 1, none⟩) (by simp only []; omega)).trans F1.out)
    clear F0 F1
    have F0 := F0'
    have F1 := F1'
    clear F0' F1'
    have bel' := below_more bel hb
    clear bel hb hsz
    have bel := bel'
    clear bel'
    have hz := block_lt_of_cell (BR.out 0 _ rfl)
    have k0 := BM.out 0 _ rfl
    have k1 := BM.out 1 _ rfl
    go_wp2_with fail
    clear k0 k1
    refine (spec_labok _ m _ (RM.out.below bel)).mono ?_
    rintro e w2 ⟨rfl, hb⟩
    have BL' := Lib.hid (BL.out.below hb)
    clear BL
    have BL := BL'
    clear BL'
    have BM' := Lib.hid (BM.out.below hb)
    clear BM
    have BM := BM'
    clear BM'
    have BO' := Lib.hid (BO.out.below hb)
    clear BO
    have BO := BO'
    clear BO'
    have BR' := Lib.hid (BR.out.below hb)
    clear BR
    have BR := BR'
    clear BR'
    have F0' := Lib.hid ((hb.frozen (p := ⟨w.heap.size + 1 + 1 + 1, 0, none⟩) hz).trans F0.out)
    have F1' := Lib.hid ((hb.frozen (p := ⟨w.heap.size + 1 + 1 + 1, 1, none⟩) hz).trans F1.out)
    clear F0 F1
    have F0 := F0'
    have F1 := F1'
    clear F0' F1'
    have bel' := below_more bel hb
    clear bel hb hz
    have bel := bel'
    clear bel'
    have hz := block_lt_of_cell (BR.out 0 _ rfl)
    have r0 := BR.out 0 _ rfl
    have r1 := BR.out 1 _ rfl
    have f0 := F0.out
    have f1 := F1.out
    go_wp2
    refine bodyPost_ret (v := .tuple #[.agg #[.int .i64 0, .slice none 0 0], .bool false]) (by simp [results, Try.results9, go_sem, r0, r1]) rfl ?_
    rw [HR.out]
    exact ⟨_, rfl, own_nil _ _ _, (bel.setCell (by simp only []; omega) _).setCell (by simp only []; omega) _⟩
  cases ho : labOk o
  · -- the third is not right
    have HR := Lib.hid (taintL_no (l := l) (m := m) (.inr (.inr ho)))
    go_enter Try.func9, Try.ntmps9
    go_wp2_with fail
    generalize hW : (((w.alloc (.cells #[.int .i64 l.base, .slice A n c] 26)).alloc (.cells #[.int .i64 m.base, .slice B n' d] 26)).alloc (.cells #[.int .i64 o.base, .slice C n'' f] 26)).alloc (.cells #[.int .i64 0, .slice none 0 0] 26) = w0
    obtain ⟨hsz, bel, bl, bm, bo, br, hfr⟩ := laid4 hW
    clear hW
    have BL := Lib.hid bl
    have BM := Lib.hid bm
    have BO := Lib.hid bo
    have BR := Lib.hid br
    have F0 : Hid (w0.frozen? ⟨w.heap.size + 1 + 1 + 1, 0, none⟩ = false) := Lib.hid (hfr _ _ (by omega) (by omega))
    have F1 : Hid (w0.frozen? ⟨w.heap.size + 1 + 1 + 1, 1, none⟩ = false) := Lib.hid (hfr _ _ (by omega) (by omega))
    clear bl bm bo br hfr
    refine (spec_labok _ l _ (RL.out.below bel)).mono ?_
    rintro e w1 ⟨rfl, hb⟩
    have BL' := Lib.hid (BL.out.below hb)
    clear BL
    have BL := BL'
    clear BL'
    have BM' := Lib.hid (BM.out.below hb)
    clear BM
    have BM := BM'
    clear BM'
    have BO' := Lib.hid (BO.out.below hb)
    clear BO
    have BO := BO'
    clear BO'
    have BR' := Lib.hid (BR.out.below hb)
    clear BR
    have BR := BR'
    clear BR'
    have F0' := Lib.hid ((hb.frozen (p := ⟨w.heap.size + 1 + 1 + 1, 0, none⟩) (by simp only []; omega)).trans F0.out)
    have F1' := Lib.hid ((hb.frozen (p := ⟨w.heap.size + 1 + 1 + 1, 1, none⟩) (by simp only []; omega)).trans F1.out)
    clear F0 F1
    have F0 := F0'
    have F1 := F1'
    clear F0' F1'
    have bel' := below_more bel hb
    clear bel hb hsz
    have bel := bel'
    clear bel'
    have hz := block_lt_of_cell (BR.out 0 _ rfl)
    have k0 := BM.out 0 _ rfl
    have k1 := BM.out 1 _ rfl
    go_wp2_with fail
    clear k0 k1
    refine (spec_labok _ m _ (RM.out.below bel)).mono ?_
    rintro e w2 ⟨rfl, hb⟩
    have BL' := Lib.hid (BL.out.below hb)
    clear BL
    have BL := BL'
    clear BL'
    have BM' := Lib.hid (BM.out.below hb)
    clear BM
    have BM := BM'
    clear BM'
    have BO' := Lib.hid (BO.out.below hb)
    clear BO
    have BO := BO'
    clear BO'
    have BR' := Lib.hid (BR.out.below hb)
    clear BR
    have BR := BR'
    clear BR'
    have F0' := Lib.hid ((hb.frozen (p := ⟨w.heap.size + 1 + 1 + 1, 0, none⟩) hz).trans F0.out)
    have F1' := Lib.hid ((hb.frozen (p := ⟨w.heap.size + 1 + 1 + 1, 1, none⟩) hz).trans F1.out)
    clear F0 F1
    have F0 := F0'
    have F1 := F1'
    clear F0' F1'
    have bel' := below_more bel hb
    clear bel hb hz
    have bel := bel'
    clear bel'
    have hz := block_lt_of_cell (BR.out 0 _ rfl)
    have k0 := BO.out 0 _ rfl
    have k1 := BO.out 1 _ rfl
    go_wp2_with fail
    clear k0 k1
    refine (spec_labok _ o _ (RO.out.below bel)).mono ?_
    rintro e w3 ⟨rfl, hb⟩
    have BL' := Lib.hid (BL.out.below hb)
    clear BL
    have BL := BL'
    clear BL'
    have BM' := Lib.hid (BM.out.below hb)
    clear BM
    have BM := BM'
    clear BM'
    have BO' := Lib.hid (BO.out.below hb)
    clear BO
    have BO := BO'
    clear BO'
    have BR' := Lib.hid (BR.out.below hb)
    clear BR
    have BR := BR'
    clear BR'
    have F0' := Lib.hid ((hb.frozen (p := ⟨w.heap.size + 1 + 1 + 1, 0, none⟩) hz).trans F0.out)
    have F1' := Lib.hid ((hb.frozen (p := ⟨w.heap.size + 1 + 1 + 1, 1, none⟩) hz).trans F1.out)
    clear F0 F1
    have F0 := F0'
    have F1 := F1'
    clear F0' F1'
    have bel' := below_more bel hb
    clear bel hb hz
    have bel := bel'
    clear bel'
    have hz := block_lt_of_cell (BR.out 0 _ rfl)
    have r0 := BR.out 0 _ rfl
    have r1 := BR.out 1 _ rfl
    have f0 := F0.out
    have f1 := F1.out
    go_wp2
    refine bodyPost_ret (v := .tuple #[.agg #[.int .i64 0, .slice none 0 0], .bool false]) (by simp [results, Try.results9, go_sem, r0, r1]) rfl ?_
    rw [HR.out]
    exact ⟨_, rfl, own_nil _ _ _, (bel.setCell (by simp only []; omega) _).setCell (by simp only []; omega) _⟩
  · -- all are
    have HR := Lib.hid (taintL_yes hl hm ho)
    have s1 := labOk_short hl
    have s2 := labOk_short hm
    have s3 := labOk_short ho
    go_enter Try.func9, Try.ntmps9
    go_wp2_with fail
    generalize hW : (((w.alloc (.cells #[.int .i64 l.base, .slice A n c] 26)).alloc (.cells #[.int .i64 m.base, .slice B n' d] 26)).alloc (.cells #[.int .i64 o.base, .slice C n'' f] 26)).alloc (.cells #[.int .i64 0, .slice none 0 0] 26) = w0
    obtain ⟨hsz, bel, bl, bm, bo, br, hfr⟩ := laid4 hW
    clear hW
    have BL := Lib.hid bl
    have BM := Lib.hid bm
    have BO := Lib.hid bo
    have BR := Lib.hid br
    have F0 : Hid (w0.frozen? ⟨w.heap.size + 1 + 1 + 1, 0, none⟩ = false) := Lib.hid (hfr _ _ (by omega) (by omega))
    have F1 : Hid (w0.frozen? ⟨w.heap.size + 1 + 1 + 1, 1, none⟩ = false) := Lib.hid (hfr _ _ (by omega) (by omega))
    clear bl bm bo br hfr
    refine (spec_labok _ l _ (RL.out.below bel)).mono ?_
    rintro e w1 ⟨rfl, hb⟩
    have BL' := Lib.hid (BL.out.below hb)
    clear BL
    have BL := BL'
    clear BL'
    have BM' := Lib.hid (BM.out.below hb)
    clear BM
    have BM := BM'
    clear BM'
    have BO' := Lib.hid (BO.out.below hb)
    clear BO
    have BO := BO'
    clear BO'
    have BR' := Lib.hid (BR.out.below hb)
    clear BR
    have BR := BR'
    clear BR'
    have F0' := Lib.hid ((hb.frozen (p := ⟨w.heap.size + 1 + 1 + 1, 0, none⟩) (by simp only []; omega)).trans F0.out)
    have F1' := Lib.hid ((hb.frozen (p := ⟨w.heap.size + 1 + 1 + 1, 1, none⟩) (by simp only []; omega)).trans F1.out)
    clear F0 F1
    have F0 := F0'
    have F1 := F1'
    clear F0' F1'
    have bel' := below_more bel hb
    clear bel hb hsz
    have bel := bel'
    clear bel'
    have hz := block_lt_of_cell (BR.out 0 _ rfl)
    have k0 := BM.out 0 _ rfl
    have k1 := BM.out 1 _ rfl
    go_wp2_with fail
    clear k0 k1
    refine (spec_labok _ m _ (RM.out.below bel)).mono ?_
    rintro e w2 ⟨rfl, hb⟩
    have BL' := Lib.hid (BL.out.below hb)
    clear BL
    have BL := BL'
    clear BL'
    have BM' := Lib.hid (BM.out.below hb)
    clear BM
    have BM := BM'
    clear BM'
    have BO' := Lib.hid (BO.out.below hb)
    clear BO
    have BO := BO'
    clear BO'
    have BR' := Lib.hid (BR.out.below hb)
    clear BR
    have BR := BR'
    clear BR'
    have F0' := Lib.hid ((hb.frozen (p := ⟨w.heap.size + 1 + 1 + 1, 0, none⟩) hz).trans F0.out)
    have F1' := Lib.hid ((hb.frozen (p := ⟨w.heap.size + 1 + 1 + 1, 1, none⟩) hz).trans F1.out)
    clear F0 F1
    have F0 := F0'
    have F1 := F1'
    clear F0' F1'
    have bel' := below_more bel hb
    clear bel hb hz
    have bel := bel'
    clear bel'
    have hz := block_lt_of_cell (BR.out 0 _ rfl)
    have k0 := BO.out 0 _ rfl
    have k1 := BO.out 1 _ rfl
    go_wp2_with fail
    clear k0 k1
    refine (spec_labok _ o _ (RO.out.below bel)).mono ?_
    rintro e w3 ⟨rfl, hb⟩
    have BL' := Lib.hid (BL.out.below hb)
    clear BL
    have BL := BL'
    clear BL'
    have BM' := Lib.hid (BM.out.below hb)
    clear BM
    have BM := BM'
    clear BM'
    have BO' := Lib.hid (BO.out.below hb)
    clear BO
    have BO := BO'
    clear BO'
    have BR' := Lib.hid (BR.out.below hb)
    clear BR
    have BR := BR'
    clear BR'
    have F0' := Lib.hid ((hb.frozen (p := ⟨w.heap.size + 1 + 1 + 1, 0, none⟩) hz).trans F0.out)
    have F1' := Lib.hid ((hb.frozen (p := ⟨w.heap.size + 1 + 1 + 1, 1, none⟩) hz).trans F1.out)
    clear F0 F1
    have F0 := F0'
    have F1 := F1'
    clear F0' F1'
    have bel' := below_more bel hb
    clear bel hb hz
    have bel := bel'
    clear bel'
    have hz := block_lt_of_cell (BR.out 0 _ rfl)
    have bl0 := BL.out 0 _ rfl
    have bl1 := BL.out 1 _ rfl
    have bm0 := BM.out 0 _ rfl
    have bm1 := BM.out 1 _ rfl
    have bo0 := BO.out 0 _ rfl
    have bo1 := BO.out 1 _ rfl
    go_wp2_with fail
    refine (spec_taint0 _ _ _ l m o _ (RL.out.below bel) (RM.out.below bel) (RO.out.below bel) (by omega)).mono ?_
    rintro e w4 ⟨v4, rfl, hown, hb⟩
    clear bl0 bl1 bm0 bm1 bo0 bo1
    have r0 := BR.out.below hb 0 _ rfl
    have r1 := BR.out.below hb 1 _ rfl
    have f0 := (hb.frozen (p := ⟨w.heap.size + 1 + 1 + 1, 0, none⟩) hz).trans F0.out
    have f1 := (hb.frozen (p := ⟨w.heap.size + 1 + 1 + 1, 1, none⟩) hz).trans F1.out
    have bel4 := below_more bel hb
    have hs0 := bel.size
    obtain ⟨A3, n3, c3, rfl, hn3, hl3, ho3⟩ := hown
    have HN3 := Lib.hid hn3
    have HO3 := Lib.hid ho3
    clear hb hn3 ho3
    go_wp2
    refine bodyPost_ret (v := .tuple #[.agg #[.int .i64 (ofLev (taintLev l.base m.base o.base) (fun h => taintLev (lev l h) (lev m h) (lev o h)) (hs3 l m o)).1.base, .slice A3 n3 c3], .bool (ofLev (taintLev l.base m.base o.base) (fun h => taintLev (lev l h) (lev m h) (lev o h)) (hs3 l m o)).2]) (by simp [results, Try.results9, go_sem, r0, r1]) rfl ?_
    rw [HR.out]
    exact ⟨_, rfl, ⟨A3, n3, c3, rfl, HN3.out, hl3, own_lower (ownsRow_setCell_below (ownsRow_setCell_below HO3.out (by simp only []; omega) _) (by simp only []; omega) _) (by omega)⟩, (bel4.setCell (by simp only []; omega) _).setCell (by simp only []; omega) _⟩
end Go.Proofs.Ytjdnobihhkmmpaa
