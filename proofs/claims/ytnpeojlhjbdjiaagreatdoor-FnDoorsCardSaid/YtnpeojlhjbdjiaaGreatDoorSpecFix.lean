/-
  Chapter 5 of the model: a label without parts that are as its base.
-/
import Derived.Test.YtnpeojlhjbdjiaaGreatDoorSpecOrd
import Derived.Test.YtnpeojlhjbdjiaaGreatDoorHas
namespace Go.Proofs.YtnpeojlhjbdjiaaGreatDoor
set_option maxRecDepth 100000
open Go.RowKit

def fixL (l : Lab) : Lab := ⟨l.base, l.parts.filter fun q => decide (q.2 ≠ l.base)⟩
theorem fixL_len (l : Lab) : (fixL l).parts.length ≤ l.parts.length := List.length_filter_le _ _

set_option maxHeartbeats 4000000 in
theorem spec_fix (v : Value) (l : Lab) (w : World) (hr : RdLab w v l) : Calls Tryz.prog 97 #[v] w (RetLab (fixL l) w) := by
  obtain ⟨A, n, c, rfl, hn, hnl, hnc, hcm, ha⟩ := hr
  have HN := Lib.hid hn
  have HA := Lib.hid ha
  clear hn hnc hcm ha
  go_enter Tryz.func97, Tryz.ntmps97
  go_wp2
  generalize hW : ((w.alloc (.cells #[.int .i64 l.base, .slice A n c] 26)).alloc (.cells #[.int .i64 0, .slice none 0 0] 26)).alloc (.cells #[.int .i64 l.base, .slice none 0 0] 26) = w2
  obtain ⟨pb, rb, ob, hsz, bel⟩ := laid3 (ps := [.int .i64 l.base, .slice A n c]) (rs := [.int .i64 0, .slice none 0 0]) (os := [.int .i64 l.base, .slice none 0 0]) hW
  have HBG : Hid (Bld w2 (w.heap.size + 1 + 1) l.base w2 none 0 0 []) := Lib.hid (.begin (ob.cell 0 rfl) (ob.cell 1 rfl) (ob.free 1))
  have BL := Lib.hid pb.has
  have BR := Lib.hid rb
  have BEL := Lib.hid bel
  have HAz := Lib.hid (HA.out.below bel)
  have hz2 : w.heap.size + 1 + 1 < w2.heap.size := by omega
  clear hW pb rb ob hsz bel
  go_loopw [4] (fun i wr => ∃ (k n9 c9 : Nat) (A9 : Option Addr) (out : List (Int × Int)), k ≤ n ∧ n9 ≤ k ∧ i = .int .i64 k ∧ Hid ((l.parts.take k).filter (fun q => decide (q.2 ≠ l.base)) = out) ∧ Hid (Bld w2 (w.heap.size + 1 + 1) l.base wr A9 n9 c9 out)) (fun i _ => n - (intOf i).toNat)
  case atStart => exact ⟨0, 0, 0, none, [], by omega, by omega, rfl, Lib.hid rfl, HBG⟩
  case round =>
    clear HBG
    obtain ⟨k, n9, c9, A9, out, hk, hn9, rfl, HS, HB⟩ := hrel
    have BELr := Lib.hid (HB.out.under BEL.out (by omega))
    have b0 := HB.out.has (by omega) BL.out 0 _ rfl
    have b1 := HB.out.has (by omega) BL.out 1 _ rfl
    have h0 := HB.out.g0
    have h1 := HB.out.g1
    have qf := HB.out.f1
    have hszr := HB.out.kept.size
    by_cases hlt : k < n
    · obtain ⟨b, o, x, y, rfl, hx, cx, cy⟩ := ptat (HA.out.below BELr.out) (k := k) (by have := HN.out; omega)
      have hkn : (k : Int) < (n : Int) := by omega
      by_cases hne : y = l.base
      · have hd : (y != l.base) = false := by simpa using hne
        have HS1 : Hid ((l.parts.take (k + 1)).filter (fun q => decide (q.2 ≠ l.base)) = out) := Lib.hid (by rw [take_at hx, List.filter_append, HS.out]; simp [hne])
        clear hne hx HS
        go_wp2
        all_goals (try (go_region; go_wp2))
        go_roundw
        case rel => exact ⟨k + 1, n9, c9, A9, out, by omega, by omega, by go_num, HS1, by first | exact HB | exact Lib.hid HB.out.drew⟩
        case measure => simp [intOf]; omega
      · have hd : (y != l.base) = true := by simpa using hne
        have HS1 : Hid ((l.parts.take (k + 1)).filter (fun q => decide (q.2 ≠ l.base)) = out ++ [(x, y)]) := Lib.hid (by rw [take_at hx, List.filter_append, HS.out]; simp [hne])
        clear hne hx HS
        go_wp2
        all_goals (try (go_region; go_wp2))
        have gsz : w.heap.size + 1 + 1 < wr.heap.size := block_lt_of_cell h1
        have bsz : w.heap.size < wr.heap.size := block_lt_of_cell b0
        have xsz : b < wr.heap.size := block_lt_of_cell cx
        go_region_law
          (first
          | (refine step_app elemPart2 rfl (.tmp 25) (.tmp 31) rfl w2.heap.size (.slice A9 n9 c9) n9 (ptcells out) rfl (by first | exact HB.out.own.alloc _ | exact (HB.out.drew.own).alloc _) (some ⟨wr.heap.size, 0, none⟩) 1 1 (ptcells [(x, y)]) rfl (by first | exact At.new wr #[Value.int .i64 x, Value.int .i64 y] 80 _ rfl | exact At.new wr.drew #[Value.int .i64 x, Value.int .i64 y] 80 _ rfl) rfl (ptcells_one _) (by omega) (by omega) (by first | (simp; omega) | omega) ?_
             intro v6 w6 hap
             obtain ⟨A6, c6, rfl, -, -, -⟩ := own_at hap.own
             have HB6 : Hid (Bld w2 (w.heap.size + 1 + 1) l.base (w6.setCell ⟨w.heap.size + 1 + 1, 1, none⟩ (.slice A6 (n9 + 1) c6)) A6 (n9 + 1) c6 (out ++ [(x, y)])) := Lib.hid (Bld.store (by first | exact HB.out.alloc _ | exact HB.out.drew.alloc _ | exact (HB.out.alloc _).drew | exact (HB.out.alloc _).drew.drew) hap rfl)
             have hne6 : (Value.slice A9 n9 c9).ownBlock ≠ some (w.heap.size + 1 + 1) := fun e => by have := (HB.out.own.lt _ e).1; have := HB.out.gl; omega
             have u1 : w6.cell? ⟨w.heap.size + 1 + 1, 1, none⟩ = some (.slice A9 n9 c9) := hap.grown.cell (by first | exact (HB.out.alloc _).g1 | exact (HB.out.drew.alloc _).g1 | exact (HB.out.alloc _).drew.g1 | exact (HB.out.alloc _).drew.drew.g1) (fun e => hne6 e.symm)
             have u2 : w6.frozen? ⟨w.heap.size + 1 + 1, 1, none⟩ = false := (World.frozen?_of_block (hap.grown.block (w.heap.size + 1 + 1) (by simp; omega) (fun e => hne6 e.symm))).trans (by first | exact (HB.out.alloc _).f1 | exact (HB.out.drew.alloc _).f1 | exact (HB.out.alloc _).drew.f1 | exact (HB.out.alloc _).drew.drew.f1)
             clear hap hne6))
        all_goals
          go_wp2
          go_roundw
          case rel => exact ⟨k + 1, n9 + 1, c6, A6, out ++ [(x, y)], by omega, by omega, by go_num, HS1, HB6⟩
          case measure => simp [intOf]; omega
    · obtain rfl : k = n := by omega
      have HS1 : Hid (fixL l = ⟨l.base, out⟩) := Lib.hid (by have := HS.out; rw [List.take_of_length_le (by have := HN.out; omega)] at this; unfold fixL; rw [this])
      have HLn := Lib.hid HB.out.len
      have r0 := HB.out.cell (k := w.heap.size + 1) (by omega) (BR.out.cell 0 rfl)
      have r1 := HB.out.cell (k := w.heap.size + 1) (by omega) (BR.out.cell 1 rfl)
      have q0 := (HB.out.frozen (k := w.heap.size + 1) (i := 0) (by omega) BR.out.lt).trans (BR.out.free 0)
      have q1 := (HB.out.frozen (k := w.heap.size + 1) (i := 1) (by omega) BR.out.lt).trans (BR.out.free 1)
      clear HS
      go_wp2
      refine bodyPost_ret (v := .agg #[.int .i64 l.base, .slice A9 n9 c9]) (by simp [results, Tryz.results97, go_sem, r0, r1]) rfl ?_
      rw [HS1.out]
      exact ⟨_, rfl, ⟨A9, n9, c9, rfl, HLn.out, by omega, own_lower (ownsRow_setCell_below (ownsRow_setCell_below HB.out.own (by simp only []; omega) _) (by simp only []; omega) _) (by omega)⟩, (BELr.out.setCell (by simp only []; omega) _).setCell (by simp only []; omega) _⟩
end Go.Proofs.YtnpeojlhjbdjiaaGreatDoor
