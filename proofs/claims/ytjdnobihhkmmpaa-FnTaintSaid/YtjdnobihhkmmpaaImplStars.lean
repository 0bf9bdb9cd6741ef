/-
  Chapter 4 of the program: Stars.
-/
import Derived.Test.YtjdnobihhkmmpaaImplKeepS
import Derived.Test.YtjdnobihhkmmpaaImplHand
namespace Go.Proofs.Ytjdnobihhkmmpaa
set_option maxRecDepth 100000
open Go.RowKit

theorem impl_stars1 (x : Int) (w : World) : Calls Try.prog 36 #[.int .i64 x] w (RetV (.int .i64 4) w) := by
  go_enter Try.func36, Try.ntmps36
  go_wp2
  go_ret
  exact .mk rfl (.refl _ _)
theorem starsL_no {l : Lab} (h : labOk l = false) : starsL l = (noLab, false) := by simp [starsL, h]

set_option maxHeartbeats 4000000 in
theorem impl_stars (v : Value) (l : Lab) (w : World) (hr : RdLab w v l) : Calls Try.prog 11 #[v] w (RetLab2 (starsL l).1 (starsL l).2 w) := by
  have RL0 := Lib.hid hr
  obtain ⟨A, n, c, rfl, hn, hn1, hnc, hcm, ha⟩ := hr
  have HN := Lib.hid hn
  have HA := Lib.hid ha
  clear hn ha hnc hcm
  cases hl : labOk l
  · have HR := Lib.hid (starsL_no hl)
    go_enter Try.func11, Try.ntmps11
    go_wp2_with fail
    refine (impl_labok0 _ l _ ((RL0.out.alloc _).alloc _)).mono ?_
    rintro e w1 ⟨rfl, hb1⟩
    obtain ⟨⟨c0, c1⟩, ⟨r0, r1⟩, hz, hbel⟩ := box4 hb1
    have g2 : w1.frozen? ⟨w.heap.size + 1, 0, none⟩ = false := (hb1.frozen (by simp)).trans (by simp [go_sem])
    have g3 : w1.frozen? ⟨w.heap.size + 1, 1, none⟩ = false := (hb1.frozen (by simp)).trans (by simp [go_sem])
    clear hb1
    go_wp2
    refine bodyPost_ret (v := .tuple #[.agg #[.int .i64 0, .slice none 0 0], .bool false]) (by simp [results, Try.results11, go_sem, r0, r1]) rfl ?_
    rw [HR.out]
    exact ⟨_, rfl, own_nil _ _ _, (hbel.setCell (by simp only []; omega) _).setCell (by simp only []; omega) _⟩
  · have HR := Lib.hid (keepL_stars hl)
    have s1 : n ≤ 8 := by have := labOk_short hl; have := HN.out; omega
    have HRI := Lib.hid (labOk_rises hl)
    have HO : Hid (∀ x ∈ l.parts.map (·.1), hOk x = true) := Lib.hid (fun x hx => by obtain ⟨q, hq, rfl⟩ := List.mem_map.1 hx; exact (partsOk_mem (labOk_partsOk hl) q hq).1)
    have HL : Hid ((l.parts.map (·.1)).length = n) := Lib.hid (by rw [List.length_map]; exact HN.out)
    go_enter Try.func11, Try.ntmps11
    go_wp2_with fail
    refine (impl_labok0 _ l _ ((RL0.out.alloc _).alloc _)).mono ?_
    rintro e w1 ⟨rfl, hb1⟩
    obtain ⟨⟨e0, e1⟩, ⟨q0, q1⟩, hz, hbel⟩ := box4 hb1
    have z0 : w1.frozen? ⟨w.heap.size + 1, 0, none⟩ = false := (hb1.frozen (by simp)).trans (by simp [go_sem])
    have z1 : w1.frozen? ⟨w.heap.size + 1, 1, none⟩ = false := (hb1.frozen (by simp)).trans (by simp [go_sem])
    have HB := Lib.hid hbel
    clear hb1
    go_wp2
    have HC : Hid (Below w1.heap.size w1 w1) := Lib.hid (.refl _ _)
    go_region_held3 (fun w' => w'.cell? ⟨w.heap.size, 0, none⟩ = some (.int .i64 l.base) ∧ w'.cell? ⟨w.heap.size, 1, none⟩ = some (.slice A n c))
      (first | exact ⟨f0, f1⟩ | go_keep)
      (first
        | (go_at_call 28
           refine (impl_parts _ _ _ _ _).mono ?_
           rintro e w3 ⟨rfl, hb3⟩
           have HC : Hid (Below w1.heap.size w1 w3) := Lib.hid (by first | exact below_more HC.out hb3 | exact below_more HC.out (below_undrew hb3))
           have f0 : w3.cell? ⟨w.heap.size, 0, none⟩ = some (.int .i64 l.base) := (HC.out.cell (by simp only []; omega)).trans e0
           have f1 : w3.cell? ⟨w.heap.size, 1, none⟩ = some (.slice A n c) := (HC.out.cell (by simp only []; omega)).trans e1
           clear hb3)
        | (go_at_call 29
           refine (impl_keys A n c l.parts _ (HA.out.below (below_more HB.out HC.out)) HN.out (by omega)).mono ?_
           rintro e w4 ⟨vl, rfl, hownl, hb4⟩
           have HC4 : Hid (Below w1.heap.size w1 w4) := Lib.hid (below_more HC.out hb4)
           have f0 : w4.cell? ⟨w.heap.size, 0, none⟩ = some (.int .i64 l.base) := (HC4.out.cell (by simp only []; omega)).trans e0
           have f1 : w4.cell? ⟨w.heap.size, 1, none⟩ = some (.slice A n c) := (HC4.out.cell (by simp only []; omega)).trans e1
           obtain ⟨Al, kl, rfl, -, -, hal⟩ := own_at hownl
           have HAl := Lib.hid hal
           clear hb4 hownl hal)
        | (go_at_call 30
           refine (impl_keepS _ l 4 (l.parts.map (·.1)) (fun _ => 4) Al n kl _ (RL0.out.below (below_more HB.out HC4.out)) HRI.out rfl HL.out (by omega) HAl.out HO.out (fun _ _ => rfl) (fun x w9 _ _ => impl_stars1 x w9)).mono ?_
           rintro e w5 ⟨v5, rfl, own5, hb5⟩
           have HC5 : Hid (Below w1.heap.size w1 w5) := Lib.hid (below_more HC4.out hb5)
           have f0 : w5.cell? ⟨w.heap.size, 0, none⟩ = some (.int .i64 l.base) := (HC5.out.cell (by simp only []; omega)).trans e0
           have f1 : w5.cell? ⟨w.heap.size, 1, none⟩ = some (.slice A n c) := (HC5.out.cell (by simp only []; omega)).trans e1
           have r0 : w5.cell? ⟨w.heap.size + 1, 0, none⟩ = some (.int .i64 0) := (HC5.out.cell (by simp only []; omega)).trans q0
           have r1 : w5.cell? ⟨w.heap.size + 1, 1, none⟩ = some (.slice none 0 0) := (HC5.out.cell (by simp only []; omega)).trans q1
           have g0 : w5.frozen? ⟨w.heap.size + 1, 0, none⟩ = false := (HC5.out.frozen (by simp only []; omega)).trans z0
           have g1 : w5.frozen? ⟨w.heap.size + 1, 1, none⟩ = false := (HC5.out.frozen (by simp only []; omega)).trans z1
           obtain ⟨A5, n5, c5, rfl, -, -, -⟩ := id own5
           have HO5 := Lib.hid (own5.lower (show w.heap.size + 1 + 1 ≤ _ by have := HC4.out.size; omega))
           have hz5 : w.heap.size + 1 < w5.heap.size := block_lt_of_cell r0
           clear hb5 own5))
    go_wp2
    refine bodyPost_ret (v := .tuple #[.agg #[.int .i64 _, .slice A5 n5 c5], .bool true]) (by simp [results, Try.results11, go_sem, r0, r1]; rfl) rfl ?_
    rw [← HR.out.1, HR.out.2]
    exact ⟨_, rfl, ((HO5.out.past (by omega)).past (by omega)).lower (by omega), ((below_more HB.out HC5.out).setCell (by simp only []; omega) _).setCell (by simp only []; omega) _⟩
end Go.Proofs.Ytjdnobihhkmmpaa
