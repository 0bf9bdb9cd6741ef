/-
  Chapter 5 of the model: Allowed.
-/
import Derived.Test.YtedaknjjcdlpnaaDoorSpecTerms
import Derived.Test.YtedaknjjcdlpnaaDoorSpecLab
namespace Go.Proofs.YtedaknjjcdlpnaaDoor
set_option maxRecDepth 100000
open Go.RowKit

set_option maxHeartbeats 8000000 in
theorem spec_allowed (v u : Value) (s : Lab) (t : Tm) (w : World) (hr : RdLab w v s) (hq : RdTm w u t) :
    Calls Tryd.prog 12 #[v, u] w (RetV (.bool (allowed s t)) w) := by
  have RA := Lib.hid hr
  obtain ⟨A, n, c, rfl, -⟩ := hr
  have RB := Lib.hid hq
  obtain ⟨A0, n0, c0, A1, n1, c1, A2, n2, c2, A3, n3, c3, rfl, ht0, ht1, ht2, ht3⟩ := hq
  have HT0 := Lib.hid ht0
  clear ht0
  have HT1 := Lib.hid ht1
  clear ht1
  have HT2 := Lib.hid ht2
  clear ht2
  have HT3 := Lib.hid ht3
  clear ht3
  cases e0 : labOk s
  · have HR : Hid (allowed s t = false) := Lib.hid (allowed_0 e0)
    go_enter Tryd.func12, Tryd.ntmps12
    go_wp2_with fail
    generalize hW : (w.alloc (.cells #[.int .i64 s.base, .slice A n c] 26)).alloc (.cells #[.int .i64 t.taint.base, .slice A0 n0 c0, .int .i64 t.clear.base, .slice A1 n1 c1, .int .i64 t.raise.base, .slice A2 n2 c2, .int .i64 t.verify.base, .slice A3 n3 c3] 28) = x0
    obtain ⟨pa, pb, hsz, bel⟩ := laid2 (ps := [.int .i64 s.base, .slice A n c]) (rs := [.int .i64 t.taint.base, .slice A0 n0 c0, .int .i64 t.clear.base, .slice A1 n1 c1, .int .i64 t.raise.base, .slice A2 n2 c2, .int .i64 t.verify.base, .slice A3 n3 c3]) hW
    have P0 := Lib.hid pa
    have P1 := Lib.hid pb
    clear hW pa pb hsz
    refine (spec_labok _ s _ (RA.out.below bel)).mono ?_
    rintro e y0 ⟨rfl, hb⟩
    have P0' := Lib.hid (P0.out.below hb)
    clear P0
    have P0 := P0'
    clear P0'
    have P1' := Lib.hid (P1.out.below hb)
    clear P1
    have P1 := P1'
    clear P1'
    have bel' := below_more bel hb
    clear bel hb
    have bel := bel'
    clear bel'
    go_wp2
    go_ret
    exact .mk (by rw [HR.out]; rfl) bel
  · skip
    cases e1 : termsOk t
    · have HR : Hid (allowed s t = false) := Lib.hid (allowed_1 e1)
      go_enter Tryd.func12, Tryd.ntmps12
      go_wp2_with fail
      generalize hW : (w.alloc (.cells #[.int .i64 s.base, .slice A n c] 26)).alloc (.cells #[.int .i64 t.taint.base, .slice A0 n0 c0, .int .i64 t.clear.base, .slice A1 n1 c1, .int .i64 t.raise.base, .slice A2 n2 c2, .int .i64 t.verify.base, .slice A3 n3 c3] 28) = x0
      obtain ⟨pa, pb, hsz, bel⟩ := laid2 (ps := [.int .i64 s.base, .slice A n c]) (rs := [.int .i64 t.taint.base, .slice A0 n0 c0, .int .i64 t.clear.base, .slice A1 n1 c1, .int .i64 t.raise.base, .slice A2 n2 c2, .int .i64 t.verify.base, .slice A3 n3 c3]) hW
      have P0 := Lib.hid pa
      have P1 := Lib.hid pb
      clear hW pa pb hsz
      refine (spec_labok _ s _ (RA.out.below bel)).mono ?_
      rintro e y0 ⟨rfl, hb⟩
      have P0' := Lib.hid (P0.out.below hb)
      clear P0
      have P0 := P0'
      clear P0'
      have P1' := Lib.hid (P1.out.below hb)
      clear P1
      have P1 := P1'
      clear P1'
      have bel' := below_more bel hb
      clear bel hb
      have bel := bel'
      clear bel'
      have k1_0 := P1.out.cell 0 rfl
      have k1_1 := P1.out.cell 1 rfl
      have k1_2 := P1.out.cell 2 rfl
      have k1_3 := P1.out.cell 3 rfl
      have k1_4 := P1.out.cell 4 rfl
      have k1_5 := P1.out.cell 5 rfl
      have k1_6 := P1.out.cell 6 rfl
      have k1_7 := P1.out.cell 7 rfl
      go_wp2_with fail
      refine (spec_termsok _ t _ (RB.out.below bel)).mono ?_
      rintro e y1 ⟨rfl, hb⟩
      have P0' := Lib.hid (P0.out.below hb)
      clear P0
      have P0 := P0'
      clear P0'
      have P1' := Lib.hid (P1.out.below hb)
      clear P1
      have P1 := P1'
      clear P1'
      have bel' := below_more bel hb
      clear bel hb  k1_0 k1_1 k1_2 k1_3 k1_4 k1_5 k1_6 k1_7
      have bel := bel'
      clear bel'
      go_wp2
      go_ret
      exact .mk (by rw [HR.out]; rfl) bel
    · skip
      cases hm : mayB s.base t.clear.base t.raise.base
      · have HR : Hid (allowed s t = false) := Lib.hid (allowed_2 hm)
        go_enter Tryd.func12, Tryd.ntmps12
        go_wp2_with fail
        generalize hW : (w.alloc (.cells #[.int .i64 s.base, .slice A n c] 26)).alloc (.cells #[.int .i64 t.taint.base, .slice A0 n0 c0, .int .i64 t.clear.base, .slice A1 n1 c1, .int .i64 t.raise.base, .slice A2 n2 c2, .int .i64 t.verify.base, .slice A3 n3 c3] 28) = x0
        obtain ⟨pa, pb, hsz, bel⟩ := laid2 (ps := [.int .i64 s.base, .slice A n c]) (rs := [.int .i64 t.taint.base, .slice A0 n0 c0, .int .i64 t.clear.base, .slice A1 n1 c1, .int .i64 t.raise.base, .slice A2 n2 c2, .int .i64 t.verify.base, .slice A3 n3 c3]) hW
        have P0 := Lib.hid pa
        have P1 := Lib.hid pb
        clear hW pa pb hsz
        refine (spec_labok _ s _ (RA.out.below bel)).mono ?_
        rintro e y0 ⟨rfl, hb⟩
        have P0' := Lib.hid (P0.out.below hb)
        clear P0
        have P0 := P0'
        clear P0'
        have P1' := Lib.hid (P1.out.below hb)
        clear P1
        have P1 := P1'
        clear P1'
        have bel' := below_more bel hb
        clear bel hb
        have bel := bel'
        clear bel'
        have k1_0 := P1.out.cell 0 rfl
        have k1_1 := P1.out.cell 1 rfl
        have k1_2 := P1.out.cell 2 rfl
        have k1_3 := P1.out.cell 3 rfl
        have k1_4 := P1.out.cell 4 rfl
        have k1_5 := P1.out.cell 5 rfl
        have k1_6 := P1.out.cell 6 rfl
        have k1_7 := P1.out.cell 7 rfl
        go_wp2_with fail
        refine (spec_termsok _ t _ (RB.out.below bel)).mono ?_
        rintro e y1 ⟨rfl, hb⟩
        have P0' := Lib.hid (P0.out.below hb)
        clear P0
        have P0 := P0'
        clear P0'
        have P1' := Lib.hid (P1.out.below hb)
        clear P1
        have P1 := P1'
        clear P1'
        have bel' := below_more bel hb
        clear bel hb  k1_0 k1_1 k1_2 k1_3 k1_4 k1_5 k1_6 k1_7
        have bel := bel'
        clear bel'
        have k0_0 := P0.out.cell 0 rfl
        have k0_1 := P0.out.cell 1 rfl
        have k1_0 := P1.out.cell 0 rfl
        have k1_1 := P1.out.cell 1 rfl
        have k1_2 := P1.out.cell 2 rfl
        have k1_3 := P1.out.cell 3 rfl
        have k1_4 := P1.out.cell 4 rfl
        have k1_5 := P1.out.cell 5 rfl
        have k1_6 := P1.out.cell 6 rfl
        have k1_7 := P1.out.cell 7 rfl
        go_wp2_with (go_at_call 39; refine (spec_may _ _ _ _).mono ?_; rintro e w' ⟨rfl, rfl⟩)
        go_ret
        exact .mk (by rw [HR.out]; rfl) bel
      · have HY : Hid (allowed s t = (hs3 s t.clear t.raise).all (mayL s t)) := Lib.hid (allowed_yes e0 e1 hm)
        have s0 := labOk_short e0
        obtain ⟨-, tk1, tk2, tk3⟩ := termsOk_of e1
        have st1 := labOk_short tk1
        have st2 := labOk_short tk2
        have st3 := labOk_short tk3
        have hN := hs3_length s t.clear t.raise
        have hb0 : 0 + s.parts.length ≤ 1048575 := by omega
        have hb1 : (handlesIn [] s.parts).length + t.clear.parts.length ≤ 1048575 := by have g0 := handlesIn_length [] s.parts; simp only [List.length_nil] at g0; omega
        have hb2 : (handlesIn (handlesIn [] s.parts) t.clear.parts).length + t.raise.parts.length ≤ 1048575 := by have g0 := handlesIn_length [] s.parts; have g1 := handlesIn_length (handlesIn [] s.parts) t.clear.parts; simp only [List.length_nil] at g0; omega
        go_enter Tryd.func12, Tryd.ntmps12
        go_wp2_with fail
        generalize hW : (w.alloc (.cells #[.int .i64 s.base, .slice A n c] 26)).alloc (.cells #[.int .i64 t.taint.base, .slice A0 n0 c0, .int .i64 t.clear.base, .slice A1 n1 c1, .int .i64 t.raise.base, .slice A2 n2 c2, .int .i64 t.verify.base, .slice A3 n3 c3] 28) = x0
        obtain ⟨pa, pb, hsz, bel⟩ := laid2 (ps := [.int .i64 s.base, .slice A n c]) (rs := [.int .i64 t.taint.base, .slice A0 n0 c0, .int .i64 t.clear.base, .slice A1 n1 c1, .int .i64 t.raise.base, .slice A2 n2 c2, .int .i64 t.verify.base, .slice A3 n3 c3]) hW
        have P0 := Lib.hid pa
        have P1 := Lib.hid pb
        clear hW pa pb hsz
        refine (spec_labok _ s _ (RA.out.below bel)).mono ?_
        rintro e y0 ⟨rfl, hb⟩
        have P0' := Lib.hid (P0.out.below hb)
        clear P0
        have P0 := P0'
        clear P0'
        have P1' := Lib.hid (P1.out.below hb)
        clear P1
        have P1 := P1'
        clear P1'
        have bel' := below_more bel hb
        clear bel hb
        have bel := bel'
        clear bel'
        have k1_0 := P1.out.cell 0 rfl
        have k1_1 := P1.out.cell 1 rfl
        have k1_2 := P1.out.cell 2 rfl
        have k1_3 := P1.out.cell 3 rfl
        have k1_4 := P1.out.cell 4 rfl
        have k1_5 := P1.out.cell 5 rfl
        have k1_6 := P1.out.cell 6 rfl
        have k1_7 := P1.out.cell 7 rfl
        go_wp2_with fail
        refine (spec_termsok _ t _ (RB.out.below bel)).mono ?_
        rintro e y1 ⟨rfl, hb⟩
        have P0' := Lib.hid (P0.out.below hb)
        clear P0
        have P0 := P0'
        clear P0'
        have P1' := Lib.hid (P1.out.below hb)
        clear P1
        have P1 := P1'
        clear P1'
        have bel' := below_more bel hb
        clear bel hb  k1_0 k1_1 k1_2 k1_3 k1_4 k1_5 k1_6 k1_7
        have bel := bel'
        clear bel'
        have k0_0 := P0.out.cell 0 rfl
        have k0_1 := P0.out.cell 1 rfl
        have k1_0 := P1.out.cell 0 rfl
        have k1_1 := P1.out.cell 1 rfl
        have k1_2 := P1.out.cell 2 rfl
        have k1_3 := P1.out.cell 3 rfl
        have k1_4 := P1.out.cell 4 rfl
        have k1_5 := P1.out.cell 5 rfl
        have k1_6 := P1.out.cell 6 rfl
        have k1_7 := P1.out.cell 7 rfl
        go_wp2_with (go_at_call 39; refine (spec_may _ _ _ _).mono ?_; rintro e w' ⟨rfl, rfl⟩)
        clear k0_0 k0_1 k1_0 k1_1 k1_2 k1_3 k1_4 k1_5 k1_6 k1_7
        obtain ⟨x1, hx1⟩ : ∃ x1, x1 = y1 := ⟨_, rfl⟩
        rw [← hx1] at bel P0 P1 ⊢
        clear hx1
        have B0 := Lib.hid P0.out.has
        have B1 := Lib.hid P1.out.has
        have RX0 := Lib.hid (RA.out.below bel)
        have RX1 := Lib.hid (HT1.out.below bel)
        have RX2 := Lib.hid (HT2.out.below bel)
        have e0a := B0.out 0 _ rfl
        have e0b := B0.out 1 _ rfl
        have e1a := B1.out 2 _ rfl
        have e1b := B1.out 3 _ rfl
        have e2a := B1.out 4 _ rfl
        have e2b := B1.out 5 _ rfl
        have HC := Lib.hid (Below.refl x1.heap.size x1)
        go_wp2
        go_region_held3 (fun w' => w'.cell? ⟨w.heap.size, 0, none⟩ = some (.int .i64 s.base) ∧ w'.cell? ⟨w.heap.size, 1, none⟩ = some (.slice A n c) ∧ w'.cell? ⟨w.heap.size + 1, 2, none⟩ = some (.int .i64 t.clear.base) ∧ w'.cell? ⟨w.heap.size + 1, 3, none⟩ = some (.slice A1 n1 c1) ∧ w'.cell? ⟨w.heap.size + 1, 4, none⟩ = some (.int .i64 t.raise.base) ∧ w'.cell? ⟨w.heap.size + 1, 5, none⟩ = some (.slice A2 n2 c2))
          (first | exact ⟨f0a, f0b, f1a, f1b, f2a, f2b⟩ | go_keep)
          (first
          | (go_at_call_of 40 (Value.agg #[Value.int IntKind.i64 s.base, Value.slice A n c])
             refine (spec_handles (some ⟨x1.heap.size, 0, none⟩) 0 0 w.heap.size [] _ s _ (by exact World.ownsRow_lit x1 #[] 0 bel.size (by simp [maxLen]) rfl) rfl (RX0.out.below (by go_grown)) (by have := hb0; omega) (by have := bel.size; first | (simp; done) | (simp; omega) | omega)).mono ?_
             rintro e w0z ⟨v0z, rfl, own, hb⟩
             have HC0 : Hid (Below x1.heap.size x1 w0z) := Lib.hid (by first | exact Below.trans (by go_grown) (hb.mono (by simp; omega)) | exact Below.trans (by go_grown) (hb.mono (by simp)))
             have f0a : w0z.cell? ⟨w.heap.size, 0, none⟩ = some (.int .i64 s.base) := B0.out.below HC0.out 0 _ rfl
             have f0b : w0z.cell? ⟨w.heap.size, 1, none⟩ = some (.slice A n c) := B0.out.below HC0.out 1 _ rfl
             have f1a : w0z.cell? ⟨w.heap.size + 1, 2, none⟩ = some (.int .i64 t.clear.base) := B1.out.below HC0.out 2 _ rfl
             have f1b : w0z.cell? ⟨w.heap.size + 1, 3, none⟩ = some (.slice A1 n1 c1) := B1.out.below HC0.out 3 _ rfl
             have f2a : w0z.cell? ⟨w.heap.size + 1, 4, none⟩ = some (.int .i64 t.raise.base) := B1.out.below HC0.out 4 _ rfl
             have f2b : w0z.cell? ⟨w.heap.size + 1, 5, none⟩ = some (.slice A2 n2 c2) := B1.out.below HC0.out 5 _ rfl
             obtain ⟨A0z, c0z, rfl, -, -, -⟩ := own_at own
             have HO0 := Lib.hid own
             clear hb own)
          | (go_at_call_of 40 (Value.agg #[Value.int IntKind.i64 t.clear.base, Value.slice A1 n1 c1])
             refine (spec_handles A0z _ c0z w.heap.size (handlesIn [] s.parts) _ t.clear _ HO0.out rfl (RX1.out.below (by exact HC0.out)) hb1 (by have := bel.size; have := HC0.out.size; omega)).mono ?_
             rintro e w1z ⟨v1z, rfl, own, hb⟩
             have HC1 : Hid (Below x1.heap.size x1 w1z) := Lib.hid (below_more HC0.out hb)
             have f0a : w1z.cell? ⟨w.heap.size, 0, none⟩ = some (.int .i64 s.base) := B0.out.below HC1.out 0 _ rfl
             have f0b : w1z.cell? ⟨w.heap.size, 1, none⟩ = some (.slice A n c) := B0.out.below HC1.out 1 _ rfl
             have f1a : w1z.cell? ⟨w.heap.size + 1, 2, none⟩ = some (.int .i64 t.clear.base) := B1.out.below HC1.out 2 _ rfl
             have f1b : w1z.cell? ⟨w.heap.size + 1, 3, none⟩ = some (.slice A1 n1 c1) := B1.out.below HC1.out 3 _ rfl
             have f2a : w1z.cell? ⟨w.heap.size + 1, 4, none⟩ = some (.int .i64 t.raise.base) := B1.out.below HC1.out 4 _ rfl
             have f2b : w1z.cell? ⟨w.heap.size + 1, 5, none⟩ = some (.slice A2 n2 c2) := B1.out.below HC1.out 5 _ rfl
             obtain ⟨A1z, c1z, rfl, -, -, -⟩ := own_at own
             have HO1 := Lib.hid own
             clear hb own)
          | (go_at_call_of 40 (Value.agg #[Value.int IntKind.i64 t.raise.base, Value.slice A2 n2 c2])
             refine (spec_handles A1z _ c1z w.heap.size (handlesIn (handlesIn [] s.parts) t.clear.parts) _ t.raise _ HO1.out rfl (RX2.out.below (by exact HC1.out)) hb2 (by have := bel.size; have := HC1.out.size; omega)).mono ?_
             rintro e w2z ⟨v2z, rfl, own, hb⟩
             have HC2 : Hid (Below x1.heap.size x1 w2z) := Lib.hid (below_more HC1.out hb)
             have f0a : w2z.cell? ⟨w.heap.size, 0, none⟩ = some (.int .i64 s.base) := B0.out.below HC2.out 0 _ rfl
             have f0b : w2z.cell? ⟨w.heap.size, 1, none⟩ = some (.slice A n c) := B0.out.below HC2.out 1 _ rfl
             have f1a : w2z.cell? ⟨w.heap.size + 1, 2, none⟩ = some (.int .i64 t.clear.base) := B1.out.below HC2.out 2 _ rfl
             have f1b : w2z.cell? ⟨w.heap.size + 1, 3, none⟩ = some (.slice A1 n1 c1) := B1.out.below HC2.out 3 _ rfl
             have f2a : w2z.cell? ⟨w.heap.size + 1, 4, none⟩ = some (.int .i64 t.raise.base) := B1.out.below HC2.out 4 _ rfl
             have f2b : w2z.cell? ⟨w.heap.size + 1, 5, none⟩ = some (.slice A2 n2 c2) := B1.out.below HC2.out 5 _ rfl
             obtain ⟨A2z, c2z, rfl, -, -, -⟩ := own_at own
             have HO2 := Lib.hid own
             clear hb own))
        have HC' := HC2
        have HOW := HO2
        clear HC HC0 HO0 HC1 HO1 HC2 HO2 f0a f0b f1a f1b f2a f2b
        have HC := HC'
        clear HC'
        clear e0a e0b e1a e1b e2a e2b
        go_wp2
        obtain ⟨wz, hwz⟩ : ∃ wz, wz = w2z := ⟨_, rfl⟩
        rw [← hwz] at HC HOW ⊢
        clear hwz
        obtain ⟨N, hNe⟩ : ∃ N, N = ((handlesIn (handlesIn (handlesIn [] s.parts) t.clear.parts) t.raise.parts)).length := ⟨_, rfl⟩
        have ho := HOW.out
        clear HOW
        rw [← hNe] at ho ⊢
        have hN1 : N ≤ 1000 := by rw [hNe]; exact Nat.le_trans hN (by omega)
        have HN : Hid (((handlesIn (handlesIn (handlesIn [] s.parts) t.clear.parts) t.raise.parts)).length = N) := Lib.hid hNe.symm
        have HA := Lib.hid (own_read ho)
        clear ho hNe hN hb0 hb1 hb2
        go_loopw [6] (fun i wr => ∃ k : Nat, k ≤ N ∧ i = .int .i64 k ∧ Hid (AllLeft (mayL s t) ((handlesIn (handlesIn (handlesIn [] s.parts) t.clear.parts) t.raise.parts)) k) ∧ Hid (Below wz.heap.size wz wr)) (fun i _ => N - (intOf i).toNat)
        case atStart => exact ⟨0, by omega, rfl, Lib.hid (.zero _ _), Lib.hid (.refl _ _)⟩
        case round =>
          obtain ⟨k, hk, rfl, HS, HR⟩ := hrel
          have HB := Lib.hid (below_more HC.out HR.out)
          have BEL := Lib.hid (below_more bel HB.out)
          have Br0 := Lib.hid (B0.out.below HB.out)
          have Br1 := Lib.hid (B1.out.below HB.out)
          have RXr0 := Lib.hid (RX0.out.below HB.out)
          have RXr1 := Lib.hid (RX1.out.below HB.out)
          have RXr2 := Lib.hid (RX2.out.below HB.out)
          have HB0 := Lib.hid (Below.refl wr.heap.size wr)
          by_cases hlt : k < N
          · obtain ⟨b9, o9, x, rfl, hx, cx⟩ := nmat (HA.out.below HR.out) (k := k) (by have := HN.out; omega)
            clear HC
            have c0a := Br0.out.below HB0.out 0 _ rfl
            have c0b := Br0.out.below HB0.out 1 _ rfl
            have c1a := Br1.out.below HB0.out 2 _ rfl
            have c1b := Br1.out.below HB0.out 3 _ rfl
            have c2a := Br1.out.below HB0.out 4 _ rfl
            have c2b := Br1.out.below HB0.out 5 _ rfl
            cases hp : (mayL s t) x
            · have hd : mayB (lev s x) (lev t.clear x) (lev t.raise x) = false := hp
              have HR1 : Hid (allowed s t = false) := Lib.hid (by rw [HY.out]; exact HS.out.bad hx hp)
              clear hp hx HS
              have HC := Lib.hid (Below.refl wr.heap.size wr)
              go_wp2
              go_region_held3 (fun w' => w'.cell? ⟨w.heap.size, 0, none⟩ = some (.int .i64 s.base) ∧ w'.cell? ⟨w.heap.size, 1, none⟩ = some (.slice A n c) ∧ w'.cell? ⟨w.heap.size + 1, 2, none⟩ = some (.int .i64 t.clear.base) ∧ w'.cell? ⟨w.heap.size + 1, 3, none⟩ = some (.slice A1 n1 c1) ∧ w'.cell? ⟨w.heap.size + 1, 4, none⟩ = some (.int .i64 t.raise.base) ∧ w'.cell? ⟨w.heap.size + 1, 5, none⟩ = some (.slice A2 n2 c2) ∧ w'.cell? ⟨b9, o9 + k, none⟩ = some (.int .i64 x))
                (first | exact ⟨f0a, f0b, f1a, f1b, f2a, f2b, f9⟩ | go_keep)
                (first
                | (go_at_call_of 41 (Value.agg #[Value.int IntKind.i64 s.base, Value.slice A n c])
                   refine (spec_lev _ s x _ (by first | exact RXr0.out.below (below_more HB0.out HC.out) | exact (RXr0.out.below (below_more HB0.out HC.out)).drew)).mono ?_
                   rintro e wn ⟨rfl, hb⟩
                   have HC' : Hid (Below wr.heap.size wr wn) := Lib.hid (by first | exact below_more HC.out hb | exact below_more HC.out (below_undrew hb))
                   clear HC
                   have HC := HC'
                   clear HC'
                   try clear f0a f0b f1a f1b f2a f2b f9
                   have f0a : wn.cell? ⟨w.heap.size, 0, none⟩ = some (.int .i64 s.base) := Br0.out.below (below_more HB0.out HC.out) 0 _ rfl
                   have f0b : wn.cell? ⟨w.heap.size, 1, none⟩ = some (.slice A n c) := Br0.out.below (below_more HB0.out HC.out) 1 _ rfl
                   have f1a : wn.cell? ⟨w.heap.size + 1, 2, none⟩ = some (.int .i64 t.clear.base) := Br1.out.below (below_more HB0.out HC.out) 2 _ rfl
                   have f1b : wn.cell? ⟨w.heap.size + 1, 3, none⟩ = some (.slice A1 n1 c1) := Br1.out.below (below_more HB0.out HC.out) 3 _ rfl
                   have f2a : wn.cell? ⟨w.heap.size + 1, 4, none⟩ = some (.int .i64 t.raise.base) := Br1.out.below (below_more HB0.out HC.out) 4 _ rfl
                   have f2b : wn.cell? ⟨w.heap.size + 1, 5, none⟩ = some (.slice A2 n2 c2) := Br1.out.below (below_more HB0.out HC.out) 5 _ rfl
                   have f9 : wn.cell? ⟨b9, o9 + k, none⟩ = some (.int .i64 x) := (HC.out.cell (block_lt_of_cell cx)).trans cx
                   clear hb)
                | (go_at_call_of 41 (Value.agg #[Value.int IntKind.i64 t.clear.base, Value.slice A1 n1 c1])
                   refine (spec_lev _ t.clear x _ (by first | exact RXr1.out.below (below_more HB0.out HC.out) | exact (RXr1.out.below (below_more HB0.out HC.out)).drew)).mono ?_
                   rintro e wn ⟨rfl, hb⟩
                   have HC' : Hid (Below wr.heap.size wr wn) := Lib.hid (by first | exact below_more HC.out hb | exact below_more HC.out (below_undrew hb))
                   clear HC
                   have HC := HC'
                   clear HC'
                   try clear f0a f0b f1a f1b f2a f2b f9
                   have f0a : wn.cell? ⟨w.heap.size, 0, none⟩ = some (.int .i64 s.base) := Br0.out.below (below_more HB0.out HC.out) 0 _ rfl
                   have f0b : wn.cell? ⟨w.heap.size, 1, none⟩ = some (.slice A n c) := Br0.out.below (below_more HB0.out HC.out) 1 _ rfl
                   have f1a : wn.cell? ⟨w.heap.size + 1, 2, none⟩ = some (.int .i64 t.clear.base) := Br1.out.below (below_more HB0.out HC.out) 2 _ rfl
                   have f1b : wn.cell? ⟨w.heap.size + 1, 3, none⟩ = some (.slice A1 n1 c1) := Br1.out.below (below_more HB0.out HC.out) 3 _ rfl
                   have f2a : wn.cell? ⟨w.heap.size + 1, 4, none⟩ = some (.int .i64 t.raise.base) := Br1.out.below (below_more HB0.out HC.out) 4 _ rfl
                   have f2b : wn.cell? ⟨w.heap.size + 1, 5, none⟩ = some (.slice A2 n2 c2) := Br1.out.below (below_more HB0.out HC.out) 5 _ rfl
                   have f9 : wn.cell? ⟨b9, o9 + k, none⟩ = some (.int .i64 x) := (HC.out.cell (block_lt_of_cell cx)).trans cx
                   clear hb)
                | (go_at_call_of 41 (Value.agg #[Value.int IntKind.i64 t.raise.base, Value.slice A2 n2 c2])
                   refine (spec_lev _ t.raise x _ (by first | exact RXr2.out.below (below_more HB0.out HC.out) | exact (RXr2.out.below (below_more HB0.out HC.out)).drew)).mono ?_
                   rintro e wn ⟨rfl, hb⟩
                   have HC' : Hid (Below wr.heap.size wr wn) := Lib.hid (by first | exact below_more HC.out hb | exact below_more HC.out (below_undrew hb))
                   clear HC
                   have HC := HC'
                   clear HC'
                   try clear f0a f0b f1a f1b f2a f2b f9
                   have f0a : wn.cell? ⟨w.heap.size, 0, none⟩ = some (.int .i64 s.base) := Br0.out.below (below_more HB0.out HC.out) 0 _ rfl
                   have f0b : wn.cell? ⟨w.heap.size, 1, none⟩ = some (.slice A n c) := Br0.out.below (below_more HB0.out HC.out) 1 _ rfl
                   have f1a : wn.cell? ⟨w.heap.size + 1, 2, none⟩ = some (.int .i64 t.clear.base) := Br1.out.below (below_more HB0.out HC.out) 2 _ rfl
                   have f1b : wn.cell? ⟨w.heap.size + 1, 3, none⟩ = some (.slice A1 n1 c1) := Br1.out.below (below_more HB0.out HC.out) 3 _ rfl
                   have f2a : wn.cell? ⟨w.heap.size + 1, 4, none⟩ = some (.int .i64 t.raise.base) := Br1.out.below (below_more HB0.out HC.out) 4 _ rfl
                   have f2b : wn.cell? ⟨w.heap.size + 1, 5, none⟩ = some (.slice A2 n2 c2) := Br1.out.below (below_more HB0.out HC.out) 5 _ rfl
                   have f9 : wn.cell? ⟨b9, o9 + k, none⟩ = some (.int .i64 x) := (HC.out.cell (block_lt_of_cell cx)).trans cx
                   clear hb)
                | (go_at_call 39
                   refine (spec_may _ _ _ _).mono ?_
                   rintro e w8 ⟨rfl, rfl⟩))
              go_wp2
              go_ret
              exact .mk (by rw [HR1.out]; rfl) (below_more BEL.out HC.out)
            · have hd : mayB (lev s x) (lev t.clear x) (lev t.raise x) = true := hp
              have HS1 := Lib.hid (HS.out.succ hx hp)
              clear hp hx HS
              have HC := Lib.hid (Below.refl wr.heap.size wr)
              go_wp2
              go_region_held3 (fun w' => w'.cell? ⟨w.heap.size, 0, none⟩ = some (.int .i64 s.base) ∧ w'.cell? ⟨w.heap.size, 1, none⟩ = some (.slice A n c) ∧ w'.cell? ⟨w.heap.size + 1, 2, none⟩ = some (.int .i64 t.clear.base) ∧ w'.cell? ⟨w.heap.size + 1, 3, none⟩ = some (.slice A1 n1 c1) ∧ w'.cell? ⟨w.heap.size + 1, 4, none⟩ = some (.int .i64 t.raise.base) ∧ w'.cell? ⟨w.heap.size + 1, 5, none⟩ = some (.slice A2 n2 c2) ∧ w'.cell? ⟨b9, o9 + k, none⟩ = some (.int .i64 x))
                (first | exact ⟨f0a, f0b, f1a, f1b, f2a, f2b, f9⟩ | go_keep)
                (first
                | (go_at_call_of 41 (Value.agg #[Value.int IntKind.i64 s.base, Value.slice A n c])
                   refine (spec_lev _ s x _ (by first | exact RXr0.out.below (below_more HB0.out HC.out) | exact (RXr0.out.below (below_more HB0.out HC.out)).drew)).mono ?_
                   rintro e wn ⟨rfl, hb⟩
                   have HC' : Hid (Below wr.heap.size wr wn) := Lib.hid (by first | exact below_more HC.out hb | exact below_more HC.out (below_undrew hb))
                   clear HC
                   have HC := HC'
                   clear HC'
                   try clear f0a f0b f1a f1b f2a f2b f9
                   have f0a : wn.cell? ⟨w.heap.size, 0, none⟩ = some (.int .i64 s.base) := Br0.out.below (below_more HB0.out HC.out) 0 _ rfl
                   have f0b : wn.cell? ⟨w.heap.size, 1, none⟩ = some (.slice A n c) := Br0.out.below (below_more HB0.out HC.out) 1 _ rfl
                   have f1a : wn.cell? ⟨w.heap.size + 1, 2, none⟩ = some (.int .i64 t.clear.base) := Br1.out.below (below_more HB0.out HC.out) 2 _ rfl
                   have f1b : wn.cell? ⟨w.heap.size + 1, 3, none⟩ = some (.slice A1 n1 c1) := Br1.out.below (below_more HB0.out HC.out) 3 _ rfl
                   have f2a : wn.cell? ⟨w.heap.size + 1, 4, none⟩ = some (.int .i64 t.raise.base) := Br1.out.below (below_more HB0.out HC.out) 4 _ rfl
                   have f2b : wn.cell? ⟨w.heap.size + 1, 5, none⟩ = some (.slice A2 n2 c2) := Br1.out.below (below_more HB0.out HC.out) 5 _ rfl
                   have f9 : wn.cell? ⟨b9, o9 + k, none⟩ = some (.int .i64 x) := (HC.out.cell (block_lt_of_cell cx)).trans cx
                   clear hb)
                | (go_at_call_of 41 (Value.agg #[Value.int IntKind.i64 t.clear.base, Value.slice A1 n1 c1])
                   refine (spec_lev _ t.clear x _ (by first | exact RXr1.out.below (below_more HB0.out HC.out) | exact (RXr1.out.below (below_more HB0.out HC.out)).drew)).mono ?_
                   rintro e wn ⟨rfl, hb⟩
                   have HC' : Hid (Below wr.heap.size wr wn) := Lib.hid (by first | exact below_more HC.out hb | exact below_more HC.out (below_undrew hb))
                   clear HC
                   have HC := HC'
                   clear HC'
                   try clear f0a f0b f1a f1b f2a f2b f9
                   have f0a : wn.cell? ⟨w.heap.size, 0, none⟩ = some (.int .i64 s.base) := Br0.out.below (below_more HB0.out HC.out) 0 _ rfl
                   have f0b : wn.cell? ⟨w.heap.size, 1, none⟩ = some (.slice A n c) := Br0.out.below (below_more HB0.out HC.out) 1 _ rfl
                   have f1a : wn.cell? ⟨w.heap.size + 1, 2, none⟩ = some (.int .i64 t.clear.base) := Br1.out.below (below_more HB0.out HC.out) 2 _ rfl
                   have f1b : wn.cell? ⟨w.heap.size + 1, 3, none⟩ = some (.slice A1 n1 c1) := Br1.out.below (below_more HB0.out HC.out) 3 _ rfl
                   have f2a : wn.cell? ⟨w.heap.size + 1, 4, none⟩ = some (.int .i64 t.raise.base) := Br1.out.below (below_more HB0.out HC.out) 4 _ rfl
                   have f2b : wn.cell? ⟨w.heap.size + 1, 5, none⟩ = some (.slice A2 n2 c2) := Br1.out.below (below_more HB0.out HC.out) 5 _ rfl
                   have f9 : wn.cell? ⟨b9, o9 + k, none⟩ = some (.int .i64 x) := (HC.out.cell (block_lt_of_cell cx)).trans cx
                   clear hb)
                | (go_at_call_of 41 (Value.agg #[Value.int IntKind.i64 t.raise.base, Value.slice A2 n2 c2])
                   refine (spec_lev _ t.raise x _ (by first | exact RXr2.out.below (below_more HB0.out HC.out) | exact (RXr2.out.below (below_more HB0.out HC.out)).drew)).mono ?_
                   rintro e wn ⟨rfl, hb⟩
                   have HC' : Hid (Below wr.heap.size wr wn) := Lib.hid (by first | exact below_more HC.out hb | exact below_more HC.out (below_undrew hb))
                   clear HC
                   have HC := HC'
                   clear HC'
                   try clear f0a f0b f1a f1b f2a f2b f9
                   have f0a : wn.cell? ⟨w.heap.size, 0, none⟩ = some (.int .i64 s.base) := Br0.out.below (below_more HB0.out HC.out) 0 _ rfl
                   have f0b : wn.cell? ⟨w.heap.size, 1, none⟩ = some (.slice A n c) := Br0.out.below (below_more HB0.out HC.out) 1 _ rfl
                   have f1a : wn.cell? ⟨w.heap.size + 1, 2, none⟩ = some (.int .i64 t.clear.base) := Br1.out.below (below_more HB0.out HC.out) 2 _ rfl
                   have f1b : wn.cell? ⟨w.heap.size + 1, 3, none⟩ = some (.slice A1 n1 c1) := Br1.out.below (below_more HB0.out HC.out) 3 _ rfl
                   have f2a : wn.cell? ⟨w.heap.size + 1, 4, none⟩ = some (.int .i64 t.raise.base) := Br1.out.below (below_more HB0.out HC.out) 4 _ rfl
                   have f2b : wn.cell? ⟨w.heap.size + 1, 5, none⟩ = some (.slice A2 n2 c2) := Br1.out.below (below_more HB0.out HC.out) 5 _ rfl
                   have f9 : wn.cell? ⟨b9, o9 + k, none⟩ = some (.int .i64 x) := (HC.out.cell (block_lt_of_cell cx)).trans cx
                   clear hb)
                | (go_at_call 39
                   refine (spec_may _ _ _ _).mono ?_
                   rintro e w8 ⟨rfl, rfl⟩))
              go_wp2
              go_roundw
              case rel => exact ⟨k + 1, by omega, by go_num, HS1, Lib.hid (below_more HR.out HC.out)⟩
              case measure => simp [intOf]; omega
          · have HE : Hid (allowed s t = true) := Lib.hid (by rw [HY.out]; exact HS.out.done (by have := HN.out; omega))
            clear HS
            go_wp2
            go_ret
            exact .mk (by rw [HE.out]; rfl) BEL.out
end Go.Proofs.YtedaknjjcdlpnaaDoor
