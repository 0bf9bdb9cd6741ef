/-
  The draws of terms (chapter 5 of the model): some terms of the call's own; the cursor stays one; nothing else is written.
-/
import Derived.Test.YtnpeojlhjbdjiaaGreatDoorDrT
import Derived.Test.YtnpeojlhjbdjiaaGreatDoorDrawAny
import Derived.Test.YtnpeojlhjbdjiaaGreatDoorSpecTerms
import Derived.Test.YtnpeojlhjbdjiaaGreatDoorSpecFix
import Derived.Test.YtnpeojlhjbdjiaaGreatDoorSpecJoin2
import Derived.Test.YtnpeojlhjbdjiaaGreatDoorMem
namespace Go.Proofs.YtnpeojlhjbdjiaaGreatDoor
set_option maxRecDepth 100000
open Go.RowKit

theorem pick4 {k : Nat} {x0 x1 x2 x3 : Int} (hk : k < 4) : ∃ tv : Int, (#[Value.int .i64 x0, .int .i64 x1, .int .i64 x2, .int .i64 x3] : Array Value)[k]? = some (.int .i64 tv) := by
  match k, hk with
  | 0, _ => exact ⟨_, rfl⟩
  | 1, _ => exact ⟨_, rfl⟩
  | 2, _ => exact ⟨_, rfl⟩
  | 3, _ => exact ⟨_, rfl⟩
theorem joinL_le (l m : Lab) : (joinL l m).1.parts.length ≤ 8 := by
  unfold joinL
  split
  · unfold bothL ofLev
    split
    · simp [noLab]
    · simp only []; omega
  · simp [noLab]
section
variable {m p : Nat} {a : Option Addr} {len cap g : Nat} {w wr : World} {rs : List Value} {t : Tm} {A0 : Option Addr} {n0 c0 : Nat} {A1 : Option Addr} {n1 c1 : Nat} {A2 : Option Addr} {n2 c2 : Nat} {A3 : Option Addr} {n3 c3 : Nat} {b0 b1 b2 b3 : Int}
theorem hold_eq {base : Nat} (h : HoldTm m base g wr (.agg ([.int .i64 b0, .slice A0 n0 c0, .int .i64 b1, .slice A1 n1 c1, .int .i64 b2, .slice A2 n2 c2, .int .i64 b3, .slice A3 n3 c3] : List Value).toArray) t) :
    (OffLab base g wr (.agg #[.int .i64 b0, .slice A0 n0 c0]) t.taint) ∧ (OffLab base g wr (.agg #[.int .i64 b1, .slice A1 n1 c1]) t.clear) ∧ (OffLab base g wr (.agg #[.int .i64 b2, .slice A2 n2 c2]) t.raise) ∧ (OffLab base g wr (.agg #[.int .i64 b3, .slice A3 n3 c3]) t.verify) := by
  obtain ⟨B0, m0, d0, B1, m1, d1, B2, m2, d2, B3, m3, d3, hv, ⟨h0, k0⟩, ⟨h1, k1⟩, ⟨h2, k2⟩, h3, k3⟩ := h
  have e : ([.int .i64 b0, .slice A0 n0 c0, .int .i64 b1, .slice A1 n1 c1, .int .i64 b2, .slice A2 n2 c2, .int .i64 b3, .slice A3 n3 c3] : List Value) = [.int .i64 t.taint.base, .slice B0 m0 d0, .int .i64 t.clear.base, .slice B1 m1 d1, .int .i64 t.raise.base, .slice B2 m2 d2, .int .i64 t.verify.base, .slice B3 m3 d3] := congrArg (fun v => v.cells.toList) hv
  simp only [List.cons.injEq, Value.int.injEq, Value.slice.injEq, true_and, and_true] at e
  obtain ⟨rfl, ⟨rfl, rfl, rfl⟩, rfl, ⟨rfl, rfl, rfl⟩, rfl, ⟨rfl, rfl, rfl⟩, rfl, rfl, rfl, rfl⟩ := e
  exact ⟨h0, h1, h2, h3⟩
variable (h : DrTm m p a len cap g w wr rs t [.int .i64 b0, .slice A0 n0 c0, .int .i64 b1, .slice A1 n1 c1, .int .i64 b2, .slice A2 n2 c2, .int .i64 b3, .slice A3 n3 c3])
include h
theorem lab0_of : RdLab wr (.agg #[.int .i64 b0, .slice A0 n0 c0]) t.taint := (hold_eq h.2).1.1.rd
theorem lab1_of : RdLab wr (.agg #[.int .i64 b1, .slice A1 n1 c1]) t.clear := (hold_eq h.2).2.1.1.rd
theorem lab2_of : RdLab wr (.agg #[.int .i64 b2, .slice A2 n2 c2]) t.raise := (hold_eq h.2).2.2.1.1.rd
theorem lab3_of : RdLab wr (.agg #[.int .i64 b3, .slice A3 n3 c3]) t.verify := (hold_eq h.2).2.2.2.1.rd
theorem DrTm.base0 (hp : p < w.heap.size) (x : Int) : DrTm m p a len cap g w (wr.setCell ⟨g, 0, none⟩ (.int .i64 x)) rs { t with taint := ⟨x, t.taint.parts⟩ } [.int .i64 x, .slice A0 n0 c0, .int .i64 b1, .slice A1 n1 c1, .int .i64 b2, .slice A2 n2 c2, .int .i64 b3, .slice A3 n3 c3] := by
  have hk := hold_eq h.2
  have hf := h.2.few
  obtain ⟨hd, hh⟩ := h
  obtain ⟨B0, m0, d0, B1, m1, d1, B2, m2, d2, B3, m3, d3, hv, ⟨h0, k0⟩, ⟨h1, k1⟩, ⟨h2, k2⟩, h3, k3⟩ := hh
  have e : ([.int .i64 b0, .slice A0 n0 c0, .int .i64 b1, .slice A1 n1 c1, .int .i64 b2, .slice A2 n2 c2, .int .i64 b3, .slice A3 n3 c3] : List Value) = [.int .i64 t.taint.base, .slice B0 m0 d0, .int .i64 t.clear.base, .slice B1 m1 d1, .int .i64 t.raise.base, .slice B2 m2 d2, .int .i64 t.verify.base, .slice B3 m3 d3] := congrArg (fun v => v.cells.toList) hv
  simp only [List.cons.injEq, Value.int.injEq, Value.slice.injEq, true_and, and_true] at e
  obtain ⟨rfl, ⟨rfl, rfl, rfl⟩, rfl, ⟨rfl, rfl, rfl⟩, rfl, ⟨rfl, rfl, rfl⟩, rfl, rfl, rfl, rfl⟩ := e
  refine ⟨hd.set hp (by simp) _, _, _, _, _, _, _, _, _, _, _, _, _, rfl, ⟨⟨?_, ?_⟩, k0⟩, ⟨h1.past, k1⟩, ⟨h2.past, k2⟩, h3.past, k3⟩
  · obtain ⟨A, n, c, hva, hn, hl, ho⟩ := (h0.past (i := 0) (x := .int .i64 x)).1
    cases hva
    exact ⟨_, _, _, rfl, hn, hl, ho⟩
  · exact h0.2
end

set_option maxHeartbeats 8000000 in
theorem draw_tm (p : Nat) (a : Option Addr) (len cap : Nat) (zs : List Int) (w : World) (hl : len ≤ 4096) (hc : IsCur p a len cap w) (hr : CurRow w p a len cap zs) :
    Calls Tryz.prog 78 #[.pointer (some ⟨p, 0, none⟩)] w (DrawnTm 8 p a len cap w) := by
  have hp := hc.lt
  go_enter Tryz.func78, Tryz.ntmps78
  go_wp2_with fail
  generalize hW : w.alloc (.cells #[.int .i64 0, .slice none 0 0, .int .i64 0, .slice none 0 0, .int .i64 0, .slice none 0 0, .int .i64 0, .slice none 0 0] 33) = x0
  obtain ⟨rb, hsz, bel⟩ := laid1 (ps := [.int .i64 0, .slice none 0 0, .int .i64 0, .slice none 0 0, .int .i64 0, .slice none 0 0, .int .i64 0, .slice none 0 0]) hW
  clear hW
  refine (spec_noterms _).mono ?_
  rintro e w1 ⟨v1, rfl, own, hb⟩
  have hf : FewTm 8 noTm := by simp [FewTm, noTm]
  generalize noTm = t at own hf
  obtain ⟨A0, n0, c0, A1, n1, c1, A2, n2, c2, A3, n3, c3, rfl, -, -, -, -, -⟩ := id own
  go_wp2_with fail
  generalize hW : w1.alloc (.cells #[.int .i64 t.taint.base, .slice A0 n0 c0, .int .i64 t.clear.base, .slice A1 n1 c1, .int .i64 t.raise.base, .slice A2 n2 c2, .int .i64 t.verify.base, .slice A3 n3 c3] 33) = w2
  obtain ⟨gb, hsz2, bel2⟩ := laid1 (ps := [.int .i64 t.taint.base, .slice A0 n0 c0, .int .i64 t.clear.base, .slice A1 n1 c1, .int .i64 t.raise.base, .slice A2 n2 c2, .int .i64 t.verify.base, .slice A3 n3 c3]) hW
  have HD : Hid (DrTm 8 p a len cap w1.heap.size w w2 [.int .i64 0, .slice none 0 0, .int .i64 0, .slice none 0 0, .int .i64 0, .slice none 0 0, .int .i64 0, .slice none 0 0] t [.int .i64 t.taint.base, .slice A0 n0 c0, .int .i64 t.clear.base, .slice A1 n1 c1, .int .i64 t.raise.base, .slice A2 n2 c2, .int .i64 t.verify.base, .slice A3 n3 c3]) := Lib.hid (by
    have b1 := below_more bel hb
    have b2 := below_more b1 bel2
    have hs := hb.size
    exact ⟨⟨hc.block (b2.block p hp), gb_of_below b2 _, by omega, (rb.below hb).below bel2, gb⟩, (own.hold (g := w1.heap.size) (by omega) (.inr (Nat.le_refl _)) hf).below bel2⟩)
  clear hW gb hsz2 bel2 own hf hb rb bel hsz
  obtain ⟨g, hg⟩ : ∃ g, g = w1.heap.size := ⟨_, rfl⟩
  rw [← hg] at HD ⊢
  clear hg
  go_wp2_with fail
  refine (once_any p a len cap zs 2 _ hl (by omega) (by omega) HD.out.1.cur (hr.kept HD.out.1.grown)).mono ?_
  rintro e wa ⟨b, rfl, hcq, hgq⟩
  have HD' := Lib.hid (HD.out.gbr hp hcq hgq)
  clear HD hcq hgq
  have HD := HD'
  clear HD' 
  go_upto_if 6 with fail
  go_cut [3] (fun s wx => s = .pointer (some ⟨g, 0, none⟩) ∧ ∃ (t : Tm) (A0 : Option Addr) (n0 c0 : Nat) (A1 : Option Addr) (n1 c1 : Nat) (A2 : Option Addr) (n2 c2 : Nat) (A3 : Option Addr) (n3 c3 : Nat), Hid (DrTm 8 p a len cap g w wx [.int .i64 0, .slice none 0 0, .int .i64 0, .slice none 0 0, .int .i64 0, .slice none 0 0, .int .i64 0, .slice none 0 0] t [.int .i64 t.taint.base, .slice A0 n0 c0, .int .i64 t.clear.base, .slice A1 n1 c1, .int .i64 t.raise.base, .slice A2 n2 c2, .int .i64 t.verify.base, .slice A3 n3 c3]))
  case first =>
    cases b
    · go_wp2
      go_meet
      case rel => exact ⟨rfl, _, _, _, _, _, _, _, _, _, _, _, _, _, HD⟩
    · skip
      go_wp2_with fail
      refine (draw_lab p a len cap zs _ hl HD.out.1.cur (hr.kept HD.out.1.grown)).mono ?_
      rintro e w3 ⟨v3, l, rfl, own, h8, hc3, hg3⟩
      have hs3 := hg3.size
      have OL : Hid (OffLab (w.heap.size + 1) g w3 v3 l) := Lib.hid (own.off (by have := HD.out.1.hg; have := HD.out.1.gb.lt; omega) (.inl (by have := HD.out.1.gb.lt; omega)))
      have HE := Lib.hid (HD.out.gbr hp hc3 hg3)
      obtain ⟨A5, n5, c5, rfl, -, -, -⟩ := own
      have gk0 := HE.out.1.gb.cell 0 rfl
      have gk1 := HE.out.1.gb.cell 1 rfl
      have gf0 := HE.out.1.gb.free 0
      have gf1 := HE.out.1.gb.free 1
      clear HD hc3 hg3
      go_wp2_with fail
      have HF := Lib.hid ((HE.out.put hp OL.out h8).1.base0 hp 0)
      generalize hW : ((w3.setCell ⟨g, 0, none⟩ (.int .i64 l.base)).setCell ⟨g, 1, none⟩ (.slice A5 n5 c5)).setCell ⟨g, 0, none⟩ (.int .i64 0) = w4 at HF
      have hWW : w4 = w4 := rfl
      refine (spec_fix _ ⟨0, l.parts⟩ _ (lab0_of HF.out)).mono ?_
      rintro e w5 ⟨v5, rfl, own5, hb5⟩
      have HG := Lib.hid (HF.out.below hp hb5)
      have R5 := Lib.hid own5.rd
      obtain ⟨A6, n6, c6, rfl, -, -, -⟩ := own5
      clear HE HF gk0 gk1 gf0 gf1 OL hb5
      have gk0 := HG.out.1.gb.cell 0 rfl
      have gk1 := HG.out.1.gb.cell 1 rfl
      go_wp2_with fail
      refine (spec_join _ _ ⟨0, []⟩ (fixL ⟨0, l.parts⟩) _ (own_nil 0 _ 0).rd R5.out).mono ?_
      rintro e w6 ⟨v6, rfl, own6, hb6⟩
      have HK := Lib.hid (HG.out.below hp hb6)
      have OL : Hid (OffLab (w.heap.size + 1) g w6 v6 (joinL ⟨0, []⟩ (fixL ⟨0, l.parts⟩)).1) := Lib.hid (own6.off (by have := HG.out.1.hg; have := HG.out.1.gb.lt; omega) (.inl HG.out.1.gb.lt))
      obtain ⟨A7, n7, c7, rfl, -, -, -⟩ := own6
      clear HG R5 hb6 gk0 gk1
      have gk0 := HK.out.1.gb.cell 0 rfl
      have gk1 := HK.out.1.gb.cell 1 rfl
      have gf0 := HK.out.1.gb.free 0
      have gf1 := HK.out.1.gb.free 1
      have HH := Lib.hid (HK.out.put hp OL.out (joinL_le _ _)).1
      clear HK OL
      go_wp2
      go_meet
      case rel => exact ⟨rfl, _, _, _, _, _, _, _, _, _, _, _, _, _, HH⟩
  clear HD
  obtain ⟨rfl, t', A0', n0', c0', A1', n1', c1', A2', n2', c2', A3', n3', c3', HD⟩ := hcut
  clear A0 n0 c0 A1 n1 c1 A2 n2 c2 A3 n3 c3 t
  obtain ⟨t, A0, n0, c0, A1, n1, c1, A2, n2, c2, A3, n3, c3, HD'⟩ : ∃ (t : Tm) (A0 : Option Addr) (n0 c0 : Nat) (A1 : Option Addr) (n1 c1 : Nat) (A2 : Option Addr) (n2 c2 : Nat) (A3 : Option Addr) (n3 c3 : Nat), Hid (DrTm 8 p a len cap g w wc [.int .i64 0, .slice none 0 0, .int .i64 0, .slice none 0 0, .int .i64 0, .slice none 0 0, .int .i64 0, .slice none 0 0] t [.int .i64 t.taint.base, .slice A0 n0 c0, .int .i64 t.clear.base, .slice A1 n1 c1, .int .i64 t.raise.base, .slice A2 n2 c2, .int .i64 t.verify.base, .slice A3 n3 c3]) := ⟨_, _, _, _, _, _, _, _, _, _, _, _, _, HD⟩
  clear HD t' A0' n0' c0' A1' n1' c1' A2' n2' c2' A3' n3' c3'
  have HD := HD'
  clear HD'
  obtain ⟨wac, hwc⟩ : ∃ wac, wac = wc := ⟨_, rfl⟩
  rw [← hwc] at HD ⊢
  clear hwc
  go_wp2_with fail
  refine (once_any p a len cap zs 3 _ hl (by omega) (by omega) HD.out.1.cur (hr.kept HD.out.1.grown)).mono ?_
  rintro e wb ⟨b, rfl, hcq, hgq⟩
  have HD' := Lib.hid (HD.out.gbr hp hcq hgq)
  clear HD hcq hgq
  have HD := HD'
  clear HD' 
  go_upto_if 22 with fail
  go_cut [3] (fun s wx => s = .pointer (some ⟨g, 0, none⟩) ∧ ∃ (t : Tm) (A0 : Option Addr) (n0 c0 : Nat) (A1 : Option Addr) (n1 c1 : Nat) (A2 : Option Addr) (n2 c2 : Nat) (A3 : Option Addr) (n3 c3 : Nat), Hid (DrTm 8 p a len cap g w wx [.int .i64 0, .slice none 0 0, .int .i64 0, .slice none 0 0, .int .i64 0, .slice none 0 0, .int .i64 0, .slice none 0 0] t [.int .i64 t.taint.base, .slice A0 n0 c0, .int .i64 t.clear.base, .slice A1 n1 c1, .int .i64 t.raise.base, .slice A2 n2 c2, .int .i64 t.verify.base, .slice A3 n3 c3]))
  case first =>
    cases b
    · go_wp2
      go_meet
      case rel => exact ⟨rfl, _, _, _, _, _, _, _, _, _, _, _, _, _, HD⟩
    · skip
      have HDk2 := HD.out.1.gb.cell 2 rfl
      have HDk3 := HD.out.1.gb.cell 3 rfl
      go_wp2
      refine wp_region_late 9 (fun w' => w'.cell? ⟨g, 2, none⟩ = some (.int .i64 t.clear.base) ∧ w'.cell? ⟨g, 3, none⟩ = some (.slice A1 n1 c1)) (by kernel_rfl) ?_
      obtain ⟨wx, hwx⟩ : ∃ wx, wx = wb.drew := ⟨_, rfl⟩
      have HD' : Hid (DrTm 8 p a len cap g w wx [.int .i64 0, .slice none 0 0, .int .i64 0, .slice none 0 0, .int .i64 0, .slice none 0 0, .int .i64 0, .slice none 0 0] t [.int .i64 t.taint.base, .slice A0 n0 c0, .int .i64 t.clear.base, .slice A1 n1 c1, .int .i64 t.raise.base, .slice A2 n2 c2, .int .i64 t.verify.base, .slice A3 n3 c3]) := Lib.hid (by rw [hwx]; exact HD.out.drew hp)
      rw [← hwx]
      clear HD HDk2 HDk3 hwx
      have HD := HD'
      clear HD'
      refine WpLate.take (i := 0) (v := .pointer (some ⟨g, 2, none⟩)) rfl (by kernel_rfl) (by kernel_rfl) (by kernel_rfl) (by kernel_rfl) (by kernel_rfl) (fun _ _ _ h => h) (Or.inl ⟨by rfl, fun w' hw => ?_⟩) ⟨HD.out.1.gb.cell 2 rfl, HD.out.1.gb.cell 3 rfl⟩ ?_
      · go_simp
      try simp only [Act.put]
      try simp only [List.setIfInBounds_toArray]
      try simp only [List.set_cons_succ, List.set_cons_zero]
      refine WpLate.take (i := 1) (v := .agg #[.int .i64 t.clear.base, .slice A1 n1 c1]) rfl (by kernel_rfl) (by kernel_rfl) (by kernel_rfl) (by kernel_rfl) (by kernel_rfl) (fun _ _ _ h => h) (Or.inl ⟨by rfl, fun w' hw => ?_⟩) ⟨HD.out.1.gb.cell 2 rfl, HD.out.1.gb.cell 3 rfl⟩ ?_
      · obtain ⟨hw1, hw2⟩ := hw; go_simp
      try simp only [Act.put]
      try simp only [List.setIfInBounds_toArray]
      try simp only [List.set_cons_succ, List.set_cons_zero]
      refine WpLate.take (i := 3) (v := .pointer (some ⟨p, 0, none⟩)) rfl (by kernel_rfl) (by kernel_rfl) (by kernel_rfl) (by kernel_rfl) (by kernel_rfl) (fun _ _ _ h => h) (Or.inl ⟨by rfl, fun w' hw => ?_⟩) ⟨HD.out.1.gb.cell 2 rfl, HD.out.1.gb.cell 3 rfl⟩ ?_
      · go_simp
      try simp only [Act.put]
      try simp only [List.setIfInBounds_toArray]
      try simp only [List.set_cons_succ, List.set_cons_zero]
      refine WpLate.take (i := 7) (v := .pointer (some ⟨p, 0, none⟩)) rfl (by kernel_rfl) (by kernel_rfl) (by kernel_rfl) (by kernel_rfl) (by kernel_rfl) (fun _ _ _ h => h) (Or.inl ⟨by rfl, fun w' hw => ?_⟩) ⟨HD.out.1.gb.cell 2 rfl, HD.out.1.gb.cell 3 rfl⟩ ?_
      · go_simp
      try simp only [Act.put]
      try simp only [List.setIfInBounds_toArray]
      try simp only [List.set_cons_succ, List.set_cons_zero]
      refine WpLate.each (rs := [2, 4]) (by kernel_rfl) (by simp) (LateEach.cons rfl (fun K hK => ?_) (LateEach.cons rfl (fun K hK => ?_) LateEach.nil))
      · skip
        go_simp
        have HB := Lib.hid (HD.out.alloc hp (.cells #[.int .i64 0, .int .i64 1, .int .i64 100, .int .i64 101] 2))
        have wxz := HD.out.1.gb.lt
        refine hK.out _ _ (fun _ => ⟨HB.out.1.gb.cell 2 rfl, HB.out.1.gb.cell 3 rfl⟩) ?_
        try simp only [Act.put]
        try simp only [List.setIfInBounds_toArray]
        try simp only [List.set_cons_succ, List.set_cons_zero]
        refine WpLate.each (rs := [4]) (by kernel_rfl) (by simp) (LateEach.cons rfl (fun K hK => ?_) LateEach.nil)
        go_simp
        refine (below_any p a len cap zs _ _ hl (by omega) (by omega) HB.out.cur (hr.kept HB.out.grown)).mono ?_
        rintro e w3 ⟨z, hz0, hz1, rfl, hc3, hg3⟩
        have HE : Hid (DrTm 8 p a len cap g w w3 [.int .i64 0, .slice none 0 0, .int .i64 0, .slice none 0 0, .int .i64 0, .slice none 0 0, .int .i64 0, .slice none 0 0] t [.int .i64 t.taint.base, .slice A0 n0 c0, .int .i64 t.clear.base, .slice A1 n1 c1, .int .i64 t.raise.base, .slice A2 n2 c2, .int .i64 t.verify.base, .slice A3 n3 c3]) := Lib.hid (HB.out.gbr hp hc3 hg3)
        obtain ⟨zk, rfl⟩ := Int.eq_ofNat_of_zero_le hz0
        obtain ⟨tv, harr⟩ : ∃ tv : Int, (#[Value.int .i64 0, .int .i64 1, .int .i64 100, .int .i64 101] : Array Value)[zk]? = some (.int .i64 tv) := pick4 (by omega)
        have HARR := Lib.hid harr
        clear harr
        try dsimp only
        refine hK.out _ _ (fun _ => ⟨HE.out.1.gb.cell 2 rfl, HE.out.1.gb.cell 3 rfl⟩) ?_
        try simp only [Act.put]
        try simp only [List.setIfInBounds_toArray]
        try simp only [List.set_cons_succ, List.set_cons_zero]
        have ht3 : w3.cell? ⟨wx.heap.size, zk, none⟩ = some (.int .i64 tv) := hg3.cell ((World.cell?_alloc_new _ _ _ _).trans HARR.out) (fun e => by have h1 := Option.some.inj e; have h2 := HD.out.1.cur.lt; simp only [] at h1; omega)
        refine WpLate.take (i := 5) (v := .pointer (some ⟨wx.heap.size, zk, none⟩)) rfl (by kernel_rfl) (by kernel_rfl) (by kernel_rfl) (by kernel_rfl) (by kernel_rfl) (fun _ _ _ h => h) (Or.inl ⟨by rfl, fun w' hw => ?_⟩) ⟨HE.out.1.gb.cell 2 rfl, HE.out.1.gb.cell 3 rfl⟩ ?_
        · go_simp
        try simp only [Act.put]
        try simp only [List.setIfInBounds_toArray]
        try simp only [List.set_cons_succ, List.set_cons_zero]
        refine WpLate.each (rs := [6, 8]) (by kernel_rfl) (by simp) (LateEach.cons rfl (fun K hK => ?_) (LateEach.cons rfl (fun K hK => ?_) LateEach.nil))
        · skip
          have htv := ht3
          go_simp
          refine hK.out _ _ (fun _ => ⟨HE.out.1.gb.cell 2 rfl, HE.out.1.gb.cell 3 rfl⟩) ?_
          try simp only [Act.put]
          try simp only [List.setIfInBounds_toArray]
          try simp only [List.set_cons_succ, List.set_cons_zero]
          refine WpLate.each (rs := [8]) (by kernel_rfl) (by simp) (LateEach.cons rfl (fun K hK => ?_) LateEach.nil)
          go_simp
          refine (below_any p a len cap zs _ _ hl (by omega) (by omega) HE.out.cur (hr.kept HE.out.grown)).mono ?_
          rintro e w4 ⟨u, hu0, hu1, rfl, hc4, hg4⟩
          have HF : Hid (DrTm 8 p a len cap g w w4 [.int .i64 0, .slice none 0 0, .int .i64 0, .slice none 0 0, .int .i64 0, .slice none 0 0, .int .i64 0, .slice none 0 0] t [.int .i64 t.taint.base, .slice A0 n0 c0, .int .i64 t.clear.base, .slice A1 n1 c1, .int .i64 t.raise.base, .slice A2 n2 c2, .int .i64 t.verify.base, .slice A3 n3 c3]) := Lib.hid (HE.out.gbr hp hc4 hg4)
          try dsimp only
          refine hK.out _ _ (fun _ => ⟨HF.out.1.gb.cell 2 rfl, HF.out.1.gb.cell 3 rfl⟩) ?_
          try simp only [Act.put]
          try simp only [List.setIfInBounds_toArray]
          try simp only [List.set_cons_succ, List.set_cons_zero]
          refine WpLate.each (rs := [9]) (by kernel_rfl) (by simp) (LateEach.cons rfl (fun K hK => ?_) LateEach.nil)
          go_simp
          refine (spec_with0 _ t.clear _ _ _ (lab1_of HF.out) HF.out.2.few.2.1).mono ?_
          rintro e w5 ⟨v5, rfl, own5, hb5⟩
          have HG : Hid (DrTm 8 p a len cap g w w5 [.int .i64 0, .slice none 0 0, .int .i64 0, .slice none 0 0, .int .i64 0, .slice none 0 0, .int .i64 0, .slice none 0 0] t [.int .i64 t.taint.base, .slice A0 n0 c0, .int .i64 t.clear.base, .slice A1 n1 c1, .int .i64 t.raise.base, .slice A2 n2 c2, .int .i64 t.verify.base, .slice A3 n3 c3]) := Lib.hid (HF.out.below hp hb5)
          have OL : Hid (OffLab (w.heap.size + 1) g w5 v5 (withL t.clear tv u).1) := Lib.hid (own5.off (by have := HF.out.1.hg; have := HF.out.1.gb.lt; omega) (.inl HF.out.1.gb.lt))
          obtain ⟨A5, n5, c5, rfl, -, -, -⟩ := own5
          have gk0 := HG.out.1.gb.cell 2 rfl
          have gk1 := HG.out.1.gb.cell 3 rfl
          have gf0 := HG.out.1.gb.free 2
          have gf1 := HG.out.1.gb.free 3
          have HH := Lib.hid (HG.out.put hp OL.out (withL_le _ _ _)).2.1
          clear HG OL hb5
          try dsimp only
          refine hK.out _ _ (fun h => absurd h (by omega)) ?_
          try simp only [Act.put]
          try simp only [List.setIfInBounds_toArray]
          try simp only [List.set_cons_succ, List.set_cons_zero]
          refine WpLate.takeLate (i := 10) (v := .tuple #[.agg #[.int .i64 (withL t.clear tv u).1.base, .slice A5 n5 c5], .bool (withL t.clear tv u).2]) rfl (by kernel_rfl) (by kernel_rfl) (by kernel_rfl) (by kernel_rfl) (by kernel_rfl) (fun _ _ _ h => h) (Or.inl ⟨by rfl, fun w' hw => ?_⟩) ?_
          · go_simp
          try simp only [Act.put]
          try simp only [List.setIfInBounds_toArray]
          try simp only [List.set_cons_succ, List.set_cons_zero]
          refine WpLate.takeLate (i := 11) (v := .agg #[.int .i64 (withL t.clear tv u).1.base, .slice A5 n5 c5]) rfl (by kernel_rfl) (by kernel_rfl) (by kernel_rfl) (by kernel_rfl) (by kernel_rfl) (fun _ _ _ h => h) (Or.inl ⟨by rfl, fun w' hw => ?_⟩) ?_
          · go_simp
          try simp only [Act.put]
          try simp only [List.setIfInBounds_toArray]
          try simp only [List.set_cons_succ, List.set_cons_zero]
          refine WpLate.takeLate (i := 12) (v := .bool (withL t.clear tv u).2) rfl (by kernel_rfl) (by kernel_rfl) (by kernel_rfl) (by kernel_rfl) (by kernel_rfl) (fun _ _ _ h => h) (Or.inl ⟨by rfl, fun w' hw => ?_⟩) ?_
          · go_simp
          try simp only [Act.put]
          try simp only [List.setIfInBounds_toArray]
          try simp only [List.set_cons_succ, List.set_cons_zero]
          refine WpLate.takeLate (i := 13) (v := .pointer (some ⟨g, 2, none⟩)) rfl (by kernel_rfl) (by kernel_rfl) (by kernel_rfl) (by kernel_rfl) (by kernel_rfl) (fun _ _ _ h => h) (Or.inl ⟨by rfl, fun w' hw => ?_⟩) ?_
          · go_simp
          try simp only [Act.put]
          try simp only [List.setIfInBounds_toArray]
          try simp only [List.set_cons_succ, List.set_cons_zero]
          refine WpLate.each (rs := [14]) (by kernel_rfl) (by simp) (LateEach.cons rfl (fun K hK => ?_) LateEach.nil)
          go_simp
          refine hK.out _ _ (fun h => absurd h (by omega)) ?_
          try simp only [Act.put]
          try simp only [List.setIfInBounds_toArray]
          try simp only [List.set_cons_succ, List.set_cons_zero]
          refine WpLate.done (by kernel_rfl) ?_ _
          go_wp2
          go_meet
          case rel => exact ⟨rfl, _, _, _, _, _, _, _, _, _, _, _, _, _, HH⟩
        · skip
          go_simp
          refine (below_any p a len cap zs _ _ hl (by omega) (by omega) HE.out.cur (hr.kept HE.out.grown)).mono ?_
          rintro e w4 ⟨u, hu0, hu1, rfl, hc4, hg4⟩
          have HF : Hid (DrTm 8 p a len cap g w w4 [.int .i64 0, .slice none 0 0, .int .i64 0, .slice none 0 0, .int .i64 0, .slice none 0 0, .int .i64 0, .slice none 0 0] t [.int .i64 t.taint.base, .slice A0 n0 c0, .int .i64 t.clear.base, .slice A1 n1 c1, .int .i64 t.raise.base, .slice A2 n2 c2, .int .i64 t.verify.base, .slice A3 n3 c3]) := Lib.hid (HE.out.gbr hp hc4 hg4)
          try dsimp only
          refine hK.out _ _ (fun _ => ⟨HF.out.1.gb.cell 2 rfl, HF.out.1.gb.cell 3 rfl⟩) ?_
          try simp only [Act.put]
          try simp only [List.setIfInBounds_toArray]
          try simp only [List.set_cons_succ, List.set_cons_zero]
          refine WpLate.each (rs := [6]) (by kernel_rfl) (by simp) (LateEach.cons rfl (fun K hK => ?_) LateEach.nil)
          have htv := hg4.cell (ht3) (fun e => by have h1 := Option.some.inj e; have h2 := HD.out.1.cur.lt; simp only [] at h1; omega)
          go_simp
          refine hK.out _ _ (fun _ => ⟨HF.out.1.gb.cell 2 rfl, HF.out.1.gb.cell 3 rfl⟩) ?_
          try simp only [Act.put]
          try simp only [List.setIfInBounds_toArray]
          try simp only [List.set_cons_succ, List.set_cons_zero]
          refine WpLate.each (rs := [9]) (by kernel_rfl) (by simp) (LateEach.cons rfl (fun K hK => ?_) LateEach.nil)
          go_simp
          refine (spec_with0 _ t.clear _ _ _ (lab1_of HF.out) HF.out.2.few.2.1).mono ?_
          rintro e w5 ⟨v5, rfl, own5, hb5⟩
          have HG : Hid (DrTm 8 p a len cap g w w5 [.int .i64 0, .slice none 0 0, .int .i64 0, .slice none 0 0, .int .i64 0, .slice none 0 0, .int .i64 0, .slice none 0 0] t [.int .i64 t.taint.base, .slice A0 n0 c0, .int .i64 t.clear.base, .slice A1 n1 c1, .int .i64 t.raise.base, .slice A2 n2 c2, .int .i64 t.verify.base, .slice A3 n3 c3]) := Lib.hid (HF.out.below hp hb5)
          have OL : Hid (OffLab (w.heap.size + 1) g w5 v5 (withL t.clear tv u).1) := Lib.hid (own5.off (by have := HF.out.1.hg; have := HF.out.1.gb.lt; omega) (.inl HF.out.1.gb.lt))
          obtain ⟨A5, n5, c5, rfl, -, -, -⟩ := own5
          have gk0 := HG.out.1.gb.cell 2 rfl
          have gk1 := HG.out.1.gb.cell 3 rfl
          have gf0 := HG.out.1.gb.free 2
          have gf1 := HG.out.1.gb.free 3
          have HH := Lib.hid (HG.out.put hp OL.out (withL_le _ _ _)).2.1
          clear HG OL hb5
          try dsimp only
          refine hK.out _ _ (fun h => absurd h (by omega)) ?_
          try simp only [Act.put]
          try simp only [List.setIfInBounds_toArray]
          try simp only [List.set_cons_succ, List.set_cons_zero]
          refine WpLate.takeLate (i := 10) (v := .tuple #[.agg #[.int .i64 (withL t.clear tv u).1.base, .slice A5 n5 c5], .bool (withL t.clear tv u).2]) rfl (by kernel_rfl) (by kernel_rfl) (by kernel_rfl) (by kernel_rfl) (by kernel_rfl) (fun _ _ _ h => h) (Or.inl ⟨by rfl, fun w' hw => ?_⟩) ?_
          · go_simp
          try simp only [Act.put]
          try simp only [List.setIfInBounds_toArray]
          try simp only [List.set_cons_succ, List.set_cons_zero]
          refine WpLate.takeLate (i := 11) (v := .agg #[.int .i64 (withL t.clear tv u).1.base, .slice A5 n5 c5]) rfl (by kernel_rfl) (by kernel_rfl) (by kernel_rfl) (by kernel_rfl) (by kernel_rfl) (fun _ _ _ h => h) (Or.inl ⟨by rfl, fun w' hw => ?_⟩) ?_
          · go_simp
          try simp only [Act.put]
          try simp only [List.setIfInBounds_toArray]
          try simp only [List.set_cons_succ, List.set_cons_zero]
          refine WpLate.takeLate (i := 12) (v := .bool (withL t.clear tv u).2) rfl (by kernel_rfl) (by kernel_rfl) (by kernel_rfl) (by kernel_rfl) (by kernel_rfl) (fun _ _ _ h => h) (Or.inl ⟨by rfl, fun w' hw => ?_⟩) ?_
          · go_simp
          try simp only [Act.put]
          try simp only [List.setIfInBounds_toArray]
          try simp only [List.set_cons_succ, List.set_cons_zero]
          refine WpLate.takeLate (i := 13) (v := .pointer (some ⟨g, 2, none⟩)) rfl (by kernel_rfl) (by kernel_rfl) (by kernel_rfl) (by kernel_rfl) (by kernel_rfl) (fun _ _ _ h => h) (Or.inl ⟨by rfl, fun w' hw => ?_⟩) ?_
          · go_simp
          try simp only [Act.put]
          try simp only [List.setIfInBounds_toArray]
          try simp only [List.set_cons_succ, List.set_cons_zero]
          refine WpLate.each (rs := [14]) (by kernel_rfl) (by simp) (LateEach.cons rfl (fun K hK => ?_) LateEach.nil)
          go_simp
          refine hK.out _ _ (fun h => absurd h (by omega)) ?_
          try simp only [Act.put]
          try simp only [List.setIfInBounds_toArray]
          try simp only [List.set_cons_succ, List.set_cons_zero]
          refine WpLate.done (by kernel_rfl) ?_ _
          go_wp2
          go_meet
          case rel => exact ⟨rfl, _, _, _, _, _, _, _, _, _, _, _, _, _, HH⟩
      · skip
        go_simp
        refine (below_any p a len cap zs _ _ hl (by omega) (by omega) HD.out.cur (hr.kept HD.out.grown)).mono ?_
        rintro e w3 ⟨z, hz0, hz1, rfl, hc3, hg3⟩
        have HE : Hid (DrTm 8 p a len cap g w w3 [.int .i64 0, .slice none 0 0, .int .i64 0, .slice none 0 0, .int .i64 0, .slice none 0 0, .int .i64 0, .slice none 0 0] t [.int .i64 t.taint.base, .slice A0 n0 c0, .int .i64 t.clear.base, .slice A1 n1 c1, .int .i64 t.raise.base, .slice A2 n2 c2, .int .i64 t.verify.base, .slice A3 n3 c3]) := Lib.hid (HD.out.gbr hp hc3 hg3)
        obtain ⟨zk, rfl⟩ := Int.eq_ofNat_of_zero_le hz0
        obtain ⟨tv, harr⟩ : ∃ tv : Int, (#[Value.int .i64 0, .int .i64 1, .int .i64 100, .int .i64 101] : Array Value)[zk]? = some (.int .i64 tv) := pick4 (by omega)
        have HARR := Lib.hid harr
        clear harr
        try dsimp only
        refine hK.out _ _ (fun _ => ⟨HE.out.1.gb.cell 2 rfl, HE.out.1.gb.cell 3 rfl⟩) ?_
        try simp only [Act.put]
        try simp only [List.setIfInBounds_toArray]
        try simp only [List.set_cons_succ, List.set_cons_zero]
        refine WpLate.each (rs := [2, 8]) (by kernel_rfl) (by simp) (LateEach.cons rfl (fun K hK => ?_) (LateEach.cons rfl (fun K hK => ?_) LateEach.nil))
        · skip
          go_simp
          have HX := Lib.hid (HE.out.alloc hp (.cells #[.int .i64 0, .int .i64 1, .int .i64 100, .int .i64 101] 2))
          have w3z := HE.out.1.gb.lt
          refine hK.out _ _ (fun _ => ⟨HX.out.1.gb.cell 2 rfl, HX.out.1.gb.cell 3 rfl⟩) ?_
          try simp only [Act.put]
          try simp only [List.setIfInBounds_toArray]
          try simp only [List.set_cons_succ, List.set_cons_zero]
          refine WpLate.take (i := 5) (v := .pointer (some ⟨w3.heap.size, zk, none⟩)) rfl (by kernel_rfl) (by kernel_rfl) (by kernel_rfl) (by kernel_rfl) (by kernel_rfl) (fun _ _ _ h => h) (Or.inl ⟨by rfl, fun w' hw => ?_⟩) ⟨HX.out.1.gb.cell 2 rfl, HX.out.1.gb.cell 3 rfl⟩ ?_
          · go_simp
          try simp only [Act.put]
          try simp only [List.setIfInBounds_toArray]
          try simp only [List.set_cons_succ, List.set_cons_zero]
          have ht3 : (w3.alloc (.cells #[.int .i64 0, .int .i64 1, .int .i64 100, .int .i64 101] 2)).cell? ⟨w3.heap.size, zk, none⟩ = some (.int .i64 tv) := (World.cell?_alloc_new _ _ _ _).trans HARR.out
          refine WpLate.each (rs := [6, 8]) (by kernel_rfl) (by simp) (LateEach.cons rfl (fun K hK => ?_) (LateEach.cons rfl (fun K hK => ?_) LateEach.nil))
          · skip
            have htv := ht3
            go_simp
            refine hK.out _ _ (fun _ => ⟨HX.out.1.gb.cell 2 rfl, HX.out.1.gb.cell 3 rfl⟩) ?_
            try simp only [Act.put]
            try simp only [List.setIfInBounds_toArray]
            try simp only [List.set_cons_succ, List.set_cons_zero]
            refine WpLate.each (rs := [8]) (by kernel_rfl) (by simp) (LateEach.cons rfl (fun K hK => ?_) LateEach.nil)
            go_simp
            refine (below_any p a len cap zs _ _ hl (by omega) (by omega) HX.out.cur (hr.kept HX.out.grown)).mono ?_
            rintro e w4 ⟨u, hu0, hu1, rfl, hc4, hg4⟩
            have HF : Hid (DrTm 8 p a len cap g w w4 [.int .i64 0, .slice none 0 0, .int .i64 0, .slice none 0 0, .int .i64 0, .slice none 0 0, .int .i64 0, .slice none 0 0] t [.int .i64 t.taint.base, .slice A0 n0 c0, .int .i64 t.clear.base, .slice A1 n1 c1, .int .i64 t.raise.base, .slice A2 n2 c2, .int .i64 t.verify.base, .slice A3 n3 c3]) := Lib.hid (HX.out.gbr hp hc4 hg4)
            try dsimp only
            refine hK.out _ _ (fun _ => ⟨HF.out.1.gb.cell 2 rfl, HF.out.1.gb.cell 3 rfl⟩) ?_
            try simp only [Act.put]
            try simp only [List.setIfInBounds_toArray]
            try simp only [List.set_cons_succ, List.set_cons_zero]
            refine WpLate.each (rs := [9]) (by kernel_rfl) (by simp) (LateEach.cons rfl (fun K hK => ?_) LateEach.nil)
            go_simp
            refine (spec_with0 _ t.clear _ _ _ (lab1_of HF.out) HF.out.2.few.2.1).mono ?_
            rintro e w5 ⟨v5, rfl, own5, hb5⟩
            have HG : Hid (DrTm 8 p a len cap g w w5 [.int .i64 0, .slice none 0 0, .int .i64 0, .slice none 0 0, .int .i64 0, .slice none 0 0, .int .i64 0, .slice none 0 0] t [.int .i64 t.taint.base, .slice A0 n0 c0, .int .i64 t.clear.base, .slice A1 n1 c1, .int .i64 t.raise.base, .slice A2 n2 c2, .int .i64 t.verify.base, .slice A3 n3 c3]) := Lib.hid (HF.out.below hp hb5)
            have OL : Hid (OffLab (w.heap.size + 1) g w5 v5 (withL t.clear tv u).1) := Lib.hid (own5.off (by have := HF.out.1.hg; have := HF.out.1.gb.lt; omega) (.inl HF.out.1.gb.lt))
            obtain ⟨A5, n5, c5, rfl, -, -, -⟩ := own5
            have gk0 := HG.out.1.gb.cell 2 rfl
            have gk1 := HG.out.1.gb.cell 3 rfl
            have gf0 := HG.out.1.gb.free 2
            have gf1 := HG.out.1.gb.free 3
            have HH := Lib.hid (HG.out.put hp OL.out (withL_le _ _ _)).2.1
            clear HG OL hb5
            try dsimp only
            refine hK.out _ _ (fun h => absurd h (by omega)) ?_
            try simp only [Act.put]
            try simp only [List.setIfInBounds_toArray]
            try simp only [List.set_cons_succ, List.set_cons_zero]
            refine WpLate.takeLate (i := 10) (v := .tuple #[.agg #[.int .i64 (withL t.clear tv u).1.base, .slice A5 n5 c5], .bool (withL t.clear tv u).2]) rfl (by kernel_rfl) (by kernel_rfl) (by kernel_rfl) (by kernel_rfl) (by kernel_rfl) (fun _ _ _ h => h) (Or.inl ⟨by rfl, fun w' hw => ?_⟩) ?_
            · go_simp
            try simp only [Act.put]
            try simp only [List.setIfInBounds_toArray]
            try simp only [List.set_cons_succ, List.set_cons_zero]
            refine WpLate.takeLate (i := 11) (v := .agg #[.int .i64 (withL t.clear tv u).1.base, .slice A5 n5 c5]) rfl (by kernel_rfl) (by kernel_rfl) (by kernel_rfl) (by kernel_rfl) (by kernel_rfl) (fun _ _ _ h => h) (Or.inl ⟨by rfl, fun w' hw => ?_⟩) ?_
            · go_simp
            try simp only [Act.put]
            try simp only [List.setIfInBounds_toArray]
            try simp only [List.set_cons_succ, List.set_cons_zero]
            refine WpLate.takeLate (i := 12) (v := .bool (withL t.clear tv u).2) rfl (by kernel_rfl) (by kernel_rfl) (by kernel_rfl) (by kernel_rfl) (by kernel_rfl) (fun _ _ _ h => h) (Or.inl ⟨by rfl, fun w' hw => ?_⟩) ?_
            · go_simp
            try simp only [Act.put]
            try simp only [List.setIfInBounds_toArray]
            try simp only [List.set_cons_succ, List.set_cons_zero]
            refine WpLate.takeLate (i := 13) (v := .pointer (some ⟨g, 2, none⟩)) rfl (by kernel_rfl) (by kernel_rfl) (by kernel_rfl) (by kernel_rfl) (by kernel_rfl) (fun _ _ _ h => h) (Or.inl ⟨by rfl, fun w' hw => ?_⟩) ?_
            · go_simp
            try simp only [Act.put]
            try simp only [List.setIfInBounds_toArray]
            try simp only [List.set_cons_succ, List.set_cons_zero]
            refine WpLate.each (rs := [14]) (by kernel_rfl) (by simp) (LateEach.cons rfl (fun K hK => ?_) LateEach.nil)
            go_simp
            refine hK.out _ _ (fun h => absurd h (by omega)) ?_
            try simp only [Act.put]
            try simp only [List.setIfInBounds_toArray]
            try simp only [List.set_cons_succ, List.set_cons_zero]
            refine WpLate.done (by kernel_rfl) ?_ _
            go_wp2
            go_meet
            case rel => exact ⟨rfl, _, _, _, _, _, _, _, _, _, _, _, _, _, HH⟩
          · skip
            go_simp
            refine (below_any p a len cap zs _ _ hl (by omega) (by omega) HX.out.cur (hr.kept HX.out.grown)).mono ?_
            rintro e w4 ⟨u, hu0, hu1, rfl, hc4, hg4⟩
            have HF : Hid (DrTm 8 p a len cap g w w4 [.int .i64 0, .slice none 0 0, .int .i64 0, .slice none 0 0, .int .i64 0, .slice none 0 0, .int .i64 0, .slice none 0 0] t [.int .i64 t.taint.base, .slice A0 n0 c0, .int .i64 t.clear.base, .slice A1 n1 c1, .int .i64 t.raise.base, .slice A2 n2 c2, .int .i64 t.verify.base, .slice A3 n3 c3]) := Lib.hid (HX.out.gbr hp hc4 hg4)
            try dsimp only
            refine hK.out _ _ (fun _ => ⟨HF.out.1.gb.cell 2 rfl, HF.out.1.gb.cell 3 rfl⟩) ?_
            try simp only [Act.put]
            try simp only [List.setIfInBounds_toArray]
            try simp only [List.set_cons_succ, List.set_cons_zero]
            refine WpLate.each (rs := [6]) (by kernel_rfl) (by simp) (LateEach.cons rfl (fun K hK => ?_) LateEach.nil)
            have htv := hg4.cell (ht3) (fun e => by have h1 := Option.some.inj e; have h2 := HE.out.1.cur.lt; simp only [] at h1; omega)
            go_simp
            refine hK.out _ _ (fun _ => ⟨HF.out.1.gb.cell 2 rfl, HF.out.1.gb.cell 3 rfl⟩) ?_
            try simp only [Act.put]
            try simp only [List.setIfInBounds_toArray]
            try simp only [List.set_cons_succ, List.set_cons_zero]
            refine WpLate.each (rs := [9]) (by kernel_rfl) (by simp) (LateEach.cons rfl (fun K hK => ?_) LateEach.nil)
            go_simp
            refine (spec_with0 _ t.clear _ _ _ (lab1_of HF.out) HF.out.2.few.2.1).mono ?_
            rintro e w5 ⟨v5, rfl, own5, hb5⟩
            have HG : Hid (DrTm 8 p a len cap g w w5 [.int .i64 0, .slice none 0 0, .int .i64 0, .slice none 0 0, .int .i64 0, .slice none 0 0, .int .i64 0, .slice none 0 0] t [.int .i64 t.taint.base, .slice A0 n0 c0, .int .i64 t.clear.base, .slice A1 n1 c1, .int .i64 t.raise.base, .slice A2 n2 c2, .int .i64 t.verify.base, .slice A3 n3 c3]) := Lib.hid (HF.out.below hp hb5)
            have OL : Hid (OffLab (w.heap.size + 1) g w5 v5 (withL t.clear tv u).1) := Lib.hid (own5.off (by have := HF.out.1.hg; have := HF.out.1.gb.lt; omega) (.inl HF.out.1.gb.lt))
            obtain ⟨A5, n5, c5, rfl, -, -, -⟩ := own5
            have gk0 := HG.out.1.gb.cell 2 rfl
            have gk1 := HG.out.1.gb.cell 3 rfl
            have gf0 := HG.out.1.gb.free 2
            have gf1 := HG.out.1.gb.free 3
            have HH := Lib.hid (HG.out.put hp OL.out (withL_le _ _ _)).2.1
            clear HG OL hb5
            try dsimp only
            refine hK.out _ _ (fun h => absurd h (by omega)) ?_
            try simp only [Act.put]
            try simp only [List.setIfInBounds_toArray]
            try simp only [List.set_cons_succ, List.set_cons_zero]
            refine WpLate.takeLate (i := 10) (v := .tuple #[.agg #[.int .i64 (withL t.clear tv u).1.base, .slice A5 n5 c5], .bool (withL t.clear tv u).2]) rfl (by kernel_rfl) (by kernel_rfl) (by kernel_rfl) (by kernel_rfl) (by kernel_rfl) (fun _ _ _ h => h) (Or.inl ⟨by rfl, fun w' hw => ?_⟩) ?_
            · go_simp
            try simp only [Act.put]
            try simp only [List.setIfInBounds_toArray]
            try simp only [List.set_cons_succ, List.set_cons_zero]
            refine WpLate.takeLate (i := 11) (v := .agg #[.int .i64 (withL t.clear tv u).1.base, .slice A5 n5 c5]) rfl (by kernel_rfl) (by kernel_rfl) (by kernel_rfl) (by kernel_rfl) (by kernel_rfl) (fun _ _ _ h => h) (Or.inl ⟨by rfl, fun w' hw => ?_⟩) ?_
            · go_simp
            try simp only [Act.put]
            try simp only [List.setIfInBounds_toArray]
            try simp only [List.set_cons_succ, List.set_cons_zero]
            refine WpLate.takeLate (i := 12) (v := .bool (withL t.clear tv u).2) rfl (by kernel_rfl) (by kernel_rfl) (by kernel_rfl) (by kernel_rfl) (by kernel_rfl) (fun _ _ _ h => h) (Or.inl ⟨by rfl, fun w' hw => ?_⟩) ?_
            · go_simp
            try simp only [Act.put]
            try simp only [List.setIfInBounds_toArray]
            try simp only [List.set_cons_succ, List.set_cons_zero]
            refine WpLate.takeLate (i := 13) (v := .pointer (some ⟨g, 2, none⟩)) rfl (by kernel_rfl) (by kernel_rfl) (by kernel_rfl) (by kernel_rfl) (by kernel_rfl) (fun _ _ _ h => h) (Or.inl ⟨by rfl, fun w' hw => ?_⟩) ?_
            · go_simp
            try simp only [Act.put]
            try simp only [List.setIfInBounds_toArray]
            try simp only [List.set_cons_succ, List.set_cons_zero]
            refine WpLate.each (rs := [14]) (by kernel_rfl) (by simp) (LateEach.cons rfl (fun K hK => ?_) LateEach.nil)
            go_simp
            refine hK.out _ _ (fun h => absurd h (by omega)) ?_
            try simp only [Act.put]
            try simp only [List.setIfInBounds_toArray]
            try simp only [List.set_cons_succ, List.set_cons_zero]
            refine WpLate.done (by kernel_rfl) ?_ _
            go_wp2
            go_meet
            case rel => exact ⟨rfl, _, _, _, _, _, _, _, _, _, _, _, _, _, HH⟩
        · skip
          go_simp
          refine (below_any p a len cap zs _ _ hl (by omega) (by omega) HE.out.cur (hr.kept HE.out.grown)).mono ?_
          rintro e w4 ⟨u, hu0, hu1, rfl, hc4, hg4⟩
          have HF : Hid (DrTm 8 p a len cap g w w4 [.int .i64 0, .slice none 0 0, .int .i64 0, .slice none 0 0, .int .i64 0, .slice none 0 0, .int .i64 0, .slice none 0 0] t [.int .i64 t.taint.base, .slice A0 n0 c0, .int .i64 t.clear.base, .slice A1 n1 c1, .int .i64 t.raise.base, .slice A2 n2 c2, .int .i64 t.verify.base, .slice A3 n3 c3]) := Lib.hid (HE.out.gbr hp hc4 hg4)
          try dsimp only
          refine hK.out _ _ (fun _ => ⟨HF.out.1.gb.cell 2 rfl, HF.out.1.gb.cell 3 rfl⟩) ?_
          try simp only [Act.put]
          try simp only [List.setIfInBounds_toArray]
          try simp only [List.set_cons_succ, List.set_cons_zero]
          refine WpLate.each (rs := [2]) (by kernel_rfl) (by simp) (LateEach.cons rfl (fun K hK => ?_) LateEach.nil)
          go_simp
          have HY := Lib.hid (HF.out.alloc hp (.cells #[.int .i64 0, .int .i64 1, .int .i64 100, .int .i64 101] 2))
          have w4z := HF.out.1.gb.lt
          refine hK.out _ _ (fun _ => ⟨HY.out.1.gb.cell 2 rfl, HY.out.1.gb.cell 3 rfl⟩) ?_
          try simp only [Act.put]
          try simp only [List.setIfInBounds_toArray]
          try simp only [List.set_cons_succ, List.set_cons_zero]
          refine WpLate.take (i := 5) (v := .pointer (some ⟨w4.heap.size, zk, none⟩)) rfl (by kernel_rfl) (by kernel_rfl) (by kernel_rfl) (by kernel_rfl) (by kernel_rfl) (fun _ _ _ h => h) (Or.inl ⟨by rfl, fun w' hw => ?_⟩) ⟨HY.out.1.gb.cell 2 rfl, HY.out.1.gb.cell 3 rfl⟩ ?_
          · go_simp
          try simp only [Act.put]
          try simp only [List.setIfInBounds_toArray]
          try simp only [List.set_cons_succ, List.set_cons_zero]
          have ht3 : (w4.alloc (.cells #[.int .i64 0, .int .i64 1, .int .i64 100, .int .i64 101] 2)).cell? ⟨w4.heap.size, zk, none⟩ = some (.int .i64 tv) := (World.cell?_alloc_new _ _ _ _).trans HARR.out
          refine WpLate.each (rs := [6]) (by kernel_rfl) (by simp) (LateEach.cons rfl (fun K hK => ?_) LateEach.nil)
          have htv := ht3
          go_simp
          refine hK.out _ _ (fun _ => ⟨HY.out.1.gb.cell 2 rfl, HY.out.1.gb.cell 3 rfl⟩) ?_
          try simp only [Act.put]
          try simp only [List.setIfInBounds_toArray]
          try simp only [List.set_cons_succ, List.set_cons_zero]
          refine WpLate.each (rs := [9]) (by kernel_rfl) (by simp) (LateEach.cons rfl (fun K hK => ?_) LateEach.nil)
          go_simp
          refine (spec_with0 _ t.clear _ _ _ (lab1_of HY.out) HY.out.2.few.2.1).mono ?_
          rintro e w5 ⟨v5, rfl, own5, hb5⟩
          have HG : Hid (DrTm 8 p a len cap g w w5 [.int .i64 0, .slice none 0 0, .int .i64 0, .slice none 0 0, .int .i64 0, .slice none 0 0, .int .i64 0, .slice none 0 0] t [.int .i64 t.taint.base, .slice A0 n0 c0, .int .i64 t.clear.base, .slice A1 n1 c1, .int .i64 t.raise.base, .slice A2 n2 c2, .int .i64 t.verify.base, .slice A3 n3 c3]) := Lib.hid (HY.out.below hp hb5)
          have OL : Hid (OffLab (w.heap.size + 1) g w5 v5 (withL t.clear tv u).1) := Lib.hid (own5.off (by have := HY.out.1.hg; have := HY.out.1.gb.lt; omega) (.inl HY.out.1.gb.lt))
          obtain ⟨A5, n5, c5, rfl, -, -, -⟩ := own5
          have gk0 := HG.out.1.gb.cell 2 rfl
          have gk1 := HG.out.1.gb.cell 3 rfl
          have gf0 := HG.out.1.gb.free 2
          have gf1 := HG.out.1.gb.free 3
          have HH := Lib.hid (HG.out.put hp OL.out (withL_le _ _ _)).2.1
          clear HG OL hb5
          try dsimp only
          refine hK.out _ _ (fun h => absurd h (by omega)) ?_
          try simp only [Act.put]
          try simp only [List.setIfInBounds_toArray]
          try simp only [List.set_cons_succ, List.set_cons_zero]
          refine WpLate.takeLate (i := 10) (v := .tuple #[.agg #[.int .i64 (withL t.clear tv u).1.base, .slice A5 n5 c5], .bool (withL t.clear tv u).2]) rfl (by kernel_rfl) (by kernel_rfl) (by kernel_rfl) (by kernel_rfl) (by kernel_rfl) (fun _ _ _ h => h) (Or.inl ⟨by rfl, fun w' hw => ?_⟩) ?_
          · go_simp
          try simp only [Act.put]
          try simp only [List.setIfInBounds_toArray]
          try simp only [List.set_cons_succ, List.set_cons_zero]
          refine WpLate.takeLate (i := 11) (v := .agg #[.int .i64 (withL t.clear tv u).1.base, .slice A5 n5 c5]) rfl (by kernel_rfl) (by kernel_rfl) (by kernel_rfl) (by kernel_rfl) (by kernel_rfl) (fun _ _ _ h => h) (Or.inl ⟨by rfl, fun w' hw => ?_⟩) ?_
          · go_simp
          try simp only [Act.put]
          try simp only [List.setIfInBounds_toArray]
          try simp only [List.set_cons_succ, List.set_cons_zero]
          refine WpLate.takeLate (i := 12) (v := .bool (withL t.clear tv u).2) rfl (by kernel_rfl) (by kernel_rfl) (by kernel_rfl) (by kernel_rfl) (by kernel_rfl) (fun _ _ _ h => h) (Or.inl ⟨by rfl, fun w' hw => ?_⟩) ?_
          · go_simp
          try simp only [Act.put]
          try simp only [List.setIfInBounds_toArray]
          try simp only [List.set_cons_succ, List.set_cons_zero]
          refine WpLate.takeLate (i := 13) (v := .pointer (some ⟨g, 2, none⟩)) rfl (by kernel_rfl) (by kernel_rfl) (by kernel_rfl) (by kernel_rfl) (by kernel_rfl) (fun _ _ _ h => h) (Or.inl ⟨by rfl, fun w' hw => ?_⟩) ?_
          · go_simp
          try simp only [Act.put]
          try simp only [List.setIfInBounds_toArray]
          try simp only [List.set_cons_succ, List.set_cons_zero]
          refine WpLate.each (rs := [14]) (by kernel_rfl) (by simp) (LateEach.cons rfl (fun K hK => ?_) LateEach.nil)
          go_simp
          refine hK.out _ _ (fun h => absurd h (by omega)) ?_
          try simp only [Act.put]
          try simp only [List.setIfInBounds_toArray]
          try simp only [List.set_cons_succ, List.set_cons_zero]
          refine WpLate.done (by kernel_rfl) ?_ _
          go_wp2
          go_meet
          case rel => exact ⟨rfl, _, _, _, _, _, _, _, _, _, _, _, _, _, HH⟩
  clear HD
  obtain ⟨rfl, t', A0', n0', c0', A1', n1', c1', A2', n2', c2', A3', n3', c3', HD⟩ := hcut
  clear A0 n0 c0 A1 n1 c1 A2 n2 c2 A3 n3 c3 t
  obtain ⟨t, A0, n0, c0, A1, n1, c1, A2, n2, c2, A3, n3, c3, HD'⟩ : ∃ (t : Tm) (A0 : Option Addr) (n0 c0 : Nat) (A1 : Option Addr) (n1 c1 : Nat) (A2 : Option Addr) (n2 c2 : Nat) (A3 : Option Addr) (n3 c3 : Nat), Hid (DrTm 8 p a len cap g w wc [.int .i64 0, .slice none 0 0, .int .i64 0, .slice none 0 0, .int .i64 0, .slice none 0 0, .int .i64 0, .slice none 0 0] t [.int .i64 t.taint.base, .slice A0 n0 c0, .int .i64 t.clear.base, .slice A1 n1 c1, .int .i64 t.raise.base, .slice A2 n2 c2, .int .i64 t.verify.base, .slice A3 n3 c3]) := ⟨_, _, _, _, _, _, _, _, _, _, _, _, _, HD⟩
  clear HD t' A0' n0' c0' A1' n1' c1' A2' n2' c2' A3' n3' c3'
  have HD := HD'
  clear HD'
  obtain ⟨wbc, hwc⟩ : ∃ wbc, wbc = wc := ⟨_, rfl⟩
  rw [← hwc] at HD ⊢
  clear hwc
  go_wp2_with fail
  refine (once_any p a len cap zs 3 _ hl (by omega) (by omega) HD.out.1.cur (hr.kept HD.out.1.grown)).mono ?_
  rintro e wd ⟨b, rfl, hcq, hgq⟩
  have HD' := Lib.hid (HD.out.gbr hp hcq hgq)
  clear HD hcq hgq
  have HD := HD'
  clear HD' 
  go_upto_if 38 with fail
  go_cut [3] (fun s wx => s = .pointer (some ⟨g, 0, none⟩) ∧ ∃ (t : Tm) (A0 : Option Addr) (n0 c0 : Nat) (A1 : Option Addr) (n1 c1 : Nat) (A2 : Option Addr) (n2 c2 : Nat) (A3 : Option Addr) (n3 c3 : Nat), Hid (DrTm 8 p a len cap g w wx [.int .i64 0, .slice none 0 0, .int .i64 0, .slice none 0 0, .int .i64 0, .slice none 0 0, .int .i64 0, .slice none 0 0] t [.int .i64 t.taint.base, .slice A0 n0 c0, .int .i64 t.clear.base, .slice A1 n1 c1, .int .i64 t.raise.base, .slice A2 n2 c2, .int .i64 t.verify.base, .slice A3 n3 c3]))
  case first =>
    cases b
    · go_wp2
      go_meet
      case rel => exact ⟨rfl, _, _, _, _, _, _, _, _, _, _, _, _, _, HD⟩
    · skip
      have HDk4 := HD.out.1.gb.cell 4 rfl
      have HDk5 := HD.out.1.gb.cell 5 rfl
      go_wp2
      refine wp_region_late 10 (fun w' => w'.cell? ⟨g, 4, none⟩ = some (.int .i64 t.raise.base) ∧ w'.cell? ⟨g, 5, none⟩ = some (.slice A2 n2 c2)) (by kernel_rfl) ?_
      obtain ⟨wx, hwx⟩ : ∃ wx, wx = wd.drew := ⟨_, rfl⟩
      have HD' : Hid (DrTm 8 p a len cap g w wx [.int .i64 0, .slice none 0 0, .int .i64 0, .slice none 0 0, .int .i64 0, .slice none 0 0, .int .i64 0, .slice none 0 0] t [.int .i64 t.taint.base, .slice A0 n0 c0, .int .i64 t.clear.base, .slice A1 n1 c1, .int .i64 t.raise.base, .slice A2 n2 c2, .int .i64 t.verify.base, .slice A3 n3 c3]) := Lib.hid (by rw [hwx]; exact HD.out.drew hp)
      rw [← hwx]
      clear HD HDk4 HDk5 hwx
      have HD := HD'
      clear HD'
      refine WpLate.take (i := 0) (v := .pointer (some ⟨g, 4, none⟩)) rfl (by kernel_rfl) (by kernel_rfl) (by kernel_rfl) (by kernel_rfl) (by kernel_rfl) (fun _ _ _ h => h) (Or.inl ⟨by rfl, fun w' hw => ?_⟩) ⟨HD.out.1.gb.cell 4 rfl, HD.out.1.gb.cell 5 rfl⟩ ?_
      · go_simp
      try simp only [Act.put]
      try simp only [List.setIfInBounds_toArray]
      try simp only [List.set_cons_succ, List.set_cons_zero]
      refine WpLate.take (i := 1) (v := .agg #[.int .i64 t.raise.base, .slice A2 n2 c2]) rfl (by kernel_rfl) (by kernel_rfl) (by kernel_rfl) (by kernel_rfl) (by kernel_rfl) (fun _ _ _ h => h) (Or.inl ⟨by rfl, fun w' hw => ?_⟩) ⟨HD.out.1.gb.cell 4 rfl, HD.out.1.gb.cell 5 rfl⟩ ?_
      · obtain ⟨hw1, hw2⟩ := hw; go_simp
      try simp only [Act.put]
      try simp only [List.setIfInBounds_toArray]
      try simp only [List.set_cons_succ, List.set_cons_zero]
      refine WpLate.take (i := 3) (v := .pointer (some ⟨p, 0, none⟩)) rfl (by kernel_rfl) (by kernel_rfl) (by kernel_rfl) (by kernel_rfl) (by kernel_rfl) (fun _ _ _ h => h) (Or.inl ⟨by rfl, fun w' hw => ?_⟩) ⟨HD.out.1.gb.cell 4 rfl, HD.out.1.gb.cell 5 rfl⟩ ?_
      · go_simp
      try simp only [Act.put]
      try simp only [List.setIfInBounds_toArray]
      try simp only [List.set_cons_succ, List.set_cons_zero]
      refine WpLate.take (i := 7) (v := .pointer (some ⟨p, 0, none⟩)) rfl (by kernel_rfl) (by kernel_rfl) (by kernel_rfl) (by kernel_rfl) (by kernel_rfl) (fun _ _ _ h => h) (Or.inl ⟨by rfl, fun w' hw => ?_⟩) ⟨HD.out.1.gb.cell 4 rfl, HD.out.1.gb.cell 5 rfl⟩ ?_
      · go_simp
      try simp only [Act.put]
      try simp only [List.setIfInBounds_toArray]
      try simp only [List.set_cons_succ, List.set_cons_zero]
      refine WpLate.each (rs := [2, 4]) (by kernel_rfl) (by simp) (LateEach.cons rfl (fun K hK => ?_) (LateEach.cons rfl (fun K hK => ?_) LateEach.nil))
      · skip
        go_simp
        have HB := Lib.hid (HD.out.alloc hp (.cells #[.int .i64 0, .int .i64 1, .int .i64 100, .int .i64 101] 2))
        have wxz := HD.out.1.gb.lt
        refine hK.out _ _ (fun _ => ⟨HB.out.1.gb.cell 4 rfl, HB.out.1.gb.cell 5 rfl⟩) ?_
        try simp only [Act.put]
        try simp only [List.setIfInBounds_toArray]
        try simp only [List.set_cons_succ, List.set_cons_zero]
        refine WpLate.each (rs := [4]) (by kernel_rfl) (by simp) (LateEach.cons rfl (fun K hK => ?_) LateEach.nil)
        go_simp
        refine (below_any p a len cap zs _ _ hl (by omega) (by omega) HB.out.cur (hr.kept HB.out.grown)).mono ?_
        rintro e w3 ⟨z, hz0, hz1, rfl, hc3, hg3⟩
        have HE : Hid (DrTm 8 p a len cap g w w3 [.int .i64 0, .slice none 0 0, .int .i64 0, .slice none 0 0, .int .i64 0, .slice none 0 0, .int .i64 0, .slice none 0 0] t [.int .i64 t.taint.base, .slice A0 n0 c0, .int .i64 t.clear.base, .slice A1 n1 c1, .int .i64 t.raise.base, .slice A2 n2 c2, .int .i64 t.verify.base, .slice A3 n3 c3]) := Lib.hid (HB.out.gbr hp hc3 hg3)
        obtain ⟨zk, rfl⟩ := Int.eq_ofNat_of_zero_le hz0
        obtain ⟨tv, harr⟩ : ∃ tv : Int, (#[Value.int .i64 0, .int .i64 1, .int .i64 100, .int .i64 101] : Array Value)[zk]? = some (.int .i64 tv) := pick4 (by omega)
        have HARR := Lib.hid harr
        clear harr
        try dsimp only
        refine hK.out _ _ (fun _ => ⟨HE.out.1.gb.cell 4 rfl, HE.out.1.gb.cell 5 rfl⟩) ?_
        try simp only [Act.put]
        try simp only [List.setIfInBounds_toArray]
        try simp only [List.set_cons_succ, List.set_cons_zero]
        have ht3 : w3.cell? ⟨wx.heap.size, zk, none⟩ = some (.int .i64 tv) := hg3.cell ((World.cell?_alloc_new _ _ _ _).trans HARR.out) (fun e => by have h1 := Option.some.inj e; have h2 := HD.out.1.cur.lt; simp only [] at h1; omega)
        refine WpLate.take (i := 5) (v := .pointer (some ⟨wx.heap.size, zk, none⟩)) rfl (by kernel_rfl) (by kernel_rfl) (by kernel_rfl) (by kernel_rfl) (by kernel_rfl) (fun _ _ _ h => h) (Or.inl ⟨by rfl, fun w' hw => ?_⟩) ⟨HE.out.1.gb.cell 4 rfl, HE.out.1.gb.cell 5 rfl⟩ ?_
        · go_simp
        try simp only [Act.put]
        try simp only [List.setIfInBounds_toArray]
        try simp only [List.set_cons_succ, List.set_cons_zero]
        refine WpLate.each (rs := [6, 8]) (by kernel_rfl) (by simp) (LateEach.cons rfl (fun K hK => ?_) (LateEach.cons rfl (fun K hK => ?_) LateEach.nil))
        · skip
          have htv := ht3
          go_simp
          refine hK.out _ _ (fun _ => ⟨HE.out.1.gb.cell 4 rfl, HE.out.1.gb.cell 5 rfl⟩) ?_
          try simp only [Act.put]
          try simp only [List.setIfInBounds_toArray]
          try simp only [List.set_cons_succ, List.set_cons_zero]
          refine WpLate.each (rs := [8]) (by kernel_rfl) (by simp) (LateEach.cons rfl (fun K hK => ?_) LateEach.nil)
          go_simp
          refine (below_any p a len cap zs _ _ hl (by omega) (by omega) HE.out.cur (hr.kept HE.out.grown)).mono ?_
          rintro e w4 ⟨u, hu0, hu1, rfl, hc4, hg4⟩
          have HF : Hid (DrTm 8 p a len cap g w w4 [.int .i64 0, .slice none 0 0, .int .i64 0, .slice none 0 0, .int .i64 0, .slice none 0 0, .int .i64 0, .slice none 0 0] t [.int .i64 t.taint.base, .slice A0 n0 c0, .int .i64 t.clear.base, .slice A1 n1 c1, .int .i64 t.raise.base, .slice A2 n2 c2, .int .i64 t.verify.base, .slice A3 n3 c3]) := Lib.hid (HE.out.gbr hp hc4 hg4)
          try dsimp only
          refine hK.out _ _ (fun _ => ⟨HF.out.1.gb.cell 4 rfl, HF.out.1.gb.cell 5 rfl⟩) ?_
          try simp only [Act.put]
          try simp only [List.setIfInBounds_toArray]
          try simp only [List.set_cons_succ, List.set_cons_zero]
          have eu : IntKind.i64.wrap (1 + u) = 1 + u := IntWalk.i64_in _ (by omega)
          refine WpLate.take (i := 9) (v := .int .i64 (1 + u)) rfl (by kernel_rfl) (by kernel_rfl) (by kernel_rfl) (by kernel_rfl) (by kernel_rfl) (fun _ _ _ h => h) (Or.inl ⟨by rfl, fun w' hw => ?_⟩) ⟨HF.out.1.gb.cell 4 rfl, HF.out.1.gb.cell 5 rfl⟩ ?_
          · go_simp
          try simp only [Act.put]
          try simp only [List.setIfInBounds_toArray]
          try simp only [List.set_cons_succ, List.set_cons_zero]
          refine WpLate.each (rs := [10]) (by kernel_rfl) (by simp) (LateEach.cons rfl (fun K hK => ?_) LateEach.nil)
          go_simp
          refine (spec_with0 _ t.raise _ _ _ (lab2_of HF.out) HF.out.2.few.2.2.1).mono ?_
          rintro e w5 ⟨v5, rfl, own5, hb5⟩
          have HG : Hid (DrTm 8 p a len cap g w w5 [.int .i64 0, .slice none 0 0, .int .i64 0, .slice none 0 0, .int .i64 0, .slice none 0 0, .int .i64 0, .slice none 0 0] t [.int .i64 t.taint.base, .slice A0 n0 c0, .int .i64 t.clear.base, .slice A1 n1 c1, .int .i64 t.raise.base, .slice A2 n2 c2, .int .i64 t.verify.base, .slice A3 n3 c3]) := Lib.hid (HF.out.below hp hb5)
          have OL : Hid (OffLab (w.heap.size + 1) g w5 v5 (withL t.raise tv (1 + u)).1) := Lib.hid (own5.off (by have := HF.out.1.hg; have := HF.out.1.gb.lt; omega) (.inl HF.out.1.gb.lt))
          obtain ⟨A5, n5, c5, rfl, -, -, -⟩ := own5
          have gk0 := HG.out.1.gb.cell 4 rfl
          have gk1 := HG.out.1.gb.cell 5 rfl
          have gf0 := HG.out.1.gb.free 4
          have gf1 := HG.out.1.gb.free 5
          have HH := Lib.hid (HG.out.put hp OL.out (withL_le _ _ _)).2.2.1
          clear HG OL hb5
          try dsimp only
          refine hK.out _ _ (fun h => absurd h (by omega)) ?_
          try simp only [Act.put]
          try simp only [List.setIfInBounds_toArray]
          try simp only [List.set_cons_succ, List.set_cons_zero]
          refine WpLate.takeLate (i := 11) (v := .tuple #[.agg #[.int .i64 (withL t.raise tv (1 + u)).1.base, .slice A5 n5 c5], .bool (withL t.raise tv (1 + u)).2]) rfl (by kernel_rfl) (by kernel_rfl) (by kernel_rfl) (by kernel_rfl) (by kernel_rfl) (fun _ _ _ h => h) (Or.inl ⟨by rfl, fun w' hw => ?_⟩) ?_
          · go_simp
          try simp only [Act.put]
          try simp only [List.setIfInBounds_toArray]
          try simp only [List.set_cons_succ, List.set_cons_zero]
          refine WpLate.takeLate (i := 12) (v := .agg #[.int .i64 (withL t.raise tv (1 + u)).1.base, .slice A5 n5 c5]) rfl (by kernel_rfl) (by kernel_rfl) (by kernel_rfl) (by kernel_rfl) (by kernel_rfl) (fun _ _ _ h => h) (Or.inl ⟨by rfl, fun w' hw => ?_⟩) ?_
          · go_simp
          try simp only [Act.put]
          try simp only [List.setIfInBounds_toArray]
          try simp only [List.set_cons_succ, List.set_cons_zero]
          refine WpLate.takeLate (i := 13) (v := .bool (withL t.raise tv (1 + u)).2) rfl (by kernel_rfl) (by kernel_rfl) (by kernel_rfl) (by kernel_rfl) (by kernel_rfl) (fun _ _ _ h => h) (Or.inl ⟨by rfl, fun w' hw => ?_⟩) ?_
          · go_simp
          try simp only [Act.put]
          try simp only [List.setIfInBounds_toArray]
          try simp only [List.set_cons_succ, List.set_cons_zero]
          refine WpLate.takeLate (i := 14) (v := .pointer (some ⟨g, 4, none⟩)) rfl (by kernel_rfl) (by kernel_rfl) (by kernel_rfl) (by kernel_rfl) (by kernel_rfl) (fun _ _ _ h => h) (Or.inl ⟨by rfl, fun w' hw => ?_⟩) ?_
          · go_simp
          try simp only [Act.put]
          try simp only [List.setIfInBounds_toArray]
          try simp only [List.set_cons_succ, List.set_cons_zero]
          refine WpLate.each (rs := [15]) (by kernel_rfl) (by simp) (LateEach.cons rfl (fun K hK => ?_) LateEach.nil)
          go_simp
          refine hK.out _ _ (fun h => absurd h (by omega)) ?_
          try simp only [Act.put]
          try simp only [List.setIfInBounds_toArray]
          try simp only [List.set_cons_succ, List.set_cons_zero]
          refine WpLate.done (by kernel_rfl) ?_ _
          go_wp2
          go_meet
          case rel => exact ⟨rfl, _, _, _, _, _, _, _, _, _, _, _, _, _, HH⟩
        · skip
          go_simp
          refine (below_any p a len cap zs _ _ hl (by omega) (by omega) HE.out.cur (hr.kept HE.out.grown)).mono ?_
          rintro e w4 ⟨u, hu0, hu1, rfl, hc4, hg4⟩
          have HF : Hid (DrTm 8 p a len cap g w w4 [.int .i64 0, .slice none 0 0, .int .i64 0, .slice none 0 0, .int .i64 0, .slice none 0 0, .int .i64 0, .slice none 0 0] t [.int .i64 t.taint.base, .slice A0 n0 c0, .int .i64 t.clear.base, .slice A1 n1 c1, .int .i64 t.raise.base, .slice A2 n2 c2, .int .i64 t.verify.base, .slice A3 n3 c3]) := Lib.hid (HE.out.gbr hp hc4 hg4)
          try dsimp only
          refine hK.out _ _ (fun _ => ⟨HF.out.1.gb.cell 4 rfl, HF.out.1.gb.cell 5 rfl⟩) ?_
          try simp only [Act.put]
          try simp only [List.setIfInBounds_toArray]
          try simp only [List.set_cons_succ, List.set_cons_zero]
          have eu : IntKind.i64.wrap (1 + u) = 1 + u := IntWalk.i64_in _ (by omega)
          refine WpLate.take (i := 9) (v := .int .i64 (1 + u)) rfl (by kernel_rfl) (by kernel_rfl) (by kernel_rfl) (by kernel_rfl) (by kernel_rfl) (fun _ _ _ h => h) (Or.inl ⟨by rfl, fun w' hw => ?_⟩) ⟨HF.out.1.gb.cell 4 rfl, HF.out.1.gb.cell 5 rfl⟩ ?_
          · go_simp
          try simp only [Act.put]
          try simp only [List.setIfInBounds_toArray]
          try simp only [List.set_cons_succ, List.set_cons_zero]
          refine WpLate.each (rs := [6]) (by kernel_rfl) (by simp) (LateEach.cons rfl (fun K hK => ?_) LateEach.nil)
          have htv := hg4.cell (ht3) (fun e => by have h1 := Option.some.inj e; have h2 := HD.out.1.cur.lt; simp only [] at h1; omega)
          go_simp
          refine hK.out _ _ (fun _ => ⟨HF.out.1.gb.cell 4 rfl, HF.out.1.gb.cell 5 rfl⟩) ?_
          try simp only [Act.put]
          try simp only [List.setIfInBounds_toArray]
          try simp only [List.set_cons_succ, List.set_cons_zero]
          refine WpLate.each (rs := [10]) (by kernel_rfl) (by simp) (LateEach.cons rfl (fun K hK => ?_) LateEach.nil)
          go_simp
          refine (spec_with0 _ t.raise _ _ _ (lab2_of HF.out) HF.out.2.few.2.2.1).mono ?_
          rintro e w5 ⟨v5, rfl, own5, hb5⟩
          have HG : Hid (DrTm 8 p a len cap g w w5 [.int .i64 0, .slice none 0 0, .int .i64 0, .slice none 0 0, .int .i64 0, .slice none 0 0, .int .i64 0, .slice none 0 0] t [.int .i64 t.taint.base, .slice A0 n0 c0, .int .i64 t.clear.base, .slice A1 n1 c1, .int .i64 t.raise.base, .slice A2 n2 c2, .int .i64 t.verify.base, .slice A3 n3 c3]) := Lib.hid (HF.out.below hp hb5)
          have OL : Hid (OffLab (w.heap.size + 1) g w5 v5 (withL t.raise tv (1 + u)).1) := Lib.hid (own5.off (by have := HF.out.1.hg; have := HF.out.1.gb.lt; omega) (.inl HF.out.1.gb.lt))
          obtain ⟨A5, n5, c5, rfl, -, -, -⟩ := own5
          have gk0 := HG.out.1.gb.cell 4 rfl
          have gk1 := HG.out.1.gb.cell 5 rfl
          have gf0 := HG.out.1.gb.free 4
          have gf1 := HG.out.1.gb.free 5
          have HH := Lib.hid (HG.out.put hp OL.out (withL_le _ _ _)).2.2.1
          clear HG OL hb5
          try dsimp only
          refine hK.out _ _ (fun h => absurd h (by omega)) ?_
          try simp only [Act.put]
          try simp only [List.setIfInBounds_toArray]
          try simp only [List.set_cons_succ, List.set_cons_zero]
          refine WpLate.takeLate (i := 11) (v := .tuple #[.agg #[.int .i64 (withL t.raise tv (1 + u)).1.base, .slice A5 n5 c5], .bool (withL t.raise tv (1 + u)).2]) rfl (by kernel_rfl) (by kernel_rfl) (by kernel_rfl) (by kernel_rfl) (by kernel_rfl) (fun _ _ _ h => h) (Or.inl ⟨by rfl, fun w' hw => ?_⟩) ?_
          · go_simp
          try simp only [Act.put]
          try simp only [List.setIfInBounds_toArray]
          try simp only [List.set_cons_succ, List.set_cons_zero]
          refine WpLate.takeLate (i := 12) (v := .agg #[.int .i64 (withL t.raise tv (1 + u)).1.base, .slice A5 n5 c5]) rfl (by kernel_rfl) (by kernel_rfl) (by kernel_rfl) (by kernel_rfl) (by kernel_rfl) (fun _ _ _ h => h) (Or.inl ⟨by rfl, fun w' hw => ?_⟩) ?_
          · go_simp
          try simp only [Act.put]
          try simp only [List.setIfInBounds_toArray]
          try simp only [List.set_cons_succ, List.set_cons_zero]
          refine WpLate.takeLate (i := 13) (v := .bool (withL t.raise tv (1 + u)).2) rfl (by kernel_rfl) (by kernel_rfl) (by kernel_rfl) (by kernel_rfl) (by kernel_rfl) (fun _ _ _ h => h) (Or.inl ⟨by rfl, fun w' hw => ?_⟩) ?_
          · go_simp
          try simp only [Act.put]
          try simp only [List.setIfInBounds_toArray]
          try simp only [List.set_cons_succ, List.set_cons_zero]
          refine WpLate.takeLate (i := 14) (v := .pointer (some ⟨g, 4, none⟩)) rfl (by kernel_rfl) (by kernel_rfl) (by kernel_rfl) (by kernel_rfl) (by kernel_rfl) (fun _ _ _ h => h) (Or.inl ⟨by rfl, fun w' hw => ?_⟩) ?_
          · go_simp
          try simp only [Act.put]
          try simp only [List.setIfInBounds_toArray]
          try simp only [List.set_cons_succ, List.set_cons_zero]
          refine WpLate.each (rs := [15]) (by kernel_rfl) (by simp) (LateEach.cons rfl (fun K hK => ?_) LateEach.nil)
          go_simp
          refine hK.out _ _ (fun h => absurd h (by omega)) ?_
          try simp only [Act.put]
          try simp only [List.setIfInBounds_toArray]
          try simp only [List.set_cons_succ, List.set_cons_zero]
          refine WpLate.done (by kernel_rfl) ?_ _
          go_wp2
          go_meet
          case rel => exact ⟨rfl, _, _, _, _, _, _, _, _, _, _, _, _, _, HH⟩
      · skip
        go_simp
        refine (below_any p a len cap zs _ _ hl (by omega) (by omega) HD.out.cur (hr.kept HD.out.grown)).mono ?_
        rintro e w3 ⟨z, hz0, hz1, rfl, hc3, hg3⟩
        have HE : Hid (DrTm 8 p a len cap g w w3 [.int .i64 0, .slice none 0 0, .int .i64 0, .slice none 0 0, .int .i64 0, .slice none 0 0, .int .i64 0, .slice none 0 0] t [.int .i64 t.taint.base, .slice A0 n0 c0, .int .i64 t.clear.base, .slice A1 n1 c1, .int .i64 t.raise.base, .slice A2 n2 c2, .int .i64 t.verify.base, .slice A3 n3 c3]) := Lib.hid (HD.out.gbr hp hc3 hg3)
        obtain ⟨zk, rfl⟩ := Int.eq_ofNat_of_zero_le hz0
        obtain ⟨tv, harr⟩ : ∃ tv : Int, (#[Value.int .i64 0, .int .i64 1, .int .i64 100, .int .i64 101] : Array Value)[zk]? = some (.int .i64 tv) := pick4 (by omega)
        have HARR := Lib.hid harr
        clear harr
        try dsimp only
        refine hK.out _ _ (fun _ => ⟨HE.out.1.gb.cell 4 rfl, HE.out.1.gb.cell 5 rfl⟩) ?_
        try simp only [Act.put]
        try simp only [List.setIfInBounds_toArray]
        try simp only [List.set_cons_succ, List.set_cons_zero]
        refine WpLate.each (rs := [2, 8]) (by kernel_rfl) (by simp) (LateEach.cons rfl (fun K hK => ?_) (LateEach.cons rfl (fun K hK => ?_) LateEach.nil))
        · skip
          go_simp
          have HX := Lib.hid (HE.out.alloc hp (.cells #[.int .i64 0, .int .i64 1, .int .i64 100, .int .i64 101] 2))
          have w3z := HE.out.1.gb.lt
          refine hK.out _ _ (fun _ => ⟨HX.out.1.gb.cell 4 rfl, HX.out.1.gb.cell 5 rfl⟩) ?_
          try simp only [Act.put]
          try simp only [List.setIfInBounds_toArray]
          try simp only [List.set_cons_succ, List.set_cons_zero]
          refine WpLate.take (i := 5) (v := .pointer (some ⟨w3.heap.size, zk, none⟩)) rfl (by kernel_rfl) (by kernel_rfl) (by kernel_rfl) (by kernel_rfl) (by kernel_rfl) (fun _ _ _ h => h) (Or.inl ⟨by rfl, fun w' hw => ?_⟩) ⟨HX.out.1.gb.cell 4 rfl, HX.out.1.gb.cell 5 rfl⟩ ?_
          · go_simp
          try simp only [Act.put]
          try simp only [List.setIfInBounds_toArray]
          try simp only [List.set_cons_succ, List.set_cons_zero]
          have ht3 : (w3.alloc (.cells #[.int .i64 0, .int .i64 1, .int .i64 100, .int .i64 101] 2)).cell? ⟨w3.heap.size, zk, none⟩ = some (.int .i64 tv) := (World.cell?_alloc_new _ _ _ _).trans HARR.out
          refine WpLate.each (rs := [6, 8]) (by kernel_rfl) (by simp) (LateEach.cons rfl (fun K hK => ?_) (LateEach.cons rfl (fun K hK => ?_) LateEach.nil))
          · skip
            have htv := ht3
            go_simp
            refine hK.out _ _ (fun _ => ⟨HX.out.1.gb.cell 4 rfl, HX.out.1.gb.cell 5 rfl⟩) ?_
            try simp only [Act.put]
            try simp only [List.setIfInBounds_toArray]
            try simp only [List.set_cons_succ, List.set_cons_zero]
            refine WpLate.each (rs := [8]) (by kernel_rfl) (by simp) (LateEach.cons rfl (fun K hK => ?_) LateEach.nil)
            go_simp
            refine (below_any p a len cap zs _ _ hl (by omega) (by omega) HX.out.cur (hr.kept HX.out.grown)).mono ?_
            rintro e w4 ⟨u, hu0, hu1, rfl, hc4, hg4⟩
            have HF : Hid (DrTm 8 p a len cap g w w4 [.int .i64 0, .slice none 0 0, .int .i64 0, .slice none 0 0, .int .i64 0, .slice none 0 0, .int .i64 0, .slice none 0 0] t [.int .i64 t.taint.base, .slice A0 n0 c0, .int .i64 t.clear.base, .slice A1 n1 c1, .int .i64 t.raise.base, .slice A2 n2 c2, .int .i64 t.verify.base, .slice A3 n3 c3]) := Lib.hid (HX.out.gbr hp hc4 hg4)
            try dsimp only
            refine hK.out _ _ (fun _ => ⟨HF.out.1.gb.cell 4 rfl, HF.out.1.gb.cell 5 rfl⟩) ?_
            try simp only [Act.put]
            try simp only [List.setIfInBounds_toArray]
            try simp only [List.set_cons_succ, List.set_cons_zero]
            have eu : IntKind.i64.wrap (1 + u) = 1 + u := IntWalk.i64_in _ (by omega)
            refine WpLate.take (i := 9) (v := .int .i64 (1 + u)) rfl (by kernel_rfl) (by kernel_rfl) (by kernel_rfl) (by kernel_rfl) (by kernel_rfl) (fun _ _ _ h => h) (Or.inl ⟨by rfl, fun w' hw => ?_⟩) ⟨HF.out.1.gb.cell 4 rfl, HF.out.1.gb.cell 5 rfl⟩ ?_
            · go_simp
            try simp only [Act.put]
            try simp only [List.setIfInBounds_toArray]
            try simp only [List.set_cons_succ, List.set_cons_zero]
            refine WpLate.each (rs := [10]) (by kernel_rfl) (by simp) (LateEach.cons rfl (fun K hK => ?_) LateEach.nil)
            go_simp
            refine (spec_with0 _ t.raise _ _ _ (lab2_of HF.out) HF.out.2.few.2.2.1).mono ?_
            rintro e w5 ⟨v5, rfl, own5, hb5⟩
            have HG : Hid (DrTm 8 p a len cap g w w5 [.int .i64 0, .slice none 0 0, .int .i64 0, .slice none 0 0, .int .i64 0, .slice none 0 0, .int .i64 0, .slice none 0 0] t [.int .i64 t.taint.base, .slice A0 n0 c0, .int .i64 t.clear.base, .slice A1 n1 c1, .int .i64 t.raise.base, .slice A2 n2 c2, .int .i64 t.verify.base, .slice A3 n3 c3]) := Lib.hid (HF.out.below hp hb5)
            have OL : Hid (OffLab (w.heap.size + 1) g w5 v5 (withL t.raise tv (1 + u)).1) := Lib.hid (own5.off (by have := HF.out.1.hg; have := HF.out.1.gb.lt; omega) (.inl HF.out.1.gb.lt))
            obtain ⟨A5, n5, c5, rfl, -, -, -⟩ := own5
            have gk0 := HG.out.1.gb.cell 4 rfl
            have gk1 := HG.out.1.gb.cell 5 rfl
            have gf0 := HG.out.1.gb.free 4
            have gf1 := HG.out.1.gb.free 5
            have HH := Lib.hid (HG.out.put hp OL.out (withL_le _ _ _)).2.2.1
            clear HG OL hb5
            try dsimp only
            refine hK.out _ _ (fun h => absurd h (by omega)) ?_
            try simp only [Act.put]
            try simp only [List.setIfInBounds_toArray]
            try simp only [List.set_cons_succ, List.set_cons_zero]
            refine WpLate.takeLate (i := 11) (v := .tuple #[.agg #[.int .i64 (withL t.raise tv (1 + u)).1.base, .slice A5 n5 c5], .bool (withL t.raise tv (1 + u)).2]) rfl (by kernel_rfl) (by kernel_rfl) (by kernel_rfl) (by kernel_rfl) (by kernel_rfl) (fun _ _ _ h => h) (Or.inl ⟨by rfl, fun w' hw => ?_⟩) ?_
            · go_simp
            try simp only [Act.put]
            try simp only [List.setIfInBounds_toArray]
            try simp only [List.set_cons_succ, List.set_cons_zero]
            refine WpLate.takeLate (i := 12) (v := .agg #[.int .i64 (withL t.raise tv (1 + u)).1.base, .slice A5 n5 c5]) rfl (by kernel_rfl) (by kernel_rfl) (by kernel_rfl) (by kernel_rfl) (by kernel_rfl) (fun _ _ _ h => h) (Or.inl ⟨by rfl, fun w' hw => ?_⟩) ?_
            · go_simp
            try simp only [Act.put]
            try simp only [List.setIfInBounds_toArray]
            try simp only [List.set_cons_succ, List.set_cons_zero]
            refine WpLate.takeLate (i := 13) (v := .bool (withL t.raise tv (1 + u)).2) rfl (by kernel_rfl) (by kernel_rfl) (by kernel_rfl) (by kernel_rfl) (by kernel_rfl) (fun _ _ _ h => h) (Or.inl ⟨by rfl, fun w' hw => ?_⟩) ?_
            · go_simp
            try simp only [Act.put]
            try simp only [List.setIfInBounds_toArray]
            try simp only [List.set_cons_succ, List.set_cons_zero]
            refine WpLate.takeLate (i := 14) (v := .pointer (some ⟨g, 4, none⟩)) rfl (by kernel_rfl) (by kernel_rfl) (by kernel_rfl) (by kernel_rfl) (by kernel_rfl) (fun _ _ _ h => h) (Or.inl ⟨by rfl, fun w' hw => ?_⟩) ?_
            · go_simp
            try simp only [Act.put]
            try simp only [List.setIfInBounds_toArray]
            try simp only [List.set_cons_succ, List.set_cons_zero]
            refine WpLate.each (rs := [15]) (by kernel_rfl) (by simp) (LateEach.cons rfl (fun K hK => ?_) LateEach.nil)
            go_simp
            refine hK.out _ _ (fun h => absurd h (by omega)) ?_
            try simp only [Act.put]
            try simp only [List.setIfInBounds_toArray]
            try simp only [List.set_cons_succ, List.set_cons_zero]
            refine WpLate.done (by kernel_rfl) ?_ _
            go_wp2
            go_meet
            case rel => exact ⟨rfl, _, _, _, _, _, _, _, _, _, _, _, _, _, HH⟩
          · skip
            go_simp
            refine (below_any p a len cap zs _ _ hl (by omega) (by omega) HX.out.cur (hr.kept HX.out.grown)).mono ?_
            rintro e w4 ⟨u, hu0, hu1, rfl, hc4, hg4⟩
            have HF : Hid (DrTm 8 p a len cap g w w4 [.int .i64 0, .slice none 0 0, .int .i64 0, .slice none 0 0, .int .i64 0, .slice none 0 0, .int .i64 0, .slice none 0 0] t [.int .i64 t.taint.base, .slice A0 n0 c0, .int .i64 t.clear.base, .slice A1 n1 c1, .int .i64 t.raise.base, .slice A2 n2 c2, .int .i64 t.verify.base, .slice A3 n3 c3]) := Lib.hid (HX.out.gbr hp hc4 hg4)
            try dsimp only
            refine hK.out _ _ (fun _ => ⟨HF.out.1.gb.cell 4 rfl, HF.out.1.gb.cell 5 rfl⟩) ?_
            try simp only [Act.put]
            try simp only [List.setIfInBounds_toArray]
            try simp only [List.set_cons_succ, List.set_cons_zero]
            have eu : IntKind.i64.wrap (1 + u) = 1 + u := IntWalk.i64_in _ (by omega)
            refine WpLate.take (i := 9) (v := .int .i64 (1 + u)) rfl (by kernel_rfl) (by kernel_rfl) (by kernel_rfl) (by kernel_rfl) (by kernel_rfl) (fun _ _ _ h => h) (Or.inl ⟨by rfl, fun w' hw => ?_⟩) ⟨HF.out.1.gb.cell 4 rfl, HF.out.1.gb.cell 5 rfl⟩ ?_
            · go_simp
            try simp only [Act.put]
            try simp only [List.setIfInBounds_toArray]
            try simp only [List.set_cons_succ, List.set_cons_zero]
            refine WpLate.each (rs := [6]) (by kernel_rfl) (by simp) (LateEach.cons rfl (fun K hK => ?_) LateEach.nil)
            have htv := hg4.cell (ht3) (fun e => by have h1 := Option.some.inj e; have h2 := HE.out.1.cur.lt; simp only [] at h1; omega)
            go_simp
            refine hK.out _ _ (fun _ => ⟨HF.out.1.gb.cell 4 rfl, HF.out.1.gb.cell 5 rfl⟩) ?_
            try simp only [Act.put]
            try simp only [List.setIfInBounds_toArray]
            try simp only [List.set_cons_succ, List.set_cons_zero]
            refine WpLate.each (rs := [10]) (by kernel_rfl) (by simp) (LateEach.cons rfl (fun K hK => ?_) LateEach.nil)
            go_simp
            refine (spec_with0 _ t.raise _ _ _ (lab2_of HF.out) HF.out.2.few.2.2.1).mono ?_
            rintro e w5 ⟨v5, rfl, own5, hb5⟩
            have HG : Hid (DrTm 8 p a len cap g w w5 [.int .i64 0, .slice none 0 0, .int .i64 0, .slice none 0 0, .int .i64 0, .slice none 0 0, .int .i64 0, .slice none 0 0] t [.int .i64 t.taint.base, .slice A0 n0 c0, .int .i64 t.clear.base, .slice A1 n1 c1, .int .i64 t.raise.base, .slice A2 n2 c2, .int .i64 t.verify.base, .slice A3 n3 c3]) := Lib.hid (HF.out.below hp hb5)
            have OL : Hid (OffLab (w.heap.size + 1) g w5 v5 (withL t.raise tv (1 + u)).1) := Lib.hid (own5.off (by have := HF.out.1.hg; have := HF.out.1.gb.lt; omega) (.inl HF.out.1.gb.lt))
            obtain ⟨A5, n5, c5, rfl, -, -, -⟩ := own5
            have gk0 := HG.out.1.gb.cell 4 rfl
            have gk1 := HG.out.1.gb.cell 5 rfl
            have gf0 := HG.out.1.gb.free 4
            have gf1 := HG.out.1.gb.free 5
            have HH := Lib.hid (HG.out.put hp OL.out (withL_le _ _ _)).2.2.1
            clear HG OL hb5
            try dsimp only
            refine hK.out _ _ (fun h => absurd h (by omega)) ?_
            try simp only [Act.put]
            try simp only [List.setIfInBounds_toArray]
            try simp only [List.set_cons_succ, List.set_cons_zero]
            refine WpLate.takeLate (i := 11) (v := .tuple #[.agg #[.int .i64 (withL t.raise tv (1 + u)).1.base, .slice A5 n5 c5], .bool (withL t.raise tv (1 + u)).2]) rfl (by kernel_rfl) (by kernel_rfl) (by kernel_rfl) (by kernel_rfl) (by kernel_rfl) (fun _ _ _ h => h) (Or.inl ⟨by rfl, fun w' hw => ?_⟩) ?_
            · go_simp
            try simp only [Act.put]
            try simp only [List.setIfInBounds_toArray]
            try simp only [List.set_cons_succ, List.set_cons_zero]
            refine WpLate.takeLate (i := 12) (v := .agg #[.int .i64 (withL t.raise tv (1 + u)).1.base, .slice A5 n5 c5]) rfl (by kernel_rfl) (by kernel_rfl) (by kernel_rfl) (by kernel_rfl) (by kernel_rfl) (fun _ _ _ h => h) (Or.inl ⟨by rfl, fun w' hw => ?_⟩) ?_
            · go_simp
            try simp only [Act.put]
            try simp only [List.setIfInBounds_toArray]
            try simp only [List.set_cons_succ, List.set_cons_zero]
            refine WpLate.takeLate (i := 13) (v := .bool (withL t.raise tv (1 + u)).2) rfl (by kernel_rfl) (by kernel_rfl) (by kernel_rfl) (by kernel_rfl) (by kernel_rfl) (fun _ _ _ h => h) (Or.inl ⟨by rfl, fun w' hw => ?_⟩) ?_
            · go_simp
            try simp only [Act.put]
            try simp only [List.setIfInBounds_toArray]
            try simp only [List.set_cons_succ, List.set_cons_zero]
            refine WpLate.takeLate (i := 14) (v := .pointer (some ⟨g, 4, none⟩)) rfl (by kernel_rfl) (by kernel_rfl) (by kernel_rfl) (by kernel_rfl) (by kernel_rfl) (fun _ _ _ h => h) (Or.inl ⟨by rfl, fun w' hw => ?_⟩) ?_
            · go_simp
            try simp only [Act.put]
            try simp only [List.setIfInBounds_toArray]
            try simp only [List.set_cons_succ, List.set_cons_zero]
            refine WpLate.each (rs := [15]) (by kernel_rfl) (by simp) (LateEach.cons rfl (fun K hK => ?_) LateEach.nil)
            go_simp
            refine hK.out _ _ (fun h => absurd h (by omega)) ?_
            try simp only [Act.put]
            try simp only [List.setIfInBounds_toArray]
            try simp only [List.set_cons_succ, List.set_cons_zero]
            refine WpLate.done (by kernel_rfl) ?_ _
            go_wp2
            go_meet
            case rel => exact ⟨rfl, _, _, _, _, _, _, _, _, _, _, _, _, _, HH⟩
        · skip
          go_simp
          refine (below_any p a len cap zs _ _ hl (by omega) (by omega) HE.out.cur (hr.kept HE.out.grown)).mono ?_
          rintro e w4 ⟨u, hu0, hu1, rfl, hc4, hg4⟩
          have HF : Hid (DrTm 8 p a len cap g w w4 [.int .i64 0, .slice none 0 0, .int .i64 0, .slice none 0 0, .int .i64 0, .slice none 0 0, .int .i64 0, .slice none 0 0] t [.int .i64 t.taint.base, .slice A0 n0 c0, .int .i64 t.clear.base, .slice A1 n1 c1, .int .i64 t.raise.base, .slice A2 n2 c2, .int .i64 t.verify.base, .slice A3 n3 c3]) := Lib.hid (HE.out.gbr hp hc4 hg4)
          try dsimp only
          refine hK.out _ _ (fun _ => ⟨HF.out.1.gb.cell 4 rfl, HF.out.1.gb.cell 5 rfl⟩) ?_
          try simp only [Act.put]
          try simp only [List.setIfInBounds_toArray]
          try simp only [List.set_cons_succ, List.set_cons_zero]
          have eu : IntKind.i64.wrap (1 + u) = 1 + u := IntWalk.i64_in _ (by omega)
          refine WpLate.take (i := 9) (v := .int .i64 (1 + u)) rfl (by kernel_rfl) (by kernel_rfl) (by kernel_rfl) (by kernel_rfl) (by kernel_rfl) (fun _ _ _ h => h) (Or.inl ⟨by rfl, fun w' hw => ?_⟩) ⟨HF.out.1.gb.cell 4 rfl, HF.out.1.gb.cell 5 rfl⟩ ?_
          · go_simp
          try simp only [Act.put]
          try simp only [List.setIfInBounds_toArray]
          try simp only [List.set_cons_succ, List.set_cons_zero]
          refine WpLate.each (rs := [2]) (by kernel_rfl) (by simp) (LateEach.cons rfl (fun K hK => ?_) LateEach.nil)
          go_simp
          have HY := Lib.hid (HF.out.alloc hp (.cells #[.int .i64 0, .int .i64 1, .int .i64 100, .int .i64 101] 2))
          have w4z := HF.out.1.gb.lt
          refine hK.out _ _ (fun _ => ⟨HY.out.1.gb.cell 4 rfl, HY.out.1.gb.cell 5 rfl⟩) ?_
          try simp only [Act.put]
          try simp only [List.setIfInBounds_toArray]
          try simp only [List.set_cons_succ, List.set_cons_zero]
          refine WpLate.take (i := 5) (v := .pointer (some ⟨w4.heap.size, zk, none⟩)) rfl (by kernel_rfl) (by kernel_rfl) (by kernel_rfl) (by kernel_rfl) (by kernel_rfl) (fun _ _ _ h => h) (Or.inl ⟨by rfl, fun w' hw => ?_⟩) ⟨HY.out.1.gb.cell 4 rfl, HY.out.1.gb.cell 5 rfl⟩ ?_
          · go_simp
          try simp only [Act.put]
          try simp only [List.setIfInBounds_toArray]
          try simp only [List.set_cons_succ, List.set_cons_zero]
          have ht3 : (w4.alloc (.cells #[.int .i64 0, .int .i64 1, .int .i64 100, .int .i64 101] 2)).cell? ⟨w4.heap.size, zk, none⟩ = some (.int .i64 tv) := (World.cell?_alloc_new _ _ _ _).trans HARR.out
          refine WpLate.each (rs := [6]) (by kernel_rfl) (by simp) (LateEach.cons rfl (fun K hK => ?_) LateEach.nil)
          have htv := ht3
          go_simp
          refine hK.out _ _ (fun _ => ⟨HY.out.1.gb.cell 4 rfl, HY.out.1.gb.cell 5 rfl⟩) ?_
          try simp only [Act.put]
          try simp only [List.setIfInBounds_toArray]
          try simp only [List.set_cons_succ, List.set_cons_zero]
          refine WpLate.each (rs := [10]) (by kernel_rfl) (by simp) (LateEach.cons rfl (fun K hK => ?_) LateEach.nil)
          go_simp
          refine (spec_with0 _ t.raise _ _ _ (lab2_of HY.out) HY.out.2.few.2.2.1).mono ?_
          rintro e w5 ⟨v5, rfl, own5, hb5⟩
          have HG : Hid (DrTm 8 p a len cap g w w5 [.int .i64 0, .slice none 0 0, .int .i64 0, .slice none 0 0, .int .i64 0, .slice none 0 0, .int .i64 0, .slice none 0 0] t [.int .i64 t.taint.base, .slice A0 n0 c0, .int .i64 t.clear.base, .slice A1 n1 c1, .int .i64 t.raise.base, .slice A2 n2 c2, .int .i64 t.verify.base, .slice A3 n3 c3]) := Lib.hid (HY.out.below hp hb5)
          have OL : Hid (OffLab (w.heap.size + 1) g w5 v5 (withL t.raise tv (1 + u)).1) := Lib.hid (own5.off (by have := HY.out.1.hg; have := HY.out.1.gb.lt; omega) (.inl HY.out.1.gb.lt))
          obtain ⟨A5, n5, c5, rfl, -, -, -⟩ := own5
          have gk0 := HG.out.1.gb.cell 4 rfl
          have gk1 := HG.out.1.gb.cell 5 rfl
          have gf0 := HG.out.1.gb.free 4
          have gf1 := HG.out.1.gb.free 5
          have HH := Lib.hid (HG.out.put hp OL.out (withL_le _ _ _)).2.2.1
          clear HG OL hb5
          try dsimp only
          refine hK.out _ _ (fun h => absurd h (by omega)) ?_
          try simp only [Act.put]
          try simp only [List.setIfInBounds_toArray]
          try simp only [List.set_cons_succ, List.set_cons_zero]
          refine WpLate.takeLate (i := 11) (v := .tuple #[.agg #[.int .i64 (withL t.raise tv (1 + u)).1.base, .slice A5 n5 c5], .bool (withL t.raise tv (1 + u)).2]) rfl (by kernel_rfl) (by kernel_rfl) (by kernel_rfl) (by kernel_rfl) (by kernel_rfl) (fun _ _ _ h => h) (Or.inl ⟨by rfl, fun w' hw => ?_⟩) ?_
          · go_simp
          try simp only [Act.put]
          try simp only [List.setIfInBounds_toArray]
          try simp only [List.set_cons_succ, List.set_cons_zero]
          refine WpLate.takeLate (i := 12) (v := .agg #[.int .i64 (withL t.raise tv (1 + u)).1.base, .slice A5 n5 c5]) rfl (by kernel_rfl) (by kernel_rfl) (by kernel_rfl) (by kernel_rfl) (by kernel_rfl) (fun _ _ _ h => h) (Or.inl ⟨by rfl, fun w' hw => ?_⟩) ?_
          · go_simp
          try simp only [Act.put]
          try simp only [List.setIfInBounds_toArray]
          try simp only [List.set_cons_succ, List.set_cons_zero]
          refine WpLate.takeLate (i := 13) (v := .bool (withL t.raise tv (1 + u)).2) rfl (by kernel_rfl) (by kernel_rfl) (by kernel_rfl) (by kernel_rfl) (by kernel_rfl) (fun _ _ _ h => h) (Or.inl ⟨by rfl, fun w' hw => ?_⟩) ?_
          · go_simp
          try simp only [Act.put]
          try simp only [List.setIfInBounds_toArray]
          try simp only [List.set_cons_succ, List.set_cons_zero]
          refine WpLate.takeLate (i := 14) (v := .pointer (some ⟨g, 4, none⟩)) rfl (by kernel_rfl) (by kernel_rfl) (by kernel_rfl) (by kernel_rfl) (by kernel_rfl) (fun _ _ _ h => h) (Or.inl ⟨by rfl, fun w' hw => ?_⟩) ?_
          · go_simp
          try simp only [Act.put]
          try simp only [List.setIfInBounds_toArray]
          try simp only [List.set_cons_succ, List.set_cons_zero]
          refine WpLate.each (rs := [15]) (by kernel_rfl) (by simp) (LateEach.cons rfl (fun K hK => ?_) LateEach.nil)
          go_simp
          refine hK.out _ _ (fun h => absurd h (by omega)) ?_
          try simp only [Act.put]
          try simp only [List.setIfInBounds_toArray]
          try simp only [List.set_cons_succ, List.set_cons_zero]
          refine WpLate.done (by kernel_rfl) ?_ _
          go_wp2
          go_meet
          case rel => exact ⟨rfl, _, _, _, _, _, _, _, _, _, _, _, _, _, HH⟩
  clear HD
  obtain ⟨rfl, t', A0', n0', c0', A1', n1', c1', A2', n2', c2', A3', n3', c3', HD⟩ := hcut
  clear A0 n0 c0 A1 n1 c1 A2 n2 c2 A3 n3 c3 t
  obtain ⟨t, A0, n0, c0, A1, n1, c1, A2, n2, c2, A3, n3, c3, HD'⟩ : ∃ (t : Tm) (A0 : Option Addr) (n0 c0 : Nat) (A1 : Option Addr) (n1 c1 : Nat) (A2 : Option Addr) (n2 c2 : Nat) (A3 : Option Addr) (n3 c3 : Nat), Hid (DrTm 8 p a len cap g w wc [.int .i64 0, .slice none 0 0, .int .i64 0, .slice none 0 0, .int .i64 0, .slice none 0 0, .int .i64 0, .slice none 0 0] t [.int .i64 t.taint.base, .slice A0 n0 c0, .int .i64 t.clear.base, .slice A1 n1 c1, .int .i64 t.raise.base, .slice A2 n2 c2, .int .i64 t.verify.base, .slice A3 n3 c3]) := ⟨_, _, _, _, _, _, _, _, _, _, _, _, _, HD⟩
  clear HD t' A0' n0' c0' A1' n1' c1' A2' n2' c2' A3' n3' c3'
  have HD := HD'
  clear HD'
  obtain ⟨wdc, hwc⟩ : ∃ wdc, wdc = wc := ⟨_, rfl⟩
  rw [← hwc] at HD ⊢
  clear hwc
  go_wp2_with fail
  refine (once_any p a len cap zs 4 _ hl (by omega) (by omega) HD.out.1.cur (hr.kept HD.out.1.grown)).mono ?_
  rintro e we ⟨b, rfl, hcq, hgq⟩
  have HD' := Lib.hid (HD.out.gbr hp hcq hgq)
  clear HD hcq hgq
  have HD := HD'
  clear HD' 
  go_upto_if 55 with fail
  go_cut [3] (fun s wx => s = .pointer (some ⟨g, 0, none⟩) ∧ ∃ (t : Tm) (A0 : Option Addr) (n0 c0 : Nat) (A1 : Option Addr) (n1 c1 : Nat) (A2 : Option Addr) (n2 c2 : Nat) (A3 : Option Addr) (n3 c3 : Nat), Hid (DrTm 8 p a len cap g w wx [.int .i64 0, .slice none 0 0, .int .i64 0, .slice none 0 0, .int .i64 0, .slice none 0 0, .int .i64 0, .slice none 0 0] t [.int .i64 t.taint.base, .slice A0 n0 c0, .int .i64 t.clear.base, .slice A1 n1 c1, .int .i64 t.raise.base, .slice A2 n2 c2, .int .i64 t.verify.base, .slice A3 n3 c3]))
  case first =>
    cases b
    · go_wp2
      go_meet
      case rel => exact ⟨rfl, _, _, _, _, _, _, _, _, _, _, _, _, _, HD⟩
    · skip
      have HDk6 := HD.out.1.gb.cell 6 rfl
      have HDk7 := HD.out.1.gb.cell 7 rfl
      go_wp2
      refine wp_region_late 9 (fun w' => w'.cell? ⟨g, 6, none⟩ = some (.int .i64 t.verify.base) ∧ w'.cell? ⟨g, 7, none⟩ = some (.slice A3 n3 c3)) (by kernel_rfl) ?_
      obtain ⟨wx, hwx⟩ : ∃ wx, wx = we.drew := ⟨_, rfl⟩
      have HD' : Hid (DrTm 8 p a len cap g w wx [.int .i64 0, .slice none 0 0, .int .i64 0, .slice none 0 0, .int .i64 0, .slice none 0 0, .int .i64 0, .slice none 0 0] t [.int .i64 t.taint.base, .slice A0 n0 c0, .int .i64 t.clear.base, .slice A1 n1 c1, .int .i64 t.raise.base, .slice A2 n2 c2, .int .i64 t.verify.base, .slice A3 n3 c3]) := Lib.hid (by rw [hwx]; exact HD.out.drew hp)
      rw [← hwx]
      clear HD HDk6 HDk7 hwx
      have HD := HD'
      clear HD'
      refine WpLate.take (i := 0) (v := .pointer (some ⟨g, 6, none⟩)) rfl (by kernel_rfl) (by kernel_rfl) (by kernel_rfl) (by kernel_rfl) (by kernel_rfl) (fun _ _ _ h => h) (Or.inl ⟨by rfl, fun w' hw => ?_⟩) ⟨HD.out.1.gb.cell 6 rfl, HD.out.1.gb.cell 7 rfl⟩ ?_
      · go_simp
      try simp only [Act.put]
      try simp only [List.setIfInBounds_toArray]
      try simp only [List.set_cons_succ, List.set_cons_zero]
      refine WpLate.take (i := 1) (v := .agg #[.int .i64 t.verify.base, .slice A3 n3 c3]) rfl (by kernel_rfl) (by kernel_rfl) (by kernel_rfl) (by kernel_rfl) (by kernel_rfl) (fun _ _ _ h => h) (Or.inl ⟨by rfl, fun w' hw => ?_⟩) ⟨HD.out.1.gb.cell 6 rfl, HD.out.1.gb.cell 7 rfl⟩ ?_
      · obtain ⟨hw1, hw2⟩ := hw; go_simp
      try simp only [Act.put]
      try simp only [List.setIfInBounds_toArray]
      try simp only [List.set_cons_succ, List.set_cons_zero]
      refine WpLate.take (i := 3) (v := .pointer (some ⟨p, 0, none⟩)) rfl (by kernel_rfl) (by kernel_rfl) (by kernel_rfl) (by kernel_rfl) (by kernel_rfl) (fun _ _ _ h => h) (Or.inl ⟨by rfl, fun w' hw => ?_⟩) ⟨HD.out.1.gb.cell 6 rfl, HD.out.1.gb.cell 7 rfl⟩ ?_
      · go_simp
      try simp only [Act.put]
      try simp only [List.setIfInBounds_toArray]
      try simp only [List.set_cons_succ, List.set_cons_zero]
      refine WpLate.take (i := 7) (v := .pointer (some ⟨p, 0, none⟩)) rfl (by kernel_rfl) (by kernel_rfl) (by kernel_rfl) (by kernel_rfl) (by kernel_rfl) (fun _ _ _ h => h) (Or.inl ⟨by rfl, fun w' hw => ?_⟩) ⟨HD.out.1.gb.cell 6 rfl, HD.out.1.gb.cell 7 rfl⟩ ?_
      · go_simp
      try simp only [Act.put]
      try simp only [List.setIfInBounds_toArray]
      try simp only [List.set_cons_succ, List.set_cons_zero]
      refine WpLate.each (rs := [2, 4]) (by kernel_rfl) (by simp) (LateEach.cons rfl (fun K hK => ?_) (LateEach.cons rfl (fun K hK => ?_) LateEach.nil))
      · skip
        go_simp
        have HB := Lib.hid (HD.out.alloc hp (.cells #[.int .i64 0, .int .i64 1, .int .i64 100, .int .i64 101] 2))
        have wxz := HD.out.1.gb.lt
        refine hK.out _ _ (fun _ => ⟨HB.out.1.gb.cell 6 rfl, HB.out.1.gb.cell 7 rfl⟩) ?_
        try simp only [Act.put]
        try simp only [List.setIfInBounds_toArray]
        try simp only [List.set_cons_succ, List.set_cons_zero]
        refine WpLate.each (rs := [4]) (by kernel_rfl) (by simp) (LateEach.cons rfl (fun K hK => ?_) LateEach.nil)
        go_simp
        refine (below_any p a len cap zs _ _ hl (by omega) (by omega) HB.out.cur (hr.kept HB.out.grown)).mono ?_
        rintro e w3 ⟨z, hz0, hz1, rfl, hc3, hg3⟩
        have HE : Hid (DrTm 8 p a len cap g w w3 [.int .i64 0, .slice none 0 0, .int .i64 0, .slice none 0 0, .int .i64 0, .slice none 0 0, .int .i64 0, .slice none 0 0] t [.int .i64 t.taint.base, .slice A0 n0 c0, .int .i64 t.clear.base, .slice A1 n1 c1, .int .i64 t.raise.base, .slice A2 n2 c2, .int .i64 t.verify.base, .slice A3 n3 c3]) := Lib.hid (HB.out.gbr hp hc3 hg3)
        obtain ⟨zk, rfl⟩ := Int.eq_ofNat_of_zero_le hz0
        obtain ⟨tv, harr⟩ : ∃ tv : Int, (#[Value.int .i64 0, .int .i64 1, .int .i64 100, .int .i64 101] : Array Value)[zk]? = some (.int .i64 tv) := pick4 (by omega)
        have HARR := Lib.hid harr
        clear harr
        try dsimp only
        refine hK.out _ _ (fun _ => ⟨HE.out.1.gb.cell 6 rfl, HE.out.1.gb.cell 7 rfl⟩) ?_
        try simp only [Act.put]
        try simp only [List.setIfInBounds_toArray]
        try simp only [List.set_cons_succ, List.set_cons_zero]
        have ht3 : w3.cell? ⟨wx.heap.size, zk, none⟩ = some (.int .i64 tv) := hg3.cell ((World.cell?_alloc_new _ _ _ _).trans HARR.out) (fun e => by have h1 := Option.some.inj e; have h2 := HD.out.1.cur.lt; simp only [] at h1; omega)
        refine WpLate.take (i := 5) (v := .pointer (some ⟨wx.heap.size, zk, none⟩)) rfl (by kernel_rfl) (by kernel_rfl) (by kernel_rfl) (by kernel_rfl) (by kernel_rfl) (fun _ _ _ h => h) (Or.inl ⟨by rfl, fun w' hw => ?_⟩) ⟨HE.out.1.gb.cell 6 rfl, HE.out.1.gb.cell 7 rfl⟩ ?_
        · go_simp
        try simp only [Act.put]
        try simp only [List.setIfInBounds_toArray]
        try simp only [List.set_cons_succ, List.set_cons_zero]
        refine WpLate.each (rs := [6, 8]) (by kernel_rfl) (by simp) (LateEach.cons rfl (fun K hK => ?_) (LateEach.cons rfl (fun K hK => ?_) LateEach.nil))
        · skip
          have htv := ht3
          go_simp
          refine hK.out _ _ (fun _ => ⟨HE.out.1.gb.cell 6 rfl, HE.out.1.gb.cell 7 rfl⟩) ?_
          try simp only [Act.put]
          try simp only [List.setIfInBounds_toArray]
          try simp only [List.set_cons_succ, List.set_cons_zero]
          refine WpLate.each (rs := [8]) (by kernel_rfl) (by simp) (LateEach.cons rfl (fun K hK => ?_) LateEach.nil)
          go_simp
          refine (below_any p a len cap zs _ _ hl (by omega) (by omega) HE.out.cur (hr.kept HE.out.grown)).mono ?_
          rintro e w4 ⟨u, hu0, hu1, rfl, hc4, hg4⟩
          have HF : Hid (DrTm 8 p a len cap g w w4 [.int .i64 0, .slice none 0 0, .int .i64 0, .slice none 0 0, .int .i64 0, .slice none 0 0, .int .i64 0, .slice none 0 0] t [.int .i64 t.taint.base, .slice A0 n0 c0, .int .i64 t.clear.base, .slice A1 n1 c1, .int .i64 t.raise.base, .slice A2 n2 c2, .int .i64 t.verify.base, .slice A3 n3 c3]) := Lib.hid (HE.out.gbr hp hc4 hg4)
          try dsimp only
          refine hK.out _ _ (fun _ => ⟨HF.out.1.gb.cell 6 rfl, HF.out.1.gb.cell 7 rfl⟩) ?_
          try simp only [Act.put]
          try simp only [List.setIfInBounds_toArray]
          try simp only [List.set_cons_succ, List.set_cons_zero]
          refine WpLate.each (rs := [9]) (by kernel_rfl) (by simp) (LateEach.cons rfl (fun K hK => ?_) LateEach.nil)
          go_simp
          refine (spec_with0 _ t.verify _ _ _ (lab3_of HF.out) HF.out.2.few.2.2.2).mono ?_
          rintro e w5 ⟨v5, rfl, own5, hb5⟩
          have HG : Hid (DrTm 8 p a len cap g w w5 [.int .i64 0, .slice none 0 0, .int .i64 0, .slice none 0 0, .int .i64 0, .slice none 0 0, .int .i64 0, .slice none 0 0] t [.int .i64 t.taint.base, .slice A0 n0 c0, .int .i64 t.clear.base, .slice A1 n1 c1, .int .i64 t.raise.base, .slice A2 n2 c2, .int .i64 t.verify.base, .slice A3 n3 c3]) := Lib.hid (HF.out.below hp hb5)
          have OL : Hid (OffLab (w.heap.size + 1) g w5 v5 (withL t.verify tv u).1) := Lib.hid (own5.off (by have := HF.out.1.hg; have := HF.out.1.gb.lt; omega) (.inl HF.out.1.gb.lt))
          obtain ⟨A5, n5, c5, rfl, -, -, -⟩ := own5
          have gk0 := HG.out.1.gb.cell 6 rfl
          have gk1 := HG.out.1.gb.cell 7 rfl
          have gf0 := HG.out.1.gb.free 6
          have gf1 := HG.out.1.gb.free 7
          have HH := Lib.hid (HG.out.put hp OL.out (withL_le _ _ _)).2.2.2
          clear HG OL hb5
          try dsimp only
          refine hK.out _ _ (fun h => absurd h (by omega)) ?_
          try simp only [Act.put]
          try simp only [List.setIfInBounds_toArray]
          try simp only [List.set_cons_succ, List.set_cons_zero]
          refine WpLate.takeLate (i := 10) (v := .tuple #[.agg #[.int .i64 (withL t.verify tv u).1.base, .slice A5 n5 c5], .bool (withL t.verify tv u).2]) rfl (by kernel_rfl) (by kernel_rfl) (by kernel_rfl) (by kernel_rfl) (by kernel_rfl) (fun _ _ _ h => h) (Or.inl ⟨by rfl, fun w' hw => ?_⟩) ?_
          · go_simp
          try simp only [Act.put]
          try simp only [List.setIfInBounds_toArray]
          try simp only [List.set_cons_succ, List.set_cons_zero]
          refine WpLate.takeLate (i := 11) (v := .agg #[.int .i64 (withL t.verify tv u).1.base, .slice A5 n5 c5]) rfl (by kernel_rfl) (by kernel_rfl) (by kernel_rfl) (by kernel_rfl) (by kernel_rfl) (fun _ _ _ h => h) (Or.inl ⟨by rfl, fun w' hw => ?_⟩) ?_
          · go_simp
          try simp only [Act.put]
          try simp only [List.setIfInBounds_toArray]
          try simp only [List.set_cons_succ, List.set_cons_zero]
          refine WpLate.takeLate (i := 12) (v := .bool (withL t.verify tv u).2) rfl (by kernel_rfl) (by kernel_rfl) (by kernel_rfl) (by kernel_rfl) (by kernel_rfl) (fun _ _ _ h => h) (Or.inl ⟨by rfl, fun w' hw => ?_⟩) ?_
          · go_simp
          try simp only [Act.put]
          try simp only [List.setIfInBounds_toArray]
          try simp only [List.set_cons_succ, List.set_cons_zero]
          refine WpLate.takeLate (i := 13) (v := .pointer (some ⟨g, 6, none⟩)) rfl (by kernel_rfl) (by kernel_rfl) (by kernel_rfl) (by kernel_rfl) (by kernel_rfl) (fun _ _ _ h => h) (Or.inl ⟨by rfl, fun w' hw => ?_⟩) ?_
          · go_simp
          try simp only [Act.put]
          try simp only [List.setIfInBounds_toArray]
          try simp only [List.set_cons_succ, List.set_cons_zero]
          refine WpLate.each (rs := [14]) (by kernel_rfl) (by simp) (LateEach.cons rfl (fun K hK => ?_) LateEach.nil)
          go_simp
          refine hK.out _ _ (fun h => absurd h (by omega)) ?_
          try simp only [Act.put]
          try simp only [List.setIfInBounds_toArray]
          try simp only [List.set_cons_succ, List.set_cons_zero]
          refine WpLate.done (by kernel_rfl) ?_ _
          go_wp2
          go_meet
          case rel => exact ⟨rfl, _, _, _, _, _, _, _, _, _, _, _, _, _, HH⟩
        · skip
          go_simp
          refine (below_any p a len cap zs _ _ hl (by omega) (by omega) HE.out.cur (hr.kept HE.out.grown)).mono ?_
          rintro e w4 ⟨u, hu0, hu1, rfl, hc4, hg4⟩
          have HF : Hid (DrTm 8 p a len cap g w w4 [.int .i64 0, .slice none 0 0, .int .i64 0, .slice none 0 0, .int .i64 0, .slice none 0 0, .int .i64 0, .slice none 0 0] t [.int .i64 t.taint.base, .slice A0 n0 c0, .int .i64 t.clear.base, .slice A1 n1 c1, .int .i64 t.raise.base, .slice A2 n2 c2, .int .i64 t.verify.base, .slice A3 n3 c3]) := Lib.hid (HE.out.gbr hp hc4 hg4)
          try dsimp only
          refine hK.out _ _ (fun _ => ⟨HF.out.1.gb.cell 6 rfl, HF.out.1.gb.cell 7 rfl⟩) ?_
          try simp only [Act.put]
          try simp only [List.setIfInBounds_toArray]
          try simp only [List.set_cons_succ, List.set_cons_zero]
          refine WpLate.each (rs := [6]) (by kernel_rfl) (by simp) (LateEach.cons rfl (fun K hK => ?_) LateEach.nil)
          have htv := hg4.cell (ht3) (fun e => by have h1 := Option.some.inj e; have h2 := HD.out.1.cur.lt; simp only [] at h1; omega)
          go_simp
          refine hK.out _ _ (fun _ => ⟨HF.out.1.gb.cell 6 rfl, HF.out.1.gb.cell 7 rfl⟩) ?_
          try simp only [Act.put]
          try simp only [List.setIfInBounds_toArray]
          try simp only [List.set_cons_succ, List.set_cons_zero]
          refine WpLate.each (rs := [9]) (by kernel_rfl) (by simp) (LateEach.cons rfl (fun K hK => ?_) LateEach.nil)
          go_simp
          refine (spec_with0 _ t.verify _ _ _ (lab3_of HF.out) HF.out.2.few.2.2.2).mono ?_
          rintro e w5 ⟨v5, rfl, own5, hb5⟩
          have HG : Hid (DrTm 8 p a len cap g w w5 [.int .i64 0, .slice none 0 0, .int .i64 0, .slice none 0 0, .int .i64 0, .slice none 0 0, .int .i64 0, .slice none 0 0] t [.int .i64 t.taint.base, .slice A0 n0 c0, .int .i64 t.clear.base, .slice A1 n1 c1, .int .i64 t.raise.base, .slice A2 n2 c2, .int .i64 t.verify.base, .slice A3 n3 c3]) := Lib.hid (HF.out.below hp hb5)
          have OL : Hid (OffLab (w.heap.size + 1) g w5 v5 (withL t.verify tv u).1) := Lib.hid (own5.off (by have := HF.out.1.hg; have := HF.out.1.gb.lt; omega) (.inl HF.out.1.gb.lt))
          obtain ⟨A5, n5, c5, rfl, -, -, -⟩ := own5
          have gk0 := HG.out.1.gb.cell 6 rfl
          have gk1 := HG.out.1.gb.cell 7 rfl
          have gf0 := HG.out.1.gb.free 6
          have gf1 := HG.out.1.gb.free 7
          have HH := Lib.hid (HG.out.put hp OL.out (withL_le _ _ _)).2.2.2
          clear HG OL hb5
          try dsimp only
          refine hK.out _ _ (fun h => absurd h (by omega)) ?_
          try simp only [Act.put]
          try simp only [List.setIfInBounds_toArray]
          try simp only [List.set_cons_succ, List.set_cons_zero]
          refine WpLate.takeLate (i := 10) (v := .tuple #[.agg #[.int .i64 (withL t.verify tv u).1.base, .slice A5 n5 c5], .bool (withL t.verify tv u).2]) rfl (by kernel_rfl) (by kernel_rfl) (by kernel_rfl) (by kernel_rfl) (by kernel_rfl) (fun _ _ _ h => h) (Or.inl ⟨by rfl, fun w' hw => ?_⟩) ?_
          · go_simp
          try simp only [Act.put]
          try simp only [List.setIfInBounds_toArray]
          try simp only [List.set_cons_succ, List.set_cons_zero]
          refine WpLate.takeLate (i := 11) (v := .agg #[.int .i64 (withL t.verify tv u).1.base, .slice A5 n5 c5]) rfl (by kernel_rfl) (by kernel_rfl) (by kernel_rfl) (by kernel_rfl) (by kernel_rfl) (fun _ _ _ h => h) (Or.inl ⟨by rfl, fun w' hw => ?_⟩) ?_
          · go_simp
          try simp only [Act.put]
          try simp only [List.setIfInBounds_toArray]
          try simp only [List.set_cons_succ, List.set_cons_zero]
          refine WpLate.takeLate (i := 12) (v := .bool (withL t.verify tv u).2) rfl (by kernel_rfl) (by kernel_rfl) (by kernel_rfl) (by kernel_rfl) (by kernel_rfl) (fun _ _ _ h => h) (Or.inl ⟨by rfl, fun w' hw => ?_⟩) ?_
          · go_simp
          try simp only [Act.put]
          try simp only [List.setIfInBounds_toArray]
          try simp only [List.set_cons_succ, List.set_cons_zero]
          refine WpLate.takeLate (i := 13) (v := .pointer (some ⟨g, 6, none⟩)) rfl (by kernel_rfl) (by kernel_rfl) (by kernel_rfl) (by kernel_rfl) (by kernel_rfl) (fun _ _ _ h => h) (Or.inl ⟨by rfl, fun w' hw => ?_⟩) ?_
          · go_simp
          try simp only [Act.put]
          try simp only [List.setIfInBounds_toArray]
          try simp only [List.set_cons_succ, List.set_cons_zero]
          refine WpLate.each (rs := [14]) (by kernel_rfl) (by simp) (LateEach.cons rfl (fun K hK => ?_) LateEach.nil)
          go_simp
          refine hK.out _ _ (fun h => absurd h (by omega)) ?_
          try simp only [Act.put]
          try simp only [List.setIfInBounds_toArray]
          try simp only [List.set_cons_succ, List.set_cons_zero]
          refine WpLate.done (by kernel_rfl) ?_ _
          go_wp2
          go_meet
          case rel => exact ⟨rfl, _, _, _, _, _, _, _, _, _, _, _, _, _, HH⟩
      · skip
        go_simp
        refine (below_any p a len cap zs _ _ hl (by omega) (by omega) HD.out.cur (hr.kept HD.out.grown)).mono ?_
        rintro e w3 ⟨z, hz0, hz1, rfl, hc3, hg3⟩
        have HE : Hid (DrTm 8 p a len cap g w w3 [.int .i64 0, .slice none 0 0, .int .i64 0, .slice none 0 0, .int .i64 0, .slice none 0 0, .int .i64 0, .slice none 0 0] t [.int .i64 t.taint.base, .slice A0 n0 c0, .int .i64 t.clear.base, .slice A1 n1 c1, .int .i64 t.raise.base, .slice A2 n2 c2, .int .i64 t.verify.base, .slice A3 n3 c3]) := Lib.hid (HD.out.gbr hp hc3 hg3)
        obtain ⟨zk, rfl⟩ := Int.eq_ofNat_of_zero_le hz0
        obtain ⟨tv, harr⟩ : ∃ tv : Int, (#[Value.int .i64 0, .int .i64 1, .int .i64 100, .int .i64 101] : Array Value)[zk]? = some (.int .i64 tv) := pick4 (by omega)
        have HARR := Lib.hid harr
        clear harr
        try dsimp only
        refine hK.out _ _ (fun _ => ⟨HE.out.1.gb.cell 6 rfl, HE.out.1.gb.cell 7 rfl⟩) ?_
        try simp only [Act.put]
        try simp only [List.setIfInBounds_toArray]
        try simp only [List.set_cons_succ, List.set_cons_zero]
        refine WpLate.each (rs := [2, 8]) (by kernel_rfl) (by simp) (LateEach.cons rfl (fun K hK => ?_) (LateEach.cons rfl (fun K hK => ?_) LateEach.nil))
        · skip
          go_simp
          have HX := Lib.hid (HE.out.alloc hp (.cells #[.int .i64 0, .int .i64 1, .int .i64 100, .int .i64 101] 2))
          have w3z := HE.out.1.gb.lt
          refine hK.out _ _ (fun _ => ⟨HX.out.1.gb.cell 6 rfl, HX.out.1.gb.cell 7 rfl⟩) ?_
          try simp only [Act.put]
          try simp only [List.setIfInBounds_toArray]
          try simp only [List.set_cons_succ, List.set_cons_zero]
          refine WpLate.take (i := 5) (v := .pointer (some ⟨w3.heap.size, zk, none⟩)) rfl (by kernel_rfl) (by kernel_rfl) (by kernel_rfl) (by kernel_rfl) (by kernel_rfl) (fun _ _ _ h => h) (Or.inl ⟨by rfl, fun w' hw => ?_⟩) ⟨HX.out.1.gb.cell 6 rfl, HX.out.1.gb.cell 7 rfl⟩ ?_
          · go_simp
          try simp only [Act.put]
          try simp only [List.setIfInBounds_toArray]
          try simp only [List.set_cons_succ, List.set_cons_zero]
          have ht3 : (w3.alloc (.cells #[.int .i64 0, .int .i64 1, .int .i64 100, .int .i64 101] 2)).cell? ⟨w3.heap.size, zk, none⟩ = some (.int .i64 tv) := (World.cell?_alloc_new _ _ _ _).trans HARR.out
          refine WpLate.each (rs := [6, 8]) (by kernel_rfl) (by simp) (LateEach.cons rfl (fun K hK => ?_) (LateEach.cons rfl (fun K hK => ?_) LateEach.nil))
          · skip
            have htv := ht3
            go_simp
            refine hK.out _ _ (fun _ => ⟨HX.out.1.gb.cell 6 rfl, HX.out.1.gb.cell 7 rfl⟩) ?_
            try simp only [Act.put]
            try simp only [List.setIfInBounds_toArray]
            try simp only [List.set_cons_succ, List.set_cons_zero]
            refine WpLate.each (rs := [8]) (by kernel_rfl) (by simp) (LateEach.cons rfl (fun K hK => ?_) LateEach.nil)
            go_simp
            refine (below_any p a len cap zs _ _ hl (by omega) (by omega) HX.out.cur (hr.kept HX.out.grown)).mono ?_
            rintro e w4 ⟨u, hu0, hu1, rfl, hc4, hg4⟩
            have HF : Hid (DrTm 8 p a len cap g w w4 [.int .i64 0, .slice none 0 0, .int .i64 0, .slice none 0 0, .int .i64 0, .slice none 0 0, .int .i64 0, .slice none 0 0] t [.int .i64 t.taint.base, .slice A0 n0 c0, .int .i64 t.clear.base, .slice A1 n1 c1, .int .i64 t.raise.base, .slice A2 n2 c2, .int .i64 t.verify.base, .slice A3 n3 c3]) := Lib.hid (HX.out.gbr hp hc4 hg4)
            try dsimp only
            refine hK.out _ _ (fun _ => ⟨HF.out.1.gb.cell 6 rfl, HF.out.1.gb.cell 7 rfl⟩) ?_
            try simp only [Act.put]
            try simp only [List.setIfInBounds_toArray]
            try simp only [List.set_cons_succ, List.set_cons_zero]
            refine WpLate.each (rs := [9]) (by kernel_rfl) (by simp) (LateEach.cons rfl (fun K hK => ?_) LateEach.nil)
            go_simp
            refine (spec_with0 _ t.verify _ _ _ (lab3_of HF.out) HF.out.2.few.2.2.2).mono ?_
            rintro e w5 ⟨v5, rfl, own5, hb5⟩
            have HG : Hid (DrTm 8 p a len cap g w w5 [.int .i64 0, .slice none 0 0, .int .i64 0, .slice none 0 0, .int .i64 0, .slice none 0 0, .int .i64 0, .slice none 0 0] t [.int .i64 t.taint.base, .slice A0 n0 c0, .int .i64 t.clear.base, .slice A1 n1 c1, .int .i64 t.raise.base, .slice A2 n2 c2, .int .i64 t.verify.base, .slice A3 n3 c3]) := Lib.hid (HF.out.below hp hb5)
            have OL : Hid (OffLab (w.heap.size + 1) g w5 v5 (withL t.verify tv u).1) := Lib.hid (own5.off (by have := HF.out.1.hg; have := HF.out.1.gb.lt; omega) (.inl HF.out.1.gb.lt))
            obtain ⟨A5, n5, c5, rfl, -, -, -⟩ := own5
            have gk0 := HG.out.1.gb.cell 6 rfl
            have gk1 := HG.out.1.gb.cell 7 rfl
            have gf0 := HG.out.1.gb.free 6
            have gf1 := HG.out.1.gb.free 7
            have HH := Lib.hid (HG.out.put hp OL.out (withL_le _ _ _)).2.2.2
            clear HG OL hb5
            try dsimp only
            refine hK.out _ _ (fun h => absurd h (by omega)) ?_
            try simp only [Act.put]
            try simp only [List.setIfInBounds_toArray]
            try simp only [List.set_cons_succ, List.set_cons_zero]
            refine WpLate.takeLate (i := 10) (v := .tuple #[.agg #[.int .i64 (withL t.verify tv u).1.base, .slice A5 n5 c5], .bool (withL t.verify tv u).2]) rfl (by kernel_rfl) (by kernel_rfl) (by kernel_rfl) (by kernel_rfl) (by kernel_rfl) (fun _ _ _ h => h) (Or.inl ⟨by rfl, fun w' hw => ?_⟩) ?_
            · go_simp
            try simp only [Act.put]
            try simp only [List.setIfInBounds_toArray]
            try simp only [List.set_cons_succ, List.set_cons_zero]
            refine WpLate.takeLate (i := 11) (v := .agg #[.int .i64 (withL t.verify tv u).1.base, .slice A5 n5 c5]) rfl (by kernel_rfl) (by kernel_rfl) (by kernel_rfl) (by kernel_rfl) (by kernel_rfl) (fun _ _ _ h => h) (Or.inl ⟨by rfl, fun w' hw => ?_⟩) ?_
            · go_simp
            try simp only [Act.put]
            try simp only [List.setIfInBounds_toArray]
            try simp only [List.set_cons_succ, List.set_cons_zero]
            refine WpLate.takeLate (i := 12) (v := .bool (withL t.verify tv u).2) rfl (by kernel_rfl) (by kernel_rfl) (by kernel_rfl) (by kernel_rfl) (by kernel_rfl) (fun _ _ _ h => h) (Or.inl ⟨by rfl, fun w' hw => ?_⟩) ?_
            · go_simp
            try simp only [Act.put]
            try simp only [List.setIfInBounds_toArray]
            try simp only [List.set_cons_succ, List.set_cons_zero]
            refine WpLate.takeLate (i := 13) (v := .pointer (some ⟨g, 6, none⟩)) rfl (by kernel_rfl) (by kernel_rfl) (by kernel_rfl) (by kernel_rfl) (by kernel_rfl) (fun _ _ _ h => h) (Or.inl ⟨by rfl, fun w' hw => ?_⟩) ?_
            · go_simp
            try simp only [Act.put]
            try simp only [List.setIfInBounds_toArray]
            try simp only [List.set_cons_succ, List.set_cons_zero]
            refine WpLate.each (rs := [14]) (by kernel_rfl) (by simp) (LateEach.cons rfl (fun K hK => ?_) LateEach.nil)
            go_simp
            refine hK.out _ _ (fun h => absurd h (by omega)) ?_
            try simp only [Act.put]
            try simp only [List.setIfInBounds_toArray]
            try simp only [List.set_cons_succ, List.set_cons_zero]
            refine WpLate.done (by kernel_rfl) ?_ _
            go_wp2
            go_meet
            case rel => exact ⟨rfl, _, _, _, _, _, _, _, _, _, _, _, _, _, HH⟩
          · skip
            go_simp
            refine (below_any p a len cap zs _ _ hl (by omega) (by omega) HX.out.cur (hr.kept HX.out.grown)).mono ?_
            rintro e w4 ⟨u, hu0, hu1, rfl, hc4, hg4⟩
            have HF : Hid (DrTm 8 p a len cap g w w4 [.int .i64 0, .slice none 0 0, .int .i64 0, .slice none 0 0, .int .i64 0, .slice none 0 0, .int .i64 0, .slice none 0 0] t [.int .i64 t.taint.base, .slice A0 n0 c0, .int .i64 t.clear.base, .slice A1 n1 c1, .int .i64 t.raise.base, .slice A2 n2 c2, .int .i64 t.verify.base, .slice A3 n3 c3]) := Lib.hid (HX.out.gbr hp hc4 hg4)
            try dsimp only
            refine hK.out _ _ (fun _ => ⟨HF.out.1.gb.cell 6 rfl, HF.out.1.gb.cell 7 rfl⟩) ?_
            try simp only [Act.put]
            try simp only [List.setIfInBounds_toArray]
            try simp only [List.set_cons_succ, List.set_cons_zero]
            refine WpLate.each (rs := [6]) (by kernel_rfl) (by simp) (LateEach.cons rfl (fun K hK => ?_) LateEach.nil)
            have htv := hg4.cell (ht3) (fun e => by have h1 := Option.some.inj e; have h2 := HE.out.1.cur.lt; simp only [] at h1; omega)
            go_simp
            refine hK.out _ _ (fun _ => ⟨HF.out.1.gb.cell 6 rfl, HF.out.1.gb.cell 7 rfl⟩) ?_
            try simp only [Act.put]
            try simp only [List.setIfInBounds_toArray]
            try simp only [List.set_cons_succ, List.set_cons_zero]
            refine WpLate.each (rs := [9]) (by kernel_rfl) (by simp) (LateEach.cons rfl (fun K hK => ?_) LateEach.nil)
            go_simp
            refine (spec_with0 _ t.verify _ _ _ (lab3_of HF.out) HF.out.2.few.2.2.2).mono ?_
            rintro e w5 ⟨v5, rfl, own5, hb5⟩
            have HG : Hid (DrTm 8 p a len cap g w w5 [.int .i64 0, .slice none 0 0, .int .i64 0, .slice none 0 0, .int .i64 0, .slice none 0 0, .int .i64 0, .slice none 0 0] t [.int .i64 t.taint.base, .slice A0 n0 c0, .int .i64 t.clear.base, .slice A1 n1 c1, .int .i64 t.raise.base, .slice A2 n2 c2, .int .i64 t.verify.base, .slice A3 n3 c3]) := Lib.hid (HF.out.below hp hb5)
            have OL : Hid (OffLab (w.heap.size + 1) g w5 v5 (withL t.verify tv u).1) := Lib.hid (own5.off (by have := HF.out.1.hg; have := HF.out.1.gb.lt; omega) (.inl HF.out.1.gb.lt))
            obtain ⟨A5, n5, c5, rfl, -, -, -⟩ := own5
            have gk0 := HG.out.1.gb.cell 6 rfl
            have gk1 := HG.out.1.gb.cell 7 rfl
            have gf0 := HG.out.1.gb.free 6
            have gf1 := HG.out.1.gb.free 7
            have HH := Lib.hid (HG.out.put hp OL.out (withL_le _ _ _)).2.2.2
            clear HG OL hb5
            try dsimp only
            refine hK.out _ _ (fun h => absurd h (by omega)) ?_
            try simp only [Act.put]
            try simp only [List.setIfInBounds_toArray]
            try simp only [List.set_cons_succ, List.set_cons_zero]
            refine WpLate.takeLate (i := 10) (v := .tuple #[.agg #[.int .i64 (withL t.verify tv u).1.base, .slice A5 n5 c5], .bool (withL t.verify tv u).2]) rfl (by kernel_rfl) (by kernel_rfl) (by kernel_rfl) (by kernel_rfl) (by kernel_rfl) (fun _ _ _ h => h) (Or.inl ⟨by rfl, fun w' hw => ?_⟩) ?_
            · go_simp
            try simp only [Act.put]
            try simp only [List.setIfInBounds_toArray]
            try simp only [List.set_cons_succ, List.set_cons_zero]
            refine WpLate.takeLate (i := 11) (v := .agg #[.int .i64 (withL t.verify tv u).1.base, .slice A5 n5 c5]) rfl (by kernel_rfl) (by kernel_rfl) (by kernel_rfl) (by kernel_rfl) (by kernel_rfl) (fun _ _ _ h => h) (Or.inl ⟨by rfl, fun w' hw => ?_⟩) ?_
            · go_simp
            try simp only [Act.put]
            try simp only [List.setIfInBounds_toArray]
            try simp only [List.set_cons_succ, List.set_cons_zero]
            refine WpLate.takeLate (i := 12) (v := .bool (withL t.verify tv u).2) rfl (by kernel_rfl) (by kernel_rfl) (by kernel_rfl) (by kernel_rfl) (by kernel_rfl) (fun _ _ _ h => h) (Or.inl ⟨by rfl, fun w' hw => ?_⟩) ?_
            · go_simp
            try simp only [Act.put]
            try simp only [List.setIfInBounds_toArray]
            try simp only [List.set_cons_succ, List.set_cons_zero]
            refine WpLate.takeLate (i := 13) (v := .pointer (some ⟨g, 6, none⟩)) rfl (by kernel_rfl) (by kernel_rfl) (by kernel_rfl) (by kernel_rfl) (by kernel_rfl) (fun _ _ _ h => h) (Or.inl ⟨by rfl, fun w' hw => ?_⟩) ?_
            · go_simp
            try simp only [Act.put]
            try simp only [List.setIfInBounds_toArray]
            try simp only [List.set_cons_succ, List.set_cons_zero]
            refine WpLate.each (rs := [14]) (by kernel_rfl) (by simp) (LateEach.cons rfl (fun K hK => ?_) LateEach.nil)
            go_simp
            refine hK.out _ _ (fun h => absurd h (by omega)) ?_
            try simp only [Act.put]
            try simp only [List.setIfInBounds_toArray]
            try simp only [List.set_cons_succ, List.set_cons_zero]
            refine WpLate.done (by kernel_rfl) ?_ _
            go_wp2
            go_meet
            case rel => exact ⟨rfl, _, _, _, _, _, _, _, _, _, _, _, _, _, HH⟩
        · skip
          go_simp
          refine (below_any p a len cap zs _ _ hl (by omega) (by omega) HE.out.cur (hr.kept HE.out.grown)).mono ?_
          rintro e w4 ⟨u, hu0, hu1, rfl, hc4, hg4⟩
          have HF : Hid (DrTm 8 p a len cap g w w4 [.int .i64 0, .slice none 0 0, .int .i64 0, .slice none 0 0, .int .i64 0, .slice none 0 0, .int .i64 0, .slice none 0 0] t [.int .i64 t.taint.base, .slice A0 n0 c0, .int .i64 t.clear.base, .slice A1 n1 c1, .int .i64 t.raise.base, .slice A2 n2 c2, .int .i64 t.verify.base, .slice A3 n3 c3]) := Lib.hid (HE.out.gbr hp hc4 hg4)
          try dsimp only
          refine hK.out _ _ (fun _ => ⟨HF.out.1.gb.cell 6 rfl, HF.out.1.gb.cell 7 rfl⟩) ?_
          try simp only [Act.put]
          try simp only [List.setIfInBounds_toArray]
          try simp only [List.set_cons_succ, List.set_cons_zero]
          refine WpLate.each (rs := [2]) (by kernel_rfl) (by simp) (LateEach.cons rfl (fun K hK => ?_) LateEach.nil)
          go_simp
          have HY := Lib.hid (HF.out.alloc hp (.cells #[.int .i64 0, .int .i64 1, .int .i64 100, .int .i64 101] 2))
          have w4z := HF.out.1.gb.lt
          refine hK.out _ _ (fun _ => ⟨HY.out.1.gb.cell 6 rfl, HY.out.1.gb.cell 7 rfl⟩) ?_
          try simp only [Act.put]
          try simp only [List.setIfInBounds_toArray]
          try simp only [List.set_cons_succ, List.set_cons_zero]
          refine WpLate.take (i := 5) (v := .pointer (some ⟨w4.heap.size, zk, none⟩)) rfl (by kernel_rfl) (by kernel_rfl) (by kernel_rfl) (by kernel_rfl) (by kernel_rfl) (fun _ _ _ h => h) (Or.inl ⟨by rfl, fun w' hw => ?_⟩) ⟨HY.out.1.gb.cell 6 rfl, HY.out.1.gb.cell 7 rfl⟩ ?_
          · go_simp
          try simp only [Act.put]
          try simp only [List.setIfInBounds_toArray]
          try simp only [List.set_cons_succ, List.set_cons_zero]
          have ht3 : (w4.alloc (.cells #[.int .i64 0, .int .i64 1, .int .i64 100, .int .i64 101] 2)).cell? ⟨w4.heap.size, zk, none⟩ = some (.int .i64 tv) := (World.cell?_alloc_new _ _ _ _).trans HARR.out
          refine WpLate.each (rs := [6]) (by kernel_rfl) (by simp) (LateEach.cons rfl (fun K hK => ?_) LateEach.nil)
          have htv := ht3
          go_simp
          refine hK.out _ _ (fun _ => ⟨HY.out.1.gb.cell 6 rfl, HY.out.1.gb.cell 7 rfl⟩) ?_
          try simp only [Act.put]
          try simp only [List.setIfInBounds_toArray]
          try simp only [List.set_cons_succ, List.set_cons_zero]
          refine WpLate.each (rs := [9]) (by kernel_rfl) (by simp) (LateEach.cons rfl (fun K hK => ?_) LateEach.nil)
          go_simp
          refine (spec_with0 _ t.verify _ _ _ (lab3_of HY.out) HY.out.2.few.2.2.2).mono ?_
          rintro e w5 ⟨v5, rfl, own5, hb5⟩
          have HG : Hid (DrTm 8 p a len cap g w w5 [.int .i64 0, .slice none 0 0, .int .i64 0, .slice none 0 0, .int .i64 0, .slice none 0 0, .int .i64 0, .slice none 0 0] t [.int .i64 t.taint.base, .slice A0 n0 c0, .int .i64 t.clear.base, .slice A1 n1 c1, .int .i64 t.raise.base, .slice A2 n2 c2, .int .i64 t.verify.base, .slice A3 n3 c3]) := Lib.hid (HY.out.below hp hb5)
          have OL : Hid (OffLab (w.heap.size + 1) g w5 v5 (withL t.verify tv u).1) := Lib.hid (own5.off (by have := HY.out.1.hg; have := HY.out.1.gb.lt; omega) (.inl HY.out.1.gb.lt))
          obtain ⟨A5, n5, c5, rfl, -, -, -⟩ := own5
          have gk0 := HG.out.1.gb.cell 6 rfl
          have gk1 := HG.out.1.gb.cell 7 rfl
          have gf0 := HG.out.1.gb.free 6
          have gf1 := HG.out.1.gb.free 7
          have HH := Lib.hid (HG.out.put hp OL.out (withL_le _ _ _)).2.2.2
          clear HG OL hb5
          try dsimp only
          refine hK.out _ _ (fun h => absurd h (by omega)) ?_
          try simp only [Act.put]
          try simp only [List.setIfInBounds_toArray]
          try simp only [List.set_cons_succ, List.set_cons_zero]
          refine WpLate.takeLate (i := 10) (v := .tuple #[.agg #[.int .i64 (withL t.verify tv u).1.base, .slice A5 n5 c5], .bool (withL t.verify tv u).2]) rfl (by kernel_rfl) (by kernel_rfl) (by kernel_rfl) (by kernel_rfl) (by kernel_rfl) (fun _ _ _ h => h) (Or.inl ⟨by rfl, fun w' hw => ?_⟩) ?_
          · go_simp
          try simp only [Act.put]
          try simp only [List.setIfInBounds_toArray]
          try simp only [List.set_cons_succ, List.set_cons_zero]
          refine WpLate.takeLate (i := 11) (v := .agg #[.int .i64 (withL t.verify tv u).1.base, .slice A5 n5 c5]) rfl (by kernel_rfl) (by kernel_rfl) (by kernel_rfl) (by kernel_rfl) (by kernel_rfl) (fun _ _ _ h => h) (Or.inl ⟨by rfl, fun w' hw => ?_⟩) ?_
          · go_simp
          try simp only [Act.put]
          try simp only [List.setIfInBounds_toArray]
          try simp only [List.set_cons_succ, List.set_cons_zero]
          refine WpLate.takeLate (i := 12) (v := .bool (withL t.verify tv u).2) rfl (by kernel_rfl) (by kernel_rfl) (by kernel_rfl) (by kernel_rfl) (by kernel_rfl) (fun _ _ _ h => h) (Or.inl ⟨by rfl, fun w' hw => ?_⟩) ?_
          · go_simp
          try simp only [Act.put]
          try simp only [List.setIfInBounds_toArray]
          try simp only [List.set_cons_succ, List.set_cons_zero]
          refine WpLate.takeLate (i := 13) (v := .pointer (some ⟨g, 6, none⟩)) rfl (by kernel_rfl) (by kernel_rfl) (by kernel_rfl) (by kernel_rfl) (by kernel_rfl) (fun _ _ _ h => h) (Or.inl ⟨by rfl, fun w' hw => ?_⟩) ?_
          · go_simp
          try simp only [Act.put]
          try simp only [List.setIfInBounds_toArray]
          try simp only [List.set_cons_succ, List.set_cons_zero]
          refine WpLate.each (rs := [14]) (by kernel_rfl) (by simp) (LateEach.cons rfl (fun K hK => ?_) LateEach.nil)
          go_simp
          refine hK.out _ _ (fun h => absurd h (by omega)) ?_
          try simp only [Act.put]
          try simp only [List.setIfInBounds_toArray]
          try simp only [List.set_cons_succ, List.set_cons_zero]
          refine WpLate.done (by kernel_rfl) ?_ _
          go_wp2
          go_meet
          case rel => exact ⟨rfl, _, _, _, _, _, _, _, _, _, _, _, _, _, HH⟩
  clear HD
  obtain ⟨rfl, t', A0', n0', c0', A1', n1', c1', A2', n2', c2', A3', n3', c3', HD⟩ := hcut
  clear A0 n0 c0 A1 n1 c1 A2 n2 c2 A3 n3 c3 t
  obtain ⟨t, A0, n0, c0, A1, n1, c1, A2, n2, c2, A3, n3, c3, HD'⟩ : ∃ (t : Tm) (A0 : Option Addr) (n0 c0 : Nat) (A1 : Option Addr) (n1 c1 : Nat) (A2 : Option Addr) (n2 c2 : Nat) (A3 : Option Addr) (n3 c3 : Nat), Hid (DrTm 8 p a len cap g w wc [.int .i64 0, .slice none 0 0, .int .i64 0, .slice none 0 0, .int .i64 0, .slice none 0 0, .int .i64 0, .slice none 0 0] t [.int .i64 t.taint.base, .slice A0 n0 c0, .int .i64 t.clear.base, .slice A1 n1 c1, .int .i64 t.raise.base, .slice A2 n2 c2, .int .i64 t.verify.base, .slice A3 n3 c3]) := ⟨_, _, _, _, _, _, _, _, _, _, _, _, _, HD⟩
  clear HD t' A0' n0' c0' A1' n1' c1' A2' n2' c2' A3' n3' c3'
  have HD := HD'
  clear HD'
  obtain ⟨wec, hwc⟩ : ∃ wec, wec = wc := ⟨_, rfl⟩
  rw [← hwc] at HD ⊢
  clear hwc
  have hgg := HD.out.1.hg
  have rk0 := HD.out.1.rb.cell 0 rfl
  have rf0 := HD.out.1.rb.free 0
  have gk0 := HD.out.1.gb.cell 0 rfl
  have rk1 := HD.out.1.rb.cell 1 rfl
  have rf1 := HD.out.1.rb.free 1
  have gk1 := HD.out.1.gb.cell 1 rfl
  have rk2 := HD.out.1.rb.cell 2 rfl
  have rf2 := HD.out.1.rb.free 2
  have gk2 := HD.out.1.gb.cell 2 rfl
  have rk3 := HD.out.1.rb.cell 3 rfl
  have rf3 := HD.out.1.rb.free 3
  have gk3 := HD.out.1.gb.cell 3 rfl
  have rk4 := HD.out.1.rb.cell 4 rfl
  have rf4 := HD.out.1.rb.free 4
  have gk4 := HD.out.1.gb.cell 4 rfl
  have rk5 := HD.out.1.rb.cell 5 rfl
  have rf5 := HD.out.1.rb.free 5
  have gk5 := HD.out.1.gb.cell 5 rfl
  have rk6 := HD.out.1.rb.cell 6 rfl
  have rf6 := HD.out.1.rb.free 6
  have gk6 := HD.out.1.gb.cell 6 rfl
  have rk7 := HD.out.1.rb.cell 7 rfl
  have rf7 := HD.out.1.rb.free 7
  have gk7 := HD.out.1.gb.cell 7 rfl
  go_wp2
  refine bodyPost_ret (v := .agg #[.int .i64 t.taint.base, .slice A0 n0 c0, .int .i64 t.clear.base, .slice A1 n1 c1, .int .i64 t.raise.base, .slice A2 n2 c2, .int .i64 t.verify.base, .slice A3 n3 c3]) (by simp [results, Tryz.results78, go_sem, rk0, rk1, rk2, rk3, rk4, rk5, rk6, rk7]) rfl ?_
  exact drawn_end HD.out hp
end Go.Proofs.YtnpeojlhjbdjiaaGreatDoor
