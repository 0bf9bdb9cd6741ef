/-
  Chapter 2 of the model, more: With.
-/
import Derived.Test.YtnpeojlhjbdjiaaGreatDoorSpecLab
namespace Go.Proofs.YtnpeojlhjbdjiaaGreatDoor
set_option maxRecDepth 100000
open Go.RowKit

theorem elemPart : Elem Tryz.prog 24 80 2 16 := .of_info ptinfo Tryz.underlying24 rfl (by omega)

/-- The blocks that a label-making loop keeps: the boxed argument, the result, the label in the making; its row lies behind them. -/
structure Making (w wr : World) (b : Int) (sv ov : Value) : Prop where
  below : Below w.heap.size w wr
  size : w.heap.size + 1 + 1 < wr.heap.size
  c0 : wr.cell? ⟨w.heap.size, 0, none⟩ = some (.int .i64 b)
  c1 : wr.cell? ⟨w.heap.size, 1, none⟩ = some sv
  r0 : wr.cell? ⟨w.heap.size + 1, 0, none⟩ = some (.int .i64 0)
  r1 : wr.cell? ⟨w.heap.size + 1, 1, none⟩ = some (.slice none 0 0)
  g0 : wr.frozen? ⟨w.heap.size + 1, 0, none⟩ = false
  g1 : wr.frozen? ⟨w.heap.size + 1, 1, none⟩ = false
  o0 : wr.cell? ⟨w.heap.size + 1 + 1, 0, none⟩ = some (.int .i64 b)
  o1 : wr.cell? ⟨w.heap.size + 1 + 1, 1, none⟩ = some ov
  f1 : wr.frozen? ⟨w.heap.size + 1 + 1, 1, none⟩ = false
theorem Making.grown {w wr w' : World} {b : Int} {sv ov : Value} {row : Option Nat} (h : Making w wr b sv ov) (hg : wr.grownBy w' row) (hr : ∀ k, row = some k → w.heap.size + 1 + 1 + 1 ≤ k) : Making w w' b sv ov := by
  have hs := h.size
  have hb : ∀ g, g < w.heap.size + 1 + 1 + 1 → w'.heap[g]? = wr.heap[g]? := fun g hgl => hg.block g (by omega) (fun e => by have := hr g e.symm; omega)
  have ec : ∀ g i, g < w.heap.size + 1 + 1 + 1 → w'.cell? ⟨g, i, none⟩ = wr.cell? ⟨g, i, none⟩ := fun g i hgl => World.cell?_of_block (w := wr) (hb g hgl)
  have ef : ∀ g i, g < w.heap.size + 1 + 1 + 1 → w'.frozen? ⟨g, i, none⟩ = wr.frozen? ⟨g, i, none⟩ := fun g i hgl => World.frozen?_of_block (w := wr) (hb g hgl)
  exact ⟨h.below.grown hg h.below.size (fun k hk => by have := hr k hk; omega), by have := hg.size; omega, by rw [ec _ _ (by omega)]; exact h.c0, by rw [ec _ _ (by omega)]; exact h.c1,
    by rw [ec _ _ (by omega)]; exact h.r0, by rw [ec _ _ (by omega)]; exact h.r1, by rw [ef _ _ (by omega)]; exact h.g0, by rw [ef _ _ (by omega)]; exact h.g1,
    by rw [ec _ _ (by omega)]; exact h.o0, by rw [ec _ _ (by omega)]; exact h.o1, by rw [ef _ _ (by omega)]; exact h.f1⟩
theorem Making.alloc {w wr : World} {b : Int} {sv ov : Value} (h : Making w wr b sv ov) (o : Obj) : Making w (wr.alloc o) b sv ov := h.grown (World.grownBy_alloc _ o none) (fun _ e => by cases e)
theorem Making.drewN {w wr : World} {b : Int} {sv ov : Value} (h : Making w wr b sv ov) (k : Nat) : Making w (wr.drewN k) b sv ov := ⟨below_drewN h.below k, h.size, h.c0, h.c1, h.r0, h.r1, h.g0, h.g1, h.o0, h.o1, h.f1⟩
theorem Making.store {w wr : World} {b : Int} {sv ov : Value} (h : Making w wr b sv ov) (u : Value) : Making w (wr.setCell ⟨w.heap.size + 1 + 1, 1, none⟩ u) b sv u :=
  ⟨h.below.setCell (by simp only []; omega) u, by simpa using h.size, by rw [World.cell?_setCell_other (a := _) (b := _) (h := by simp)]; exact h.c0, by rw [World.cell?_setCell_other (a := _) (b := _) (h := by simp)]; exact h.c1,
    by rw [World.cell?_setCell_other (a := _) (b := _) (h := by simp)]; exact h.r0, by rw [World.cell?_setCell_other (a := _) (b := _) (h := by simp)]; exact h.r1, by simpa using h.g0, by simpa using h.g1,
    by rw [World.cell?_setCell_other (a := _) (b := _) (h := by simp)]; exact h.o0, World.cell?_setCell_same _ _ _ h.o1, by simpa using h.f1⟩

set_option maxHeartbeats 2000000 in
theorem spec_with0 (v : Value) (l : Lab) (h lv : Int) (w : World) (hr : RdLab w v l) (h8 : l.parts.length ≤ 8) :
    Calls Tryz.prog 36 #[v, .int .i64 h, .int .i64 lv] w (RetLab2 (withL l h lv).1 (withL l h lv).2 w) := by
  obtain ⟨A, n, c, rfl, hn, hl, hc, hm, ha⟩ := hr
  have HN := Lib.hid hn
  have hn8 : n ≤ 8 := by omega
  clear hn hc hm h8
  obtain ⟨d0, hd⟩ : ∃ d0, d0 = decide (lv = l.base) := ⟨_, rfl⟩
  have HD := Lib.hid hd
  have hd' : (lv == l.base) = d0 := by rw [hd]; rfl
  clear hd
  go_enter Tryz.func36, Tryz.ntmps36
  go_wp2
  go_loopw [9, 10] (fun dn i wr => ∃ (k n' : Nat) (done : Bool) (A' : Option Addr) (c' : Nat) (out : List (Int × Int)), k ≤ n ∧ n' ≤ 2 * k ∧ dn = .bool done ∧ i = .int .i64 k ∧ Hid (out.length = n') ∧ WithLeft h lv d0 l.parts out done k ∧ wr.ownsRow (w.heap.size + 1 + 1 + 1) 80 2 (.slice A' n' c') n' (ptcells out) ∧ Making w wr l.base (.slice A n c) (.slice A' n' c')) (fun _ i _ => n - (intOf i).toNat)
  case atStart => exact ⟨0, 0, d0, none, 0, [], by omega, by omega, rfl, rfl, rfl, .zero _ _ _ _, World.ownsRow_nil _ _ _ _, ⟨by go_grown, by simp, by simp [go_sem], by simp [go_sem], by simp [go_sem], by simp [go_sem], by simp [go_sem], by simp [go_sem], by simp [go_sem], by simp [go_sem], by simp [go_sem]⟩⟩
  case round =>
    obtain ⟨k, n', done, A', c', out, hk, hn', rfl, rfl, HL, hs, hown, hM⟩ := hrel
    have HM := Lib.hid hM
    have HO := Lib.hid hown
    obtain ⟨hbel, hsz, c0, c1, r0, r1, g0, g1, o0, o1, f1⟩ := hM
    by_cases hlt : k < n
    · obtain ⟨b, o, x, y, rfl, hx, cx, cy⟩ := ptat (ha.below hbel) (k := k) (by have := HN.out; omega)
      have HX := Lib.hid hx
      clear hx ha hown
      cases done
      · by_cases hlx : h < x
        · have HS := Lib.hid (hs.less HX.out hlx)
          have hne : (x != h) = true := by simp; omega
          clear hs
          go_wp2_with (first
            | (at_builtin
               refine wpList_app elemPart rfl (.tmp 40) (.tmp 44) rfl (w.heap.size + 1 + 1 + 1) _ n' (ptcells out) rfl (by exact (HO.out.alloc _).alloc _) _ 1 1 (ptcells [(h, lv)]) rfl (by exact At.new _ _ _ _ (by simp)) rfl (ptcells_one _) (by omega) (by omega) (by simp; omega) ?_
               intro v2 w2 hap2
               obtain ⟨A2, k2, rfl, -, -, -⟩ := own_at hap2.own
               have hM2 := ((HM.out.alloc _).alloc _).grown hap2.grown (fun j hj => (HO.out.lt j hj).1)
               have HM2 := Lib.hid hM2
               obtain ⟨hbel2, hsz2, c02, c12, r02, r12, g02, g12, o02, o12, f12⟩ := hM2
               have px2 := hap2.grown.cell (a := ⟨wr.heap.size, 0, none⟩) (v := .int .i64 x) (by simp [go_sem]) (fun e => by have := (HO.out.lt _ e.symm).2; simp at this)
               have py2 := hap2.grown.cell (a := ⟨wr.heap.size, 1, none⟩) (v := .int .i64 y) (by simp [go_sem]) (fun e => by have := (HO.out.lt _ e.symm).2; simp at this)
               have HO2 : Hid (w2.ownsRow (w.heap.size + 1 + 1 + 1) 80 2 (.slice A2 (n' + 1) k2) (n' + 1) (ptcells (out ++ [(h, lv)]))) := by rw [ptcells_append]; exact hap2.own
               clear hap2)
            | (at_builtin
               refine wpList_app elemPart rfl (.tmp 52) (.tmp 54) rfl (w.heap.size + 1 + 1 + 1) _ (n' + 1) (ptcells (out ++ [(h, lv)])) rfl (by exact (ownsRow_setCell_below HO2.out (by simp only []; omega) _).alloc _) _ 1 1 (ptcells [(x, y)]) rfl (by exact At.new _ _ _ _ (by simp)) rfl (ptcells_one _) (by omega) (by omega) (by simp; omega) ?_
               intro v3 w3 hap3
               obtain ⟨A3, k3, rfl, -, -, -⟩ := own_at hap3.own
               have hM3 := ((HM2.out.store _).alloc _).grown hap3.grown (fun j hj => (HO2.out.lt j hj).1)
               have HM3 := Lib.hid hM3
               obtain ⟨hbel3, hsz3, c03, c13, r03, r13, g03, g13, o03, o13, f13⟩ := hM3
               have HO3 : Hid (w3.ownsRow (w.heap.size + 1 + 1 + 1) 80 2 (.slice A3 ((n' + 1) + 1) k3) ((n' + 1) + 1) (ptcells ((out ++ [(h, lv)]) ++ [(x, y)]))) := by rw [ptcells_append]; exact hap3.own
               clear hap3))
          go_roundw
          case rel => exact ⟨k + 1, n' + 1 + 1, true, A3, k3, out ++ [(h, lv)] ++ [(x, y)], by omega, by omega, rfl, by go_num, (by simp only [List.length_append, HL.out]; rfl), HS.out, ownsRow_setCell_below HO3.out (by simp only []; omega) _, HM3.out.store _⟩
          case measure => simp [intOf]; omega
        by_cases hxe : x = h
        · subst hxe
          have HS := Lib.hid (hs.here HX.out)
          clear hs
          go_wp2_with (first
            | (at_builtin
               refine wpList_app elemPart rfl (.tmp 60) (.tmp 64) rfl (w.heap.size + 1 + 1 + 1) _ n' (ptcells out) rfl (by exact (HO.out.alloc _).alloc _) _ 1 1 (ptcells [(x, lv)]) rfl (by exact At.new _ _ _ _ (by simp)) rfl (ptcells_one _) (by omega) (by omega) (by simp; omega) ?_
               intro v2 w2 hap2
               obtain ⟨A2, k2, rfl, -, -, -⟩ := own_at hap2.own
               have hM2 := ((HM.out.alloc _).alloc _).grown hap2.grown (fun j hj => (HO.out.lt j hj).1)
               have HM2 := Lib.hid hM2
               obtain ⟨hbel2, hsz2, c02, c12, r02, r12, g02, g12, o02, o12, f12⟩ := hM2
               have HO2 : Hid (w2.ownsRow (w.heap.size + 1 + 1 + 1) 80 2 (.slice A2 (n' + 1) k2) (n' + 1) (ptcells (out ++ [(x, lv)]))) := by rw [ptcells_append]; exact hap2.own
               clear hap2))
          go_roundw
          case rel => exact ⟨k + 1, n' + 1, true, A2, k2, out ++ [(x, lv)], by omega, by omega, rfl, by go_num, (by simp only [List.length_append, HL.out]; rfl), HS.out, ownsRow_setCell_below HO2.out (by simp only []; omega) _, HM2.out.store _⟩
          case measure => simp [intOf]; omega
        · have HS := Lib.hid (hs.other HX.out hlx hxe)
          have hne : (x != h) = true := by simpa using hxe
          clear hs hxe
          go_wp2_with (first
            | (at_builtin
               refine wpList_app elemPart rfl (.tmp 52) (.tmp 54) rfl (w.heap.size + 1 + 1 + 1) _ n' (ptcells out) rfl (by exact (HO.out.alloc _).alloc _) _ 1 1 (ptcells [(x, y)]) rfl (by exact At.new _ _ _ _ (by simp)) rfl (ptcells_one _) (by omega) (by omega) (by simp; omega) ?_
               intro v2 w2 hap2
               obtain ⟨A2, k2, rfl, -, -, -⟩ := own_at hap2.own
               have hM2 := ((HM.out.alloc _).alloc _).grown hap2.grown (fun j hj => (HO.out.lt j hj).1)
               have HM2 := Lib.hid hM2
               obtain ⟨hbel2, hsz2, c02, c12, r02, r12, g02, g12, o02, o12, f12⟩ := hM2
               have HO2 : Hid (w2.ownsRow (w.heap.size + 1 + 1 + 1) 80 2 (.slice A2 (n' + 1) k2) (n' + 1) (ptcells (out ++ [(x, y)]))) := by rw [ptcells_append]; exact hap2.own
               clear hap2))
          go_roundw
          case rel => exact ⟨k + 1, n' + 1, false, A2, k2, out ++ [(x, y)], by omega, by omega, rfl, by go_num, (by simp only [List.length_append, HL.out]; rfl), HS.out, ownsRow_setCell_below HO2.out (by simp only []; omega) _, HM2.out.store _⟩
          case measure => simp [intOf]; omega
      · by_cases hxe : x = h
        · subst hxe
          have HS := Lib.hid (hs.hereD HX.out)
          clear hs
          go_wp2
          go_roundw
          case rel => exact ⟨k + 1, n', true, A', c', out, by omega, by omega, rfl, by go_num, HL, HS.out, HO.out.alloc _, HM.out.alloc _⟩
          case measure => simp [intOf]; omega
        · have HS := Lib.hid (hs.otherD HX.out hxe)
          have hne : (x != h) = true := by simpa using hxe
          clear hs hxe
          go_wp2_with (first
            | (at_builtin
               refine wpList_app elemPart rfl (.tmp 52) (.tmp 54) rfl (w.heap.size + 1 + 1 + 1) _ n' (ptcells out) rfl (by exact (HO.out.alloc _).alloc _) _ 1 1 (ptcells [(x, y)]) rfl (by exact At.new _ _ _ _ (by simp)) rfl (ptcells_one _) (by omega) (by omega) (by simp; omega) ?_
               intro v2 w2 hap2
               obtain ⟨A2, k2, rfl, -, -, -⟩ := own_at hap2.own
               have hM2 := ((HM.out.alloc _).alloc _).grown hap2.grown (fun j hj => (HO.out.lt j hj).1)
               have HM2 := Lib.hid hM2
               obtain ⟨hbel2, hsz2, c02, c12, r02, r12, g02, g12, o02, o12, f12⟩ := hM2
               have HO2 : Hid (w2.ownsRow (w.heap.size + 1 + 1 + 1) 80 2 (.slice A2 (n' + 1) k2) (n' + 1) (ptcells (out ++ [(x, y)]))) := by rw [ptcells_append]; exact hap2.own
               clear hap2))
          go_roundw
          case rel => exact ⟨k + 1, n' + 1, true, A2, k2, out ++ [(x, y)], by omega, by omega, rfl, by go_num, (by simp only [List.length_append, HL.out]; rfl), HS.out, ownsRow_setCell_below HO2.out (by simp only []; omega) _, HM2.out.store _⟩
          case measure => simp [intOf]; omega
    · obtain rfl : k = n := by omega
      have hpl : l.parts.length ≤ k := by have := HN.out; omega
      cases done
      · have HW := Lib.hid (hs.last hpl)
        have HL2 : Hid ((out ++ [(h, lv)]).length = n' + 1) := by rw [List.length_append, HL.out]; rfl
        clear hs hpl hown ha
        by_cases h8 : n' + 1 ≤ 8
        · have HR := Lib.hid (withL_short (l := l) (h := h) (v := lv) (out := out ++ [(h, lv)]) (by rw [← HD.out]; exact HW.out) (by rw [HL2.out]; exact h8))
          have h8' : ((n' + 1 : Nat) : Int) ≤ 8 := by omega
          clear h8
          go_wp2_with (first
              | (at_builtin
                 refine wpList_app elemPart rfl (.tmp 70) (.tmp 74) rfl (w.heap.size + 1 + 1 + 1) _ n' (ptcells out) rfl (by exact HO.out.alloc _) _ 1 1 (ptcells [(h, lv)]) rfl (by exact At.new _ _ _ _ (by simp)) rfl (ptcells_one _) (by omega) (by omega) (by simp; omega) ?_
                 intro v2 w2 hap2
                 obtain ⟨A2, k2, rfl, -, -, -⟩ := own_at hap2.own
                 have hM2 := (HM.out.alloc _).grown hap2.grown (fun j hj => (HO.out.lt j hj).1)
                 have HM2 := Lib.hid hM2
                 obtain ⟨hbel2, hsz2, c02, c12, r02, r12, g02, g12, o02, o12, f12⟩ := hM2
                 have HO2 : Hid (w2.ownsRow (w.heap.size + 1 + 1 + 1) 80 2 (.slice A2 (n' + 1) k2) (n' + 1) (ptcells (out ++ [(h, lv)]))) := by rw [ptcells_append]; exact hap2.own
                 clear hap2))
          refine bodyPost_ret (v := .tuple #[.agg #[.int .i64 l.base, .slice A2 (n' + 1) k2], .bool true]) (by simp [results, Tryz.results36, go_sem, r02, r12]) rfl ?_
          rw [HR.out]
          exact ⟨_, rfl, ⟨A2, n' + 1, k2, rfl, HL2.out, by omega, own_lower (base := (w.heap.size + 1 + 1 + 1)) (by repeat (first | exact HO2.out | refine ownsRow_setCell_below ?_ (by simp only []; omega) _)) (by omega)⟩, by repeat (first | exact hbel2 | refine Below.setCell ?_ (by simp only []; omega) _)⟩
        · have HR := Lib.hid (withL_long (l := l) (h := h) (v := lv) (out := out ++ [(h, lv)]) (by rw [← HD.out]; exact HW.out) (by rw [HL2.out]; omega))
          have h8' : (8 : Int) < ((n' + 1 : Nat) : Int) := by omega
          clear h8
          go_wp2_with (first
              | (at_builtin
                 refine wpList_app elemPart rfl (.tmp 70) (.tmp 74) rfl (w.heap.size + 1 + 1 + 1) _ n' (ptcells out) rfl (by exact HO.out.alloc _) _ 1 1 (ptcells [(h, lv)]) rfl (by exact At.new _ _ _ _ (by simp)) rfl (ptcells_one _) (by omega) (by omega) (by simp; omega) ?_
                 intro v2 w2 hap2
                 obtain ⟨A2, k2, rfl, -, -, -⟩ := own_at hap2.own
                 have hM2 := (HM.out.alloc _).grown hap2.grown (fun j hj => (HO.out.lt j hj).1)
                 have HM2 := Lib.hid hM2
                 obtain ⟨hbel2, hsz2, c02, c12, r02, r12, g02, g12, o02, o12, f12⟩ := hM2
                 have HO2 : Hid (w2.ownsRow (w.heap.size + 1 + 1 + 1) 80 2 (.slice A2 (n' + 1) k2) (n' + 1) (ptcells (out ++ [(h, lv)]))) := by rw [ptcells_append]; exact hap2.own
                 clear hap2))
          refine bodyPost_ret (v := .tuple #[.agg #[.int .i64 0, .slice none 0 0], .bool false]) (by simp [results, Tryz.results36, go_sem, r02, r12]) rfl ?_
          rw [HR.out]
          exact ⟨_, rfl, own_nil _ _ _, by repeat (first | exact hbel2 | refine Below.setCell ?_ (by simp only []; omega) _)⟩
      · have HW := Lib.hid (hs.done hpl)
        clear hs hpl hown ha
        by_cases h8 : n' ≤ 8
        · have HR := Lib.hid (withL_short (l := l) (h := h) (v := lv) (out := out) (by rw [← HD.out]; exact HW.out) (by rw [HL.out]; exact h8))
          have h8' : ((n' : Nat) : Int) ≤ 8 := by omega
          clear h8
          go_wp2
          refine bodyPost_ret (v := .tuple #[.agg #[.int .i64 l.base, .slice A' (n') c'], .bool true]) (by simp [results, Tryz.results36, go_sem, r0, r1]) rfl ?_
          rw [HR.out]
          exact ⟨_, rfl, ⟨A', n', c', rfl, HL.out, by omega, own_lower (base := (w.heap.size + 1 + 1 + 1)) (by repeat (first | exact HO.out | refine ownsRow_setCell_below ?_ (by simp only []; omega) _)) (by omega)⟩, by repeat (first | exact hbel | refine Below.setCell ?_ (by simp only []; omega) _)⟩
        · have HR := Lib.hid (withL_long (l := l) (h := h) (v := lv) (out := out) (by rw [← HD.out]; exact HW.out) (by rw [HL.out]; omega))
          have h8' : (8 : Int) < ((n' : Nat) : Int) := by omega
          clear h8
          go_wp2
          refine bodyPost_ret (v := .tuple #[.agg #[.int .i64 0, .slice none 0 0], .bool false]) (by simp [results, Tryz.results36, go_sem, r0, r1]) rfl ?_
          rw [HR.out]
          exact ⟨_, rfl, own_nil _ _ _, by repeat (first | exact hbel | refine Below.setCell ?_ (by simp only []; omega) _)⟩

end Go.Proofs.YtnpeojlhjbdjiaaGreatDoor
