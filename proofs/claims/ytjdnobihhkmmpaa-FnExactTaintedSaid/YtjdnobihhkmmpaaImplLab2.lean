/-
  Chapter 2 of the program: whether a label is right; Plain; the level of a handle.
-/
import Derived.Test.YtjdnobihhkmmpaaImplLab1
import Derived.Test.YtjdnobihhkmmpaaSpecLab2
namespace Go.Proofs.Ytjdnobihhkmmpaa
set_option maxRecDepth 100000
open Go.RowKit

set_option maxHeartbeats 1000000 in
theorem impl_labok0 (v : Value) (l : Lab) (w : World) (h : RdLab w v l) : Calls Try.prog 26 #[v] w (RetV (.bool (labOk l)) w) := by
  obtain ⟨A, n, c, rfl, hn, hl, hc, hm, ha⟩ := h
  have HN := Lib.hid hn
  clear hn hc hm
  cases hb : lvOk l.base
  · have HR := Lib.hid (labOk_base hb)
    go_enter Try.func26, Try.ntmps26
    go_wp2_with (go_at_call 54; refine (impl_ok _ _).mono ?_; rintro e w1 ⟨rfl, rfl⟩)
    go_ret
    exact .mk (by rw [HR.out]; rfl) (by go_grown)
  · by_cases h8 : n ≤ 8
    · have h8' : (n : Int) ≤ 8 := by omega
      go_enter Try.func26, Try.ntmps26
      go_wp2_with (go_at_call 54; refine (impl_ok _ _).mono ?_; rintro e w1 ⟨rfl, rfl⟩)
      go_loopw [18] (fun i wr => ∃ k : Nat, k ≤ n ∧ i = .int .i64 k ∧ EachOk l.base l.parts k ∧ Below w.heap.size w wr ∧ w.heap.size < wr.heap.size ∧ wr.cell? ⟨w.heap.size, 0, none⟩ = some (.int .i64 l.base) ∧ wr.cell? ⟨w.heap.size, 1, none⟩ = some (.slice A n c)) (fun i _ => n - (intOf i).toNat)
      case atStart => exact ⟨0, by omega, rfl, .zero _ _, by go_grown, by simp, by simp, by simp⟩
      case round =>
        obtain ⟨k, hk, rfl, hs, hbel, hsz, cb, cs⟩ := hrel
        by_cases hlt : k < n
        · obtain ⟨b, o, x, y, rfl, hx, cx, cy⟩ := ptat (ha.below hbel) (k := k) (by have := HN.out; omega)
          have HX := Lib.hid hx
          clear hx
          cases h1 : hOk x
          · -- no handle
            have HR := Lib.hid (labOk_parts hb (by have := HN.out; omega) (partsOk_bad (p := -1) HX.out (.inl h1)))
            clear hs ha
            go_wp2_with (first | (go_at_call 41; refine (impl_hrange _ _).mono ?_; rintro e w1 ⟨rfl, rfl⟩) | (go_at_call 54; refine (impl_ok _ _).mono ?_; rintro e w1 ⟨rfl, rfl⟩))
            go_ret
            exact .mk (by rw [HR.out]; rfl) (hbel.alloc hbel.size _)
          cases h2 : lvOk y
          · -- no level
            have HR := Lib.hid (labOk_parts hb (by have := HN.out; omega) (partsOk_bad (p := -1) HX.out (.inr (.inl h2))))
            clear hs ha
            go_wp2_with (first | (go_at_call 41; refine (impl_hrange _ _).mono ?_; rintro e w1 ⟨rfl, rfl⟩) | (go_at_call 54; refine (impl_ok _ _).mono ?_; rintro e w1 ⟨rfl, rfl⟩))
            go_ret
            exact .mk (by rw [HR.out]; rfl) (hbel.alloc hbel.size _)
          by_cases h3 : y = l.base
          · -- the base
            have h3' : (y == l.base) = true := by simpa using h3
            have HR := Lib.hid (labOk_parts hb (by have := HN.out; omega) (partsOk_bad (p := -1) HX.out (.inr (.inr h3))))
            clear h3 hs ha
            go_wp2_with (first | (go_at_call 41; refine (impl_hrange _ _).mono ?_; rintro e w1 ⟨rfl, rfl⟩) | (go_at_call 54; refine (impl_ok _ _).mono ?_; rintro e w1 ⟨rfl, rfl⟩))
            go_ret
            exact .mk (by rw [HR.out]; rfl) (hbel.alloc hbel.size _)
          have h3' : (y == l.base) = false := by simpa using h3
          have HS := Lib.hid (hs.succ HX.out h1 h2 h3)
          clear h3 hs ha
          go_wp2_with (first | (go_at_call 41; refine (impl_hrange _ _).mono ?_; rintro e w1 ⟨rfl, rfl⟩) | (go_at_call 54; refine (impl_ok _ _).mono ?_; rintro e w1 ⟨rfl, rfl⟩))
          go_roundw
          case rel => exact ⟨k + 1, by omega, by go_num, HS.out, hbel.alloc hbel.size _, by simp; omega, by simp [go_sem, hsz, cb], by simp [go_sem, hsz, cs]⟩
          case measure => simp [intOf]; omega
        · have HR := Lib.hid (labOk_parts hb (by have := HN.out; omega) (hs.done (by have := HN.out; omega)))
          have ha1 := ha.below hbel
          clear hs ha
          go_wp2_with fail
          refine (impl_parts _ _ _ _ _).mono ?_
          rintro e w2 ⟨rfl, hb2⟩
          go_wp2_with fail
          refine (impl_rises A n c l.parts _ (ha1.below hb2) HN.out hl).mono ?_
          rintro e w3 ⟨rfl, hb3⟩
          go_wp2
          go_ret
          exact .mk (by rw [HR.out]; rfl) (below_more (below_more hbel hb2) hb3)
    · have HR := Lib.hid (labOk_long (l := l) (by have := HN.out; omega))
      have h8' : (8 : Int) < n := by omega
      go_enter Try.func26, Try.ntmps26
      go_wp2_with (go_at_call 54; refine (impl_ok _ _).mono ?_; rintro e w1 ⟨rfl, rfl⟩)
      go_ret
      exact .mk (by rw [HR.out]; rfl) (by go_grown)

theorem impl_lev (v : Value) (l : Lab) (h : Int) (w : World) (hr : RdLab w v l) (hri : Rises (-1) l.parts) : Calls Try.prog 33 #[v, .int .i64 h] w (RetV (.int .i64 (lev l h)) w) := by
  have hr0 := hr
  have HV := Lib.hid (lev_place (h := h) hri)
  obtain ⟨A, n, c, rfl, hn, hl, hc, hm, ha⟩ := hr
  have hk := placeK_le h l.parts
  clear hri
  cases hh : placeHit h l.parts
  · have HR : Hid (lev l h = l.base) := by have := HV.out; rw [this, hh]; rfl
    have HN := Lib.hid hn
    clear hn
    go_enter Try.func33, Try.ntmps33
    go_wp2_with fail
    refine (impl_parts _ _ _ _ _).mono ?_
    rintro e w1 ⟨rfl, hb1⟩
    obtain ⟨c0, c1, hz, hbel⟩ := box2 hb1
    clear hb1
    go_wp2_with fail
    refine (impl_place A n c l.parts h _ (ha.below hbel) HN.out hl).mono ?_
    rintro e w2 ⟨rfl, hb2⟩
    have c0' := (hb2.cell (p := ⟨w.heap.size, 0, none⟩) hz).trans c0
    have hbel2 := below_more hbel hb2
    clear hb2 c0 c1
    go_wp2
    go_ret
    exact .mk (by rw [HR.out]; rfl) hbel2
  · obtain ⟨y, hy⟩ := placeHit_lt hh
    have HR : Hid (lev l h = y) := Lib.hid (by have := HV.out; rw [this, if_pos hh]; simp [List.getD, hy])
    have hlt : placeK h l.parts < n := by
      rcases Nat.lt_or_ge (placeK h l.parts) l.parts.length with q | q
      · omega
      · rw [List.getElem?_eq_none q] at hy; cases hy
    obtain ⟨k, hkk⟩ : ∃ k, k = placeK h l.parts := ⟨_, rfl⟩
    have HK := Lib.hid hkk
    rw [← hkk] at hlt hy
    have HN := Lib.hid hn
    have HY := Lib.hid hy
    clear hn hy hkk hk
    obtain ⟨b, o, x, y', rfl, hx, -, -⟩ := ptat ha (k := k) (by have := HN.out; omega)
    obtain ⟨rfl, rfl⟩ : x = h ∧ y' = y := by have := HY.out; rw [hx] at this; simpa using this
    clear hx
    go_enter Try.func33, Try.ntmps33
    go_wp2_with fail
    refine (impl_parts _ _ _ _ _).mono ?_
    rintro e w1 ⟨rfl, hb1⟩
    obtain ⟨c0, c1, hz, hbel⟩ := box2 hb1
    clear hb1
    go_wp2_with fail
    refine (impl_place _ n c l.parts x _ (ha.below hbel) HN.out hl).mono ?_
    rintro e w2 ⟨rfl, hb2⟩
    have c1' := (hb2.cell (p := ⟨w.heap.size, 1, none⟩) hz).trans c1
    have hbel2 := below_more hbel hb2
    obtain ⟨b', o', x2, y2, he, hx2, cx, cy⟩ := ptat (ha.below hbel2) (k := k) (by have := HN.out; omega)
    cases he
    obtain ⟨rfl, rfl⟩ : x2 = x ∧ y2 = y' := by have := HY.out; rw [hx2] at this; simpa using this
    have h2 : (0 : Int) ≤ (k : Int) := by omega
    rw [← HK.out]
    clear hb2 c0 c1 hx2
    go_wp2
    go_ret
    exact .mk (by rw [HR.out]; rfl) hbel2

theorem impl_levelof (v : Value) (l : Lab) (h : Int) (w : World) (hr : RdLab w v l) : Calls Try.prog 16 #[v, .int .i64 h] w (RetV (.int .i64 (levelOf l h)) w) := by
  have hr0 := hr
  obtain ⟨A, n, c, rfl, -⟩ := hr
  cases hb : labOk l
  · have HR := Lib.hid (levelOf_no (h := h) (.inl hb))
    go_enter Try.func16, Try.ntmps16
    go_wp2_with fail
    refine (impl_labok0 _ l _ (hr0.alloc _)).mono ?_
    rintro e w1 ⟨rfl, hb1⟩
    go_wp2
    go_ret
    exact .mk (by rw [HR.out]; rfl) (box2 hb1).2.2.2
  · cases hh : hOk h
    · have HR := Lib.hid (levelOf_no (l := l) (.inr hh))
      go_enter Try.func16, Try.ntmps16
      go_wp2_with fail
      refine (impl_labok0 _ l _ (hr0.alloc _)).mono ?_
      rintro e w1 ⟨rfl, hb1⟩
      go_wp2_with (go_at_call 41; refine (impl_hrange _ _).mono ?_; rintro e w1 ⟨rfl, rfl⟩)
      go_ret
      exact .mk (by rw [HR.out]; rfl) (box2 hb1).2.2.2
    · have HR := Lib.hid (levelOf_yes hb hh)
      go_enter Try.func16, Try.ntmps16
      go_wp2_with fail
      refine (impl_labok0 _ l _ (hr0.alloc _)).mono ?_
      rintro e w1 ⟨rfl, hb1⟩
      obtain ⟨c0, c1, hz, hbel⟩ := box2 hb1
      have hr1 := hr0.below hbel
      clear hb1 hr0
      go_wp2_with (go_at_call 41; refine (impl_hrange _ _).mono ?_; rintro e w1 ⟨rfl, rfl⟩)
      refine (impl_lev _ l h _ hr1 (labOk_rises hb)).mono ?_
      rintro e w2 ⟨rfl, hb2⟩
      go_wp2
      go_ret
      exact .mk (by rw [HR.out]; rfl) (below_more hbel hb2)
end Go.Proofs.Ytjdnobihhkmmpaa
