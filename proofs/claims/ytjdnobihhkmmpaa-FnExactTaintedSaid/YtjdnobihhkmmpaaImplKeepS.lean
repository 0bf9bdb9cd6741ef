/-
  Chapter 4 of the program: keeping, as Stars calls it: told of each handle, the stars kept.
-/
import Derived.Test.YtjdnobihhkmmpaaImplTaint1
import Derived.Test.YtjdnobihhkmmpaaHas
import Derived.Test.YtjdnobihhkmmpaaMem
import Derived.Deep.RegionHeld3
import Derived.RangeFuncBox
namespace Go.Proofs.Ytjdnobihhkmmpaa
set_option maxRecDepth 100000
open Go.RowKit
attribute [local go_sem] Oper.semAt_some

/-- What stands in the block behind the handles up to k, as parts. -/
theorem tell_partsS {f : Int → Int} {b1 : Int} {hs : List Int} {k : Nat} {x : Int} {out : List (Int × Int)} (h : tellAll f ⟨b1, []⟩ (hs.take k) = ⟨b1, out⟩) (hx : hs[k]? = some x) : tellAll f ⟨b1, []⟩ (hs.take (k + 1)) = ⟨b1, withGo x (f x) (decide (f x = b1)) out⟩ := by
  rw [tellAll_take hx, h]; rfl

set_option maxHeartbeats 16000000 in
theorem impl_keepS (v : Value) (l : Lab) (b : Int) (hs : List Int) (f : Int → Int) (A2 : Option Addr) (n2 c2 : Nat) (w : World) (hr : RdLab w v l) (hri : Rises (-1) l.parts) (hb : lvOk b = true)
    (hlen : hs.length = n2) (hn : n2 ≤ 100) (ha : At w A2 (nmcells hs)) (ho : ∀ h ∈ hs, hOk h = true) (hf : ∀ h ∈ hs, lvOk (f h) = true)
    (htell : ∀ (x : Int) (w1 : World), hOk x = true → Below w.heap.size w w1 → Calls Try.prog 36 #[.int .i64 x] w1 (RetV (.int .i64 (f x)) w1)) :
    Calls Try.prog 30 #[v, .int .i64 b, .slice A2 n2 c2, .func (.func 36) #[] #[]] w (RetLab (keepL l b hs f) w) := by
  have HRL := Lib.hid hr
  have HRIL := Lib.hid hri
  have HK1 := Lib.hid (fun k => keep1_ok (l := l) (hs := hs.take k) hb (fun h hh => ho h (List.mem_of_mem_take hh)) (fun h hh => hf h (List.mem_of_mem_take hh)))
  have HK2 := Lib.hid (fun k => keep1_length (l := l) (hs := hs.take k) hb (fun h hh => ho h (List.mem_of_mem_take hh)) (fun h hh => hf h (List.mem_of_mem_take hh)))
  have HT := Lib.hid htell
  have HN := Lib.hid hlen
  have HA := Lib.hid ha
  have HO := Lib.hid ho
  obtain ⟨A, n, c, rfl, -⟩ := hr
  obtain ⟨b1, hb1⟩ : ∃ b1, b1 = keepBase l b := ⟨_, rfl⟩
  have HB1 := Lib.hid hb1
  clear hri hb hlen ha ho hf htell hb1
  by_cases hz : l.base = 0
  case' pos =>
    have hd : (l.base == 0) = true := by simpa using hz
    have HE : Hid (b1 = 0) := Lib.hid (by rw [HB1.out]; simp [keepBase, hz])
    clear hz
    refine (callsIn_wide (n := 5)).1 ?_
    refine callsIn_of_wp_marks Try.func30 rfl trivial ?_ rfl
    simp only [Try.ntmps30, List.size_toArray, List.length_cons, List.length_nil, Nat.reduceAdd, Nat.reduceSub, Array.replicate_succ, Array.replicate_zero, List.push_toArray, List.append_toArray, List.nil_append, List.cons_append]
    rw [wpIn_wide]
    go_wp2
    generalize hW : ((w.alloc (.cells #[.int .i64 l.base, .slice A n c] 26)).alloc (.cells #[.int .i64 0, .slice none 0 0] 26)).alloc (.cells #[.int .i64 0, .slice none 0 0] 26) = w0
    obtain ⟨hsz, hb0, bl, br, bm, fz⟩ := laidMk hW
    rw [← HE.out] at bm
    have HB0 := Lib.hid hb0
    have BL := Lib.hid bl
    have BR := Lib.hid br
    have FZ := Lib.hid fz
    have HM0 : Hid (Mk w0 (w.heap.size + 1 + 1) w0 none 0 0 ⟨b1, []⟩) := Lib.hid ⟨.begin (bm 0 _ rfl) (bm 1 _ rfl) (fz _ _ (by omega) (by omega)), fz _ _ (by omega) (by omega)⟩
    clear hW hb0 bl br bm fz HE hd
  case' neg =>
    have hd : (l.base == 0) = false := by simpa using hz
    have HE : Hid (b1 = b) := Lib.hid (by rw [HB1.out]; simp [keepBase, hz])
    clear hz
    refine (callsIn_wide (n := 5)).1 ?_
    refine callsIn_of_wp_marks Try.func30 rfl trivial ?_ rfl
    simp only [Try.ntmps30, List.size_toArray, List.length_cons, List.length_nil, Nat.reduceAdd, Nat.reduceSub, Array.replicate_succ, Array.replicate_zero, List.push_toArray, List.append_toArray, List.nil_append, List.cons_append]
    rw [wpIn_wide]
    go_wp2
    generalize hW : ((w.alloc (.cells #[.int .i64 l.base, .slice A n c] 26)).alloc (.cells #[.int .i64 0, .slice none 0 0] 26)).alloc (.cells #[.int .i64 b, .slice none 0 0] 26) = w0
    obtain ⟨hsz, hb0, bl, br, bm, fz⟩ := laidMk hW
    rw [← HE.out] at bm
    have HB0 := Lib.hid hb0
    have BL := Lib.hid bl
    have BR := Lib.hid br
    have FZ := Lib.hid fz
    have HM0 : Hid (Mk w0 (w.heap.size + 1 + 1) w0 none 0 0 ⟨b1, []⟩) := Lib.hid ⟨.begin (bm 0 _ rfl) (bm 1 _ rfl) (fz _ _ (by omega) (by omega)), fz _ _ (by omega) (by omega)⟩
    clear hW hb0 bl br bm fz HE hd
  all_goals
    go_loopw [21] (fun i wr => ∃ (k n9 c9 : Nat) (A9 : Option Addr) (out : List (Int × Int)), k ≤ n2 ∧ n9 ≤ k ∧ i = .int .i64 k ∧ Hid (tellAll f ⟨b1, []⟩ (hs.take k) = ⟨b1, out⟩) ∧ Hid (Mk w0 (w.heap.size + 1 + 1) wr A9 n9 c9 ⟨b1, out⟩)) (fun i _ => n2 - (intOf i).toNat)
    case atStart => exact ⟨0, 0, 0, none, [], by omega, by omega, rfl, Lib.hid rfl, HM0⟩
    case round =>
      clear HM0
      obtain ⟨k, n9, c9, A9, out, hk, hn9, rfl, HS, HM⟩ := hrel
      by_cases hlt : k < n2
      · have HAr := Lib.hid (HA.out.below (HM.out.under HB0.out (by omega)))
        obtain ⟨b9, o9, x, rfl, hx, cx⟩ := nmat HAr.out (k := k) (by have := HN.out; omega)
        have hox : hOk x = true := HO.out x (List.mem_of_getElem? hx)
        have HRI : Hid (Rises (-1) out) := Lib.hid (by have h1 := (HK1.out k).rises; rw [← HB1.out, HS.out] at h1; exact h1)
        have HS1 := Lib.hid (tell_partsS HS.out hx)
        have HLN : Hid ((withGo x (f x) (decide (f x = b1)) out).length ≤ k + 1) := Lib.hid (by
          have h1 := HK2.out (k + 1)
          rw [← HB1.out, HS1.out] at h1
          have h2 : (hs.take (k + 1)).length ≤ k + 1 := List.length_take_le _ _
          simp only [] at h1; omega)
        clear hx HS
        go_wp2
        refine wp_region_noPanic ?_
        refine wp_region_late 5 (fun w' => w'.cell? ⟨w.heap.size + 1 + 1, 0, none⟩ = some (.int .i64 b1) ∧ w'.cell? ⟨w.heap.size + 1 + 1, 1, none⟩ = some (.slice A9 n9 c9)) (by kernel_rfl) ?_
        obtain ⟨wx, hwx⟩ : ∃ wx, wx = wr.drew := ⟨_, rfl⟩
        have HM' := Lib.hid HM.out.drew
        rw [← hwx] at HM' ⊢
        clear HM hwx
        have HM := HM'
        clear HM'
        refine WpLate.take (i := 0) (v := .agg #[.int .i64 b1, .slice A9 n9 c9]) rfl (by kernel_rfl) (by kernel_rfl) (by kernel_rfl) (by kernel_rfl) (by kernel_rfl) (fun _ _ _ h => h) (Or.inl ⟨by rfl, fun w' hw => ?_⟩) ⟨HM.out.b.g0, HM.out.b.g1⟩ ?_
        · obtain ⟨hw1, hw2⟩ := hw; go_simp
        try simp only [Act.put]
        try simp only [List.setIfInBounds_toArray]
        try simp only [List.set_cons_succ, List.set_cons_zero]
        refine WpLate.take (i := 1) (v := .int .i64 x) rfl (by kernel_rfl) (by kernel_rfl) (by kernel_rfl) (by kernel_rfl) (by kernel_rfl) (fun _ _ _ h => h) (Or.inl ⟨by rfl, fun w' hw => ?_⟩) ⟨HM.out.b.g0, HM.out.b.g1⟩ ?_
        · go_simp
        try simp only [Act.put]
        try simp only [List.setIfInBounds_toArray]
        try simp only [List.set_cons_succ, List.set_cons_zero]
        refine WpLate.take (i := 2) (v := .func (.func 36) #[] #[]) rfl (by kernel_rfl) (by kernel_rfl) (by kernel_rfl) (by kernel_rfl) (by kernel_rfl) (fun _ _ _ h => h) (Or.inl ⟨by rfl, fun w' hw => ?_⟩) ⟨HM.out.b.g0, HM.out.b.g1⟩ ?_
        · go_simp
        try simp only [Act.put]
        try simp only [List.setIfInBounds_toArray]
        try simp only [List.set_cons_succ, List.set_cons_zero]
        refine WpLate.take (i := 3) (v := .int .i64 x) rfl (by kernel_rfl) (by kernel_rfl) (by kernel_rfl) (by kernel_rfl) (by kernel_rfl) (fun _ _ _ h => h) (Or.inl ⟨by rfl, fun w' hw => ?_⟩) ⟨HM.out.b.g0, HM.out.b.g1⟩ ?_
        · go_simp
        try simp only [Act.put]
        try simp only [List.setIfInBounds_toArray]
        try simp only [List.set_cons_succ, List.set_cons_zero]
        refine WpLate.each (rs := [4]) (by kernel_rfl) (by simp) (LateEach.cons rfl (fun K hK => ?_) LateEach.nil)
        go_simp
        refine (HT.out x _ hox (HM.out.under HB0.out (by omega))).mono ?_
        rintro e w2 ⟨rfl, hb2⟩
        have HM2 := Lib.hid (HM.out.below hb2)
        clear HM hb2
        try dsimp only
        refine hK.out _ _ (fun _ => ⟨HM2.out.b.g0, HM2.out.b.g1⟩) ?_
        try simp only [Act.put]
        try simp only [List.setIfInBounds_toArray]
        try simp only [List.set_cons_succ, List.set_cons_zero]
        refine WpLate.each (rs := [5]) (by kernel_rfl) (by simp) (LateEach.cons rfl (fun K hK => ?_) LateEach.nil)
        go_simp
        refine (impl_with0 _ ⟨b1, out⟩ x (f x) _ (HM2.out.rd (by omega)) HRI.out (by have := HM2.out.b.len; simp only [] at this ⊢; omega)).mono ?_
        rintro e w4 ⟨v4, rfl, own4, hb4⟩
        obtain ⟨A5, n5, c5, rfl, hl5, -, -⟩ := id own4
        have HP := Lib.hid (HM2.out.put hb4 own4)
        have HM4 := Lib.hid (HM2.out.below hb4)
        have gk0 := HM4.out.b.g0
        have gk1 := HM4.out.b.g1
        have gf0 := HM4.out.f0
        have gf1 := HM4.out.b.f1
        have HL5 : Hid (n5 ≤ k + 1) := Lib.hid (by have h1 := HLN.out; rw [← hl5]; exact h1)
        clear HM2 hb4 own4 hl5
        try dsimp only
        refine hK.out _ _ (fun h => absurd h (by omega)) ?_
        try simp only [Act.put]
        try simp only [List.setIfInBounds_toArray]
        try simp only [List.set_cons_succ, List.set_cons_zero]
        refine WpLate.each (rs := [6]) (by kernel_rfl) (by simp) (LateEach.cons rfl (fun K hK => ?_) LateEach.nil)
        go_simp
        refine hK.out _ _ (fun h => absurd h (by omega)) ?_
        try simp only [Act.put]
        try simp only [List.setIfInBounds_toArray]
        try simp only [List.set_cons_succ, List.set_cons_zero]
        refine WpLate.done (by kernel_rfl) (NoPanic.normal ?_) _
        go_wp2
        go_roundw
        case rel => exact ⟨k + 1, n5, c5, A5, withGo x (f x) (decide (f x = b1)) out, by omega, HL5.out, by go_num, HS1, HP⟩
        case measure => simp [intOf]; omega
      · obtain rfl : k = n2 := by omega
        have HS1 : Hid (tellAll f ⟨b1, []⟩ hs = ⟨b1, out⟩) := Lib.hid (by have h1 := HS.out; rwa [List.take_of_length_le (by have := HN.out; omega)] at h1)
        have HOK : Hid (okL ⟨b1, out⟩) := Lib.hid (by have h1 := HK1.out k; rwa [← HB1.out, HS.out] at h1)
        have BLr := Lib.hid (HM.out.b.has (by omega) BL.out)
        have a0 := BLr.out 0 _ rfl
        have a1 := BLr.out 1 _ rfl
        have hzr := HM.out.gl
        clear HS
        go_wp2_with (go_at_call 59; refine (impl_stars0 _ l.base A n c A2 k c2 _ rfl).mono ?_; rintro e w' ⟨rfl, rfl⟩)
        generalize hW : (wr.alloc (.cells #[.int .i64 l.base, .slice A n c] 26)).alloc (.cells #[.slice A2 k c2] 34) = wF
        have HMF : Hid (Mk w0 (w.heap.size + 1 + 1) wF A9 n9 c9 ⟨b1, out⟩) := Lib.hid (by rw [← hW]; exact (HM.out.alloc _).alloc _)
        have c0 : wF.cell? ⟨wr.heap.size + 1, 0, none⟩ = some (.slice A2 k c2) := by rw [← hW]; simp [go_sem]
        have c1 : wF.cell? ⟨wr.heap.size, 0, none⟩ = some (.int .i64 l.base) := by rw [← hW]; simp [go_sem]
        have c2' : wF.cell? ⟨wr.heap.size, 1, none⟩ = some (.slice A n c) := by rw [← hW]; simp [go_sem]
        have hzF : wF.heap.size = wr.heap.size + 1 + 1 := by rw [← hW]; simp
        have HC := Lib.hid (And.intro c0 (And.intro c1 c2'))
        clear hW c0 c1 c2' a0 a1 HM BLr
        have hBF : Below w.heap.size w wF := HMF.out.under HB0.out (by omega)
        rw [← wpIn_wide (n := 4)]
        apply wpIn_rangeFunc_ownF (α := Hd) (gf := 78) (lb := #[.pointer (some ⟨wr.heap.size + 1, 0, none⟩), .pointer (some ⟨wr.heap.size, 0, none⟩)]) (encs := fun x : Hd => #[Value.int .i64 x.1]) (Kp := KeepBut (w.heap.size + 1 + 1) wF.heap.size) (S := fun xs : List Hd => xs.map (·.1) = starsIn l hs) (Sp := fun _ => True) (N := k) (w0 := wF)
          (I := fun pre W => wF.heap.size ≤ W.heap.size ∧ ∃ (A7 : Option Addr) (n7 c7 : Nat) (out7 : List (Int × Int)), tellAll (fun _ => 0) ⟨b1, out⟩ (pre.map (·.1)) = ⟨b1, out7⟩ ∧ Mk w0 (w.heap.size + 1 + 1) W A7 n7 c7 ⟨b1, out7⟩)
          (Ix := fun _ _ _ => False)
        case hro => rfl
        case h1 => omega
        case hg => rfl
        case hFg => trivial
        case eg => exact enters_of Try.func78 (by kernel_rfl) rfl
        case hseq => exact stars_stops 3 (by omega) (w.heap.size + 1 + 1) (wr.heap.size + 1) wr.heap.size A2 k c2 A n c l hs HO.out HN.out (by omega) HRIL.out w wF hBF (by omega) (by omega) (by omega) HC.out.1 HC.out.2.1 HC.out.2.2 HA.out HRL.out
        case hKt => exact fun h k => KeepBut.trans h k
        case hKb => exact fun W l o o' hl h1 h2 h3 => KeepBut.b W l o' hl h1 h2 h3
        case hb0 => exact Below.refl _ _
        case hps => exact fun _ => rfl
        case hI =>
          rintro pre X Y row ⟨hz7, A7, n7, c7, out7, h7, hm⟩ hg hr
          exact ⟨Nat.le_trans hz7 hg.size, A7, n7, c7, out7, h7, hm.turned hg (fun r e => ⟨by have := (hr r e).1; have := HMF.out.b.kept.size; omega, (hr r e).2⟩)⟩
        case hIx => exact fun _ _ _ _ _ hs _ _ => hs
        case h0 => exact ⟨Nat.le_refl _, A9, n9, c9, out, rfl, HMF.out⟩
        case hassign =>
          intro lp x W K hK
          gi_wp2
          exact hK
        case hbody =>
          rintro lp pre x W ⟨hz7, A7, n7, c7, out7, h7, hm⟩ hlt7
          have HM7 := Lib.hid hm
          have H7 := Lib.hid h7
          have HOK7 : Hid (okL ⟨b1, out7⟩) := Lib.hid (by
            have h1 := tellAll_ok (f := fun _ => 0) HOK.out (hs := pre.map (·.1)) (fun h hh => by obtain ⟨q, -, rfl⟩ := List.mem_map.1 hh; exact q.2) (fun _ _ => rfl)
            rwa [h7] at h1)
          have HL7 : Hid (n7 ≤ 200) := Lib.hid (by
            have h1 := tellAll_length (f := fun _ => 0) HOK.out (hs := pre.map (·.1)) (fun h hh => by obtain ⟨q, -, rfl⟩ := List.mem_map.1 hh; exact q.2) (fun _ _ => rfl)
            rw [h7, List.length_map] at h1
            have h2 := hm.b.len
            have h3 := HMF.out.b.len
            simp only [] at h1 h2 h3
            omega)
          have g0 := hm.b.g0
          have g1 := hm.b.g1
          clear hm h7
          gi_wp2_with (refine ⟨trivial, ?_⟩; gi_at_call 58; refine (CallsIn.inRound lp (callsIn_wide.2 (impl_with0 _ ⟨b1, out7⟩ x.1 0 _ (HM7.out.rd (by have := HL7.out; omega)) HOK7.out.rises (by have := HL7.out; have := HM7.out.b.len; simp only [] at this ⊢; omega)))).mono ?_; rintro e w4 ⟨v4, rfl, own4, hb4⟩; obtain ⟨A5, n5, c5, rfl, -, -, -⟩ := id own4; have HP := Lib.hid (HM7.out.put hb4 own4); have HM4 := Lib.hid (HM7.out.below hb4); have HBB := Lib.hid hb4; have gk0 := HM4.out.b.g0; have gk1 := HM4.out.b.g1; have gf0 := HM4.out.f0; have gf1 := HM4.out.b.f1; clear hb4 own4)
          exact ⟨((keepsOthers_below HBB.out).trans (KeepsOthers.setCell _ _ _)).trans (KeepsOthers.setCell _ _ _), ((KeepBut.below hz7 HBB.out).trans (KeepBut.set _ _ _)).trans (KeepBut.set _ _ _), by have := HBB.out.size; simp; omega, A5, n5, c5, withGo x.1 0 (decide ((0 : Int) = b1)) out7, by rw [List.map_append, List.map_cons, List.map_nil, tellAll_snoc, H7.out]; rfl, HP.out⟩
        case hdone =>
          rintro D xs W hD hS ⟨hz7, A7, n7, c7, out7, h7, hm⟩ hK
          have HM7 := Lib.hid hm
          have HL7 : Hid (n7 ≤ 1048576) := Lib.hid (by
            have h1 := tellAll_length (f := fun _ => 0) HOK.out (hs := xs.map (·.1)) (fun h hh => by obtain ⟨q, -, rfl⟩ := List.mem_map.1 hh; exact q.2) (fun _ _ => rfl)
            rw [h7, hS] at h1
            have h2 := hm.b.len
            have h3 := HMF.out.b.len
            have h4 := starsIn_length l hs
            have h5 := HN.out
            simp only [] at h1 h2 h3
            omega)
          have HKE : Hid (⟨b1, out7⟩ = keepL l b hs f) := Lib.hid (by rw [← h7, hS]; unfold keepL; rw [← HB1.out, HS1.out])
          have g0 := hm.b.g0
          have g1 := hm.b.g1
          have r0 : W.cell? ⟨w.heap.size + 1, 0, none⟩ = some (.int .i64 0) := hm.b.cell (by omega) (BR.out 0 _ rfl)
          have r1 : W.cell? ⟨w.heap.size + 1, 1, none⟩ = some (.slice none 0 0) := hm.b.cell (by omega) (BR.out 1 _ rfl)
          have e0 : W.frozen? ⟨w.heap.size + 1, 0, none⟩ = false := (hm.b.frozen (by omega) (by omega)).trans (FZ.out _ _ (by omega) (by omega))
          have e1 : W.frozen? ⟨w.heap.size + 1, 1, none⟩ = false := (hm.b.frozen (by omega) (by omega)).trans (FZ.out _ _ (by omega) (by omega))
          have HKD := Lib.hid hK
          have hxW := hm.gl
          clear hm h7 hS hK
          go_wp2
          generalize hWE : (W.setCell ⟨w.heap.size + 1, 0, none⟩ (.int .i64 b1)).setCell ⟨w.heap.size + 1, 1, none⟩ (.slice A7 n7 c7) = WE
          have HKE2 : WE.heap[D]? = some (.deferred (some [])) := by rw [← hWE]; exact ((KeepsOthers.setCell W ⟨w.heap.size + 1, 0, none⟩ (.int .i64 b1)).trans (KeepsOthers.setCell _ _ _)).same D _ HKD.out rfl
          have k0 : WE.cell? ⟨w.heap.size + 1, 0, none⟩ = some (.int .i64 b1) := by rw [← hWE]; simp [go_sem, r0]
          have k1 : WE.cell? ⟨w.heap.size + 1, 1, none⟩ = some (.slice A7 n7 c7) := by rw [← hWE]; simp [go_sem, r1]
          have HBE : Below w.heap.size w WE := by rw [← hWE]; exact ((HM7.out.under HB0.out (by omega)).setCell (by simp only []; omega) _).setCell (by simp only []; omega) _
          have HOE : OwnLab w0.heap.size WE (.agg #[.int .i64 b1, .slice A7 n7 c7]) ⟨b1, out7⟩ := by
            rw [← hWE]
            have h1 : OwnLab w0.heap.size W (.agg #[.int .i64 b1, .slice A7 n7 c7]) ⟨b1, out7⟩ := ⟨A7, n7, c7, rfl, HM7.out.b.len, HL7.out, HM7.out.b.own⟩
            exact (h1.past (by omega)).past (by omega)
          have p0 := cell_kept k0 (grownBy_putObj' _ D (.deferred none)) (fun r e => by cases e; exact ⟨_, HKE2, rfl⟩)
          have p1 := cell_kept k1 (grownBy_putObj' _ D (.deferred none)) (fun r e => by cases e; exact ⟨_, HKE2, rfl⟩)
          clear hWE
          refine ⟨by simp, .inl ⟨D, _, rfl, run_takeDeferred HKE2, ?_⟩⟩
          refine ⟨.agg #[.int .i64 b1, .slice A7 n7 c7], by simp [results, Try.results30, go_sem, p0, p1], ?_⟩
          rw [← HKE.out]
          obtain ⟨A8, n8, c8, h8, hl8, hn8, ho8⟩ := HOE
          refine ⟨_, rfl, (OwnLab.lower (base := w0.heap.size) ⟨A8, n8, c8, h8, hl8, hn8, ownsRow_putObj ho8 _ HKE2 rfl⟩ (by omega)), HBE.trans (belowK_b (w := w) (Nat.le_refl _) WE D _ _ (by have := HMF.out.b.kept.size; omega) HKE2 rfl rfl)⟩
        case hstop =>
          rintro D cc pre W _ _ h _
          exact h.elim
end Go.Proofs.Ytjdnobihhkmmpaa
