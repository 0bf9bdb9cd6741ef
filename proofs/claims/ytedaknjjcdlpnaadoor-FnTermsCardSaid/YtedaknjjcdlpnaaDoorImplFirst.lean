/-
  Chapter 5 of the program: the first handle that is refused, asked by each of the two function values.
-/
import Derived.Test.YtedaknjjcdlpnaaDoorImplTerms0
import Derived.Test.YtedaknjjcdlpnaaDoorImplHand
import Derived.Test.YtedaknjjcdlpnaaDoorGranted
namespace Go.Proofs.YtedaknjjcdlpnaaDoor
set_option maxRecDepth 100000
open Go.RowKit

/-- The handles that are asked: one that no label names, and those of the labels. -/
def keysOf (xs : List LB) : List Int := xs.flatMap fun x => x.l.parts.map (·.1)
def hsOf (xs : List LB) : List Int := -1 :: keysOf xs
theorem keys_step {xs : List LB} {k : Nat} {x : LB} (hx : xs[k]? = some x) : hsOf (xs.take (k + 1)) = hsOf (xs.take k) ++ x.l.parts.map (·.1) := by
  simp only [hsOf, keysOf, take_at hx, List.flatMap_append, List.flatMap_cons, List.flatMap_nil, List.append_nil, List.cons_append]
theorem allOk_at {xs : List LB} (h : allOk xs = true) {k : Nat} {x : LB} (hx : xs[k]? = some x) : labOk x.l = true := List.all_eq_true.1 h x (List.mem_of_getElem? hx)
/-- The call returns what tells so. -/
def RetErr (g : Nat) (ok right : Bool) (w : World) (e : Ending) (w' : World) : Prop := ∃ v, e = .returned v ∧ IsErr w' g ok right v ∧ Below w.heap.size w w'

set_option maxHeartbeats 4000000 in
theorem first_allowed (A : Option Addr) (n c : Nat) (xs : List LB) (g : Nat) (b : Addr) (p : Int → Bool) (p1 p2 : Nat) (w : World) (ha : At w A (lbcells xs)) (hn : xs.length = n) (hl : n ≤ 100) (hx : LBs w xs) (hs : Sent w g) (hw : w.cell? ⟨g, 0, none⟩ = some (.iface 139 (.pointer (some b))))
    (hp : allOk xs = true → ∀ (x : Int) (w1 : World), Below w.heap.size w w1 → Calls Tryd.prog 64 #[.int .i64 x, .pointer (some ⟨p1, 0, none⟩), .pointer (some ⟨p2, 0, none⟩)] w1 (RetV (.bool (p x)) w1)) :
    Calls Tryd.prog 60 #[.slice A n c, .iface 139 (.pointer (some b)), .func (.func 64) #[] #[.pointer (some ⟨p1, 0, none⟩), .pointer (some ⟨p2, 0, none⟩)]] w (RetErr g (allOk xs && (hsOf xs).all p) (allOk xs) w) := by
  have HN := Lib.hid hn
  have HA := Lib.hid ha
  have HX := Lib.hid hx
  have HS := Lib.hid hs
  have HW := Lib.hid hw
  have HP := Lib.hid hp
  clear hn ha hx hs hw hp
  cases hok : allOk xs
  · obtain ⟨a, -, -, -, -, -, h1, -⟩ := HS.out.s
    have HG := Lib.hid h1
    have hgz := block_lt_of_cell h1
    simp only [] at hgz
    go_enter Tryd.func60, Tryd.ntmps60
    go_wp2_with fail
    refine (impl_allright A n c xs _ HA.out HN.out (by omega) HX.out).mono ?_
    rintro e w1 ⟨rfl, hb⟩
    rw [hok]
    have h1' := (hb.cell (p := ⟨0, 0, none⟩) hgz).trans h1
    have HB := Lib.hid hb
    clear hb h1
    go_wp2
    go_ret
    exact ⟨_, rfl, .inr (.inl ⟨rfl, rfl, h1'⟩), HB.out⟩
  · have HOK := Lib.hid hok
    go_enter Tryd.func60, Tryd.ntmps60
    go_wp2_with fail
    refine (impl_allright A n c xs _ HA.out HN.out (by omega) HX.out).mono ?_
    rintro e w1 ⟨rfl, hb⟩
    rw [hok]
    have HB := Lib.hid hb
    clear hb
    go_wp2
    have HO0 : Hid ((w1.alloc (.cells #[.int .i64 (-1)] 2)).ownsRow w1.heap.size 2 1 (.slice (some ⟨w1.heap.size, 0, none⟩) 1 1) 1 (nmcells (-1 :: keysOf (xs.take 0)))) := Lib.hid (World.ownsRow_lit (e := 2) (size := 1) (base := w1.heap.size) w1 #[.int .i64 (-1)] 1 (Nat.le_refl _) (by unfold maxLen; omega) rfl)
    have HB0 : Hid (Below w1.heap.size w1 (w1.alloc (.cells #[.int .i64 (-1)] 2))) := Lib.hid (by go_grown)
    go_loopw [7, 19] (fun s i wr => ∃ (k m : Nat), k ≤ n ∧ m ≤ 8 * k + 1 ∧ i = .int .i64 k ∧ Hid ((hsOf (xs.take k)).length = m) ∧ Hid (wr.ownsRow w1.heap.size 2 1 s m (nmcells (hsOf (xs.take k)))) ∧ Hid (Below w1.heap.size w1 wr)) (fun _ i _ => n - (intOf i).toNat)
    case atStart => exact ⟨0, 1, by omega, by omega, rfl, Lib.hid rfl, HO0, HB0⟩
    case round =>
      clear HO0 HB0
      obtain ⟨k, m, hk, hm, rfl, HM, HO, HBr⟩ := hrel
      have HBw := Lib.hid (below_more HB.out HBr.out)
      by_cases hlt : k < n
      · obtain ⟨b1, o1, x, rfl, hx, cx, cy⟩ := lbat (HA.out.below HBw.out) (k := k) (by have := HN.out; omega)
        have HR := Lib.hid ((HX.out.below HBw.out).at hx)
        have HLX : Hid (x.l.parts.length ≤ 8) := Lib.hid (labOk_short (allOk_at HOK.out hx))
        have HT := Lib.hid (keys_step hx)
        clear hx
        go_wp2_with (first
          | (go_at_call 84
             refine (impl_parts _ _ _ _ _).mono ?_
             rintro e w2 ⟨rfl, hb⟩
             have HB2 : Hid (Below wr.heap.size wr w2) := Lib.hid (over_alloc hb)
             clear hb)
          | (go_at_call 85
             obtain ⟨A7, n7, c7, e7, hn7, hl7, hc7, hm7, ha7⟩ := HR.out.below HB2.out
             cases e7
             refine (impl_keys _ x.n x.c x.l.parts _ ha7 hn7 hl7).mono ?_
             rintro e w3 ⟨v3, rfl, ho3, hb⟩
             have HB3 : Hid (Below wr.heap.size wr w3) := Lib.hid (below_more HB2.out hb)
             have HO3 := Lib.hid (own_below HO.out HB3.out)
             have HN3 := Lib.hid hn7
             obtain ⟨A8, c8, rfl, -, -, ha8⟩ := own_at ho3
             have HA8 := Lib.hid ha8
             clear ha7 hn7 hl7 hc7 hm7 ha8 ho3 hb)
          | (at_builtin
             refine wpList_app elemInt rfl (.tmp 23) (.tmp 26) rfl w1.heap.size _ m _ rfl HO3.out A8 x.n c8 (nmcells (x.l.parts.map (·.1))) rfl HA8.out (by rw [nmcells_length, List.length_map, HN3.out]) (nmcells_one _) (by have := HLX.out; have := HN3.out; omega) (by have := HLX.out; have := HN3.out; omega) (Nat.le_trans HBr.out.size HB3.out.size) ?_
             intro v4 w4 hap
             have HP4 := Lib.hid hap
             have HB4 : Hid (Below w1.heap.size w1 w4) := Lib.hid ((below_more HBr.out HB3.out).grown hap.grown (Nat.le_trans HBr.out.size HB3.out.size) (fun j hj => (HO3.out.lt j hj).1))
             clear hap))
        go_roundw
        case rel => exact ⟨k + 1, m + x.n, by omega, by have := HLX.out; have := HN3.out; omega, by go_num, Lib.hid (by rw [HT.out, List.length_append, HM.out, List.length_map, HN3.out]), Lib.hid (by rw [HT.out, nmcells_append]; exact HP4.out.own), HB4⟩
        case measure => simp [intOf]; omega
      · obtain rfl : k = n := by omega
        have HOZ : Hid (wr.ownsRow w1.heap.size 2 1 u7 m (nmcells (hsOf xs))) := Lib.hid (by have h := HO.out; rwa [List.take_of_length_le (by have := HN.out; omega)] at h)
        have HMZ : Hid ((hsOf xs).length = m) := Lib.hid (by have h := HM.out; rwa [List.take_of_length_le (by have := HN.out; omega)] at h)
        obtain ⟨A9, c9, rfl, -, -, ha9⟩ := own_at HOZ.out
        have HA9 := Lib.hid ha9
        clear ha9 HO HM
        go_wp2
        go_loopw [31] (fun i wz => ∃ k2 : Nat, k2 ≤ m ∧ i = .int .i64 k2 ∧ Hid (AllL p (hsOf xs) k2) ∧ Hid (Below wr.heap.size wr wz)) (fun i _ => m - (intOf i).toNat)
        case atStart => exact ⟨0, by omega, rfl, Lib.hid (.zero _ _), Lib.hid (.refl _ _)⟩
        case round =>
          obtain ⟨k2, hk2, rfl, HS2, HBz⟩ := hrel
          have HBzw := Lib.hid (below_more HBw.out HBz.out)
          by_cases hlt2 : k2 < m
          · obtain ⟨b9, o9, x, rfl, hx, cx⟩ := nmat (HA9.out.below HBz.out) (k := k2) (by have := HMZ.out; omega)
            cases hpx : p x
            · have HF : Hid ((true && (hsOf xs).all p) = false) := Lib.hid (by rw [HS2.out.bad hx hpx]; rfl)
              clear hx HS2
              go_wp2_with (go_at_call 64; refine (HP.out HOK.out x _ HBzw.out).mono ?_; rintro e w5 ⟨rfl, hb⟩; rw [hpx]; have HB5 := Lib.hid (below_more HBzw.out hb); clear hb)
              go_ret
              exact ⟨_, rfl, .inr (.inr ⟨HF.out, rfl, x, b, (HB5.out.cell (block_lt_of_cell HW.out)).trans HW.out, rfl⟩), HB5.out⟩
            · have HS3 := Lib.hid (HS2.out.succ hx hpx)
              clear hx HS2
              go_wp2_with (go_at_call 64; refine (HP.out HOK.out x _ HBzw.out).mono ?_; rintro e w5 ⟨rfl, hb⟩; rw [hpx]; have HB5 := Lib.hid (below_more HBz.out hb); clear hb)
              go_roundw
              case rel => exact ⟨k2 + 1, by omega, by go_num, HS3, HB5⟩
              case measure => simp [intOf]; omega
          · obtain rfl : k2 = m := by omega
            have HT : Hid ((true && (hsOf xs).all p) = true) := Lib.hid (by rw [HS2.out.done (by have := HMZ.out; omega)]; rfl)
            clear HS2
            go_wp2
            go_ret
            exact ⟨_, rfl, .inl ⟨HT.out, rfl⟩, HBzw.out⟩

set_option maxHeartbeats 4000000 in
theorem first_accepts (A : Option Addr) (n c : Nat) (xs : List LB) (g : Nat) (b : Addr) (p : Int → Bool) (p1 p2 p3 p4 : Nat) (w : World) (ha : At w A (lbcells xs)) (hn : xs.length = n) (hl : n ≤ 100) (hx : LBs w xs) (hs : Sent w g) (hw : w.cell? ⟨g, 0, none⟩ = some (.iface 139 (.pointer (some b))))
    (hp : allOk xs = true → ∀ (x : Int) (w1 : World), Below w.heap.size w w1 → Calls Tryd.prog 61 #[.int .i64 x, .pointer (some ⟨p1, 0, none⟩), .pointer (some ⟨p2, 0, none⟩), .pointer (some ⟨p3, 0, none⟩), .pointer (some ⟨p4, 0, none⟩)] w1 (RetV (.bool (p x)) w1)) :
    Calls Tryd.prog 60 #[.slice A n c, .iface 139 (.pointer (some b)), .func (.func 61) #[] #[.pointer (some ⟨p1, 0, none⟩), .pointer (some ⟨p2, 0, none⟩), .pointer (some ⟨p3, 0, none⟩), .pointer (some ⟨p4, 0, none⟩)]] w (RetErr g (allOk xs && (hsOf xs).all p) (allOk xs) w) := by
  have HN := Lib.hid hn
  have HA := Lib.hid ha
  have HX := Lib.hid hx
  have HS := Lib.hid hs
  have HW := Lib.hid hw
  have HP := Lib.hid hp
  clear hn ha hx hs hw hp
  cases hok : allOk xs
  · obtain ⟨a, -, -, -, -, -, h1, -⟩ := HS.out.s
    have HG := Lib.hid h1
    have hgz := block_lt_of_cell h1
    simp only [] at hgz
    go_enter Tryd.func60, Tryd.ntmps60
    go_wp2_with fail
    refine (impl_allright A n c xs _ HA.out HN.out (by omega) HX.out).mono ?_
    rintro e w1 ⟨rfl, hb⟩
    rw [hok]
    have h1' := (hb.cell (p := ⟨0, 0, none⟩) hgz).trans h1
    have HB := Lib.hid hb
    clear hb h1
    go_wp2
    go_ret
    exact ⟨_, rfl, .inr (.inl ⟨rfl, rfl, h1'⟩), HB.out⟩
  · have HOK := Lib.hid hok
    go_enter Tryd.func60, Tryd.ntmps60
    go_wp2_with fail
    refine (impl_allright A n c xs _ HA.out HN.out (by omega) HX.out).mono ?_
    rintro e w1 ⟨rfl, hb⟩
    rw [hok]
    have HB := Lib.hid hb
    clear hb
    go_wp2
    have HO0 : Hid ((w1.alloc (.cells #[.int .i64 (-1)] 2)).ownsRow w1.heap.size 2 1 (.slice (some ⟨w1.heap.size, 0, none⟩) 1 1) 1 (nmcells (-1 :: keysOf (xs.take 0)))) := Lib.hid (World.ownsRow_lit (e := 2) (size := 1) (base := w1.heap.size) w1 #[.int .i64 (-1)] 1 (Nat.le_refl _) (by unfold maxLen; omega) rfl)
    have HB0 : Hid (Below w1.heap.size w1 (w1.alloc (.cells #[.int .i64 (-1)] 2))) := Lib.hid (by go_grown)
    go_loopw [7, 19] (fun s i wr => ∃ (k m : Nat), k ≤ n ∧ m ≤ 8 * k + 1 ∧ i = .int .i64 k ∧ Hid ((hsOf (xs.take k)).length = m) ∧ Hid (wr.ownsRow w1.heap.size 2 1 s m (nmcells (hsOf (xs.take k)))) ∧ Hid (Below w1.heap.size w1 wr)) (fun _ i _ => n - (intOf i).toNat)
    case atStart => exact ⟨0, 1, by omega, by omega, rfl, Lib.hid rfl, HO0, HB0⟩
    case round =>
      clear HO0 HB0
      obtain ⟨k, m, hk, hm, rfl, HM, HO, HBr⟩ := hrel
      have HBw := Lib.hid (below_more HB.out HBr.out)
      by_cases hlt : k < n
      · obtain ⟨b1, o1, x, rfl, hx, cx, cy⟩ := lbat (HA.out.below HBw.out) (k := k) (by have := HN.out; omega)
        have HR := Lib.hid ((HX.out.below HBw.out).at hx)
        have HLX : Hid (x.l.parts.length ≤ 8) := Lib.hid (labOk_short (allOk_at HOK.out hx))
        have HT := Lib.hid (keys_step hx)
        clear hx
        go_wp2_with (first
          | (go_at_call 84
             refine (impl_parts _ _ _ _ _).mono ?_
             rintro e w2 ⟨rfl, hb⟩
             have HB2 : Hid (Below wr.heap.size wr w2) := Lib.hid (over_alloc hb)
             clear hb)
          | (go_at_call 85
             obtain ⟨A7, n7, c7, e7, hn7, hl7, hc7, hm7, ha7⟩ := HR.out.below HB2.out
             cases e7
             refine (impl_keys _ x.n x.c x.l.parts _ ha7 hn7 hl7).mono ?_
             rintro e w3 ⟨v3, rfl, ho3, hb⟩
             have HB3 : Hid (Below wr.heap.size wr w3) := Lib.hid (below_more HB2.out hb)
             have HO3 := Lib.hid (own_below HO.out HB3.out)
             have HN3 := Lib.hid hn7
             obtain ⟨A8, c8, rfl, -, -, ha8⟩ := own_at ho3
             have HA8 := Lib.hid ha8
             clear ha7 hn7 hl7 hc7 hm7 ha8 ho3 hb)
          | (at_builtin
             refine wpList_app elemInt rfl (.tmp 23) (.tmp 26) rfl w1.heap.size _ m _ rfl HO3.out A8 x.n c8 (nmcells (x.l.parts.map (·.1))) rfl HA8.out (by rw [nmcells_length, List.length_map, HN3.out]) (nmcells_one _) (by have := HLX.out; have := HN3.out; omega) (by have := HLX.out; have := HN3.out; omega) (Nat.le_trans HBr.out.size HB3.out.size) ?_
             intro v4 w4 hap
             have HP4 := Lib.hid hap
             have HB4 : Hid (Below w1.heap.size w1 w4) := Lib.hid ((below_more HBr.out HB3.out).grown hap.grown (Nat.le_trans HBr.out.size HB3.out.size) (fun j hj => (HO3.out.lt j hj).1))
             clear hap))
        go_roundw
        case rel => exact ⟨k + 1, m + x.n, by omega, by have := HLX.out; have := HN3.out; omega, by go_num, Lib.hid (by rw [HT.out, List.length_append, HM.out, List.length_map, HN3.out]), Lib.hid (by rw [HT.out, nmcells_append]; exact HP4.out.own), HB4⟩
        case measure => simp [intOf]; omega
      · obtain rfl : k = n := by omega
        have HOZ : Hid (wr.ownsRow w1.heap.size 2 1 u7 m (nmcells (hsOf xs))) := Lib.hid (by have h := HO.out; rwa [List.take_of_length_le (by have := HN.out; omega)] at h)
        have HMZ : Hid ((hsOf xs).length = m) := Lib.hid (by have h := HM.out; rwa [List.take_of_length_le (by have := HN.out; omega)] at h)
        obtain ⟨A9, c9, rfl, -, -, ha9⟩ := own_at HOZ.out
        have HA9 := Lib.hid ha9
        clear ha9 HO HM
        go_wp2
        go_loopw [31] (fun i wz => ∃ k2 : Nat, k2 ≤ m ∧ i = .int .i64 k2 ∧ Hid (AllL p (hsOf xs) k2) ∧ Hid (Below wr.heap.size wr wz)) (fun i _ => m - (intOf i).toNat)
        case atStart => exact ⟨0, by omega, rfl, Lib.hid (.zero _ _), Lib.hid (.refl _ _)⟩
        case round =>
          obtain ⟨k2, hk2, rfl, HS2, HBz⟩ := hrel
          have HBzw := Lib.hid (below_more HBw.out HBz.out)
          by_cases hlt2 : k2 < m
          · obtain ⟨b9, o9, x, rfl, hx, cx⟩ := nmat (HA9.out.below HBz.out) (k := k2) (by have := HMZ.out; omega)
            cases hpx : p x
            · have HF : Hid ((true && (hsOf xs).all p) = false) := Lib.hid (by rw [HS2.out.bad hx hpx]; rfl)
              clear hx HS2
              go_wp2_with (go_at_call 61; refine (HP.out HOK.out x _ HBzw.out).mono ?_; rintro e w5 ⟨rfl, hb⟩; rw [hpx]; have HB5 := Lib.hid (below_more HBzw.out hb); clear hb)
              go_ret
              exact ⟨_, rfl, .inr (.inr ⟨HF.out, rfl, x, b, (HB5.out.cell (block_lt_of_cell HW.out)).trans HW.out, rfl⟩), HB5.out⟩
            · have HS3 := Lib.hid (HS2.out.succ hx hpx)
              clear hx HS2
              go_wp2_with (go_at_call 61; refine (HP.out HOK.out x _ HBzw.out).mono ?_; rintro e w5 ⟨rfl, hb⟩; rw [hpx]; have HB5 := Lib.hid (below_more HBz.out hb); clear hb)
              go_roundw
              case rel => exact ⟨k2 + 1, by omega, by go_num, HS3, HB5⟩
              case measure => simp [intOf]; omega
          · obtain rfl : k2 = m := by omega
            have HT : Hid ((true && (hsOf xs).all p) = true) := Lib.hid (by rw [HS2.out.done (by have := HMZ.out; omega)]; rfl)
            clear HS2
            go_wp2
            go_ret
            exact ⟨_, rfl, .inl ⟨HT.out, rfl⟩, HBzw.out⟩

end Go.Proofs.YtedaknjjcdlpnaaDoor
