/-
  Chapter 2 of the program: lists put together (slices.Concat and slices.Grow), without a key, with a part put in.
-/
import Derived.Test.YtjdnobihhkmmpaaImplLab3
import Derived.Test.YtjdnobihhkmmpaaShelf
import Derived.Test.YtjdnobihhkmmpaaSpecLab4
namespace Go.Proofs.Ytjdnobihhkmmpaa
set_option maxRecDepth 100000
open Go.RowKit

theorem elemList : Elem Try.prog 52 56 2 16 := .of_info ptinfo Try.underlying52 rfl (by omega)

theorem zeroCells_size (z : Array Value) (n : Nat) : (Builtin.zeroCells z n).size = n * z.size := by simp [Builtin.zeroCells]

theorem impl_grow (n : Nat) (w : World) (hn : n ≤ 1048576) : Calls Try.prog 102 #[.slice none 0 0, .int .i64 n] w (RetOwn 56 2 0 [] w) := by
  rcases Nat.eq_zero_or_pos n with rfl | hp
  · refine (Any8.slices_Grow_room Try.laysGrow_f102 none 0 0 0 w (by omega) (by omega) (by omega) (by omega)).mono ?_
    rintro e w1 ⟨rfl, rfl⟩
    exact ⟨_, rfl, World.ownsRow_nil _ _ _ _, .refl _ _⟩
  · obtain ⟨i0, hi, hz0, hz1, hz2⟩ := info_parts ptinfo
    refine (Any8.slices_Grow_grow Try.laysGrow_f102 i0 _ hi hz0 (by rw [hz1]; omega) none 0 0 n [] w (by omega) (by omega) (by rw [hz2]; omega) (by omega) (by simp) (fun _ => rfl) (fun a h => by cases h)).mono ?_
    rintro e w1 ⟨rfl, rfl⟩
    have hg := grownCap_ge w (0 + n) 0 56
    have hm := grownCap_le_maxLen w (0 + n) 0 56 (by unfold maxLen; omega)
    refine ⟨_, rfl, ⟨rfl, .inr ⟨w.heap.size, _, _, rfl, Nat.le_refl _, heap_alloc_new w.drew _, by omega, hm, ?_, rfl⟩⟩, ((Below.refl _ _).drew).alloc (Nat.le_refl _) _⟩
    simp only [Array.size_append, zeroCells_size, List.size_toArray, List.length_nil]
    change 0 + (0 + n - 0) * 2 + (grownCap w (0 + n) 0 56 - (0 + n)) * 2 = grownCap w (0 + n) 0 56 * 2
    omega

/-- The first k lists, put together. -/
def upTo {α : Type} (pss : List (List α)) (k : Nat) : List α := (pss.take k).flatten
theorem upTo_zero {α : Type} (pss : List (List α)) : upTo pss 0 = [] := by simp [upTo]
theorem upTo_succ {α : Type} {pss : List (List α)} {k : Nat} {ps : List α} (h : pss[k]? = some ps) : upTo pss (k + 1) = upTo pss k ++ ps := by
  unfold upTo; rw [take_at h]; simp
theorem upTo_le {α : Type} (pss : List (List α)) (k : Nat) : (upTo pss k).length ≤ pss.flatten.length := by
  have h : pss.flatten.length = (pss.take k ++ pss.drop k).flatten.length := by rw [List.take_append_drop]
  unfold upTo
  rw [h, List.flatten_append, List.length_append]; omega
theorem upTo_all {α : Type} {pss : List (List α)} {k : Nat} (h : pss.length ≤ k) : upTo pss k = pss.flatten := by unfold upTo; rw [List.take_of_length_le h]
set_option maxHeartbeats 1000000 in
theorem impl_concat (b m c : Nat) (vs : List Value) (pss : List (List (Int × Int))) (w : World) (hv : vs.length = m) (hp : pss.length = m) (hm : m ≤ 1000) (ht : pss.flatten.length ≤ 1048576)
    (hc : ∀ (i : Nat) (v : Value), vs[i]? = some v → w.cell? ⟨b, i, none⟩ = some v) (hr : ∀ (i : Nat) (v : Value) (ps : List (Int × Int)), vs[i]? = some v → pss[i]? = some ps → RdRow w v ps) :
    Calls Try.prog 95 #[.slice (some ⟨b, 0, none⟩) m c] w (RetOwn 56 2 pss.flatten.length (ptcells pss.flatten) w) := by
  have HV := Lib.hid hv
  have HP := Lib.hid hp
  have HC := Lib.hid hc
  have HR := Lib.hid hr
  clear hv hp hc hr
  go_enter Try.func95, Try.ntmps95
  go_wp2
  go_loop [3, 11] (fun s i => ∃ k t : Nat, k ≤ m ∧ i = .int .i64 k ∧ s = .int .i64 t ∧ t ≤ 1048576 ∧ Hid ((upTo pss k).length = t)) (fun _ i => m - (intOf i).toNat)
  case atStart => exact ⟨0, 0, by omega, rfl, rfl, by omega, by rw [upTo_zero]; rfl⟩
  case round =>
    obtain ⟨k, t, hk, rfl, rfl, ht1, HT⟩ := hrel
    by_cases hlt : k < m
    · obtain ⟨v, hv⟩ : ∃ v, vs[k]? = some v := ⟨_, List.getElem?_eq_getElem (by have := HV.out; omega)⟩
      obtain ⟨ps, hps⟩ : ∃ ps, pss[k]? = some ps := ⟨_, List.getElem?_eq_getElem (by have := HP.out; omega)⟩
      have hcell := HC.out k v hv
      obtain ⟨A, n, c', rfl, hn, -, -, -⟩ := HR.out k v ps hv hps
      have HS : Hid ((upTo pss (k + 1)).length = t + n) := Lib.hid (by rw [upTo_succ hps, List.length_append, HT.out, hn])
      have hle : t + n ≤ 1048576 := by have := upTo_le pss (k + 1); rw [HS.out] at this; omega
      clear hv hps hn
      go_wp2
      go_round
      case rel => exact ⟨k + 1, t + n, by omega, by go_num, by go_num, hle, HS⟩
      case measure => simp [intOf]; omega
    · obtain rfl : k = m := by omega
      have HE : Hid (upTo pss k = pss.flatten) := Lib.hid (upTo_all (by have := HP.out; omega))
      go_wp2_with fail
      refine (impl_grow _ _ ht1).mono ?_
      rintro e w1 ⟨v1, rfl, hown, hb1⟩
      have HO := Lib.hid hown
      have HB := Lib.hid hb1
      clear hown hb1
      go_wp2
      go_loopw [6, 27] (fun s i wr => ∃ (j t : Nat), j ≤ k ∧ i = .int .i64 j ∧ t ≤ 1048576 ∧ Hid ((upTo pss j).length = t) ∧ wr.ownsRow w.heap.size 56 2 s t (ptcells (upTo pss j)) ∧ Below w.heap.size w wr) (fun _ i _ => k - (intOf i).toNat)
      case atStart => exact ⟨0, 0, by omega, rfl, by omega, by rw [upTo_zero]; rfl, by rw [upTo_zero]; exact HO.out, HB.out⟩
      case round =>
        clear HO HB HT
        obtain ⟨j, t', hj, rfl, ht2, HT, hown, hbel⟩ := hrel
        have HO := Lib.hid hown
        clear hown
        by_cases hlt : j < k
        · obtain ⟨v, hv⟩ : ∃ v, vs[j]? = some v := ⟨_, List.getElem?_eq_getElem (by have := HV.out; omega)⟩
          obtain ⟨ps, hps⟩ : ∃ ps, pss[j]? = some ps := ⟨_, List.getElem?_eq_getElem (by have := HP.out; omega)⟩
          have hcw := HC.out j v hv
          have hcell := (hbel.cell (p := ⟨b, j, none⟩) (block_lt_of_cell hcw)).trans hcw
          obtain ⟨A, n, c', rfl, hn, -, -, ha⟩ := HR.out j v ps hv hps
          have ha1 := Lib.hid (ha.below hbel)
          have HS : Hid ((upTo pss (j + 1)).length = t' + n) := Lib.hid (by rw [upTo_succ hps, List.length_append, HT.out, hn])
          have HU : Hid (ptcells (upTo pss (j + 1)) = ptcells (upTo pss j) ++ ptcells ps) := Lib.hid (by rw [upTo_succ hps, ptcells_append])
          have hle : t' + n ≤ 1048576 := by have := upTo_le pss (j + 1); rw [HS.out] at this; omega
          have HN : Hid ((ptcells ps).length = n * 2) := Lib.hid (by rw [ptcells_length, hn])
          clear hv hps hn hcw ha
          go_wp2_with (at_builtin; refine wpList_app elemList rfl (.tmp 31) (.tmp 32) rfl w.heap.size _ t' (ptcells (upTo pss j)) rfl HO.out A n c' (ptcells ps) rfl ha1.out HN.out (ptcells_one ps) (by omega) (by omega) hbel.size ?_; intro v2 w2 hap; have HP2 := Lib.hid hap; have HB2 : Hid (Below w.heap.size w w2) := Lib.hid (hbel.grown hap.grown hbel.size (fun j hj => (HO.out.lt j hj).1)); clear hap)
          go_roundw
          case rel => exact ⟨j + 1, t' + n, by omega, by go_num, hle, HS, by rw [HU.out]; exact HP2.out.own, HB2.out⟩
          case measure => simp [intOf]; omega
        · obtain rfl : j = k := by omega
          have hl : (pss.flatten).length = t' := by rw [← HE.out]; exact HT.out
          have HL := Lib.hid hl
          clear hl
          go_wp2
          go_ret
          refine ⟨_, rfl, ?_, hbel⟩
          rw [HL.out, ← HE.out]
          exact HO.out
end Go.Proofs.Ytjdnobihhkmmpaa
