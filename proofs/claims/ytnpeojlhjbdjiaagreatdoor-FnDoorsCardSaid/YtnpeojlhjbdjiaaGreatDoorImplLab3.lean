/-
  Texts put together: ImplLab3, ImplLab4, ImplLab5, ImplLab6. What each proves stands ahead of it.
-/
import Derived.Test.YtnpeojlhjbdjiaaGreatDoorImplLab1
import Derived.Deep.QuietTactic
import Derived.BigQuiet
import Derived.Test.YtnpeojlhjbdjiaaGreatDoorShelf
import Derived.Test.YtnpeojlhjbdjiaaGreatDoorSpecLab4
/-
  Chapter 2 of the program: what stands ahead of a key and behind it; lists put together.
-/
namespace Go.Proofs.YtnpeojlhjbdjiaaGreatDoor
set_option maxRecDepth 100000
open Go.RowKit

theorem row_to {w : World} {A : Option Addr} {n c k : Nat} {ps : List (Int × Int)} (ha : At w A (ptcells ps)) (hn : ps.length = n) (hk : k ≤ n) (hc : n ≤ c) (hm : c ≤ maxLen) : RdRow w (.slice A k c) (ps.take k) :=
  ⟨A, k, c, rfl, by rw [List.length_take]; omega, by omega, hm, take_rd ha⟩
theorem row_from {w : World} {A : Option Addr} {n c k : Nat} {ps : List (Int × Int)} (ha : At w A (ptcells ps)) (hn : ps.length = n) (hk : k ≤ n) (hc : n ≤ c) (hm : c ≤ maxLen) :
    RdRow w (.slice (if c = k then A else A.map (·.add (k * 2))) (n - k) (c - k)) (ps.drop k) := by
  refine ⟨_, _, _, rfl, by rw [List.length_drop]; omega, by omega, by omega, ?_⟩
  split
  · rw [List.drop_eq_nil_of_le (by omega)]; exact .nil _ _
  · by_cases hp : ps = []
    · subst hp; simp; exact .nil _ _
    · obtain ⟨b, o, rfl, -⟩ := ha (by
        have : 0 < ps.length := List.length_pos_iff.2 hp
        unfold ptcells
        rw [flat_length encPart_length]; omega)
      simp only [Option.map_some, Go.WideShapes.add_plain]
      exact drop_rd ha

set_option maxHeartbeats 1000000 in
theorem impl_around (A : Option Addr) (n c : Nat) (ps : List (Int × Int)) (h : Int) (w : World) (ha : At w A (ptcells ps)) (hn : ps.length = n) (hl : n ≤ 1048576) (hc : n ≤ c) (hm : c ≤ maxLen) :
    Calls Tryz.prog 98 #[.slice A n c, .int .i64 h] w (RetRd2 (ps.take (placeK h ps)) (ps.drop (behindK h ps)) w) := by
  have h1 := placeK_le h ps
  have h2 := behindK_le h ps
  have h3 : Hid (behindK h ps = if placeHit h ps then placeK h ps + 1 else placeK h ps) := Lib.hid rfl
  have hm' : c ≤ 9223372036854775807 := by unfold maxLen at hm; omega
  have HN := Lib.hid hn
  have HP := Lib.hid (impl_place A n c ps h w ha hn hl)
  obtain ⟨k, hk⟩ : ∃ k, k = placeK h ps := ⟨_, rfl⟩
  rw [← hk] at h1 h3 HP ⊢
  have HT := Lib.hid (row_to (k := k) (w := w) ha hn (by omega) hc hm)
  have HF := Lib.hid (row_from (k := behindK h ps) (w := w) ha hn (by omega) hc hm)
  obtain ⟨j, hj⟩ : ∃ j, j = behindK h ps := ⟨_, rfl⟩
  rw [← hj] at h2 h3 HF ⊢
  rw [hn] at h1 h2
  clear ha hn hk hj hm
  cases hh : placeHit h ps
  · obtain rfl : j = k := by have := h3.out; rw [this, hh]; rfl
    rw [hh] at HP
    clear h3 hh
    go_enter Tryz.func98, Tryz.ntmps98
    go_wp2_with fail
    refine (HP.out).mono ?_
    rintro e w1 ⟨rfl, hb1⟩
    have HB := Lib.hid hb1
    clear hb1
    go_wp2
    go_quiet (fail)
    go_wp2
    all_goals
      have hf : RdRow w _ (ps.drop j) := HF.out
      first
        | (have hcj : c = j := by assumption
           subst hcj
           rw [if_pos rfl, Nat.sub_self] at hf)
        | rw [if_neg (by assumption)] at hf
      go_ret2
      exact ⟨_, _, rfl, HT.out.below (below_drewN HB.out _), hf.below (below_drewN HB.out _), below_drewN HB.out _⟩
  · obtain rfl : j = k + 1 := by have := h3.out; rw [this, hh]; rfl
    rw [hh] at HP
    have h5 : (k : Int) + 1 ≤ n := by omega
    clear h3 hh
    go_enter Tryz.func98, Tryz.ntmps98
    go_wp2_with fail
    refine (HP.out).mono ?_
    rintro e w1 ⟨rfl, hb1⟩
    have HB := Lib.hid hb1
    clear hb1
    go_wp2
    go_quiet (fail)
    go_wp2
    all_goals
      have hf : RdRow w _ (ps.drop (k + 1)) := HF.out
      first
        | (have hcj : c = (k + 1) := by assumption
           subst hcj
           rw [if_pos rfl, Nat.sub_self] at hf)
        | rw [if_neg (by assumption)] at hf
      go_ret2
      exact ⟨_, _, rfl, HT.out.below (below_drewN HB.out _), hf.below (below_drewN HB.out _), below_drewN HB.out _⟩
end Go.Proofs.YtnpeojlhjbdjiaaGreatDoor

/-
  Chapter 2 of the program: lists put together (slices.Concat and slices.Grow), without a key, with a part put in.
-/
namespace Go.Proofs.YtnpeojlhjbdjiaaGreatDoor
set_option maxRecDepth 100000
open Go.RowKit

theorem elemList : Elem Tryz.prog 95 80 2 16 := .of_info ptinfo Tryz.underlying95 rfl (by omega)

theorem zeroCells_size (z : Array Value) (n : Nat) : (Builtin.zeroCells z n).size = n * z.size := by simp [Builtin.zeroCells]

theorem impl_grow (n : Nat) (w : World) (hn : n ≤ 1048576) : Calls Tryz.prog 103 #[.slice none 0 0, .int .i64 n] w (RetOwn 80 2 0 [] w) := by
  rcases Nat.eq_zero_or_pos n with rfl | hp
  · refine (Any8.slices_Grow_room Tryz.laysGrow_f103 none 0 0 0 w (by omega) (by omega) (by omega) (by omega)).mono ?_
    rintro e w1 ⟨rfl, rfl⟩
    exact ⟨_, rfl, World.ownsRow_nil _ _ _ _, .refl _ _⟩
  · obtain ⟨i0, hi, hz0, hz1, hz2⟩ := info_parts ptinfo
    refine (Any8.slices_Grow_grow Tryz.laysGrow_f103 i0 _ hi hz0 (by rw [hz1]; omega) none 0 0 n [] w (by omega) (by omega) (by rw [hz2]; omega) (by omega) (by simp) (fun _ => rfl) (fun a h => by cases h)).mono ?_
    rintro e w1 ⟨rfl, rfl⟩
    have hg := grownCap_ge w (0 + n) 0 80
    have hm := grownCap_le_maxLen w (0 + n) 0 80 (by unfold maxLen; omega)
    refine ⟨_, rfl, ⟨rfl, .inr ⟨w.heap.size, _, _, rfl, Nat.le_refl _, heap_alloc_new w.drew _, by omega, hm, ?_, rfl⟩⟩, ((Below.refl _ _).drew).alloc (Nat.le_refl _) _⟩
    simp only [Array.size_append, zeroCells_size, List.size_toArray, List.length_nil]
    change 0 + (0 + n - 0) * 2 + (grownCap w (0 + n) 0 80 - (0 + n)) * 2 = grownCap w (0 + n) 0 80 * 2
    omega

/-- The first k lists, put together. -/
def upTo {α : Type} (pss : List (List α)) (k : Nat) : List α := (pss.take k).flatten
theorem upTo_zero {α : Type} (pss : List (List α)) : upTo pss 0 = [] := by simp [upTo]
theorem upTo_succ {α : Type} {pss : List (List α)} {k : Nat} {ps : List α} (h : pss[k]? = some ps) : upTo pss (k + 1) = upTo pss k ++ ps := by
  unfold upTo; rw [take_at h]; simp
theorem upTo_le {α : Type} (pss : List (List α)) (k : Nat) : (upTo pss k).length ≤ pss.flatten.length := by
  have h : pss.flatten.length = (pss.take k ++ pss.drop k).flatten.length := by rw [List.take_append_drop]
  unfold upTo
  rw [h, List.flatten_append, List.length_append]; omega
theorem upTo_all {α : Type} {pss : List (List α)} {k : Nat} (h : pss.length ≤ k) : upTo pss k = pss.flatten := by unfold upTo; rw [List.take_of_length_le h]
set_option maxHeartbeats 1000000 in
theorem impl_concat (b m c : Nat) (vs : List Value) (pss : List (List (Int × Int))) (w : World) (hv : vs.length = m) (hp : pss.length = m) (hm : m ≤ 1000) (ht : pss.flatten.length ≤ 1048576)
    (hc : ∀ (i : Nat) (v : Value), vs[i]? = some v → w.cell? ⟨b, i, none⟩ = some v) (hr : ∀ (i : Nat) (v : Value) (ps : List (Int × Int)), vs[i]? = some v → pss[i]? = some ps → RdRow w v ps) :
    Calls Tryz.prog 99 #[.slice (some ⟨b, 0, none⟩) m c] w (RetOwn 80 2 pss.flatten.length (ptcells pss.flatten) w) := by
  have HV := Lib.hid hv
  have HP := Lib.hid hp
  have HC := Lib.hid hc
  have HR := Lib.hid hr
  clear hv hp hc hr
  go_enter Tryz.func99, Tryz.ntmps99
  go_wp2
  go_loop [3, 11] (fun s i => ∃ k t : Nat, k ≤ m ∧ i = .int .i64 k ∧ s = .int .i64 t ∧ t ≤ 1048576 ∧ Hid ((upTo pss k).length = t)) (fun _ i => m - (intOf i).toNat)
  case atStart => exact ⟨0, 0, by omega, rfl, rfl, by omega, by rw [upTo_zero]; rfl⟩
  case round =>
    obtain ⟨k, t, hk, rfl, rfl, ht1, HT⟩ := hrel
    by_cases hlt : k < m
    · obtain ⟨v, hv⟩ : ∃ v, vs[k]? = some v := ⟨_, List.getElem?_eq_getElem (by have := HV.out; omega)⟩
      obtain ⟨ps, hps⟩ : ∃ ps, pss[k]? = some ps := ⟨_, List.getElem?_eq_getElem (by have := HP.out; omega)⟩
      have hcell := HC.out k v hv
      obtain ⟨A, n, c', rfl, hn, -, -, -⟩ := HR.out k v ps hv hps
      have HS : Hid ((upTo pss (k + 1)).length = t + n) := Lib.hid (by rw [upTo_succ hps, List.length_append, HT.out, hn])
      have hle : t + n ≤ 1048576 := by have := upTo_le pss (k + 1); rw [HS.out] at this; omega
      clear hv hps hn
      go_wp2
      go_round
      case rel => exact ⟨k + 1, t + n, by omega, by go_num, by go_num, hle, HS⟩
      case measure => simp [intOf]; omega
    · obtain rfl : k = m := by omega
      have HE : Hid (upTo pss k = pss.flatten) := Lib.hid (upTo_all (by have := HP.out; omega))
      go_wp2_with fail
      refine (impl_grow _ _ ht1).mono ?_
      rintro e w1 ⟨v1, rfl, hown, hb1⟩
      have HO := Lib.hid hown
      have HB := Lib.hid hb1
      clear hown hb1
      go_wp2
      go_loopw [6, 27] (fun s i wr => ∃ (j t : Nat), j ≤ k ∧ i = .int .i64 j ∧ t ≤ 1048576 ∧ Hid ((upTo pss j).length = t) ∧ wr.ownsRow w.heap.size 80 2 s t (ptcells (upTo pss j)) ∧ Below w.heap.size w wr) (fun _ i _ => k - (intOf i).toNat)
      case atStart => exact ⟨0, 0, by omega, rfl, by omega, by rw [upTo_zero]; rfl, by rw [upTo_zero]; exact HO.out, HB.out⟩
      case round =>
        clear HO HB HT
        obtain ⟨j, t', hj, rfl, ht2, HT, hown, hbel⟩ := hrel
        have HO := Lib.hid hown
        clear hown
        by_cases hlt : j < k
        · obtain ⟨v, hv⟩ : ∃ v, vs[j]? = some v := ⟨_, List.getElem?_eq_getElem (by have := HV.out; omega)⟩
          obtain ⟨ps, hps⟩ : ∃ ps, pss[j]? = some ps := ⟨_, List.getElem?_eq_getElem (by have := HP.out; omega)⟩
          have hcw := HC.out j v hv
          have hcell := (hbel.cell (p := ⟨b, j, none⟩) (block_lt_of_cell hcw)).trans hcw
          obtain ⟨A, n, c', rfl, hn, -, -, ha⟩ := HR.out j v ps hv hps
          have ha1 := Lib.hid (ha.below hbel)
          have HS : Hid ((upTo pss (j + 1)).length = t' + n) := Lib.hid (by rw [upTo_succ hps, List.length_append, HT.out, hn])
          have HU : Hid (ptcells (upTo pss (j + 1)) = ptcells (upTo pss j) ++ ptcells ps) := Lib.hid (by rw [upTo_succ hps, ptcells_append])
          have hle : t' + n ≤ 1048576 := by have := upTo_le pss (j + 1); rw [HS.out] at this; omega
          have HN : Hid ((ptcells ps).length = n * 2) := Lib.hid (by rw [ptcells_length, hn])
          clear hv hps hn hcw ha
          go_wp2_with (at_builtin; refine wpList_app elemList rfl (.tmp 31) (.tmp 32) rfl w.heap.size _ t' (ptcells (upTo pss j)) rfl HO.out A n c' (ptcells ps) rfl ha1.out HN.out (ptcells_one ps) (by omega) (by omega) hbel.size ?_; intro v2 w2 hap; have HP2 := Lib.hid hap; have HB2 : Hid (Below w.heap.size w w2) := Lib.hid (hbel.grown hap.grown hbel.size (fun j hj => (HO.out.lt j hj).1)); clear hap)
          go_roundw
          case rel => exact ⟨j + 1, t' + n, by omega, by go_num, hle, HS, by rw [HU.out]; exact HP2.out.own, HB2.out⟩
          case measure => simp [intOf]; omega
        · obtain rfl : j = k := by omega
          have hl : (pss.flatten).length = t' := by rw [← HE.out]; exact HT.out
          have HL := Lib.hid hl
          clear hl
          go_wp2
          go_ret
          refine ⟨_, rfl, ?_, hbel⟩
          rw [HL.out, ← HE.out]
          exact HO.out
end Go.Proofs.YtnpeojlhjbdjiaaGreatDoor

/-
  Chapter 2 of the program: without a key, with a part put in; the label with a level.
-/
namespace Go.Proofs.YtnpeojlhjbdjiaaGreatDoor
set_option maxRecDepth 100000
open Go.RowKit

def woList (h : Int) (ps : List (Int × Int)) : List (Int × Int) := ps.take (placeK h ps) ++ ps.drop (behindK h ps)
def putList (h v : Int) (ps : List (Int × Int)) : List (Int × Int) := ps.take (placeK h ps) ++ [(h, v)] ++ ps.drop (behindK h ps)
theorem woList_length (h : Int) (ps : List (Int × Int)) : (woList h ps).length ≤ ps.length := by
  have := placeK_le h ps
  have := behindK_le h ps
  have h3 : placeK h ps ≤ behindK h ps := by unfold behindK; split <;> omega
  unfold woList
  simp only [List.length_append, List.length_take, List.length_drop]; omega
theorem putList_length (h v : Int) (ps : List (Int × Int)) : (putList h v ps).length ≤ ps.length + 1 := by
  have := woList_length h ps
  unfold woList at this
  unfold putList
  simp only [List.length_append, List.length_cons, List.length_nil] at this ⊢; omega

theorem RdRow.alloc {w : World} {v : Value} {ps : List (Int × Int)} (h : RdRow w v ps) (o : Obj) : RdRow (w.alloc o) v ps := h.below ((Below.refl _ _).alloc (Nat.le_refl _) o)
theorem impl_without (A : Option Addr) (n c : Nat) (ps : List (Int × Int)) (h : Int) (w : World) (ha : At w A (ptcells ps)) (hn : ps.length = n) (hl : n ≤ 1048000) (hc : n ≤ c) (hm : c ≤ maxLen) :
    Calls Tryz.prog 81 #[.slice A n c, .int .i64 h] w (RetOwn 80 2 (woList h ps).length (ptcells (woList h ps)) w) := by
  have HA := Lib.hid (impl_around A n c ps h w ha hn (by omega) hc hm)
  have HL := Lib.hid (woList_length h ps)
  have HN := Lib.hid hn
  clear ha hn
  go_enter Tryz.func81, Tryz.ntmps81
  go_wp2_with fail
  refine (HA.out).mono ?_
  rintro e w1 ⟨v, u, rfl, hv, hu, hb1⟩
  have HV := Lib.hid hv
  have HU := Lib.hid hu
  have HB := Lib.hid hb1
  obtain ⟨A1, n1, c1, rfl, -⟩ := hv
  obtain ⟨A2, n2, c2, rfl, -⟩ := hu
  clear hb1 HA
  go_wp2_with fail
  refine (impl_concat w1.heap.size 2 2 [.slice A1 n1 c1, .slice A2 n2 c2] [ps.take (placeK h ps), ps.drop (behindK h ps)] _ rfl rfl (by omega) (by
      have h1 := HL.out
      have h2 := HN.out
      have e : [ps.take (placeK h ps), ps.drop (behindK h ps)].flatten = woList h ps := by simp [woList]
      rw [e]; omega) (fun i x hx => ?_) (fun i x qs hx hq => ?_)).mono ?_
  · rw [World.cell?_alloc_new]; simpa using hx
  · match i with
    | 0 => cases hx; cases hq; exact HV.out.alloc _
    | 1 => cases hx; cases hq; exact HU.out.alloc _
    | i + 2 => simp at hx
  · rintro e w2 ⟨v2, rfl, hown, hb2⟩
    go_wp2
    go_ret
    have e : [ps.take (placeK h ps), ps.drop (behindK h ps)].flatten = woList h ps := by simp [woList]
    rw [e] at hown
    exact ⟨_, rfl, own_lower hown (by have := HB.out.size; simp; omega), below_more (HB.out.alloc HB.out.size _) hb2⟩

theorem impl_put (A : Option Addr) (n c : Nat) (ps : List (Int × Int)) (h y : Int) (w : World) (ha : At w A (ptcells ps)) (hn : ps.length = n) (hl : n ≤ 1048000) (hc : n ≤ c) (hm : c ≤ maxLen) :
    Calls Tryz.prog 82 #[.slice A n c, .agg #[.int .i64 h, .int .i64 y]] w (RetOwn 80 2 (putList h y ps).length (ptcells (putList h y ps)) w) := by
  have HA := Lib.hid ha
  have HL := Lib.hid (putList_length h y ps)
  have HN := Lib.hid hn
  clear ha hn
  go_enter Tryz.func82, Tryz.ntmps82
  go_wp2_with (go_at_call 127; refine (impl_key _ _ _).mono ?_; rintro e w1 ⟨rfl, hb0⟩; have c0 : w1.cell? ⟨w.heap.size, 0, none⟩ = some (.int .i64 h) := (hb0.cell (by simp)).trans (World.cell?_alloc_new _ _ _ 0); have c1 : w1.cell? ⟨w.heap.size, 1, none⟩ = some (.int .i64 y) := (hb0.cell (by simp)).trans (World.cell?_alloc_new _ _ _ 1); have HB0 : Hid (Below w.heap.size w w1) := Lib.hid (over_alloc hb0); clear hb0)
  refine (impl_around A n c ps h _ (HA.out.below HB0.out) HN.out (by omega) hc hm).mono ?_
  rintro e w2 ⟨v, u, rfl, hv, hu, hb1⟩
  have c0' := (hb1.cell (block_lt_of_cell c0)).trans c0
  have c1' := (hb1.cell (block_lt_of_cell c1)).trans c1
  have HV := Lib.hid hv
  have HU := Lib.hid hu
  have HB := Lib.hid (below_more HB0.out hb1)
  obtain ⟨A1, n1, k1, rfl, -⟩ := hv
  obtain ⟨A2, n2, k2, rfl, -⟩ := hu
  clear hb1 HA c0 c1 HB0
  go_wp2_with fail
  refine (impl_concat (w2.heap.size + 1) 3 3 [.slice A1 n1 k1, .slice (some ⟨w2.heap.size, 0, none⟩) 1 1, .slice A2 n2 k2] [ps.take (placeK h ps), [(h, y)], ps.drop (behindK h ps)] _ rfl rfl (by omega) (by
      have h1 := HL.out
      have h2 := HN.out
      have e : [ps.take (placeK h ps), [(h, y)], ps.drop (behindK h ps)].flatten = putList h y ps := by simp [putList]
      rw [e]; omega) (fun i x hx => ?_) (fun i x qs hx hq => ?_)).mono ?_
  · rw [show (w2.heap.size + 1) = (w2.alloc (.cells #[Value.int .i64 h, Value.int .i64 y] 80)).heap.size by simp, World.cell?_alloc_new]; simpa using hx
  · match i with
    | 0 => cases hx; cases hq; exact (HV.out.alloc _).alloc _
    | 1 =>
      cases hx; cases hq
      refine ⟨_, 1, 1, rfl, rfl, by omega, by unfold maxLen; omega, ?_⟩
      have hn := At.new w2 #[Value.int .i64 h, Value.int .i64 y] 80 w2.heap.size rfl
      exact At.alloc hn _
    | 2 => cases hx; cases hq; exact (HU.out.alloc _).alloc _
    | i + 3 => simp at hx
  · rintro e w3 ⟨v2, rfl, hown, hb2⟩
    go_wp2
    go_ret
    have e : [ps.take (placeK h ps), [(h, y)], ps.drop (behindK h ps)].flatten = putList h y ps := by simp [putList]
    rw [e] at hown
    exact ⟨_, rfl, own_lower hown (by have := HB.out.size; simp; omega), below_more ((HB.out.alloc HB.out.size _).alloc (by have := HB.out.size; simp; omega) _) hb2⟩
end Go.Proofs.YtnpeojlhjbdjiaaGreatDoor

/-
  Chapter 2 of the program: the label with a level; With.
-/
namespace Go.Proofs.YtnpeojlhjbdjiaaGreatDoor
set_option maxRecDepth 100000
open Go.RowKit

set_option maxHeartbeats 2000000 in
theorem impl_with0 (v : Value) (l : Lab) (h lv : Int) (w : World) (hr : RdLab w v l) (hri : Rises (-1) l.parts) (h8 : l.parts.length ≤ 1000) :
    Calls Tryz.prog 57 #[v, .int .i64 h, .int .i64 lv] w (RetLab ⟨l.base, withGo h lv (decide (lv = l.base)) l.parts⟩ w) := by
  obtain ⟨A, n, c, rfl, hn, hl, hc, hm, ha⟩ := hr
  have HA := Lib.hid ha
  by_cases hb : lv = l.base
  · have HR : Hid (withGo h lv (decide (lv = l.base)) l.parts = woList h l.parts) := Lib.hid (by rw [decide_eq_true hb]; exact withGo_without hri)
    have hb1 : (lv == l.base) = true := by simpa using hb
    have HL : Hid ((woList h l.parts).length ≤ 1048576) := Lib.hid (by have := woList_length h l.parts; omega)
    have HW := Lib.hid (fun w1 ha1 => impl_without A n c l.parts h w1 ha1 hn (by omega) hc hm)
    clear hb hri h8 hn hc hm ha
    go_enter Tryz.func57, Tryz.ntmps57
    go_wp2
    go_region_held3 (fun w' => w'.cell? ⟨w.heap.size, 0, none⟩ = some (.int .i64 l.base) ∧ w'.cell? ⟨w.heap.size, 1, none⟩ = some (.slice A n c))
      (first | exact ⟨f0, f1⟩ | go_keep)
      (first
        | (go_at_call 80
           refine (impl_parts _ _ _ _ _).mono ?_
           rintro e w3 ⟨rfl, hb3⟩
           have f0 : w3.cell? ⟨w.heap.size, 0, none⟩ = some (.int .i64 l.base) := (hb3.cell (by simp; omega)).trans (by simp [go_sem])
           have f1 : w3.cell? ⟨w.heap.size, 1, none⟩ = some (.slice A n c) := (hb3.cell (by simp; omega)).trans (by simp [go_sem])
           have r0 : w3.cell? ⟨w.heap.size + 1, 0, none⟩ = some (.int .i64 0) := (hb3.cell (by simp)).trans (by simp [go_sem])
           have r1 : w3.cell? ⟨w.heap.size + 1, 1, none⟩ = some (.slice none 0 0) := (hb3.cell (by simp)).trans (by simp [go_sem])
           have g0 : w3.frozen? ⟨w.heap.size + 1, 0, none⟩ = false := (hb3.frozen (by simp)).trans (by simp [go_sem])
           have g1 : w3.frozen? ⟨w.heap.size + 1, 1, none⟩ = false := (hb3.frozen (by simp)).trans (by simp [go_sem])
           have HB3 : Hid (Below w.heap.size w w3) := Lib.hid (Below.trans (by go_grown) (hb3.mono (by simp; omega)))
           have z3 : w.heap.size + 1 < w3.heap.size := block_lt_of_cell r0
           clear hb3)
        | (go_at_call 81
           refine (HW.out _ (HA.out.below HB3.out)).mono ?_
           rintro e w4 ⟨v4, rfl, hown4, hb4⟩
           have f0 : w4.cell? ⟨w.heap.size, 0, none⟩ = some (.int .i64 l.base) := (hb4.cell (by simp only []; omega)).trans f0
           have f1 : w4.cell? ⟨w.heap.size, 1, none⟩ = some (.slice A n c) := (hb4.cell (by simp only []; omega)).trans f1
           have r0' : w4.cell? ⟨w.heap.size + 1, 0, none⟩ = some (.int .i64 0) := (hb4.cell (by simp only []; omega)).trans r0
           have r1' : w4.cell? ⟨w.heap.size + 1, 1, none⟩ = some (.slice none 0 0) := (hb4.cell (by simp only []; omega)).trans r1
           have g0' : w4.frozen? ⟨w.heap.size + 1, 0, none⟩ = false := (hb4.frozen (by simp only []; omega)).trans g0
           have g1' : w4.frozen? ⟨w.heap.size + 1, 1, none⟩ = false := (hb4.frozen (by simp only []; omega)).trans g1
           have HB4 : Hid (Below w.heap.size w w4) := Lib.hid (below_more HB3.out hb4)
           have z4 : w.heap.size + 1 < w4.heap.size := block_lt_of_cell r0'
           obtain ⟨A4, k4, rfl, -, -, -⟩ := own_at hown4
           have HO4 := Lib.hid (own_lower hown4 (show w.heap.size + 1 + 1 ≤ w3.heap.size by omega))
           clear hb4 hown4))
    go_wp2
    refine bodyPost_ret (v := .agg #[.int .i64 l.base, .slice A4 (woList h l.parts).length k4]) (by simp [results, Tryz.results57, go_sem, r0', r1']) rfl ?_
    rw [HR.out]
    refine ⟨_, rfl, ⟨A4, _, k4, rfl, rfl, HL.out, ?_⟩, ?_⟩
    · refine own_lower (base := w.heap.size + 1 + 1) ?_ (by omega)
      first
        | exact ownsRow_setCell_below (ownsRow_setCell_below HO4.out (by simp only []; omega) _) (by simp only []; omega) _
    · exact (HB4.out.setCell (by simp only []; omega) _).setCell (by simp only []; omega) _
  · have HR : Hid (withGo h lv (decide (lv = l.base)) l.parts = putList h lv l.parts) := Lib.hid (by rw [decide_eq_false hb]; exact withGo_put hri)
    have hb1 : (lv == l.base) = false := by simpa using hb
    have HL : Hid ((putList h lv l.parts).length ≤ 1048576) := Lib.hid (by have := putList_length h lv l.parts; omega)
    have HW := Lib.hid (fun w1 ha1 => impl_put A n c l.parts h lv w1 ha1 hn (by omega) hc hm)
    clear hb hri h8 hn hc hm ha
    go_enter Tryz.func57, Tryz.ntmps57
    go_wp2
    go_region_held3 (fun w' => w'.cell? ⟨w.heap.size, 0, none⟩ = some (.int .i64 l.base) ∧ w'.cell? ⟨w.heap.size, 1, none⟩ = some (.slice A n c))
      (first | exact ⟨f0, f1⟩ | go_keep)
      (first
        | (go_at_call 80
           refine (impl_parts _ _ _ _ _).mono ?_
           rintro e w3 ⟨rfl, hb3⟩
           have f0 : w3.cell? ⟨w.heap.size, 0, none⟩ = some (.int .i64 l.base) := (hb3.cell (by simp; omega)).trans (by simp [go_sem])
           have f1 : w3.cell? ⟨w.heap.size, 1, none⟩ = some (.slice A n c) := (hb3.cell (by simp; omega)).trans (by simp [go_sem])
           have r0 : w3.cell? ⟨w.heap.size + 1, 0, none⟩ = some (.int .i64 0) := (hb3.cell (by simp)).trans (by simp [go_sem])
           have r1 : w3.cell? ⟨w.heap.size + 1, 1, none⟩ = some (.slice none 0 0) := (hb3.cell (by simp)).trans (by simp [go_sem])
           have g0 : w3.frozen? ⟨w.heap.size + 1, 0, none⟩ = false := (hb3.frozen (by simp)).trans (by simp [go_sem])
           have g1 : w3.frozen? ⟨w.heap.size + 1, 1, none⟩ = false := (hb3.frozen (by simp)).trans (by simp [go_sem])
           have HB3 : Hid (Below w.heap.size w w3) := Lib.hid (Below.trans (by go_grown) (hb3.mono (by simp; omega)))
           have z3 : w.heap.size + 1 < w3.heap.size := block_lt_of_cell r0
           clear hb3)
        | (go_at_call 82
           refine (HW.out _ (HA.out.below HB3.out)).mono ?_
           rintro e w4 ⟨v4, rfl, hown4, hb4⟩
           have f0 : w4.cell? ⟨w.heap.size, 0, none⟩ = some (.int .i64 l.base) := (hb4.cell (by simp only []; omega)).trans f0
           have f1 : w4.cell? ⟨w.heap.size, 1, none⟩ = some (.slice A n c) := (hb4.cell (by simp only []; omega)).trans f1
           have r0' : w4.cell? ⟨w.heap.size + 1, 0, none⟩ = some (.int .i64 0) := (hb4.cell (by simp only []; omega)).trans r0
           have r1' : w4.cell? ⟨w.heap.size + 1, 1, none⟩ = some (.slice none 0 0) := (hb4.cell (by simp only []; omega)).trans r1
           have g0' : w4.frozen? ⟨w.heap.size + 1, 0, none⟩ = false := (hb4.frozen (by simp only []; omega)).trans g0
           have g1' : w4.frozen? ⟨w.heap.size + 1, 1, none⟩ = false := (hb4.frozen (by simp only []; omega)).trans g1
           have HB4 : Hid (Below w.heap.size w w4) := Lib.hid (below_more HB3.out hb4)
           have z4 : w.heap.size + 1 < w4.heap.size := block_lt_of_cell r0'
           obtain ⟨A4, k4, rfl, -, -, -⟩ := own_at hown4
           have HO4 := Lib.hid (own_lower hown4 (show w.heap.size + 1 + 1 ≤ w3.heap.size by omega))
           clear hb4 hown4))
    go_wp2
    refine bodyPost_ret (v := .agg #[.int .i64 l.base, .slice A4 (putList h lv l.parts).length k4]) (by simp [results, Tryz.results57, go_sem, r0', r1']) rfl ?_
    rw [HR.out]
    refine ⟨_, rfl, ⟨A4, _, k4, rfl, rfl, HL.out, ?_⟩, ?_⟩
    · refine own_lower (base := w.heap.size + 1 + 1) ?_ (by omega)
      first
        | exact ownsRow_setCell_below (ownsRow_setCell_below HO4.out (by simp only []; omega) _) (by simp only []; omega) _
    · exact (HB4.out.setCell (by simp only []; omega) _).setCell (by simp only []; omega) _

end Go.Proofs.YtnpeojlhjbdjiaaGreatDoor
