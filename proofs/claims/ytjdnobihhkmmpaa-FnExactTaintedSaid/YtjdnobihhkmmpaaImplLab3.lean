/-
  Chapter 2 of the program: what stands ahead of a key and behind it; lists put together.
-/
import Derived.Test.YtjdnobihhkmmpaaImplLab2
import Derived.Deep.QuietTactic
import Derived.BigQuiet
namespace Go.Proofs.Ytjdnobihhkmmpaa
set_option maxRecDepth 100000
open Go.RowKit

theorem row_to {w : World} {A : Option Addr} {n c k : Nat} {ps : List (Int × Int)} (ha : At w A (ptcells ps)) (hn : ps.length = n) (hk : k ≤ n) (hc : n ≤ c) (hm : c ≤ maxLen) : RdRow w (.slice A k c) (ps.take k) :=
  ⟨A, k, c, rfl, by rw [List.length_take]; omega, by omega, hm, take_rd ha⟩
theorem row_from {w : World} {A : Option Addr} {n c k : Nat} {ps : List (Int × Int)} (ha : At w A (ptcells ps)) (hn : ps.length = n) (hk : k ≤ n) (hc : n ≤ c) (hm : c ≤ maxLen) :
    RdRow w (.slice (if c = k then A else A.map (·.add (k * 2))) (n - k) (c - k)) (ps.drop k) := by
  refine ⟨_, _, _, rfl, by rw [List.length_drop]; omega, by omega, by omega, ?_⟩
  split
  · rw [List.drop_eq_nil_of_le (by omega)]; exact .nil _ _
  · by_cases hp : ps = []
    · subst hp; simp; exact .nil _ _
    · obtain ⟨b, o, rfl, -⟩ := ha (by
        have : 0 < ps.length := List.length_pos_iff.2 hp
        unfold ptcells
        rw [flat_length encPart_length]; omega)
      simp only [Option.map_some, Go.WideShapes.add_plain]
      exact drop_rd ha

set_option maxHeartbeats 1000000 in
theorem impl_around (A : Option Addr) (n c : Nat) (ps : List (Int × Int)) (h : Int) (w : World) (ha : At w A (ptcells ps)) (hn : ps.length = n) (hl : n ≤ 1048576) (hc : n ≤ c) (hm : c ≤ maxLen) :
    Calls Try.prog 94 #[.slice A n c, .int .i64 h] w (RetRd2 (ps.take (placeK h ps)) (ps.drop (behindK h ps)) w) := by
  have h1 := placeK_le h ps
  have h2 := behindK_le h ps
  have h3 : Hid (behindK h ps = if placeHit h ps then placeK h ps + 1 else placeK h ps) := Lib.hid rfl
  have hm' : c ≤ 9223372036854775807 := by unfold maxLen at hm; omega
  have HN := Lib.hid hn
  have HP := Lib.hid (impl_place A n c ps h w ha hn hl)
  obtain ⟨k, hk⟩ : ∃ k, k = placeK h ps := ⟨_, rfl⟩
  rw [← hk] at h1 h3 HP ⊢
  have HT := Lib.hid (row_to (k := k) (w := w) ha hn (by omega) hc hm)
  have HF := Lib.hid (row_from (k := behindK h ps) (w := w) ha hn (by omega) hc hm)
  obtain ⟨j, hj⟩ : ∃ j, j = behindK h ps := ⟨_, rfl⟩
  rw [← hj] at h2 h3 HF ⊢
  rw [hn] at h1 h2
  clear ha hn hk hj hm
  cases hh : placeHit h ps
  · obtain rfl : j = k := by have := h3.out; rw [this, hh]; rfl
    rw [hh] at HP
    clear h3 hh
    go_enter Try.func94, Try.ntmps94
    go_wp2_with fail
    refine (HP.out).mono ?_
    rintro e w1 ⟨rfl, hb1⟩
    have HB := Lib.hid hb1
    clear hb1
    go_wp2
    go_quiet (fail)
    go_wp2
    all_goals
      have hf : RdRow w _ (ps.drop j) := HF.out
      first
        | (have hcj : c = j := by assumption
           subst hcj
           rw [if_pos rfl, Nat.sub_self] at hf)
        | rw [if_neg (by assumption)] at hf
      go_ret2
      exact ⟨_, _, rfl, HT.out.below (below_drewN HB.out _), hf.below (below_drewN HB.out _), below_drewN HB.out _⟩
  · obtain rfl : j = k + 1 := by have := h3.out; rw [this, hh]; rfl
    rw [hh] at HP
    have h5 : (k : Int) + 1 ≤ n := by omega
    clear h3 hh
    go_enter Try.func94, Try.ntmps94
    go_wp2_with fail
    refine (HP.out).mono ?_
    rintro e w1 ⟨rfl, hb1⟩
    have HB := Lib.hid hb1
    clear hb1
    go_wp2
    go_quiet (fail)
    go_wp2
    all_goals
      have hf : RdRow w _ (ps.drop (k + 1)) := HF.out
      first
        | (have hcj : c = (k + 1) := by assumption
           subst hcj
           rw [if_pos rfl, Nat.sub_self] at hf)
        | rw [if_neg (by assumption)] at hf
      go_ret2
      exact ⟨_, _, rfl, HT.out.below (below_drewN HB.out _), hf.below (below_drewN HB.out _), below_drewN HB.out _⟩
end Go.Proofs.Ytjdnobihhkmmpaa
