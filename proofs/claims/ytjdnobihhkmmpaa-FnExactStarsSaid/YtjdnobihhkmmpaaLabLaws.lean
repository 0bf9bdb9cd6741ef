/-
  Plain laws of labels: a label with a level put in is right, has that level of that handle, and of all others those that it had. No program, no memory.
-/
import Derived.Test.YtjdnobihhkmmpaaLabPure
namespace Go.Proofs.Ytjdnobihhkmmpaa
set_option maxRecDepth 100000

theorem partsOk_cons {b prev h v : Int} {ps : List (Int × Int)} : partsOk b prev ((h, v) :: ps) = true ↔ hOk h = true ∧ lvOk v = true ∧ v ≠ b ∧ prev < h ∧ partsOk b h ps = true := by
  simp [partsOk, and_assoc]
theorem partsOk_mono {b p q : Int} {ps : List (Int × Int)} (h : partsOk b p ps = true) (hq : q ≤ p) : partsOk b q ps = true := by
  cases ps with
  | nil => rfl
  | cons x ps =>
    obtain ⟨a, u⟩ := x
    rw [partsOk_cons] at h ⊢
    exact ⟨h.1, h.2.1, h.2.2.1, by omega, h.2.2.2.2⟩

section
variable {b h v : Int}
theorem withGo_done_ok {p : Int} {ps : List (Int × Int)} (hp : partsOk b p ps = true) : partsOk b p (withGo h v true ps) = true := by
  induction ps generalizing p with
  | nil => simp [withGo, partsOk]
  | cons x ps ih =>
    obtain ⟨a, u⟩ := x
    rw [partsOk_cons] at hp
    obtain ⟨h1, h2, h3, h4, h5⟩ := hp
    by_cases e : a = h
    · simp only [withGo, e, ne_eq, not_true_eq_false, if_false]
      exact ih (partsOk_mono h5 (by omega))
    · simp only [withGo, ne_eq, e, not_false_eq_true, if_true]
      rw [partsOk_cons]
      exact ⟨h1, h2, h3, h4, ih h5⟩
theorem withGo_ok {p : Int} {ps : List (Int × Int)} (hp : partsOk b p ps = true) (hh : hOk h = true) (hv : lvOk v = true) (hb : v ≠ b) (hl : p < h) : partsOk b p (withGo h v false ps) = true := by
  induction ps generalizing p with
  | nil =>
    simp only [withGo, Bool.false_eq_true, if_false]
    rw [partsOk_cons]
    exact ⟨hh, hv, hb, hl, rfl⟩
  | cons x ps ih =>
    obtain ⟨a, u⟩ := x
    rw [partsOk_cons] at hp
    obtain ⟨h1, h2, h3, h4, h5⟩ := hp
    by_cases e : h < a
    · simp only [withGo, e, if_true]
      rw [partsOk_cons, partsOk_cons]
      exact ⟨hh, hv, hb, hl, h1, h2, h3, e, withGo_done_ok h5⟩
    · by_cases k : a = h
      · subst k
        simp only [withGo, e, if_false, ne_eq, not_true_eq_false]
        rw [partsOk_cons]
        exact ⟨hh, hv, hb, hl, withGo_done_ok h5⟩
      · simp only [withGo, e, if_false, ne_eq, k, not_false_eq_true, if_true]
        rw [partsOk_cons]
        exact ⟨h1, h2, h3, h4, ih h5 (by omega)⟩
theorem withGo_other {a : Int} (ha : a ≠ h) (d : Bool) (ps : List (Int × Int)) : levIn b a (withGo h v d ps) = levIn b a ps := by
  have hh : h ≠ a := Ne.symm ha
  induction ps generalizing d with
  | nil => cases d <;> simp [withGo, levIn, hh]
  | cons x ps ih =>
    obtain ⟨c, u⟩ := x
    cases d
    · by_cases e : h < c
      · simp [withGo, e, levIn, hh, ih]
      · by_cases k : c = h
        · subst k; simp [withGo, levIn, hh, ih]
        · simp [withGo, e, k, levIn, ih]
    · by_cases k : c = h
      · subst k; simp [withGo, levIn, hh, ih]
      · simp [withGo, k, levIn, ih]
theorem withGo_same_done (ps : List (Int × Int)) : levIn b h (withGo h v true ps) = b := by
  induction ps with
  | nil => simp [withGo, levIn]
  | cons x ps ih =>
    obtain ⟨c, u⟩ := x
    by_cases k : c = h
    · subst k; simp [withGo, ih]
    · simp [withGo, k, levIn, ih]
theorem withGo_same (ps : List (Int × Int)) : levIn b h (withGo h v false ps) = v := by
  induction ps with
  | nil => simp [withGo, levIn]
  | cons x ps ih =>
    obtain ⟨c, u⟩ := x
    by_cases e : h < c
    · simp [withGo, e, levIn]
    · by_cases k : c = h
      · subst k; simp [withGo, levIn]
      · simp [withGo, e, k, levIn, ih]
end

theorem labOk_parts_of {l : Lab} (h : labOk l = true) : lvOk l.base = true ∧ l.parts.length ≤ 8 ∧ partsOk l.base (-1) l.parts = true := by
  simp only [labOk, Bool.and_eq_true, decide_eq_true_eq] at h
  exact ⟨h.1.1, h.1.2, h.2⟩

/-- What With puts in. -/
theorem withLabel_law {l x : Lab} {h v : Int} (he : withLabel l h v = (x, true)) :
    labOk x = true ∧ lev x h = v ∧ x.base = l.base ∧ (∀ a, a ≠ h → lev x a = lev l a) ∧ labOk l = true ∧ hOk h = true ∧ lvOk v = true := by
  unfold withLabel at he
  split at he
  · rename_i hc
    simp only [Bool.and_eq_true] at hc
    obtain ⟨⟨hl, hh⟩, hv⟩ := hc
    obtain ⟨l1, l2, l3⟩ := labOk_parts_of hl
    unfold withL at he
    simp only [] at he
    split at he
    · simp at he
    · rename_i hlen
      simp only [Prod.mk.injEq, and_true] at he
      subst he
      have hh' := of_hOk hh
      have hok : partsOk l.base (-1) (withGo h v (decide (v = l.base)) l.parts) = true := by
        by_cases e : v = l.base
        · rw [decide_eq_true e]; exact withGo_done_ok l3
        · rw [decide_eq_false e]; exact withGo_ok l3 hh hv e (by omega)
      refine ⟨labOk_parts l1 (by simp only []; omega) hok, ?_, rfl, fun a ha => withGo_other ha _ _, hl, hh, hv⟩
      unfold lev
      by_cases e : v = l.base
      · rw [decide_eq_true e]; simp only []; rw [withGo_same_done, e]
      · rw [decide_eq_false e]; exact withGo_same _
  · simp at he
theorem withLabel_levelOf {l x : Lab} {h v : Int} (he : withLabel l h v = (x, true)) : levelOf x h = v ∧ ∀ a, a ≠ h → levelOf x a = levelOf l a := by
  obtain ⟨h1, h2, h3, h4, h5, h6, h7⟩ := withLabel_law he
  refine ⟨by rw [levelOf_yes h1 h6, h2], fun a ha => ?_⟩
  unfold levelOf
  rw [h1, h5, h4 a ha]
end Go.Proofs.Ytjdnobihhkmmpaa
