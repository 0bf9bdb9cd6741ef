/-
  Parts by handle, as plain data: the place of a handle, what stands ahead of it and behind. No program, no memory.
-/
import Derived.Test.YtjdnobihhkmmpaaLabPure
namespace Go.Proofs.Ytjdnobihhkmmpaa
set_option maxRecDepth 100000

/-- The first place whose handle is not less. -/
def placeK (h : Int) : List (Int × Int) → Nat
  | [] => 0
  | (a, _) :: ps => if h ≤ a then 0 else placeK h ps + 1
/-- Is it the handle's own? -/
def placeHit (h : Int) : List (Int × Int) → Bool
  | [] => false
  | (a, _) :: ps => if h ≤ a then decide (a = h) else placeHit h ps
def PlLeft (h : Int) (ps : List (Int × Int)) (k : Nat) : Prop := placeK h ps = k + placeK h (ps.drop k) ∧ placeHit h ps = placeHit h (ps.drop k)
theorem PlLeft.zero (h : Int) (ps : List (Int × Int)) : PlLeft h ps 0 := ⟨by simp, rfl⟩
theorem PlLeft.succ {h : Int} {ps : List (Int × Int)} {k : Nat} {a v : Int} (hs : PlLeft h ps k) (hx : ps[k]? = some (a, v)) (hn : a < h) : PlLeft h ps (k + 1) := by
  have hn' : ¬ h ≤ a := by omega
  obtain ⟨h1, h2⟩ := hs
  rw [drop_at hx] at h1 h2
  simp only [placeK, placeHit, if_neg hn'] at h1 h2
  exact ⟨by omega, h2⟩
theorem PlLeft.here {h : Int} {ps : List (Int × Int)} {k : Nat} {a v : Int} (hs : PlLeft h ps k) (hx : ps[k]? = some (a, v)) (hn : h ≤ a) : placeK h ps = k ∧ placeHit h ps = decide (a = h) := by
  obtain ⟨h1, h2⟩ := hs
  rw [drop_at hx] at h1 h2
  simp only [placeK, placeHit, if_pos hn] at h1 h2
  exact ⟨by omega, h2⟩
theorem PlLeft.done {h : Int} {ps : List (Int × Int)} {k : Nat} (hs : PlLeft h ps k) (hk : ps.length = k) : placeK h ps = k ∧ placeHit h ps = false := by
  obtain ⟨h1, h2⟩ := hs
  rw [List.drop_eq_nil_of_le (by omega)] at h1 h2
  simp only [placeK, placeHit] at h1 h2
  exact ⟨by omega, h2⟩
theorem placeK_le (h : Int) (ps : List (Int × Int)) : placeK h ps ≤ ps.length := by
  induction ps with
  | nil => simp [placeK]
  | cons p ps ih => obtain ⟨a, v⟩ := p; simp only [placeK, List.length_cons]; split <;> omega
theorem placeHit_lt {h : Int} {ps : List (Int × Int)} (k : placeHit h ps = true) : ∃ v, ps[placeK h ps]? = some (h, v) := by
  induction ps with
  | nil => simp [placeHit] at k
  | cons p ps ih =>
    obtain ⟨a, v⟩ := p
    simp only [placeHit, placeK] at k ⊢
    split at k
    · rename_i e
      rw [if_pos e]
      have : a = h := by simpa using k
      exact ⟨v, by simp [this]⟩
    · rename_i e
      rw [if_neg e]
      obtain ⟨u, hu⟩ := ih k
      exact ⟨u, by simpa using hu⟩
/-- Where what stands behind the handle begins. -/
def behindK (h : Int) (ps : List (Int × Int)) : Nat := if placeHit h ps then placeK h ps + 1 else placeK h ps
theorem behindK_le (h : Int) (ps : List (Int × Int)) : behindK h ps ≤ ps.length := by
  unfold behindK
  split
  · rename_i k
    obtain ⟨v, hv⟩ := placeHit_lt k
    rcases Nat.lt_or_ge (placeK h ps) ps.length with c | c
    · exact c
    · rw [List.getElem?_eq_none c] at hv; cases hv
  · exact placeK_le h ps

/-- Each handle is more than the one ahead of it. -/
def Rises : Int → List (Int × Int) → Prop
  | _, [] => True
  | p, (a, _) :: ps => p < a ∧ Rises a ps
theorem rises_of {b : Int} : ∀ {p : Int} {ps : List (Int × Int)}, partsOk b p ps = true → Rises p ps
  | _, [], _ => trivial
  | p, (a, v) :: ps, h => by
    simp only [partsOk, Bool.and_eq_true, decide_eq_true_eq] at h
    exact ⟨h.1.2, rises_of h.2⟩
theorem rises_weak {p q : Int} (hq : q ≤ p) : ∀ {ps : List (Int × Int)}, Rises p ps → Rises q ps
  | [], _ => trivial
  | (a, _) :: ps, h => ⟨by have := h.1; omega, h.2⟩
theorem labOk_rises {l : Lab} (h : labOk l = true) : Rises (-1) l.parts := by
  simp only [labOk, Bool.and_eq_true] at h
  exact rises_of h.2

/-- The level of a handle, by its place. -/
theorem levIn_no {b h p : Int} : ∀ {ps : List (Int × Int)}, h ≤ p → Rises p ps → levIn b h ps = b
  | [], _, _ => rfl
  | (a, v) :: ps, hp, hr => by
    have hne : ¬ a = h := by have := hr.1; omega
    simp only [levIn, if_neg hne]
    exact levIn_no (by have := hr.1; omega) hr.2
theorem levIn_place {b h : Int} : ∀ {p : Int} {ps : List (Int × Int)}, Rises p ps → levIn b h ps = if placeHit h ps then (ps.getD (placeK h ps) (0, 0)).2 else b
  | _, [], _ => by simp [levIn, placeHit]
  | p, (a, v) :: ps, hr => by
    by_cases e : h ≤ a
    · by_cases e' : a = h
      · subst e'; simp [levIn, placeHit, placeK]
      · simp only [levIn, placeHit, placeK, if_pos e, if_neg e', decide_eq_true_eq]
        exact levIn_no (by omega) hr.2
    · have e' : ¬ a = h := by omega
      have := levIn_place (b := b) (h := h) hr.2
      simp only [levIn, placeHit, placeK, if_neg e, if_neg e', this]
      simp
theorem lev_place {l : Lab} {h : Int} (hr : Rises (-1) l.parts) : lev l h = if placeHit h l.parts then (l.parts.getD (placeK h l.parts) (0, 0)).2 else l.base := levIn_place hr

/-- With a level, by the place of its handle. -/
theorem withGo_done {h v p : Int} : ∀ {ps : List (Int × Int)}, h ≤ p → Rises p ps → withGo h v true ps = ps
  | [], _, _ => rfl
  | (a, u) :: ps, hp, hr => by
    have hne : a ≠ h := by have := hr.1; omega
    simp only [withGo, if_pos hne]
    rw [withGo_done (by have := hr.1; omega) hr.2]
theorem withGo_without {h v : Int} : ∀ {p : Int} {ps : List (Int × Int)}, Rises p ps → withGo h v true ps = ps.take (placeK h ps) ++ ps.drop (behindK h ps)
  | _, [], _ => by simp [withGo, placeK, behindK, placeHit]
  | p, (a, u) :: ps, hr => by
    by_cases e : h ≤ a
    · by_cases e' : a = h
      · subst e'
        simp only [withGo, behindK, placeHit, placeK]
        simp [withGo_done (Int.le_refl a) hr.2]
      · have hd := withGo_done (v := v) (show h ≤ a by omega) hr.2
        simp only [withGo, behindK, placeHit, placeK, if_pos e]
        simp [e', hd]
    · have e' : a ≠ h := by omega
      have ih := withGo_without (h := h) (v := v) hr.2
      simp only [withGo, if_pos e', ih, behindK, placeHit, placeK, if_neg e]
      split <;> simp
theorem withGo_put {h v : Int} : ∀ {p : Int} {ps : List (Int × Int)}, Rises p ps → withGo h v false ps = ps.take (placeK h ps) ++ [(h, v)] ++ ps.drop (behindK h ps)
  | _, [], _ => by simp [withGo, placeK, behindK, placeHit]
  | p, (a, u) :: ps, hr => by
    by_cases e : h ≤ a
    · by_cases e' : a = h
      · subst e'
        simp only [withGo, behindK, placeHit, placeK]
        simp [withGo_done (Int.le_refl a) hr.2]
      · have hl : h < a := by omega
        have hd := withGo_done (v := v) (show h ≤ a by omega) hr.2
        simp only [withGo, behindK, placeHit, placeK, if_pos e, if_pos hl]
        simp [e', hd]
    · have e' : a ≠ h := by omega
      have hl : ¬ h < a := by omega
      have ih := withGo_put (h := h) (v := v) hr.2
      simp only [withGo, if_neg hl, if_pos e', ih, behindK, placeHit, placeK, if_neg e]
      split <;> simp

/-- Do the handles rise? -/
def risesB : List (Int × Int) → Bool
  | [] => true
  | [_] => true
  | (a, _) :: (b, v) :: ps => decide (a < b) && risesB ((b, v) :: ps)
/-- Behind the rounds up to k, what is left decides. -/
def RiLeft (ps : List (Int × Int)) (k : Nat) : Prop := risesB ps = risesB (ps.drop (k - 1))
theorem RiLeft.one (ps : List (Int × Int)) : RiLeft ps 1 := rfl
theorem RiLeft.succ {ps : List (Int × Int)} {m : Nat} {a u b v : Int} (hs : RiLeft ps (m + 1)) (hx : ps[m]? = some (a, u)) (hy : ps[m + 1]? = some (b, v)) (h : a < b) : RiLeft ps (m + 1 + 1) := by
  unfold RiLeft at hs ⊢
  simp only [Nat.add_sub_cancel] at hs ⊢
  rw [hs, drop_at hx, drop_at hy]
  simp [risesB, h]
theorem RiLeft.bad {ps : List (Int × Int)} {m : Nat} {a u b v : Int} (hs : RiLeft ps (m + 1)) (hx : ps[m]? = some (a, u)) (hy : ps[m + 1]? = some (b, v)) (h : b ≤ a) : risesB ps = false := by
  have : ¬ a < b := by omega
  unfold RiLeft at hs
  simp only [Nat.add_sub_cancel] at hs
  rw [hs, drop_at hx, drop_at hy]
  simp [risesB, this]
theorem RiLeft.done {ps : List (Int × Int)} {k : Nat} (hs : RiLeft ps k) (hk : ps.length ≤ k) : risesB ps = true := by
  unfold RiLeft at hs
  rw [hs]
  match h : ps.drop (k - 1) with
  | [] => rfl
  | [_] => rfl
  | _ :: _ :: _ => have := congrArg List.length h; simp at this; omega
theorem partsOk_of {b : Int} : ∀ {p : Int} {ps : List (Int × Int)}, (∀ q ∈ ps, hOk q.1 = true ∧ lvOk q.2 = true ∧ q.2 ≠ b) → p < 0 → partsOk b p ps = risesB ps
  | _, [], _, _ => rfl
  | p, [(a, v)], h, hp => by
    obtain ⟨h1, h2, h3⟩ := h (a, v) (by simp)
    have := of_hOk h1
    have h4 : p < a := by omega
    simp [partsOk, risesB, h1, h2, h3, h4]
  | p, (a, v) :: (c, u) :: ps, h, hp => by
    obtain ⟨h1, h2, h3⟩ := h (a, v) (by simp)
    have := of_hOk h1
    have h4 : p < a := by omega
    have ih := partsOk_of (p := -1) (ps := (c, u) :: ps) (fun q hq => h q (List.mem_cons_of_mem _ hq)) (by omega)
    obtain ⟨h5, h6, h7⟩ := h (c, u) (by simp)
    have := of_hOk h5
    have h8 : (-1 : Int) < c := by omega
    simp only [partsOk, h5, h6, h8, decide_true, Bool.true_and, Bool.and_true] at ih
    have h3' : decide (v ≠ b) = true := by simpa using h3
    simp only [partsOk, risesB, h1, h2, h3', h4, h5, h6, ← ih]
    simp [h7]
/-- All up to place k are as they must be, one by one. -/
def EachOk (b : Int) (ps : List (Int × Int)) (k : Nat) : Prop := ∀ j q, j < k → ps[j]? = some q → hOk q.1 = true ∧ lvOk q.2 = true ∧ q.2 ≠ b
theorem EachOk.zero (b : Int) (ps : List (Int × Int)) : EachOk b ps 0 := fun _ _ h => absurd h (by omega)
theorem EachOk.succ {b : Int} {ps : List (Int × Int)} {k : Nat} {a v : Int} (hs : EachOk b ps k) (hx : ps[k]? = some (a, v)) (h1 : hOk a = true) (h2 : lvOk v = true) (h3 : v ≠ b) : EachOk b ps (k + 1) := fun j q hj hq => by
  rcases Nat.lt_or_ge j k with c | c
  · exact hs j q c hq
  · obtain rfl : j = k := by omega
    rw [hx] at hq
    cases hq
    exact ⟨h1, h2, h3⟩
theorem EachOk.done {b : Int} {ps : List (Int × Int)} {k : Nat} (hs : EachOk b ps k) (hk : ps.length ≤ k) : partsOk b (-1) ps = risesB ps :=
  partsOk_of (fun q hq => by
    obtain ⟨j, hj, rfl⟩ := List.getElem_of_mem hq
    exact hs j _ (by omega) (List.getElem?_eq_getElem hj)) (by omega)
theorem partsOk_bad {b a v : Int} : ∀ {p : Int} {ps : List (Int × Int)} {k : Nat}, ps[k]? = some (a, v) → (hOk a = false ∨ lvOk v = false ∨ v = b) → partsOk b p ps = false
  | _, [], _, h, _ => by simp at h
  | p, (c, u) :: ps, 0, h, hb => by
    simp at h
    obtain ⟨rfl, rfl⟩ := h
    rcases hb with e | e | e <;> simp [partsOk, e]
  | p, (c, u) :: ps, k + 1, h, hb => by
    have := partsOk_bad (p := c) (k := k) (ps := ps) (by simpa using h) hb
    simp [partsOk, this]
end Go.Proofs.Ytjdnobihhkmmpaa
