/-
  Labels by the levels of all handles: a label made of levels, the order, the higher and the lower of two, stars, taint. No program, no memory.
-/
import Derived.Test.YtjdnobihhkmmpaaHandPure
import Derived.Test.YtjdnobihhkmmpaaPlacePure
namespace Go.Proofs.Ytjdnobihhkmmpaa
set_option maxRecDepth 100000

/-- The parts that tell these levels of these handles, beside a base. -/
def mkParts (b : Int) (f : Int → Int) : List Int → List (Int × Int)
  | [] => []
  | h :: hs => if f h = b then mkParts b f hs else (h, f h) :: mkParts b f hs
theorem mkParts_append (b : Int) (f : Int → Int) (xs ys : List Int) : mkParts b f (xs ++ ys) = mkParts b f xs ++ mkParts b f ys := by
  induction xs with
  | nil => rfl
  | cons x xs ih => simp only [List.cons_append, mkParts]; split <;> simp [ih]
theorem mkParts_length (b : Int) (f : Int → Int) (hs : List Int) : (mkParts b f hs).length ≤ hs.length := by
  induction hs with
  | nil => simp [mkParts]
  | cons h hs ih => simp only [mkParts]; split <;> simp <;> omega
theorem mem_mkParts {b : Int} {f : Int → Int} {hs : List Int} {q : Int × Int} (h : q ∈ mkParts b f hs) : q.1 ∈ hs ∧ q.2 = f q.1 ∧ q.2 ≠ b := by
  induction hs with
  | nil => simp [mkParts] at h
  | cons x xs ih =>
    simp only [mkParts] at h
    split at h
    · have := ih h; exact ⟨List.mem_cons_of_mem _ this.1, this.2⟩
    · rename_i e
      rcases List.mem_cons.1 h with rfl | h
      · exact ⟨by simp, rfl, e⟩
      · have := ih h; exact ⟨List.mem_cons_of_mem _ this.1, this.2⟩
/-- What the level of a handle is, of a list that tells it. -/
theorem levIn_mk0 (b : Int) (f : Int → Int) (x : Int) : ∀ ys : List Int, levIn b x (mkParts b f ys) = if x ∈ ys then f x else b
  | [] => by simp [mkParts, levIn]
  | y :: ys => by
    have ih := levIn_mk0 b f x ys
    simp only [mkParts]
    by_cases e : f y = b
    · rw [if_pos e, ih]
      by_cases k : x = y
      · subst k; simp [e]
      · simp [k]
    · rw [if_neg e]
      by_cases k : y = x
      · subst k; simp [levIn]
      · have k' : ¬ x = y := fun h => k h.symm
        simp only [levIn, if_neg k, ih]
        simp [k']
theorem levIn_mk {b : Int} {f : Int → Int} {hs : List Int} (hf : ∀ x, x ∉ hs → f x = b) (x : Int) : levIn b x (mkParts b f hs) = f x := by
  rw [levIn_mk0]
  split
  · rfl
  · rename_i e; exact (hf x e).symm

/-- A list of handles that rises. -/
theorem ss_mk {b : Int} {f : Int → Int} : ∀ {hs : List Int} {p : Int}, SS hs → (∀ h ∈ hs, p < h) → (∀ h ∈ hs, hOk h = true) → (∀ h ∈ hs, lvOk (f h) = true) → partsOk b p (mkParts b f hs) = true
  | [], _, _, _, _, _ => rfl
  | h :: hs, p, hs0, hp, ho, hl => by
    have h' := List.pairwise_cons.1 hs0
    simp only [mkParts]
    split
    · exact ss_mk h'.2 (fun x hx => hp x (List.mem_cons_of_mem _ hx)) (fun x hx => ho x (List.mem_cons_of_mem _ hx)) (fun x hx => hl x (List.mem_cons_of_mem _ hx))
    · rename_i e
      have ih := ss_mk (b := b) (f := f) (p := h) h'.2 h'.1 (fun x hx => ho x (List.mem_cons_of_mem _ hx)) (fun x hx => hl x (List.mem_cons_of_mem _ hx))
      have h1 := ho h (by simp)
      have h2 := hl h (by simp)
      have h3 := hp h (by simp)
      simp [partsOk, h1, h2, h3, ih, e]

/-- The handles of a right label's parts. -/
theorem partsOk_mem {b : Int} : ∀ {p : Int} {ps : List (Int × Int)}, partsOk b p ps = true → ∀ q ∈ ps, hOk q.1 = true ∧ lvOk q.2 = true ∧ q.2 ≠ b ∧ p < q.1
  | _, [], _, q, hq => by cases hq
  | p, (a, v) :: ps, h, q, hq => by
    simp only [partsOk, Bool.and_eq_true, decide_eq_true_eq] at h
    obtain ⟨⟨⟨⟨h1, h2⟩, h3⟩, h4⟩, h5⟩ := h
    rcases List.mem_cons.1 hq with rfl | hq
    · exact ⟨h1, h2, h3, h4⟩
    · have := partsOk_mem h5 q hq
      exact ⟨this.1, this.2.1, this.2.2.1, by omega⟩
theorem levIn_none {b x : Int} : ∀ {ps : List (Int × Int)}, x ∉ ps.map (·.1) → levIn b x ps = b
  | [], _ => rfl
  | (a, v) :: ps, h => by
    simp only [List.map_cons, List.mem_cons, not_or] at h
    have e : ¬ a = x := fun e => h.1 e.symm
    simp only [levIn, if_neg e]
    exact levIn_none h.2
theorem lev_lv {l : Lab} (h : labOk l = true) (x : Int) : lvOk (lev l x) = true := by
  obtain ⟨h1, h2, h3⟩ : lvOk l.base = true ∧ l.parts.length ≤ 8 ∧ partsOk l.base (-1) l.parts = true := by simpa [labOk, and_assoc] using h
  unfold lev
  suffices k : ∀ (ps : List (Int × Int)), (∀ q ∈ ps, lvOk q.2 = true) → lvOk (levIn l.base x ps) = true from k _ (fun q hq => (partsOk_mem h3 q hq).2.1)
  intro ps
  induction ps with
  | nil => intro _; exact h1
  | cons q ps ih =>
    intro hq
    obtain ⟨a, v⟩ := q
    simp only [levIn]
    split
    · exact hq (a, v) (by simp)
    · exact ih (fun q hq' => hq q (List.mem_cons_of_mem _ hq'))
theorem labOk_base_of {l : Lab} (h : labOk l = true) : lvOk l.base = true := by simp [labOk] at h; exact h.1.1
theorem labOk_partsOk {l : Lab} (h : labOk l = true) : partsOk l.base (-1) l.parts = true := by simp [labOk] at h; exact h.2
/-- A handle of which none of these labels tells. -/
theorem fresh (xs : List Int) : ∃ x : Int, x ∉ xs := by
  refine ⟨xs.foldr (fun a b => max a b) 0 + 1, fun hm => ?_⟩
  suffices k : ∀ (ys : List Int) (y : Int), y ∈ ys → y ≤ ys.foldr (fun a b => max a b) 0 by have := k xs _ hm; omega
  intro ys
  induction ys with
  | nil => intro y h; cases h
  | cons z zs ih =>
    intro y h
    simp only [List.foldr_cons]
    rcases List.mem_cons.1 h with rfl | h
    · omega
    · have := ih y h; omega

/-- A right label is what its levels make of any rising list that has its parts' handles. -/
theorem parts_mk {b : Int} : ∀ {p : Int} {ps : List (Int × Int)} {hs : List Int} {f : Int → Int}, partsOk b p ps = true → SS hs → (∀ q ∈ ps, q.1 ∈ hs ∧ f q.1 = q.2) → (∀ h ∈ hs, h ∉ ps.map (·.1) → f h = b) → mkParts b f hs = ps
  | p, ps, [], f, hp, hs, hq, hf => by
    match ps with
    | [] => rfl
    | q :: ps => exact absurd (hq q (by simp)).1 (by simp)
  | p, ps, h :: hs, f, hp, hss, hq, hf => by
    have h' := List.pairwise_cons.1 hss
    simp only [mkParts]
    by_cases e : f h = b
    · rw [if_pos e]
      refine parts_mk hp h'.2 (fun q hm => ?_) (fun x hx hn => hf x (List.mem_cons_of_mem _ hx) hn)
      have := hq q hm
      refine ⟨?_, this.2⟩
      rcases List.mem_cons.1 this.1 with e' | e'
      · have := (partsOk_mem hp q hm).2.2.1
        have k := (hq q hm).2
        rw [e', e] at k
        exact absurd k.symm this
      · exact e'
    · rw [if_neg e]
      have hm : h ∈ ps.map (·.1) := Classical.byContradiction fun hn => e (hf h (by simp) hn)
      match ps, hp, hq, hf, hm with
      | (a, v) :: ps, hp, hq, hf, hm =>
        have ha := hq (a, v) (by simp)
        simp only [partsOk, Bool.and_eq_true, decide_eq_true_eq] at hp
        have hmem := partsOk_mem hp.2
        have hah : a = h := by
          rcases List.mem_cons.1 ha.1 with k | k
          · exact k
          · have h1 := h'.1 a k
            simp only [List.map_cons, List.mem_cons] at hm
            rcases hm with hm | hm
            · exact hm.symm
            · obtain ⟨q, hq1, hq2⟩ := List.mem_map.1 hm
              have := (hmem q hq1).2.2.2
              omega
        subst hah
        have hv : f a = v := ha.2
        rw [hv]
        congr 1
        refine parts_mk hp.2 h'.2 (fun q hm' => ?_) (fun x hx hn => ?_)
        · have h1 := hq q (List.mem_cons_of_mem _ hm')
          refine ⟨?_, h1.2⟩
          rcases List.mem_cons.1 h1.1 with k | k
          · have := (hmem q hm').2.2.2; omega
          · exact k
        · refine hf x (List.mem_cons_of_mem _ hx) ?_
          simp only [List.map_cons, List.mem_cons, not_or]
          exact ⟨fun k => by have := h'.1 x hx; omega, hn⟩
theorem lev_part {l : Lab} (h : labOk l = true) {q : Int × Int} (hq : q ∈ l.parts) : lev l q.1 = q.2 := by
  have hp := labOk_partsOk h
  unfold lev
  suffices k : ∀ {p : Int} {ps : List (Int × Int)}, partsOk l.base p ps = true → q ∈ ps → levIn l.base q.1 ps = q.2 from k hp hq
  intro p ps
  induction ps generalizing p with
  | nil => intro _ hm; cases hm
  | cons r ps ih =>
    obtain ⟨a, v⟩ := r
    intro hp hm
    simp only [partsOk, Bool.and_eq_true, decide_eq_true_eq] at hp
    rcases List.mem_cons.1 hm with rfl | hm
    · simp [levIn]
    · have := (partsOk_mem hp.2 q hm).2.2.2
      have e : ¬ a = q.1 := by omega
      simp only [levIn, if_neg e]
      exact ih hp.2 hm
theorem lev_none {l : Lab} {x : Int} (h : x ∉ l.parts.map (·.1)) : lev l x = l.base := levIn_none h
theorem lab_mk {l : Lab} {hs : List Int} (h : labOk l = true) (hss : SS hs) (hc : ∀ x ∈ l.parts.map (·.1), x ∈ hs) : mkParts l.base (lev l) hs = l.parts :=
  parts_mk (labOk_partsOk h) hss (fun q hq => ⟨hc _ (List.mem_map.2 ⟨q, hq, rfl⟩), lev_part h hq⟩) (fun _ _ hn => lev_none hn)
/-- Of two right labels that tell the same of every handle: they are one. -/
theorem lab_ext {l m : Lab} (h : labOk l = true) (k : labOk m = true) (he : ∀ x, lev l x = lev m x) : l = m := by
  obtain ⟨x, hx⟩ := fresh (l.parts.map (·.1) ++ m.parts.map (·.1))
  simp only [List.mem_append, not_or] at hx
  have hb : l.base = m.base := by rw [← lev_none hx.1, ← lev_none hx.2, he]
  have hss := handlesIn_ss (handlesIn [] l.parts) m.parts (handlesIn_ss [] l.parts (by simp [SS]))
  have h1 := lab_mk (hs := handlesIn (handlesIn [] l.parts) m.parts) h hss (fun y hy => by rw [mem_handlesIn, mem_handlesIn]; exact .inl (.inr hy))
  have h2 := lab_mk (hs := handlesIn (handlesIn [] l.parts) m.parts) k hss (fun y hy => by rw [mem_handlesIn]; exact .inr hy)
  have hf : lev l = lev m := funext he
  obtain ⟨b, ps⟩ := l
  obtain ⟨c, qs⟩ := m
  simp only at hb h1 h2
  subst hb
  rw [hf] at h1
  have e : ps = qs := h1.symm.trans h2
  rw [e]
end Go.Proofs.Ytjdnobihhkmmpaa
