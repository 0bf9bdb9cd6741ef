/-
  The handles of two labels, as plain data: put together one by one, or sorted and compacted: the same list. No program, no memory.
-/
import Derived.Test.YtjdnobihhkmmpaaLabPure
import Derived.Lib.SlicesCompact
namespace Go.Proofs.Ytjdnobihhkmmpaa
set_option maxRecDepth 100000
open Go.Lib

/-- Rising, no two alike. -/
def SS (xs : List Int) : Prop := xs.Pairwise (· < ·)
theorem ss_ext : ∀ {a b : List Int}, SS a → SS b → (∀ x, x ∈ a ↔ x ∈ b) → a = b
  | [], [], _, _, _ => rfl
  | [], y :: ys, _, _, h => absurd ((h y).2 (by simp)) (by simp)
  | x :: xs, [], _, _, h => absurd ((h x).1 (by simp)) (by simp)
  | x :: xs, y :: ys, ha, hb, h => by
    have ha' := List.pairwise_cons.1 ha
    have hb' := List.pairwise_cons.1 hb
    have hxy : x = y := by
      have h1 := (h x).1 (by simp)
      have h2 := (h y).2 (by simp)
      simp only [List.mem_cons] at h1 h2
      rcases h1 with h1 | h1
      · exact h1
      · rcases h2 with h2 | h2
        · exact h2.symm
        · have := hb'.1 x h1; have := ha'.1 y h2; omega
    subst hxy
    rw [ss_ext ha'.2 hb'.2 (fun z => ?_)]
    have hz := h z
    simp only [List.mem_cons] at hz
    constructor
    · intro q
      rcases hz.1 (.inr q) with e | e
      · have := ha'.1 z q; omega
      · exact e
    · intro q
      rcases hz.2 (.inr q) with e | e
      · have := hb'.1 z q; omega
      · exact e
theorem mem_into (xs : List Int) (h x : Int) : x ∈ into xs h ↔ x = h ∨ x ∈ xs := by
  induction xs with
  | nil => simp [into]
  | cons y ys ih =>
    simp only [into]
    split
    · simp only [List.mem_cons, ih]; constructor <;> (rintro (e | e | e) <;> simp [e])
    · split
      · rename_i e; subst e; simp
      · simp
theorem into_ss {xs : List Int} (h : Int) (hx : SS xs) : SS (into xs h) := by
  induction xs with
  | nil => simp [into, SS]
  | cons y ys ih =>
    have h' := List.pairwise_cons.1 hx
    simp only [into]
    split
    · rename_i e
      refine List.pairwise_cons.2 ⟨fun z hz => ?_, ih h'.2⟩
      rcases (mem_into ys h z).1 hz with q | q
      · omega
      · exact h'.1 z q
    · split
      · exact hx
      · rename_i e1 e2
        refine List.pairwise_cons.2 ⟨fun z hz => ?_, hx⟩
        rcases List.mem_cons.1 hz with q | q
        · omega
        · have := h'.1 z q; omega
theorem handlesIn_ss (xs : List Int) (ps : List (Int × Int)) (hx : SS xs) : SS (handlesIn xs ps) := by
  induction ps generalizing xs with
  | nil => exact hx
  | cons p ps ih => exact ih _ (into_ss _ hx)
theorem mem_handlesIn (xs : List Int) (ps : List (Int × Int)) (x : Int) : x ∈ handlesIn xs ps ↔ x ∈ xs ∨ x ∈ ps.map (·.1) := by
  induction ps generalizing xs with
  | nil => simp [handlesIn]
  | cons p ps ih =>
    have := ih (into xs p.1)
    simp only [handlesIn, List.foldl_cons] at this ⊢
    rw [this, mem_into]
    simp only [List.map_cons, List.mem_cons]
    constructor
    · rintro ((e | e) | e)
      · exact .inr (.inl e)
      · exact .inl e
      · exact .inr (.inr e)
    · rintro (e | e | e)
      · exact .inl (.inr e)
      · exact .inl (.inl e)
      · exact .inr e

/-- Sorted; then each once. -/
def srt (xs : List Int) : List Int := xs.mergeSort fun x y => decide (x ≤ y)
theorem srt_length (xs : List Int) : (srt xs).length = xs.length := by simp [srt]
theorem mem_srt (xs : List Int) (x : Int) : x ∈ srt xs ↔ x ∈ xs := by unfold srt; exact List.mem_mergeSort
theorem srt_le (xs : List Int) : (srt xs).Pairwise (· ≤ ·) := by
  have := List.pairwise_mergeSort (le := fun (x y : Int) => decide (x ≤ y)) (fun a b c => by simp; omega) (fun a b => by simp; omega) xs
  simpa [srt] using this

theorem compact_upto {zs : List Int} (hs : zs.Pairwise (· ≤ ·)) : ∀ m, m ≤ zs.length → SS (compactUpTo zs.toArray m) ∧ (∀ x, x ∈ compactUpTo zs.toArray m ↔ ∃ j, ∃ h : j < zs.length, j < m ∧ zs[j] = x)
  | 0, _ => by simp [compactUpTo, SS]
  | m + 1, hm => by
    obtain ⟨h1, h2⟩ := compact_upto hs m (by omega)
    have hml : m < zs.length := by omega
    have hle : ∀ i j (hi : i < zs.length) (hj : j < zs.length), i < j → zs[i] ≤ zs[j] := fun i j hi hj hij => (List.pairwise_iff_getElem.1 hs) i j hi hj hij
    have eg : ∀ j (hj : j < zs.length), (zs.toArray)[j]! = zs[j] := fun j hj => by simp [hj]
    rw [compactUpTo_succ]
    by_cases hk : keeps zs.toArray m = true
    · rw [if_pos hk, eg m hml]
      refine ⟨List.pairwise_append.2 ⟨h1, by simp, fun a ha b hb => ?_⟩, fun x => ?_⟩
      · have hb' : b = zs[m] := by simpa using hb
        obtain ⟨j, hj, hjm, rfl⟩ := (h2 a).1 ha
        subst hb'
        have q1 := hle j m hj hml hjm
        have hm0 : m ≠ 0 := by omega
        simp only [keeps, hm0, false_or, decide_eq_true_eq] at hk
        rw [eg m hml, eg (m - 1) (by omega)] at hk
        have q2 : zs[j] ≤ zs[m - 1] := by
          rcases Nat.lt_or_ge j (m - 1) with c | c
          · exact hle j (m - 1) hj (by omega) c
          · have : j = m - 1 := by omega
            subst this; exact Int.le_refl _
        have q3 := hle (m - 1) m (by omega) hml (by omega)
        omega
      · simp only [List.mem_append, List.mem_singleton, h2]
        constructor
        · rintro (⟨j, hj, hjm, rfl⟩ | rfl)
          · exact ⟨j, hj, by omega, rfl⟩
          · exact ⟨m, hml, by omega, rfl⟩
        · rintro ⟨j, hj, hjm, rfl⟩
          rcases Nat.lt_or_ge j m with c | c
          · exact .inl ⟨j, hj, c, rfl⟩
          · have : j = m := by omega
            subst this; exact .inr rfl
    · rw [if_neg hk, List.append_nil]
      refine ⟨h1, fun x => ?_⟩
      rw [h2]
      constructor
      · rintro ⟨j, hj, hjm, rfl⟩; exact ⟨j, hj, by omega, rfl⟩
      · rintro ⟨j, hj, hjm, rfl⟩
        rcases Nat.lt_or_ge j m with c | c
        · exact ⟨j, hj, c, rfl⟩
        · have e : j = m := by omega
          subst e
          simp only [keeps, decide_eq_true_eq, not_or, Decidable.not_not] at hk
          rw [eg j hml, eg (j - 1) (by omega)] at hk
          exact ⟨j - 1, by omega, by omega, hk.2.symm⟩
/-- Each once, of a sorted list. -/
def cpt (xs : List Int) : List Int := compactUpTo xs.toArray xs.length
theorem cpt_ss {zs : List Int} (hs : zs.Pairwise (· ≤ ·)) : SS (cpt zs) := (compact_upto hs zs.length (Nat.le_refl _)).1
theorem mem_cpt {zs : List Int} (hs : zs.Pairwise (· ≤ ·)) (x : Int) : x ∈ cpt zs ↔ x ∈ zs := by
  rw [show (x ∈ cpt zs) = (x ∈ compactUpTo zs.toArray zs.length) from rfl, (compact_upto hs zs.length (Nat.le_refl _)).2 x]
  constructor
  · rintro ⟨j, hj, -, rfl⟩; exact List.getElem_mem hj
  · intro h
    obtain ⟨j, hj, rfl⟩ := List.getElem_of_mem h
    exact ⟨j, hj, hj, rfl⟩
theorem handles_sorted (ps qs : List (Int × Int)) : cpt (srt (ps.map (·.1) ++ qs.map (·.1))) = handlesIn (handlesIn [] ps) qs := by
  refine ss_ext (cpt_ss (srt_le _)) (handlesIn_ss _ _ (handlesIn_ss _ _ (by simp [SS]))) (fun x => ?_)
  rw [mem_cpt (srt_le _), mem_srt, mem_handlesIn, mem_handlesIn]
  simp
theorem cpt_length (xs : List Int) : (cpt xs).length ≤ xs.length := by
  unfold cpt compactUpTo
  rw [List.length_map]
  have := List.length_filter_le (keeps xs.toArray) (List.range xs.length)
  simpa using this
end Go.Proofs.Ytjdnobihhkmmpaa
