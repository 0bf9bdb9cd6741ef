/-
  Texts put together: LabPure, HandPure, PlacePure, OrdPure, OrdPure2, OrdLaws, LabLaws, TaintPure. What each proves stands ahead of it.
-/
import Derived.Test.YtnpeojlhjbdjiaaGreatDoorLab
import Derived.Test.YtnpeojlhjbdjiaaGreatDoorLevel
import Derived.Test.YtnpeojlhjbdjiaaGreatDoorMem
import Derived.Lib.SlicesCompact
/-
  Labels as plain data: right or not, the level of a handle, with a level, the handles. No program, no memory.
-/
namespace Go.Proofs.YtnpeojlhjbdjiaaGreatDoor
set_option maxRecDepth 100000


/-- Are parts right, behind a handle, beside a base? -/
def partsOk (b : Int) : Int → List (Int × Int) → Bool
  | _, [] => true
  | prev, (h, v) :: ps => hOk h && lvOk v && decide (v ≠ b) && decide (prev < h) && partsOk b h ps
def labOk (l : Lab) : Bool := lvOk l.base && decide (l.parts.length ≤ 8) && partsOk l.base (-1) l.parts
def noLab : Lab := ⟨0, []⟩

/-- The handle ahead of place k. -/
def prevH (ps : List (Int × Int)) : Nat → Int
  | 0 => -1
  | k + 1 => (ps.getD k (0, 0)).1
/-- Behind k rounds, what is left decides. -/
def OkLeft (b : Int) (ps : List (Int × Int)) (k : Nat) : Prop := partsOk b (-1) ps = partsOk b (prevH ps k) (ps.drop k)
theorem OkLeft.zero (b : Int) (ps : List (Int × Int)) : OkLeft b ps 0 := rfl
theorem drop_at {α : Type} {ps : List α} {k : Nat} {x : α} (hx : ps[k]? = some x) : ps.drop k = x :: ps.drop (k + 1) := by
  have hk : k < ps.length := by rcases Nat.lt_or_ge k ps.length with h | h; exact h; rw [List.getElem?_eq_none h] at hx; cases hx
  rw [List.drop_eq_getElem_cons hk]
  rw [List.getElem?_eq_getElem hk] at hx
  rw [Option.some.inj hx]
theorem prevH_succ {ps : List (Int × Int)} {k : Nat} {x : Int × Int} (hx : ps[k]? = some x) : prevH ps (k + 1) = x.1 := by simp [prevH, List.getD, hx]
theorem OkLeft.bad {b : Int} {ps : List (Int × Int)} {k : Nat} {h v : Int} (hs : OkLeft b ps k) (hx : ps[k]? = some (h, v)) (hbad : hOk h = false ∨ lvOk v = false ∨ v = b ∨ h ≤ prevH ps k) : partsOk b (-1) ps = false := by
  rw [hs, drop_at hx]
  rcases hbad with e | e | e | e
  · simp [partsOk, e]
  · simp [partsOk, e]
  · simp [partsOk, e]
  · have : ¬ prevH ps k < h := by omega
    simp [partsOk, this]
theorem OkLeft.succ {b : Int} {ps : List (Int × Int)} {k : Nat} {h v : Int} (hs : OkLeft b ps k) (hx : ps[k]? = some (h, v)) (h1 : hOk h = true) (h2 : lvOk v = true) (h3 : v ≠ b) (h4 : prevH ps k < h) : OkLeft b ps (k + 1) := by
  unfold OkLeft at hs ⊢
  rw [hs, drop_at hx, prevH_succ hx]
  simp [partsOk, h1, h2, h3, h4]
theorem OkLeft.done {b : Int} {ps : List (Int × Int)} {k : Nat} (hs : OkLeft b ps k) (hk : ps.length ≤ k) : partsOk b (-1) ps = true := by
  rw [hs, List.drop_eq_nil_of_le hk]; rfl
theorem labOk_base {l : Lab} (h : lvOk l.base = false) : labOk l = false := by simp [labOk, h]
theorem labOk_long {l : Lab} (h : 8 < l.parts.length) : labOk l = false := by
  have : ¬ l.parts.length ≤ 8 := by omega
  simp [labOk, this]
theorem labOk_parts {l : Lab} {c : Bool} (h : lvOk l.base = true) (k : l.parts.length ≤ 8) (hp : partsOk l.base (-1) l.parts = c) : labOk l = c := by simp [labOk, h, k, hp]

/-- A plain label. -/
def plainL (b : Int) : Lab := if lvOk b then ⟨b, []⟩ else noLab
theorem plainL_yes {b : Int} (h : lvOk b = true) : plainL b = ⟨b, []⟩ := by simp [plainL, h]
theorem plainL_no {b : Int} (h : lvOk b = false) : plainL b = ⟨0, []⟩ := by simp [plainL, h, noLab]

/-- The level of a handle. -/
def levIn (b h : Int) : List (Int × Int) → Int
  | [] => b
  | (a, v) :: ps => if a = h then v else levIn b h ps
def lev (l : Lab) (h : Int) : Int := levIn l.base h l.parts
def LevLeft (b h : Int) (ps : List (Int × Int)) (k : Nat) : Prop := levIn b h ps = levIn b h (ps.drop k)
theorem LevLeft.zero (b h : Int) (ps : List (Int × Int)) : LevLeft b h ps 0 := rfl
theorem LevLeft.hit {b h : Int} {ps : List (Int × Int)} {k : Nat} {v : Int} (hs : LevLeft b h ps k) (hx : ps[k]? = some (h, v)) : levIn b h ps = v := by rw [hs, drop_at hx]; simp [levIn]
theorem LevLeft.succ {b h : Int} {ps : List (Int × Int)} {k : Nat} {a v : Int} (hs : LevLeft b h ps k) (hx : ps[k]? = some (a, v)) (hn : a ≠ h) : LevLeft b h ps (k + 1) := by
  unfold LevLeft at hs ⊢
  rw [hs, drop_at hx]
  simp [levIn, hn]
theorem LevLeft.done {b h : Int} {ps : List (Int × Int)} {k : Nat} (hs : LevLeft b h ps k) (hk : ps.length ≤ k) : levIn b h ps = b := by rw [hs, List.drop_eq_nil_of_le hk]; rfl
def levelOf (l : Lab) (h : Int) : Int := if labOk l && hOk h then lev l h else -1
theorem levelOf_no {l : Lab} {h : Int} (k : labOk l = false ∨ hOk h = false) : levelOf l h = -1 := by rcases k with e | e <;> simp [levelOf, e]
theorem levelOf_yes {l : Lab} {h : Int} (k : labOk l = true) (j : hOk h = true) : levelOf l h = lev l h := by simp [levelOf, k, j]

/-- A level put in: what is still to be put (done: no more) and the parts. -/
def withGo (h v : Int) : Bool → List (Int × Int) → List (Int × Int)
  | done, [] => if done then [] else [(h, v)]
  | true, (a, u) :: ps => if a ≠ h then (a, u) :: withGo h v true ps else withGo h v true ps
  | false, (a, u) :: ps => if h < a then (h, v) :: (a, u) :: withGo h v true ps else if a ≠ h then (a, u) :: withGo h v false ps else (h, v) :: withGo h v true ps
/-- The label with that level of that handle. -/
def withL (l : Lab) (h v : Int) : Lab × Bool :=
  let ps := withGo h v (decide (v = l.base)) l.parts
  if 8 < ps.length then (noLab, false) else (⟨l.base, ps⟩, true)
def withLabel (l : Lab) (h v : Int) : Lab × Bool := if labOk l && hOk h && lvOk v then withL l h v else (noLab, false)

/-- A handle comes to others, rising. -/
def into : List Int → Int → List Int
  | [], h => [h]
  | x :: xs, h => if x < h then x :: into xs h else if x = h then x :: xs else h :: x :: xs
def handlesIn (xs : List Int) (ps : List (Int × Int)) : List Int := ps.foldl (fun xs p => into xs p.1) xs
def handlesOf (l m : Lab) : List Int := if labOk l && labOk m then handlesIn (handlesIn [] l.parts) m.parts else []

/-- All up to place k are less. -/
def LtTo (xs : List Int) (h : Int) (k : Nat) : Prop := into xs h = xs.take k ++ into (xs.drop k) h
theorem LtTo.zero (xs : List Int) (h : Int) : LtTo xs h 0 := rfl
theorem take_at {α : Type} {ps : List α} {k : Nat} {x : α} (hx : ps[k]? = some x) : ps.take (k + 1) = ps.take k ++ [x] := by
  have hk : k < ps.length := by rcases Nat.lt_or_ge k ps.length with h | h; exact h; rw [List.getElem?_eq_none h] at hx; cases hx
  rw [List.take_succ_eq_append_getElem hk]
  rw [List.getElem?_eq_getElem hk] at hx
  rw [Option.some.inj hx]
theorem LtTo.succ {xs : List Int} {h x : Int} {k : Nat} (hs : LtTo xs h k) (hx : xs[k]? = some x) (hl : x < h) : LtTo xs h (k + 1) := by
  unfold LtTo at hs ⊢
  rw [hs, drop_at hx, take_at hx]
  simp [into, hl]
theorem LtTo.done {xs : List Int} {h : Int} {k : Nat} (hs : LtTo xs h k) (hk : xs.length ≤ k) : into xs h = xs ++ [h] := by
  rw [hs, List.drop_eq_nil_of_le hk, List.take_of_length_le hk]; rfl
theorem LtTo.here {xs : List Int} {h : Int} {k : Nat} (hs : LtTo xs h k) (hx : xs[k]? = some h) : into xs h = xs := by
  rw [hs, drop_at hx]
  simp only [into, Int.lt_irrefl, if_false, if_true]
  rw [← drop_at hx, List.take_append_drop]
theorem LtTo.more {xs : List Int} {h x : Int} {k : Nat} (hs : LtTo xs h k) (hx : xs[k]? = some x) (hl : h < x) : into xs h = xs.take k ++ [h] ++ xs.drop k := by
  have h1 : ¬ x < h := by omega
  have h2 : x ≠ h := by omega
  rw [hs, drop_at hx]
  simp [into, h1, h2]

theorem into_length (xs : List Int) (h : Int) : (into xs h).length ≤ xs.length + 1 := by
  induction xs with
  | nil => simp [into]
  | cons x xs ih =>
    simp only [into]
    split
    · simp only [List.length_cons]; omega
    · split <;> simp
theorem handlesIn_snoc {xs : List Int} {ps : List (Int × Int)} {k : Nat} {x y : Int} (hx : ps[k]? = some (x, y)) : handlesIn xs (ps.take (k + 1)) = into (handlesIn xs (ps.take k)) x := by
  rw [take_at hx]; simp [handlesIn, List.foldl_append]
theorem handlesIn_length (xs : List Int) (ps : List (Int × Int)) : (handlesIn xs ps).length ≤ xs.length + ps.length := by
  induction ps generalizing xs with
  | nil => simp [handlesIn]
  | cons p ps ih =>
    have h1 := ih (into xs p.1)
    have h2 := into_length xs p.1
    simp only [handlesIn, List.foldl_cons, List.length_cons] at h1 ⊢
    omega
theorem handlesOf_no {l m : Lab} (h : labOk l = false ∨ labOk m = false) : handlesOf l m = [] := by rcases h with e | e <;> simp [handlesOf, e]
theorem handlesOf_yes {l m : Lab} (h : labOk l = true) (k : labOk m = true) : handlesOf l m = handlesIn (handlesIn [] l.parts) m.parts := by simp [handlesOf, h, k]
theorem labOk_short {l : Lab} (h : labOk l = true) : l.parts.length ≤ 8 := by simp [labOk] at h; exact h.1.2

/-- Behind k rounds: what stands in out, and what is left. -/
def WithLeft (h v : Int) (d0 : Bool) (ps : List (Int × Int)) (out : List (Int × Int)) (done : Bool) (k : Nat) : Prop := withGo h v d0 ps = out ++ withGo h v done (ps.drop k)
theorem WithLeft.zero (h v : Int) (d0 : Bool) (ps : List (Int × Int)) : WithLeft h v d0 ps [] d0 0 := rfl
section
variable {h v : Int} {d0 : Bool} {ps out : List (Int × Int)} {k : Nat} {x y : Int}
theorem WithLeft.less (hs : WithLeft h v d0 ps out false k) (hx : ps[k]? = some (x, y)) (hl : h < x) : WithLeft h v d0 ps (out ++ [(h, v)] ++ [(x, y)]) true (k + 1) := by
  unfold WithLeft at hs ⊢
  rw [hs, drop_at hx]
  simp [withGo, hl]
theorem WithLeft.other (hs : WithLeft h v d0 ps out false k) (hx : ps[k]? = some (x, y)) (hl : ¬ h < x) (hn : x ≠ h) : WithLeft h v d0 ps (out ++ [(x, y)]) false (k + 1) := by
  unfold WithLeft at hs ⊢
  rw [hs, drop_at hx]
  simp [withGo, hl, hn]
theorem WithLeft.here (hs : WithLeft h v d0 ps out false k) (hx : ps[k]? = some (h, y)) : WithLeft h v d0 ps (out ++ [(h, v)]) true (k + 1) := by
  unfold WithLeft at hs ⊢
  rw [hs, drop_at hx]
  simp [withGo]
theorem WithLeft.otherD (hs : WithLeft h v d0 ps out true k) (hx : ps[k]? = some (x, y)) (hn : x ≠ h) : WithLeft h v d0 ps (out ++ [(x, y)]) true (k + 1) := by
  unfold WithLeft at hs ⊢
  rw [hs, drop_at hx]
  simp [withGo, hn]
theorem WithLeft.hereD (hs : WithLeft h v d0 ps out true k) (hx : ps[k]? = some (h, y)) : WithLeft h v d0 ps out true (k + 1) := by
  unfold WithLeft at hs ⊢
  rw [hs, drop_at hx]
  simp [withGo]
theorem WithLeft.done (hs : WithLeft h v d0 ps out true k) (hk : ps.length ≤ k) : withGo h v d0 ps = out := by rw [hs, List.drop_eq_nil_of_le hk]; simp [withGo]
theorem WithLeft.last (hs : WithLeft h v d0 ps out false k) (hk : ps.length ≤ k) : withGo h v d0 ps = out ++ [(h, v)] := by rw [hs, List.drop_eq_nil_of_le hk]; simp [withGo]
end
theorem withL_long {l : Lab} {h v : Int} {out : List (Int × Int)} (hs : withGo h v (decide (v = l.base)) l.parts = out) (hk : 8 < out.length) : withL l h v = (noLab, false) := by simp [withL, hs, hk]
theorem withL_short {l : Lab} {h v : Int} {out : List (Int × Int)} (hs : withGo h v (decide (v = l.base)) l.parts = out) (hk : out.length ≤ 8) : withL l h v = (⟨l.base, out⟩, true) := by
  have : ¬ 8 < out.length := by omega
  simp [withL, hs, this]
theorem withLabel_no {l : Lab} {h v : Int} (k : labOk l = false ∨ hOk h = false ∨ lvOk v = false) : withLabel l h v = (noLab, false) := by rcases k with e | e | e <;> simp [withLabel, e]
theorem withLabel_yes {l : Lab} {h v : Int} (k : labOk l = true) (j : hOk h = true) (i : lvOk v = true) : withLabel l h v = withL l h v := by simp [withLabel, k, j, i]
end Go.Proofs.YtnpeojlhjbdjiaaGreatDoor

/-
  The handles of two labels, as plain data: put together one by one, or sorted and compacted: the same list. No program, no memory.
-/
namespace Go.Proofs.YtnpeojlhjbdjiaaGreatDoor
set_option maxRecDepth 100000
open Go.Lib

/-- Rising, no two alike. -/
def SS (xs : List Int) : Prop := xs.Pairwise (· < ·)
theorem ss_ext : ∀ {a b : List Int}, SS a → SS b → (∀ x, x ∈ a ↔ x ∈ b) → a = b
  | [], [], _, _, _ => rfl
  | [], y :: ys, _, _, h => absurd ((h y).2 (by simp)) (by simp)
  | x :: xs, [], _, _, h => absurd ((h x).1 (by simp)) (by simp)
  | x :: xs, y :: ys, ha, hb, h => by
    have ha' := List.pairwise_cons.1 ha
    have hb' := List.pairwise_cons.1 hb
    have hxy : x = y := by
      have h1 := (h x).1 (by simp)
      have h2 := (h y).2 (by simp)
      simp only [List.mem_cons] at h1 h2
      rcases h1 with h1 | h1
      · exact h1
      · rcases h2 with h2 | h2
        · exact h2.symm
        · have := hb'.1 x h1; have := ha'.1 y h2; omega
    subst hxy
    rw [ss_ext ha'.2 hb'.2 (fun z => ?_)]
    have hz := h z
    simp only [List.mem_cons] at hz
    constructor
    · intro q
      rcases hz.1 (.inr q) with e | e
      · have := ha'.1 z q; omega
      · exact e
    · intro q
      rcases hz.2 (.inr q) with e | e
      · have := hb'.1 z q; omega
      · exact e
theorem mem_into (xs : List Int) (h x : Int) : x ∈ into xs h ↔ x = h ∨ x ∈ xs := by
  induction xs with
  | nil => simp [into]
  | cons y ys ih =>
    simp only [into]
    split
    · simp only [List.mem_cons, ih]; constructor <;> (rintro (e | e | e) <;> simp [e])
    · split
      · rename_i e; subst e; simp
      · simp
theorem into_ss {xs : List Int} (h : Int) (hx : SS xs) : SS (into xs h) := by
  induction xs with
  | nil => simp [into, SS]
  | cons y ys ih =>
    have h' := List.pairwise_cons.1 hx
    simp only [into]
    split
    · rename_i e
      refine List.pairwise_cons.2 ⟨fun z hz => ?_, ih h'.2⟩
      rcases (mem_into ys h z).1 hz with q | q
      · omega
      · exact h'.1 z q
    · split
      · exact hx
      · rename_i e1 e2
        refine List.pairwise_cons.2 ⟨fun z hz => ?_, hx⟩
        rcases List.mem_cons.1 hz with q | q
        · omega
        · have := h'.1 z q; omega
theorem handlesIn_ss (xs : List Int) (ps : List (Int × Int)) (hx : SS xs) : SS (handlesIn xs ps) := by
  induction ps generalizing xs with
  | nil => exact hx
  | cons p ps ih => exact ih _ (into_ss _ hx)
theorem mem_handlesIn (xs : List Int) (ps : List (Int × Int)) (x : Int) : x ∈ handlesIn xs ps ↔ x ∈ xs ∨ x ∈ ps.map (·.1) := by
  induction ps generalizing xs with
  | nil => simp [handlesIn]
  | cons p ps ih =>
    have := ih (into xs p.1)
    simp only [handlesIn, List.foldl_cons] at this ⊢
    rw [this, mem_into]
    simp only [List.map_cons, List.mem_cons]
    constructor
    · rintro ((e | e) | e)
      · exact .inr (.inl e)
      · exact .inl e
      · exact .inr (.inr e)
    · rintro (e | e | e)
      · exact .inl (.inr e)
      · exact .inl (.inl e)
      · exact .inr e

/-- Sorted; then each once. -/
def srt (xs : List Int) : List Int := xs.mergeSort fun x y => decide (x ≤ y)
theorem srt_length (xs : List Int) : (srt xs).length = xs.length := by simp [srt]
theorem mem_srt (xs : List Int) (x : Int) : x ∈ srt xs ↔ x ∈ xs := by unfold srt; exact List.mem_mergeSort
theorem srt_le (xs : List Int) : (srt xs).Pairwise (· ≤ ·) := by
  have := List.pairwise_mergeSort (le := fun (x y : Int) => decide (x ≤ y)) (fun a b c => by simp; omega) (fun a b => by simp; omega) xs
  simpa [srt] using this

theorem compact_upto {zs : List Int} (hs : zs.Pairwise (· ≤ ·)) : ∀ m, m ≤ zs.length → SS (compactUpTo zs.toArray m) ∧ (∀ x, x ∈ compactUpTo zs.toArray m ↔ ∃ j, ∃ h : j < zs.length, j < m ∧ zs[j] = x)
  | 0, _ => by simp [compactUpTo, SS]
  | m + 1, hm => by
    obtain ⟨h1, h2⟩ := compact_upto hs m (by omega)
    have hml : m < zs.length := by omega
    have hle : ∀ i j (hi : i < zs.length) (hj : j < zs.length), i < j → zs[i] ≤ zs[j] := fun i j hi hj hij => (List.pairwise_iff_getElem.1 hs) i j hi hj hij
    have eg : ∀ j (hj : j < zs.length), (zs.toArray)[j]! = zs[j] := fun j hj => by simp [hj]
    rw [compactUpTo_succ]
    by_cases hk : keeps zs.toArray m = true
    · rw [if_pos hk, eg m hml]
      refine ⟨List.pairwise_append.2 ⟨h1, by simp, fun a ha b hb => ?_⟩, fun x => ?_⟩
      · have hb' : b = zs[m] := by simpa using hb
        obtain ⟨j, hj, hjm, rfl⟩ := (h2 a).1 ha
        subst hb'
        have q1 := hle j m hj hml hjm
        have hm0 : m ≠ 0 := by omega
        simp only [keeps, hm0, false_or, decide_eq_true_eq] at hk
        rw [eg m hml, eg (m - 1) (by omega)] at hk
        have q2 : zs[j] ≤ zs[m - 1] := by
          rcases Nat.lt_or_ge j (m - 1) with c | c
          · exact hle j (m - 1) hj (by omega) c
          · have : j = m - 1 := by omega
            subst this; exact Int.le_refl _
        have q3 := hle (m - 1) m (by omega) hml (by omega)
        omega
      · simp only [List.mem_append, List.mem_singleton, h2]
        constructor
        · rintro (⟨j, hj, hjm, rfl⟩ | rfl)
          · exact ⟨j, hj, by omega, rfl⟩
          · exact ⟨m, hml, by omega, rfl⟩
        · rintro ⟨j, hj, hjm, rfl⟩
          rcases Nat.lt_or_ge j m with c | c
          · exact .inl ⟨j, hj, c, rfl⟩
          · have : j = m := by omega
            subst this; exact .inr rfl
    · rw [if_neg hk, List.append_nil]
      refine ⟨h1, fun x => ?_⟩
      rw [h2]
      constructor
      · rintro ⟨j, hj, hjm, rfl⟩; exact ⟨j, hj, by omega, rfl⟩
      · rintro ⟨j, hj, hjm, rfl⟩
        rcases Nat.lt_or_ge j m with c | c
        · exact ⟨j, hj, c, rfl⟩
        · have e : j = m := by omega
          subst e
          simp only [keeps, decide_eq_true_eq, not_or, Decidable.not_not] at hk
          rw [eg j hml, eg (j - 1) (by omega)] at hk
          exact ⟨j - 1, by omega, by omega, hk.2.symm⟩
/-- Each once, of a sorted list. -/
def cpt (xs : List Int) : List Int := compactUpTo xs.toArray xs.length
theorem cpt_ss {zs : List Int} (hs : zs.Pairwise (· ≤ ·)) : SS (cpt zs) := (compact_upto hs zs.length (Nat.le_refl _)).1
theorem mem_cpt {zs : List Int} (hs : zs.Pairwise (· ≤ ·)) (x : Int) : x ∈ cpt zs ↔ x ∈ zs := by
  rw [show (x ∈ cpt zs) = (x ∈ compactUpTo zs.toArray zs.length) from rfl, (compact_upto hs zs.length (Nat.le_refl _)).2 x]
  constructor
  · rintro ⟨j, hj, -, rfl⟩; exact List.getElem_mem hj
  · intro h
    obtain ⟨j, hj, rfl⟩ := List.getElem_of_mem h
    exact ⟨j, hj, hj, rfl⟩
theorem handles_sorted (ps qs : List (Int × Int)) : cpt (srt (ps.map (·.1) ++ qs.map (·.1))) = handlesIn (handlesIn [] ps) qs := by
  refine ss_ext (cpt_ss (srt_le _)) (handlesIn_ss _ _ (handlesIn_ss _ _ (by simp [SS]))) (fun x => ?_)
  rw [mem_cpt (srt_le _), mem_srt, mem_handlesIn, mem_handlesIn]
  simp
theorem cpt_length (xs : List Int) : (cpt xs).length ≤ xs.length := by
  unfold cpt compactUpTo
  rw [List.length_map]
  have := List.length_filter_le (keeps xs.toArray) (List.range xs.length)
  simpa using this
end Go.Proofs.YtnpeojlhjbdjiaaGreatDoor

/-
  Parts by handle, as plain data: the place of a handle, what stands ahead of it and behind. No program, no memory.
-/
namespace Go.Proofs.YtnpeojlhjbdjiaaGreatDoor
set_option maxRecDepth 100000

/-- The first place whose handle is not less. -/
def placeK (h : Int) : List (Int × Int) → Nat
  | [] => 0
  | (a, _) :: ps => if h ≤ a then 0 else placeK h ps + 1
/-- Is it the handle's own? -/
def placeHit (h : Int) : List (Int × Int) → Bool
  | [] => false
  | (a, _) :: ps => if h ≤ a then decide (a = h) else placeHit h ps
def PlLeft (h : Int) (ps : List (Int × Int)) (k : Nat) : Prop := placeK h ps = k + placeK h (ps.drop k) ∧ placeHit h ps = placeHit h (ps.drop k)
theorem PlLeft.zero (h : Int) (ps : List (Int × Int)) : PlLeft h ps 0 := ⟨by simp, rfl⟩
theorem PlLeft.succ {h : Int} {ps : List (Int × Int)} {k : Nat} {a v : Int} (hs : PlLeft h ps k) (hx : ps[k]? = some (a, v)) (hn : a < h) : PlLeft h ps (k + 1) := by
  have hn' : ¬ h ≤ a := by omega
  obtain ⟨h1, h2⟩ := hs
  rw [drop_at hx] at h1 h2
  simp only [placeK, placeHit, if_neg hn'] at h1 h2
  exact ⟨by omega, h2⟩
theorem PlLeft.here {h : Int} {ps : List (Int × Int)} {k : Nat} {a v : Int} (hs : PlLeft h ps k) (hx : ps[k]? = some (a, v)) (hn : h ≤ a) : placeK h ps = k ∧ placeHit h ps = decide (a = h) := by
  obtain ⟨h1, h2⟩ := hs
  rw [drop_at hx] at h1 h2
  simp only [placeK, placeHit, if_pos hn] at h1 h2
  exact ⟨by omega, h2⟩
theorem PlLeft.done {h : Int} {ps : List (Int × Int)} {k : Nat} (hs : PlLeft h ps k) (hk : ps.length = k) : placeK h ps = k ∧ placeHit h ps = false := by
  obtain ⟨h1, h2⟩ := hs
  rw [List.drop_eq_nil_of_le (by omega)] at h1 h2
  simp only [placeK, placeHit] at h1 h2
  exact ⟨by omega, h2⟩
theorem placeK_le (h : Int) (ps : List (Int × Int)) : placeK h ps ≤ ps.length := by
  induction ps with
  | nil => simp [placeK]
  | cons p ps ih => obtain ⟨a, v⟩ := p; simp only [placeK, List.length_cons]; split <;> omega
theorem placeHit_lt {h : Int} {ps : List (Int × Int)} (k : placeHit h ps = true) : ∃ v, ps[placeK h ps]? = some (h, v) := by
  induction ps with
  | nil => simp [placeHit] at k
  | cons p ps ih =>
    obtain ⟨a, v⟩ := p
    simp only [placeHit, placeK] at k ⊢
    split at k
    · rename_i e
      rw [if_pos e]
      have : a = h := by simpa using k
      exact ⟨v, by simp [this]⟩
    · rename_i e
      rw [if_neg e]
      obtain ⟨u, hu⟩ := ih k
      exact ⟨u, by simpa using hu⟩
/-- Where what stands behind the handle begins. -/
def behindK (h : Int) (ps : List (Int × Int)) : Nat := if placeHit h ps then placeK h ps + 1 else placeK h ps
theorem behindK_le (h : Int) (ps : List (Int × Int)) : behindK h ps ≤ ps.length := by
  unfold behindK
  split
  · rename_i k
    obtain ⟨v, hv⟩ := placeHit_lt k
    rcases Nat.lt_or_ge (placeK h ps) ps.length with c | c
    · exact c
    · rw [List.getElem?_eq_none c] at hv; cases hv
  · exact placeK_le h ps

/-- Each handle is more than the one ahead of it. -/
def Rises : Int → List (Int × Int) → Prop
  | _, [] => True
  | p, (a, _) :: ps => p < a ∧ Rises a ps
theorem rises_of {b : Int} : ∀ {p : Int} {ps : List (Int × Int)}, partsOk b p ps = true → Rises p ps
  | _, [], _ => trivial
  | p, (a, v) :: ps, h => by
    simp only [partsOk, Bool.and_eq_true, decide_eq_true_eq] at h
    exact ⟨h.1.2, rises_of h.2⟩
theorem rises_weak {p q : Int} (hq : q ≤ p) : ∀ {ps : List (Int × Int)}, Rises p ps → Rises q ps
  | [], _ => trivial
  | (a, _) :: ps, h => ⟨by have := h.1; omega, h.2⟩
theorem labOk_rises {l : Lab} (h : labOk l = true) : Rises (-1) l.parts := by
  simp only [labOk, Bool.and_eq_true] at h
  exact rises_of h.2

/-- The level of a handle, by its place. -/
theorem levIn_no {b h p : Int} : ∀ {ps : List (Int × Int)}, h ≤ p → Rises p ps → levIn b h ps = b
  | [], _, _ => rfl
  | (a, v) :: ps, hp, hr => by
    have hne : ¬ a = h := by have := hr.1; omega
    simp only [levIn, if_neg hne]
    exact levIn_no (by have := hr.1; omega) hr.2
theorem levIn_place {b h : Int} : ∀ {p : Int} {ps : List (Int × Int)}, Rises p ps → levIn b h ps = if placeHit h ps then (ps.getD (placeK h ps) (0, 0)).2 else b
  | _, [], _ => by simp [levIn, placeHit]
  | p, (a, v) :: ps, hr => by
    by_cases e : h ≤ a
    · by_cases e' : a = h
      · subst e'; simp [levIn, placeHit, placeK]
      · simp only [levIn, placeHit, placeK, if_pos e, if_neg e', decide_eq_true_eq]
        exact levIn_no (by omega) hr.2
    · have e' : ¬ a = h := by omega
      have := levIn_place (b := b) (h := h) hr.2
      simp only [levIn, placeHit, placeK, if_neg e, if_neg e', this]
      simp
theorem lev_place {l : Lab} {h : Int} (hr : Rises (-1) l.parts) : lev l h = if placeHit h l.parts then (l.parts.getD (placeK h l.parts) (0, 0)).2 else l.base := levIn_place hr

/-- With a level, by the place of its handle. -/
theorem withGo_done {h v p : Int} : ∀ {ps : List (Int × Int)}, h ≤ p → Rises p ps → withGo h v true ps = ps
  | [], _, _ => rfl
  | (a, u) :: ps, hp, hr => by
    have hne : a ≠ h := by have := hr.1; omega
    simp only [withGo, if_pos hne]
    rw [withGo_done (by have := hr.1; omega) hr.2]
theorem withGo_without {h v : Int} : ∀ {p : Int} {ps : List (Int × Int)}, Rises p ps → withGo h v true ps = ps.take (placeK h ps) ++ ps.drop (behindK h ps)
  | _, [], _ => by simp [withGo, placeK, behindK, placeHit]
  | p, (a, u) :: ps, hr => by
    by_cases e : h ≤ a
    · by_cases e' : a = h
      · subst e'
        simp only [withGo, behindK, placeHit, placeK]
        simp [withGo_done (Int.le_refl a) hr.2]
      · have hd := withGo_done (v := v) (show h ≤ a by omega) hr.2
        simp only [withGo, behindK, placeHit, placeK, if_pos e]
        simp [e', hd]
    · have e' : a ≠ h := by omega
      have ih := withGo_without (h := h) (v := v) hr.2
      simp only [withGo, if_pos e', ih, behindK, placeHit, placeK, if_neg e]
      split <;> simp
theorem withGo_put {h v : Int} : ∀ {p : Int} {ps : List (Int × Int)}, Rises p ps → withGo h v false ps = ps.take (placeK h ps) ++ [(h, v)] ++ ps.drop (behindK h ps)
  | _, [], _ => by simp [withGo, placeK, behindK, placeHit]
  | p, (a, u) :: ps, hr => by
    by_cases e : h ≤ a
    · by_cases e' : a = h
      · subst e'
        simp only [withGo, behindK, placeHit, placeK]
        simp [withGo_done (Int.le_refl a) hr.2]
      · have hl : h < a := by omega
        have hd := withGo_done (v := v) (show h ≤ a by omega) hr.2
        simp only [withGo, behindK, placeHit, placeK, if_pos e, if_pos hl]
        simp [e', hd]
    · have e' : a ≠ h := by omega
      have hl : ¬ h < a := by omega
      have ih := withGo_put (h := h) (v := v) hr.2
      simp only [withGo, if_neg hl, if_pos e', ih, behindK, placeHit, placeK, if_neg e]
      split <;> simp

/-- Do the handles rise? -/
def risesB : List (Int × Int) → Bool
  | [] => true
  | [_] => true
  | (a, _) :: (b, v) :: ps => decide (a < b) && risesB ((b, v) :: ps)
/-- Behind the rounds up to k, what is left decides. -/
def RiLeft (ps : List (Int × Int)) (k : Nat) : Prop := risesB ps = risesB (ps.drop (k - 1))
theorem RiLeft.one (ps : List (Int × Int)) : RiLeft ps 1 := rfl
theorem RiLeft.succ {ps : List (Int × Int)} {m : Nat} {a u b v : Int} (hs : RiLeft ps (m + 1)) (hx : ps[m]? = some (a, u)) (hy : ps[m + 1]? = some (b, v)) (h : a < b) : RiLeft ps (m + 1 + 1) := by
  unfold RiLeft at hs ⊢
  simp only [Nat.add_sub_cancel] at hs ⊢
  rw [hs, drop_at hx, drop_at hy]
  simp [risesB, h]
theorem RiLeft.bad {ps : List (Int × Int)} {m : Nat} {a u b v : Int} (hs : RiLeft ps (m + 1)) (hx : ps[m]? = some (a, u)) (hy : ps[m + 1]? = some (b, v)) (h : b ≤ a) : risesB ps = false := by
  have : ¬ a < b := by omega
  unfold RiLeft at hs
  simp only [Nat.add_sub_cancel] at hs
  rw [hs, drop_at hx, drop_at hy]
  simp [risesB, this]
theorem RiLeft.done {ps : List (Int × Int)} {k : Nat} (hs : RiLeft ps k) (hk : ps.length ≤ k) : risesB ps = true := by
  unfold RiLeft at hs
  rw [hs]
  match h : ps.drop (k - 1) with
  | [] => rfl
  | [_] => rfl
  | _ :: _ :: _ => have := congrArg List.length h; simp at this; omega
theorem partsOk_of {b : Int} : ∀ {p : Int} {ps : List (Int × Int)}, (∀ q ∈ ps, hOk q.1 = true ∧ lvOk q.2 = true ∧ q.2 ≠ b) → p < 0 → partsOk b p ps = risesB ps
  | _, [], _, _ => rfl
  | p, [(a, v)], h, hp => by
    obtain ⟨h1, h2, h3⟩ := h (a, v) (by simp)
    have := of_hOk h1
    have h4 : p < a := by omega
    simp [partsOk, risesB, h1, h2, h3, h4]
  | p, (a, v) :: (c, u) :: ps, h, hp => by
    obtain ⟨h1, h2, h3⟩ := h (a, v) (by simp)
    have := of_hOk h1
    have h4 : p < a := by omega
    have ih := partsOk_of (p := -1) (ps := (c, u) :: ps) (fun q hq => h q (List.mem_cons_of_mem _ hq)) (by omega)
    obtain ⟨h5, h6, h7⟩ := h (c, u) (by simp)
    have := of_hOk h5
    have h8 : (-1 : Int) < c := by omega
    simp only [partsOk, h5, h6, h8, decide_true, Bool.true_and, Bool.and_true] at ih
    have h3' : decide (v ≠ b) = true := by simpa using h3
    simp only [partsOk, risesB, h1, h2, h3', h4, h5, h6, ← ih]
    simp [h7]
/-- All up to place k are as they must be, one by one. -/
def EachOk (b : Int) (ps : List (Int × Int)) (k : Nat) : Prop := ∀ j q, j < k → ps[j]? = some q → hOk q.1 = true ∧ lvOk q.2 = true ∧ q.2 ≠ b
theorem EachOk.zero (b : Int) (ps : List (Int × Int)) : EachOk b ps 0 := fun _ _ h => absurd h (by omega)
theorem EachOk.succ {b : Int} {ps : List (Int × Int)} {k : Nat} {a v : Int} (hs : EachOk b ps k) (hx : ps[k]? = some (a, v)) (h1 : hOk a = true) (h2 : lvOk v = true) (h3 : v ≠ b) : EachOk b ps (k + 1) := fun j q hj hq => by
  rcases Nat.lt_or_ge j k with c | c
  · exact hs j q c hq
  · obtain rfl : j = k := by omega
    rw [hx] at hq
    cases hq
    exact ⟨h1, h2, h3⟩
theorem EachOk.done {b : Int} {ps : List (Int × Int)} {k : Nat} (hs : EachOk b ps k) (hk : ps.length ≤ k) : partsOk b (-1) ps = risesB ps :=
  partsOk_of (fun q hq => by
    obtain ⟨j, hj, rfl⟩ := List.getElem_of_mem hq
    exact hs j _ (by omega) (List.getElem?_eq_getElem hj)) (by omega)
theorem partsOk_bad {b a v : Int} : ∀ {p : Int} {ps : List (Int × Int)} {k : Nat}, ps[k]? = some (a, v) → (hOk a = false ∨ lvOk v = false ∨ v = b) → partsOk b p ps = false
  | _, [], _, h, _ => by simp at h
  | p, (c, u) :: ps, 0, h, hb => by
    simp at h
    obtain ⟨rfl, rfl⟩ := h
    rcases hb with e | e | e <;> simp [partsOk, e]
  | p, (c, u) :: ps, k + 1, h, hb => by
    have := partsOk_bad (p := c) (k := k) (ps := ps) (by simpa using h) hb
    simp [partsOk, this]
end Go.Proofs.YtnpeojlhjbdjiaaGreatDoor

/-
  Labels by the levels of all handles: a label made of levels, the order, the higher and the lower of two, stars, taint. No program, no memory.
-/
namespace Go.Proofs.YtnpeojlhjbdjiaaGreatDoor
set_option maxRecDepth 100000

/-- The parts that tell these levels of these handles, beside a base. -/
def mkParts (b : Int) (f : Int → Int) : List Int → List (Int × Int)
  | [] => []
  | h :: hs => if f h = b then mkParts b f hs else (h, f h) :: mkParts b f hs
theorem mkParts_append (b : Int) (f : Int → Int) (xs ys : List Int) : mkParts b f (xs ++ ys) = mkParts b f xs ++ mkParts b f ys := by
  induction xs with
  | nil => rfl
  | cons x xs ih => simp only [List.cons_append, mkParts]; split <;> simp [ih]
theorem mkParts_length (b : Int) (f : Int → Int) (hs : List Int) : (mkParts b f hs).length ≤ hs.length := by
  induction hs with
  | nil => simp [mkParts]
  | cons h hs ih => simp only [mkParts]; split <;> simp <;> omega
theorem mem_mkParts {b : Int} {f : Int → Int} {hs : List Int} {q : Int × Int} (h : q ∈ mkParts b f hs) : q.1 ∈ hs ∧ q.2 = f q.1 ∧ q.2 ≠ b := by
  induction hs with
  | nil => simp [mkParts] at h
  | cons x xs ih =>
    simp only [mkParts] at h
    split at h
    · have := ih h; exact ⟨List.mem_cons_of_mem _ this.1, this.2⟩
    · rename_i e
      rcases List.mem_cons.1 h with rfl | h
      · exact ⟨by simp, rfl, e⟩
      · have := ih h; exact ⟨List.mem_cons_of_mem _ this.1, this.2⟩
/-- What the level of a handle is, of a list that tells it. -/
theorem levIn_mk0 (b : Int) (f : Int → Int) (x : Int) : ∀ ys : List Int, levIn b x (mkParts b f ys) = if x ∈ ys then f x else b
  | [] => by simp [mkParts, levIn]
  | y :: ys => by
    have ih := levIn_mk0 b f x ys
    simp only [mkParts]
    by_cases e : f y = b
    · rw [if_pos e, ih]
      by_cases k : x = y
      · subst k; simp [e]
      · simp [k]
    · rw [if_neg e]
      by_cases k : y = x
      · subst k; simp [levIn]
      · have k' : ¬ x = y := fun h => k h.symm
        simp only [levIn, if_neg k, ih]
        simp [k']
theorem levIn_mk {b : Int} {f : Int → Int} {hs : List Int} (hf : ∀ x, x ∉ hs → f x = b) (x : Int) : levIn b x (mkParts b f hs) = f x := by
  rw [levIn_mk0]
  split
  · rfl
  · rename_i e; exact (hf x e).symm

/-- A list of handles that rises. -/
theorem ss_mk {b : Int} {f : Int → Int} : ∀ {hs : List Int} {p : Int}, SS hs → (∀ h ∈ hs, p < h) → (∀ h ∈ hs, hOk h = true) → (∀ h ∈ hs, lvOk (f h) = true) → partsOk b p (mkParts b f hs) = true
  | [], _, _, _, _, _ => rfl
  | h :: hs, p, hs0, hp, ho, hl => by
    have h' := List.pairwise_cons.1 hs0
    simp only [mkParts]
    split
    · exact ss_mk h'.2 (fun x hx => hp x (List.mem_cons_of_mem _ hx)) (fun x hx => ho x (List.mem_cons_of_mem _ hx)) (fun x hx => hl x (List.mem_cons_of_mem _ hx))
    · rename_i e
      have ih := ss_mk (b := b) (f := f) (p := h) h'.2 h'.1 (fun x hx => ho x (List.mem_cons_of_mem _ hx)) (fun x hx => hl x (List.mem_cons_of_mem _ hx))
      have h1 := ho h (by simp)
      have h2 := hl h (by simp)
      have h3 := hp h (by simp)
      simp [partsOk, h1, h2, h3, ih, e]

/-- The handles of a right label's parts. -/
theorem partsOk_mem {b : Int} : ∀ {p : Int} {ps : List (Int × Int)}, partsOk b p ps = true → ∀ q ∈ ps, hOk q.1 = true ∧ lvOk q.2 = true ∧ q.2 ≠ b ∧ p < q.1
  | _, [], _, q, hq => by cases hq
  | p, (a, v) :: ps, h, q, hq => by
    simp only [partsOk, Bool.and_eq_true, decide_eq_true_eq] at h
    obtain ⟨⟨⟨⟨h1, h2⟩, h3⟩, h4⟩, h5⟩ := h
    rcases List.mem_cons.1 hq with rfl | hq
    · exact ⟨h1, h2, h3, h4⟩
    · have := partsOk_mem h5 q hq
      exact ⟨this.1, this.2.1, this.2.2.1, by omega⟩
theorem levIn_none {b x : Int} : ∀ {ps : List (Int × Int)}, x ∉ ps.map (·.1) → levIn b x ps = b
  | [], _ => rfl
  | (a, v) :: ps, h => by
    simp only [List.map_cons, List.mem_cons, not_or] at h
    have e : ¬ a = x := fun e => h.1 e.symm
    simp only [levIn, if_neg e]
    exact levIn_none h.2
theorem lev_lv {l : Lab} (h : labOk l = true) (x : Int) : lvOk (lev l x) = true := by
  obtain ⟨h1, h2, h3⟩ : lvOk l.base = true ∧ l.parts.length ≤ 8 ∧ partsOk l.base (-1) l.parts = true := by simpa [labOk, and_assoc] using h
  unfold lev
  suffices k : ∀ (ps : List (Int × Int)), (∀ q ∈ ps, lvOk q.2 = true) → lvOk (levIn l.base x ps) = true from k _ (fun q hq => (partsOk_mem h3 q hq).2.1)
  intro ps
  induction ps with
  | nil => intro _; exact h1
  | cons q ps ih =>
    intro hq
    obtain ⟨a, v⟩ := q
    simp only [levIn]
    split
    · exact hq (a, v) (by simp)
    · exact ih (fun q hq' => hq q (List.mem_cons_of_mem _ hq'))
theorem labOk_base_of {l : Lab} (h : labOk l = true) : lvOk l.base = true := by simp [labOk] at h; exact h.1.1
theorem labOk_partsOk {l : Lab} (h : labOk l = true) : partsOk l.base (-1) l.parts = true := by simp [labOk] at h; exact h.2
/-- A handle of which none of these labels tells. -/
theorem fresh (xs : List Int) : ∃ x : Int, x ∉ xs := by
  refine ⟨xs.foldr (fun a b => max a b) 0 + 1, fun hm => ?_⟩
  suffices k : ∀ (ys : List Int) (y : Int), y ∈ ys → y ≤ ys.foldr (fun a b => max a b) 0 by have := k xs _ hm; omega
  intro ys
  induction ys with
  | nil => intro y h; cases h
  | cons z zs ih =>
    intro y h
    simp only [List.foldr_cons]
    rcases List.mem_cons.1 h with rfl | h
    · omega
    · have := ih y h; omega

/-- A right label is what its levels make of any rising list that has its parts' handles. -/
theorem parts_mk {b : Int} : ∀ {p : Int} {ps : List (Int × Int)} {hs : List Int} {f : Int → Int}, partsOk b p ps = true → SS hs → (∀ q ∈ ps, q.1 ∈ hs ∧ f q.1 = q.2) → (∀ h ∈ hs, h ∉ ps.map (·.1) → f h = b) → mkParts b f hs = ps
  | p, ps, [], f, hp, hs, hq, hf => by
    match ps with
    | [] => rfl
    | q :: ps => exact absurd (hq q (by simp)).1 (by simp)
  | p, ps, h :: hs, f, hp, hss, hq, hf => by
    have h' := List.pairwise_cons.1 hss
    simp only [mkParts]
    by_cases e : f h = b
    · rw [if_pos e]
      refine parts_mk hp h'.2 (fun q hm => ?_) (fun x hx hn => hf x (List.mem_cons_of_mem _ hx) hn)
      have := hq q hm
      refine ⟨?_, this.2⟩
      rcases List.mem_cons.1 this.1 with e' | e'
      · have := (partsOk_mem hp q hm).2.2.1
        have k := (hq q hm).2
        rw [e', e] at k
        exact absurd k.symm this
      · exact e'
    · rw [if_neg e]
      have hm : h ∈ ps.map (·.1) := Classical.byContradiction fun hn => e (hf h (by simp) hn)
      match ps, hp, hq, hf, hm with
      | (a, v) :: ps, hp, hq, hf, hm =>
        have ha := hq (a, v) (by simp)
        simp only [partsOk, Bool.and_eq_true, decide_eq_true_eq] at hp
        have hmem := partsOk_mem hp.2
        have hah : a = h := by
          rcases List.mem_cons.1 ha.1 with k | k
          · exact k
          · have h1 := h'.1 a k
            simp only [List.map_cons, List.mem_cons] at hm
            rcases hm with hm | hm
            · exact hm.symm
            · obtain ⟨q, hq1, hq2⟩ := List.mem_map.1 hm
              have := (hmem q hq1).2.2.2
              omega
        subst hah
        have hv : f a = v := ha.2
        rw [hv]
        congr 1
        refine parts_mk hp.2 h'.2 (fun q hm' => ?_) (fun x hx hn => ?_)
        · have h1 := hq q (List.mem_cons_of_mem _ hm')
          refine ⟨?_, h1.2⟩
          rcases List.mem_cons.1 h1.1 with k | k
          · have := (hmem q hm').2.2.2; omega
          · exact k
        · refine hf x (List.mem_cons_of_mem _ hx) ?_
          simp only [List.map_cons, List.mem_cons, not_or]
          exact ⟨fun k => by have := h'.1 x hx; omega, hn⟩
theorem lev_part {l : Lab} (h : labOk l = true) {q : Int × Int} (hq : q ∈ l.parts) : lev l q.1 = q.2 := by
  have hp := labOk_partsOk h
  unfold lev
  suffices k : ∀ {p : Int} {ps : List (Int × Int)}, partsOk l.base p ps = true → q ∈ ps → levIn l.base q.1 ps = q.2 from k hp hq
  intro p ps
  induction ps generalizing p with
  | nil => intro _ hm; cases hm
  | cons r ps ih =>
    obtain ⟨a, v⟩ := r
    intro hp hm
    simp only [partsOk, Bool.and_eq_true, decide_eq_true_eq] at hp
    rcases List.mem_cons.1 hm with rfl | hm
    · simp [levIn]
    · have := (partsOk_mem hp.2 q hm).2.2.2
      have e : ¬ a = q.1 := by omega
      simp only [levIn, if_neg e]
      exact ih hp.2 hm
theorem lev_none {l : Lab} {x : Int} (h : x ∉ l.parts.map (·.1)) : lev l x = l.base := levIn_none h
theorem lab_mk {l : Lab} {hs : List Int} (h : labOk l = true) (hss : SS hs) (hc : ∀ x ∈ l.parts.map (·.1), x ∈ hs) : mkParts l.base (lev l) hs = l.parts :=
  parts_mk (labOk_partsOk h) hss (fun q hq => ⟨hc _ (List.mem_map.2 ⟨q, hq, rfl⟩), lev_part h hq⟩) (fun _ _ hn => lev_none hn)
/-- Of two right labels that tell the same of every handle: they are one. -/
theorem lab_ext {l m : Lab} (h : labOk l = true) (k : labOk m = true) (he : ∀ x, lev l x = lev m x) : l = m := by
  obtain ⟨x, hx⟩ := fresh (l.parts.map (·.1) ++ m.parts.map (·.1))
  simp only [List.mem_append, not_or] at hx
  have hb : l.base = m.base := by rw [← lev_none hx.1, ← lev_none hx.2, he]
  have hss := handlesIn_ss (handlesIn [] l.parts) m.parts (handlesIn_ss [] l.parts (by simp [SS]))
  have h1 := lab_mk (hs := handlesIn (handlesIn [] l.parts) m.parts) h hss (fun y hy => by rw [mem_handlesIn, mem_handlesIn]; exact .inl (.inr hy))
  have h2 := lab_mk (hs := handlesIn (handlesIn [] l.parts) m.parts) k hss (fun y hy => by rw [mem_handlesIn]; exact .inr hy)
  have hf : lev l = lev m := funext he
  obtain ⟨b, ps⟩ := l
  obtain ⟨c, qs⟩ := m
  simp only at hb h1 h2
  subst hb
  rw [hf] at h1
  have e : ps = qs := h1.symm.trans h2
  rw [e]
end Go.Proofs.YtnpeojlhjbdjiaaGreatDoor

/-
  The order, the higher and the lower of two labels, stars, taint: as plain data. No program, no memory.
-/
namespace Go.Proofs.YtnpeojlhjbdjiaaGreatDoor
set_option maxRecDepth 100000

def hs2 (l m : Lab) : List Int := handlesIn (handlesIn [] l.parts) m.parts
theorem hs2_ss (l m : Lab) : SS (hs2 l m) := handlesIn_ss _ _ (handlesIn_ss _ _ (by simp [SS]))
theorem mem_hs2 (l m : Lab) (x : Int) : x ∈ hs2 l m ↔ x ∈ l.parts.map (·.1) ∨ x ∈ m.parts.map (·.1) := by unfold hs2; rw [mem_handlesIn, mem_handlesIn]; simp
theorem hs2_length (l m : Lab) : (hs2 l m).length ≤ l.parts.length + m.parts.length := by
  have h1 := handlesIn_length [] l.parts
  have h2 := handlesIn_length (handlesIn [] l.parts) m.parts
  unfold hs2; simp at h1; omega
theorem hs2_ok {l m : Lab} (h : labOk l = true) (k : labOk m = true) : ∀ x ∈ hs2 l m, hOk x = true := fun x hx => by
  rcases (mem_hs2 l m x).1 hx with e | e
  · obtain ⟨q, hq, rfl⟩ := List.mem_map.1 e; exact (partsOk_mem (labOk_partsOk h) q hq).1
  · obtain ⟨q, hq, rfl⟩ := List.mem_map.1 e; exact (partsOk_mem (labOk_partsOk k) q hq).1

/-- At most, of everything. -/
def atMostIn (l m : Lab) : List Int → Bool
  | [] => true
  | h :: hs => decide (lev l h ≤ lev m h) && atMostIn l m hs
def atMost0 (l m : Lab) : Bool := atMostIn l m (hs2 l m) && decide (l.base ≤ m.base)
def atMost (l m : Lab) : Bool := labOk l && labOk m && atMost0 l m
theorem atMostIn_iff (l m : Lab) (hs : List Int) : atMostIn l m hs = true ↔ ∀ h ∈ hs, lev l h ≤ lev m h := by
  induction hs with
  | nil => simp [atMostIn]
  | cons h hs ih => simp [atMostIn, ih]
theorem atMost0_iff (l m : Lab) : atMost0 l m = true ↔ ∀ x, lev l x ≤ lev m x := by
  simp only [atMost0, Bool.and_eq_true, atMostIn_iff, decide_eq_true_eq]
  constructor
  · rintro ⟨h1, h2⟩ x
    by_cases hx : x ∈ hs2 l m
    · exact h1 x hx
    · rw [mem_hs2, not_or] at hx
      rw [lev_none hx.1, lev_none hx.2]; exact h2
  · intro h
    refine ⟨fun x _ => h x, ?_⟩
    obtain ⟨x, hx⟩ := fresh (l.parts.map (·.1) ++ m.parts.map (·.1))
    simp only [List.mem_append, not_or] at hx
    have := h x
    rwa [lev_none hx.1, lev_none hx.2] at this
theorem atMost_iff {l m : Lab} (h : labOk l = true) (k : labOk m = true) : atMost l m = true ↔ ∀ x, lev l x ≤ lev m x := by simp [atMost, h, k, atMost0_iff]
theorem atMost_of {l m : Lab} (h : atMost l m = true) : labOk l = true ∧ labOk m = true ∧ ∀ x, lev l x ≤ lev m x := by
  have h1 : labOk l = true := by simp [atMost] at h; exact h.1.1
  have h2 : labOk m = true := by simp [atMost] at h; exact h.1.2
  exact ⟨h1, h2, (atMost_iff h1 h2).1 h⟩
theorem atMost_no {l m : Lab} (h : labOk l = false ∨ labOk m = false) : atMost l m = false := by rcases h with e | e <;> simp [atMost, e]
theorem atMost_yes {l m : Lab} (h : labOk l = true) (k : labOk m = true) : atMost l m = atMost0 l m := by simp [atMost, h, k]

/-- The label that tells f of the levels; too many parts: none. -/
def ofLev (b : Int) (f : Int → Int) (hs : List Int) : Lab × Bool := if 8 < (mkParts b f hs).length then (noLab, false) else (⟨b, mkParts b f hs⟩, true)
theorem ofLev_long {b : Int} {f : Int → Int} {hs : List Int} {ps : List (Int × Int)} (h : mkParts b f hs = ps) (k : 8 < ps.length) : ofLev b f hs = (noLab, false) := by simp [ofLev, h, k]
theorem ofLev_short {b : Int} {f : Int → Int} {hs : List Int} {ps : List (Int × Int)} (h : mkParts b f hs = ps) (k : ps.length ≤ 8) : ofLev b f hs = (⟨b, ps⟩, true) := by
  have : ¬ 8 < ps.length := by omega
  simp [ofLev, h, this]
theorem ofLev_law {b : Int} {f : Int → Int} {hs : List Int} {x : Lab} (he : ofLev b f hs = (x, true)) (hss : SS hs) (hb : lvOk b = true) (ho : ∀ h ∈ hs, hOk h = true) (hf : ∀ h, h ∉ hs → f h = b) (hl : ∀ h, lvOk (f h) = true) :
    labOk x = true ∧ x.base = b ∧ ∀ h, lev x h = f h := by
  unfold ofLev at he
  split at he
  · simp at he
  · rename_i hn
    simp only [Prod.mk.injEq, and_true] at he
    subst he
    refine ⟨labOk_parts hb (by simp only []; omega) (ss_mk hss (fun h hh => by have := of_hOk (ho h hh); omega) ho (fun h _ => hl h)), rfl, fun h => levIn_mk hf h⟩
/-- It does not hang on the list, where this has all handles that are told otherwise. -/
theorem mkParts_cover {b : Int} {f : Int → Int} : ∀ {hs gs : List Int}, SS hs → SS gs → (∀ h, f h ≠ b → (h ∈ hs ↔ h ∈ gs)) → mkParts b f hs = mkParts b f gs := by
  have key : ∀ {hs : List Int}, mkParts b f hs = mkParts b f (hs.filter fun h => decide (f h ≠ b)) := by
    intro hs
    induction hs with
    | nil => rfl
    | cons h hs ih =>
      by_cases e : f h = b
      · simp [mkParts, e, ih]
      · simp [mkParts, e, ih]
  intro hs gs h1 h2 hc
  rw [key (hs := hs), key (hs := gs)]
  congr 1
  refine ss_ext (List.Pairwise.filter _ h1) (List.Pairwise.filter _ h2) (fun x => ?_)
  simp only [List.mem_filter, decide_eq_true_eq]
  constructor
  · rintro ⟨p, q⟩; exact ⟨(hc x q).1 p, q⟩
  · rintro ⟨p, q⟩; exact ⟨(hc x q).2 p, q⟩
theorem ofLev_cover {b : Int} {f : Int → Int} {hs gs : List Int} (h1 : SS hs) (h2 : SS gs) (hc : ∀ h, f h ≠ b → (h ∈ hs ↔ h ∈ gs)) : ofLev b f hs = ofLev b f gs := by unfold ofLev; rw [mkParts_cover h1 h2 hc]

/-- Of each handle the one of both. -/
def bothL (f : Int → Int → Int) (l m : Lab) : Lab × Bool := ofLev (f l.base m.base) (fun h => f (lev l h) (lev m h)) (hs2 l m)
def joinL (l m : Lab) : Lab × Bool := if labOk l && labOk m then bothL max l m else (noLab, false)
def meetL (l m : Lab) : Lab × Bool := if labOk l && labOk m then bothL min l m else (noLab, false)
theorem bothL_law {f : Int → Int → Int} (hf : ∀ a b, lvOk a = true → lvOk b = true → lvOk (f a b) = true) {l m x : Lab} (h : labOk l = true) (k : labOk m = true) (he : bothL f l m = (x, true)) :
    labOk x = true ∧ x.base = f l.base m.base ∧ ∀ y, lev x y = f (lev l y) (lev m y) :=
  ofLev_law he (hs2_ss l m) (hf _ _ (labOk_base_of h) (labOk_base_of k)) (hs2_ok h k) (fun y hy => by rw [mem_hs2, not_or] at hy; rw [lev_none hy.1, lev_none hy.2]) (fun y => hf _ _ (lev_lv h y) (lev_lv k y))
theorem lvOk_max {a b : Int} (h : lvOk a = true) (k : lvOk b = true) : lvOk (max a b) = true := by have := of_lvOk h; have := of_lvOk k; exact lvOk_yes (by omega) (by omega)
theorem lvOk_min {a b : Int} (h : lvOk a = true) (k : lvOk b = true) : lvOk (min a b) = true := by have := of_lvOk h; have := of_lvOk k; exact lvOk_yes (by omega) (by omega)
theorem joinL_no {l m : Lab} (h : labOk l = false ∨ labOk m = false) : joinL l m = (noLab, false) := by rcases h with e | e <;> simp [joinL, e]
theorem joinL_yes {l m : Lab} (h : labOk l = true) (k : labOk m = true) : joinL l m = bothL max l m := by simp [joinL, h, k]
theorem meetL_no {l m : Lab} (h : labOk l = false ∨ labOk m = false) : meetL l m = (noLab, false) := by rcases h with e | e <;> simp [meetL, e]
theorem meetL_yes {l m : Lab} (h : labOk l = true) (k : labOk m = true) : meetL l m = bothL min l m := by simp [meetL, h, k]
theorem joinL_law {l m x : Lab} (he : joinL l m = (x, true)) : labOk l = true ∧ labOk m = true ∧ labOk x = true ∧ x.base = max l.base m.base ∧ ∀ y, lev x y = max (lev l y) (lev m y) := by
  unfold joinL at he
  split at he
  · rename_i h
    simp only [Bool.and_eq_true] at h
    have := bothL_law (fun a b => lvOk_max) h.1 h.2 he
    exact ⟨h.1, h.2, this⟩
  · simp at he
theorem meetL_law {l m x : Lab} (he : meetL l m = (x, true)) : labOk l = true ∧ labOk m = true ∧ labOk x = true ∧ x.base = min l.base m.base ∧ ∀ y, lev x y = min (lev l y) (lev m y) := by
  unfold meetL at he
  split at he
  · rename_i h
    simp only [Bool.and_eq_true] at h
    have := bothL_law (fun a b => lvOk_min) h.1 h.2 he
    exact ⟨h.1, h.2, this⟩
  · simp at he

/-- Stars. -/
def star (n : Int) : Int := if n = 0 then 0 else 4
theorem star_lv (n : Int) : lvOk (star n) = true := by unfold star; split <;> rfl
def starsL (l : Lab) : Lab × Bool := if labOk l then ofLev (star l.base) (fun h => star (lev l h)) (l.parts.map (·.1)) else (noLab, false)
theorem rises_map {b : Int} : ∀ {p : Int} {ps : List (Int × Int)}, partsOk b p ps = true → SS (ps.map (·.1))
  | _, [], _ => by simp [SS]
  | p, (a, v) :: ps, h => by
    simp only [partsOk, Bool.and_eq_true, decide_eq_true_eq] at h
    refine List.pairwise_cons.2 ⟨fun x hx => ?_, rises_map h.2⟩
    obtain ⟨q, hq, rfl⟩ := List.mem_map.1 hx
    exact (partsOk_mem h.2 q hq).2.2.2
theorem starsL_law {l x : Lab} {is : Bool} (he : starsL l = (x, is)) (h : labOk l = true) : is = true ∧ labOk x = true ∧ x.base = star l.base ∧ ∀ y, lev x y = star (lev l y) := by
  unfold starsL at he
  rw [if_pos h] at he
  have hlen : (mkParts (star l.base) (fun h => star (lev l h)) (l.parts.map (·.1))).length ≤ 8 := by
    have h1 := mkParts_length (star l.base) (fun h => star (lev l h)) (l.parts.map (·.1))
    have h2 := labOk_short h
    rw [List.length_map] at h1; omega
  have hs := ofLev_short (b := star l.base) (f := fun h => star (lev l h)) (hs := l.parts.map (·.1)) rfl hlen
  rw [hs] at he
  have hi : is = true := by simp only [Prod.mk.injEq] at he; exact he.2.symm
  subst hi
  rw [← hs] at he
  exact ⟨rfl, ofLev_law he (rises_map (labOk_partsOk h)) (star_lv _) (fun y hy => by obtain ⟨q, hq, rfl⟩ := List.mem_map.1 hy; exact (partsOk_mem (labOk_partsOk h) q hq).1) (fun y hy => by simp only [lev_none hy]) (fun y => star_lv _)⟩

/-- Taint. -/
def taintLev (has clear eff : Int) : Int := if has = 0 then 0 else max eff (min has clear)
theorem taintLev_lv {a b c : Int} (h : lvOk a = true) (k : lvOk b = true) (j : lvOk c = true) : lvOk (taintLev a b c) = true := by
  unfold taintLev
  split
  · rfl
  · exact lvOk_max j (lvOk_min h k)
def hs3 (l m n : Lab) : List Int := handlesIn (hs2 l m) n.parts
theorem hs3_ss (l m n : Lab) : SS (hs3 l m n) := handlesIn_ss _ _ (hs2_ss l m)
theorem mem_hs3 (l m n : Lab) (x : Int) : x ∈ hs3 l m n ↔ (x ∈ l.parts.map (·.1) ∨ x ∈ m.parts.map (·.1)) ∨ x ∈ n.parts.map (·.1) := by unfold hs3; rw [mem_handlesIn, mem_hs2]
theorem hs3_length (l m n : Lab) : (hs3 l m n).length ≤ l.parts.length + m.parts.length + n.parts.length := by
  have h1 := hs2_length l m
  have h2 := handlesIn_length (hs2 l m) n.parts
  unfold hs3; omega
theorem hs3_ok {l m n : Lab} (h : labOk l = true) (k : labOk m = true) (j : labOk n = true) : ∀ x ∈ hs3 l m n, hOk x = true := fun x hx => by
  rcases (mem_hs3 l m n x).1 hx with e | e
  · exact hs2_ok h k x ((mem_hs2 l m x).2 e)
  · obtain ⟨q, hq, rfl⟩ := List.mem_map.1 e; exact (partsOk_mem (labOk_partsOk j) q hq).1
def taintL (l m n : Lab) : Lab × Bool := if labOk l && labOk m && labOk n then ofLev (taintLev l.base m.base n.base) (fun h => taintLev (lev l h) (lev m h) (lev n h)) (hs3 l m n) else (noLab, false)
theorem taintL_law {l m n x : Lab} (he : taintL l m n = (x, true)) : labOk l = true ∧ labOk m = true ∧ labOk n = true ∧ labOk x = true ∧ x.base = taintLev l.base m.base n.base ∧ ∀ y, lev x y = taintLev (lev l y) (lev m y) (lev n y) := by
  unfold taintL at he
  split at he
  · rename_i h
    simp only [Bool.and_eq_true] at h
    obtain ⟨⟨h1, h2⟩, h3⟩ := h
    refine ⟨h1, h2, h3, ofLev_law he (hs3_ss l m n) (taintLev_lv (labOk_base_of h1) (labOk_base_of h2) (labOk_base_of h3)) (hs3_ok h1 h2 h3) (fun y hy => ?_) (fun y => taintLev_lv (lev_lv h1 y) (lev_lv h2 y) (lev_lv h3 y))⟩
    rw [mem_hs3, not_or, not_or] at hy
    simp only [lev_none hy.1.1, lev_none hy.1.2, lev_none hy.2]
  · simp at he
theorem taintL_no {l m n : Lab} (h : labOk l = false ∨ labOk m = false ∨ labOk n = false) : taintL l m n = (noLab, false) := by rcases h with e | e | e <;> simp [taintL, e]
theorem taintL_yes {l m n : Lab} (h : labOk l = true) (k : labOk m = true) (j : labOk n = true) : taintL l m n = ofLev (taintLev l.base m.base n.base) (fun h => taintLev (lev l h) (lev m h) (lev n h)) (hs3 l m n) := by simp [taintL, h, k, j]
end Go.Proofs.YtnpeojlhjbdjiaaGreatDoor

/-
  What chapters 3 and 4 promise, as plain data. No program, no memory.
-/
namespace Go.Proofs.YtnpeojlhjbdjiaaGreatDoor
set_option maxRecDepth 100000

theorem atMost_join {a b j : Lab} (h : joinL a b = (j, true)) : atMost a j = true ∧ atMost b j = true ∧ ∀ c, atMost a c = true → atMost b c = true → atMost j c = true := by
  obtain ⟨h1, h2, h3, -, h5⟩ := joinL_law h
  refine ⟨(atMost_iff h1 h3).2 fun x => ?_, (atMost_iff h2 h3).2 fun x => ?_, fun c k1 k2 => ?_⟩
  · rw [h5]; omega
  · rw [h5]; omega
  · obtain ⟨-, c1, c2⟩ := atMost_of k1
    obtain ⟨-, -, c3⟩ := atMost_of k2
    exact (atMost_iff h3 c1).2 fun x => by rw [h5]; have := c2 x; have := c3 x; omega
theorem atMost_meet {a b m : Lab} (h : meetL a b = (m, true)) : atMost m a = true ∧ atMost m b = true ∧ ∀ c, atMost c a = true → atMost c b = true → atMost c m = true := by
  obtain ⟨h1, h2, h3, -, h5⟩ := meetL_law h
  refine ⟨(atMost_iff h3 h1).2 fun x => ?_, (atMost_iff h3 h2).2 fun x => ?_, fun c k1 k2 => ?_⟩
  · rw [h5]; omega
  · rw [h5]; omega
  · obtain ⟨c1, -, c2⟩ := atMost_of k1
    obtain ⟨-, -, c3⟩ := atMost_of k2
    exact (atMost_iff c1 h3).2 fun x => by rw [h5]; have := c2 x; have := c3 x; omega
theorem atMost_trans {a b c : Lab} (h : atMost a b = true) (k : atMost b c = true) : atMost a c = true := by
  obtain ⟨h1, -, h3⟩ := atMost_of h
  obtain ⟨-, k2, k3⟩ := atMost_of k
  exact (atMost_iff h1 k2).2 fun x => Int.le_trans (h3 x) (k3 x)
theorem atMost_antisymm {a b : Lab} (h : atMost a b = true) (k : atMost b a = true) : a = b := by
  obtain ⟨h1, h2, h3⟩ := atMost_of h
  obtain ⟨-, -, k3⟩ := atMost_of k
  exact lab_ext h1 h2 fun x => by have := h3 x; have := k3 x; omega

theorem handlesOf_hs2 {l m : Lab} (h : labOk l = true) (k : labOk m = true) : handlesOf l m = hs2 l m := handlesOf_yes h k
/-- Who is tainted keeps his stars, and has heard of what came in. -/
theorem taint_level {a b c x : Lab} (h : taintL a b c = (x, true)) (y : Int) (hy : y ∈ handlesOf a x) : (levelOf a y = 0 ∧ levelOf x y = 0) ∨ (levelOf a y ≠ 0 ∧ levelOf c y ≤ levelOf x y) := by
  obtain ⟨h1, h2, h3, h4, -, h6⟩ := taintL_law h
  rw [handlesOf_hs2 h1 h4] at hy
  have hh := hs2_ok h1 h4 y hy
  rw [levelOf_yes h1 hh, levelOf_yes h4 hh, levelOf_yes h3 hh, h6]
  unfold taintLev
  split
  · rename_i e; exact .inl ⟨e, rfl⟩
  · rename_i e; exact .inr ⟨e, by omega⟩
theorem plain_lev {b x : Int} (h : lvOk b = true) : lev (plainL b) x = b := by rw [plainL_yes h]; rfl
theorem plain_ok {b : Int} (h : lvOk b = true) : labOk (plainL b) = true := by rw [plainL_yes h]; simp [labOk, h, partsOk]
theorem taint_plain {a : Lab} (h : labOk a = true) : taintL a (plainL 4) (plainL 0) = (a, true) := by
  have h4 : lvOk 4 = true := rfl
  have h0 : lvOk 0 = true := rfl
  rw [taintL_yes h (plain_ok h4) (plain_ok h0)]
  have e : ∀ n, lvOk n = true → taintLev n 4 0 = n := fun n hn => by have := of_lvOk hn; unfold taintLev; split <;> omega
  have eb : taintLev a.base (plainL 4).base (plainL 0).base = a.base := by rw [plainL_yes h4, plainL_yes h0]; exact e _ (labOk_base_of h)
  have ef : (fun y => taintLev (lev a y) (lev (plainL 4) y) (lev (plainL 0) y)) = lev a := funext fun y => by rw [plain_lev h4, plain_lev h0]; exact e _ (lev_lv h y)
  rw [eb, ef]
  have hm := lab_mk (hs := hs3 a (plainL 4) (plainL 0)) h (hs3_ss _ _ _) (fun y hy => (mem_hs3 _ _ _ y).2 (.inl (.inl hy)))
  exact ofLev_short hm (labOk_short h)
end Go.Proofs.YtnpeojlhjbdjiaaGreatDoor

/-
  Plain laws of labels: a label with a level put in is right, has that level of that handle, and of all others those that it had. No program, no memory.
-/
namespace Go.Proofs.YtnpeojlhjbdjiaaGreatDoor
set_option maxRecDepth 100000

theorem partsOk_cons {b prev h v : Int} {ps : List (Int × Int)} : partsOk b prev ((h, v) :: ps) = true ↔ hOk h = true ∧ lvOk v = true ∧ v ≠ b ∧ prev < h ∧ partsOk b h ps = true := by
  simp [partsOk, and_assoc]
theorem partsOk_mono {b p q : Int} {ps : List (Int × Int)} (h : partsOk b p ps = true) (hq : q ≤ p) : partsOk b q ps = true := by
  cases ps with
  | nil => rfl
  | cons x ps =>
    obtain ⟨a, u⟩ := x
    rw [partsOk_cons] at h ⊢
    exact ⟨h.1, h.2.1, h.2.2.1, by omega, h.2.2.2.2⟩

section
variable {b h v : Int}
theorem withGo_done_ok {p : Int} {ps : List (Int × Int)} (hp : partsOk b p ps = true) : partsOk b p (withGo h v true ps) = true := by
  induction ps generalizing p with
  | nil => simp [withGo, partsOk]
  | cons x ps ih =>
    obtain ⟨a, u⟩ := x
    rw [partsOk_cons] at hp
    obtain ⟨h1, h2, h3, h4, h5⟩ := hp
    by_cases e : a = h
    · simp only [withGo, e, ne_eq, not_true_eq_false, if_false]
      exact ih (partsOk_mono h5 (by omega))
    · simp only [withGo, ne_eq, e, not_false_eq_true, if_true]
      rw [partsOk_cons]
      exact ⟨h1, h2, h3, h4, ih h5⟩
theorem withGo_ok {p : Int} {ps : List (Int × Int)} (hp : partsOk b p ps = true) (hh : hOk h = true) (hv : lvOk v = true) (hb : v ≠ b) (hl : p < h) : partsOk b p (withGo h v false ps) = true := by
  induction ps generalizing p with
  | nil =>
    simp only [withGo, Bool.false_eq_true, if_false]
    rw [partsOk_cons]
    exact ⟨hh, hv, hb, hl, rfl⟩
  | cons x ps ih =>
    obtain ⟨a, u⟩ := x
    rw [partsOk_cons] at hp
    obtain ⟨h1, h2, h3, h4, h5⟩ := hp
    by_cases e : h < a
    · simp only [withGo, e, if_true]
      rw [partsOk_cons, partsOk_cons]
      exact ⟨hh, hv, hb, hl, h1, h2, h3, e, withGo_done_ok h5⟩
    · by_cases k : a = h
      · subst k
        simp only [withGo, e, if_false, ne_eq, not_true_eq_false]
        rw [partsOk_cons]
        exact ⟨hh, hv, hb, hl, withGo_done_ok h5⟩
      · simp only [withGo, e, if_false, ne_eq, k, not_false_eq_true, if_true]
        rw [partsOk_cons]
        exact ⟨h1, h2, h3, h4, ih h5 (by omega)⟩
theorem withGo_other {a : Int} (ha : a ≠ h) (d : Bool) (ps : List (Int × Int)) : levIn b a (withGo h v d ps) = levIn b a ps := by
  have hh : h ≠ a := Ne.symm ha
  induction ps generalizing d with
  | nil => cases d <;> simp [withGo, levIn, hh]
  | cons x ps ih =>
    obtain ⟨c, u⟩ := x
    cases d
    · by_cases e : h < c
      · simp [withGo, e, levIn, hh, ih]
      · by_cases k : c = h
        · subst k; simp [withGo, levIn, hh, ih]
        · simp [withGo, e, k, levIn, ih]
    · by_cases k : c = h
      · subst k; simp [withGo, levIn, hh, ih]
      · simp [withGo, k, levIn, ih]
theorem withGo_same_done (ps : List (Int × Int)) : levIn b h (withGo h v true ps) = b := by
  induction ps with
  | nil => simp [withGo, levIn]
  | cons x ps ih =>
    obtain ⟨c, u⟩ := x
    by_cases k : c = h
    · subst k; simp [withGo, ih]
    · simp [withGo, k, levIn, ih]
theorem withGo_same (ps : List (Int × Int)) : levIn b h (withGo h v false ps) = v := by
  induction ps with
  | nil => simp [withGo, levIn]
  | cons x ps ih =>
    obtain ⟨c, u⟩ := x
    by_cases e : h < c
    · simp [withGo, e, levIn]
    · by_cases k : c = h
      · subst k; simp [withGo, levIn]
      · simp [withGo, e, k, levIn, ih]
end

theorem labOk_parts_of {l : Lab} (h : labOk l = true) : lvOk l.base = true ∧ l.parts.length ≤ 8 ∧ partsOk l.base (-1) l.parts = true := by
  simp only [labOk, Bool.and_eq_true, decide_eq_true_eq] at h
  exact ⟨h.1.1, h.1.2, h.2⟩

/-- What With puts in. -/
theorem withLabel_law {l x : Lab} {h v : Int} (he : withLabel l h v = (x, true)) :
    labOk x = true ∧ lev x h = v ∧ x.base = l.base ∧ (∀ a, a ≠ h → lev x a = lev l a) ∧ labOk l = true ∧ hOk h = true ∧ lvOk v = true := by
  unfold withLabel at he
  split at he
  · rename_i hc
    simp only [Bool.and_eq_true] at hc
    obtain ⟨⟨hl, hh⟩, hv⟩ := hc
    obtain ⟨l1, l2, l3⟩ := labOk_parts_of hl
    unfold withL at he
    simp only [] at he
    split at he
    · simp at he
    · rename_i hlen
      simp only [Prod.mk.injEq, and_true] at he
      subst he
      have hh' := of_hOk hh
      have hok : partsOk l.base (-1) (withGo h v (decide (v = l.base)) l.parts) = true := by
        by_cases e : v = l.base
        · rw [decide_eq_true e]; exact withGo_done_ok l3
        · rw [decide_eq_false e]; exact withGo_ok l3 hh hv e (by omega)
      refine ⟨labOk_parts l1 (by simp only []; omega) hok, ?_, rfl, fun a ha => withGo_other ha _ _, hl, hh, hv⟩
      unfold lev
      by_cases e : v = l.base
      · rw [decide_eq_true e]; simp only []; rw [withGo_same_done, e]
      · rw [decide_eq_false e]; exact withGo_same _
  · simp at he
theorem withLabel_levelOf {l x : Lab} {h v : Int} (he : withLabel l h v = (x, true)) : levelOf x h = v ∧ ∀ a, a ≠ h → levelOf x a = levelOf l a := by
  obtain ⟨h1, h2, h3, h4, h5, h6, h7⟩ := withLabel_law he
  refine ⟨by rw [levelOf_yes h1 h6, h2], fun a ha => ?_⟩
  unfold levelOf
  rw [h1, h5, h4 a ha]
end Go.Proofs.YtnpeojlhjbdjiaaGreatDoor

/-
  Labels made one handle after the other, stars last: the label that tells these levels. No program, no memory.
-/
namespace Go.Proofs.YtnpeojlhjbdjiaaGreatDoor
set_option maxRecDepth 100000

/-- A label with that level of that handle, however many parts it has then. -/
def withP (l : Lab) (h v : Int) : Lab := ⟨l.base, withGo h v (decide (v = l.base)) l.parts⟩
/-- Right, but for the number of parts. -/
def okL (l : Lab) : Prop := lvOk l.base = true ∧ partsOk l.base (-1) l.parts = true
theorem okL.rises {l : Lab} (h : okL l) : Rises (-1) l.parts := rises_of h.2
theorem withP_ok {l : Lab} {h v : Int} (k : okL l) (hh : hOk h = true) (hv : lvOk v = true) : okL (withP l h v) := by
  have hh' := of_hOk hh
  refine ⟨k.1, ?_⟩
  unfold withP
  by_cases e : v = l.base
  · rw [decide_eq_true e]; exact withGo_done_ok k.2
  · rw [decide_eq_false e]; exact withGo_ok k.2 hh hv e (by omega)
theorem withP_lev (l : Lab) (h v x : Int) : lev (withP l h v) x = if x = h then v else lev l x := by
  unfold lev withP
  by_cases k : x = h
  · subst k
    rw [if_pos rfl]
    by_cases e : v = l.base
    · rw [decide_eq_true e]; simp only []; rw [withGo_same_done, e]
    · rw [decide_eq_false e]; exact withGo_same _
  · rw [if_neg k]; exact withGo_other k _ _
theorem withP_length (l : Lab) (h v : Int) (hr : Rises (-1) l.parts) : (withP l h v).parts.length ≤ l.parts.length + 1 := by
  have h1 := placeK_le h l.parts
  have h2 := behindK_le h l.parts
  have h3 : placeK h l.parts ≤ behindK h l.parts := by unfold behindK; split <;> omega
  unfold withP
  by_cases e : v = l.base
  · rw [decide_eq_true e]; simp only []; rw [withGo_without hr]
    simp only [List.length_append, List.length_take, List.length_drop]; omega
  · rw [decide_eq_false e]; simp only []; rw [withGo_put hr]
    simp only [List.length_append, List.length_take, List.length_drop, List.length_cons, List.length_nil]; omega

/-- One after the other. -/
def tellAll (f : Int → Int) (l : Lab) (hs : List Int) : Lab := hs.foldl (fun l h => withP l h (f h)) l
theorem tellAll_snoc (f : Int → Int) (l : Lab) (hs : List Int) (h : Int) : tellAll f l (hs ++ [h]) = withP (tellAll f l hs) h (f h) := by simp [tellAll, List.foldl_append]
theorem tellAll_take {f : Int → Int} {l : Lab} {hs : List Int} {k : Nat} {h : Int} (hx : hs[k]? = some h) : tellAll f l (hs.take (k + 1)) = withP (tellAll f l (hs.take k)) h (f h) := by rw [take_at hx, tellAll_snoc]
theorem tellAll_base (f : Int → Int) (l : Lab) (hs : List Int) : (tellAll f l hs).base = l.base := by
  induction hs generalizing l with
  | nil => rfl
  | cons h hs ih => show (tellAll f (withP l h (f h)) hs).base = _; rw [ih]; rfl
theorem tellAll_ok {f : Int → Int} {l : Lab} {hs : List Int} (k : okL l) (ho : ∀ h ∈ hs, hOk h = true) (hl : ∀ h ∈ hs, lvOk (f h) = true) : okL (tellAll f l hs) := by
  induction hs generalizing l with
  | nil => exact k
  | cons h hs ih => exact ih (l := withP l h (f h)) (withP_ok k (ho h (by simp)) (hl h (by simp))) (fun x hx => ho x (List.mem_cons_of_mem _ hx)) (fun x hx => hl x (List.mem_cons_of_mem _ hx))
theorem tellAll_lev (f : Int → Int) (l : Lab) (hs : List Int) (x : Int) : lev (tellAll f l hs) x = if x ∈ hs then f x else lev l x := by
  induction hs generalizing l with
  | nil => simp [tellAll]
  | cons h hs ih =>
    show lev (tellAll f (withP l h (f h)) hs) x = _
    rw [ih, withP_lev]
    by_cases e : x ∈ hs
    · simp [e]
    · by_cases e' : x = h
      · subst e'; simp
      · simp [e, e']
theorem tellAll_length {f : Int → Int} {l : Lab} {hs : List Int} (k : okL l) (ho : ∀ h ∈ hs, hOk h = true) (hl : ∀ h ∈ hs, lvOk (f h) = true) : (tellAll f l hs).parts.length ≤ l.parts.length + hs.length := by
  induction hs generalizing l with
  | nil => simp [tellAll]
  | cons h hs ih =>
    have h1 := ih (l := withP l h (f h)) (withP_ok k (ho h (by simp)) (hl h (by simp))) (fun x hx => ho x (List.mem_cons_of_mem _ hx)) (fun x hx => hl x (List.mem_cons_of_mem _ hx))
    have h2 := withP_length l h (f h) k.rises
    show (tellAll f (withP l h (f h)) hs).parts.length ≤ _
    simp only [List.length_cons]; omega

/-- Those that it has the star of. -/
def starsIn (l : Lab) (hs : List Int) : List Int := hs.filter fun h => decide (lev l h = 0)
theorem starsIn_length (l : Lab) (hs : List Int) : (starsIn l hs).length ≤ hs.length := List.length_filter_le _ _
theorem starsIn_yes {l : Lab} {hs : List Int} {k : Nat} {h : Int} (hx : hs[k]? = some h) (he : lev l h = 0) : starsIn l (hs.take (k + 1)) = starsIn l (hs.take k) ++ [h] := by rw [take_at hx]; simp [starsIn, he]
theorem starsIn_no {l : Lab} {hs : List Int} {k : Nat} {h : Int} (hx : hs[k]? = some h) (he : lev l h ≠ 0) : starsIn l (hs.take (k + 1)) = starsIn l (hs.take k) := by rw [take_at hx]; simp [starsIn, he]
theorem mem_starsIn (l : Lab) (hs : List Int) (x : Int) : x ∈ starsIn l hs ↔ x ∈ hs ∧ lev l x = 0 := by simp [starsIn]
/-- Told of each of the handles, the stars kept. -/
def keepBase (l : Lab) (b : Int) : Int := if l.base = 0 then 0 else b
def keepL (l : Lab) (b : Int) (hs : List Int) (f : Int → Int) : Lab := tellAll (fun _ => 0) (tellAll f ⟨keepBase l b, []⟩ hs) (starsIn l hs)
theorem keep0_ok (l : Lab) {b : Int} (hb : lvOk b = true) : okL ⟨keepBase l b, []⟩ := by
  refine ⟨?_, rfl⟩
  simp only [keepBase]
  split
  · rfl
  · exact hb
section
variable {l : Lab} {b : Int} {hs : List Int} {f : Int → Int}
theorem keep1_ok (hb : lvOk b = true) (ho : ∀ h ∈ hs, hOk h = true) (hl : ∀ h ∈ hs, lvOk (f h) = true) : okL (tellAll f ⟨keepBase l b, []⟩ hs) := tellAll_ok (keep0_ok l hb) ho hl
theorem keep1_length (hb : lvOk b = true) (ho : ∀ h ∈ hs, hOk h = true) (hl : ∀ h ∈ hs, lvOk (f h) = true) : (tellAll f ⟨keepBase l b, []⟩ hs).parts.length ≤ hs.length := by
  have := tellAll_length (keep0_ok l hb) ho hl; simpa using this
theorem stars_ok (ho : ∀ h ∈ hs, hOk h = true) : ∀ h ∈ starsIn l hs, hOk h = true := fun h hh => ho h ((mem_starsIn l hs h).1 hh).1
theorem keepL_ok (hb : lvOk b = true) (ho : ∀ h ∈ hs, hOk h = true) (hl : ∀ h ∈ hs, lvOk (f h) = true) : okL (keepL l b hs f) := tellAll_ok (keep1_ok hb ho hl) (stars_ok ho) (fun _ _ => rfl)
theorem keepL_length (hb : lvOk b = true) (ho : ∀ h ∈ hs, hOk h = true) (hl : ∀ h ∈ hs, lvOk (f h) = true) : (keepL l b hs f).parts.length ≤ hs.length + hs.length := by
  have h1 := tellAll_length (f := fun _ => 0) (keep1_ok (l := l) hb ho hl) (stars_ok (l := l) ho) (fun _ _ => rfl)
  have h2 := keep1_length (l := l) hb ho hl
  have h3 := starsIn_length l hs
  unfold keepL; omega
theorem keepL_base : (keepL l b hs f).base = keepBase l b := by unfold keepL; rw [tellAll_base, tellAll_base]
theorem keepL_lev (x : Int) : lev (keepL l b hs f) x = if x ∈ hs then (if lev l x = 0 then 0 else f x) else keepBase l b := by
  unfold keepL
  rw [tellAll_lev, tellAll_lev]
  by_cases e : x ∈ hs
  · by_cases k : lev l x = 0
    · simp [mem_starsIn, e, k]
    · simp [mem_starsIn, e, k]
  · have : lev ⟨keepBase l b, []⟩ x = keepBase l b := rfl
    simp [mem_starsIn, e, this]
end
theorem levIn_part {b : Int} : ∀ {p : Int} {ps : List (Int × Int)} {q : Int × Int}, partsOk b p ps = true → q ∈ ps → levIn b q.1 ps = q.2
  | _, [], q, _, hq => by cases hq
  | p, (a, v) :: ps, q, hp, hq => by
    simp only [partsOk, Bool.and_eq_true, decide_eq_true_eq] at hp
    rcases List.mem_cons.1 hq with rfl | hq
    · simp [levIn]
    · have := (partsOk_mem hp.2 q hq).2.2.2
      have e : ¬ a = q.1 := by omega
      simp only [levIn, if_neg e]
      exact levIn_part hp.2 hq
/-- What is made so is what the levels make. -/
theorem okL_mk {k : Lab} {g : Int → Int} {gs : List Int} (hk : okL k) (hss : SS gs) (hg : ∀ x, lev k x = g x) (hc : ∀ x, x ∉ gs → g x = k.base) : mkParts k.base g gs = k.parts := by
  refine parts_mk hk.2 hss (fun q hq => ?_) (fun x _ hn => ?_)
  · have h1 : lev k q.1 = q.2 := levIn_part hk.2 hq
    refine ⟨Classical.byContradiction fun hn => ?_, by rw [← hg, h1]⟩
    have h2 := hc q.1 hn
    rw [← hg, h1] at h2
    exact (partsOk_mem hk.2 q hq).2.2.1 h2
  · rw [← hg]; exact levIn_none hn
theorem keepL_stars {l : Lab} (h : labOk l = true) : keepL l 4 (l.parts.map (·.1)) (fun _ => 4) = (starsL l).1 ∧ (starsL l).2 = true := by
  have ho : ∀ x ∈ l.parts.map (·.1), hOk x = true := fun x hx => by obtain ⟨q, hq, rfl⟩ := List.mem_map.1 hx; exact (partsOk_mem (labOk_partsOk h) q hq).1
  have hk := keepL_ok (l := l) (b := 4) (f := fun _ => 4) rfl ho (fun _ _ => rfl)
  have hb : (keepL l 4 (l.parts.map (·.1)) (fun _ => 4)).base = star l.base := keepL_base
  have hg : ∀ x, lev (keepL l 4 (l.parts.map (·.1)) (fun _ => 4)) x = star (lev l x) := fun x => by
    rw [keepL_lev]
    split
    · rfl
    · rename_i e; rw [lev_none e]; rfl
  have hm := okL_mk hk (rises_map (labOk_partsOk h)) hg (fun x hx => by rw [lev_none hx, hb])
  have hlen : (mkParts (star l.base) (fun h => star (lev l h)) (l.parts.map (·.1))).length ≤ 8 := by
    have h1 := mkParts_length (star l.base) (fun h => star (lev l h)) (l.parts.map (·.1))
    have h2 := labOk_short h
    rw [List.length_map] at h1; omega
  rw [hb] at hm
  rw [hm] at hlen
  have hs := ofLev_short hm hlen
  unfold starsL
  rw [if_pos h, hs]
  refine ⟨?_, rfl⟩
  rw [← hb]
/-- What has been heard, of one level. -/
def heardLev (has clear eff : Int) : Int := max eff (min has clear)
theorem heardLev_lv {a b c : Int} (h : lvOk a = true) (k : lvOk b = true) (j : lvOk c = true) : lvOk (heardLev a b c) = true := lvOk_max j (lvOk_min h k)
/-- The handles of three labels, as they come. -/
def hs21 (l m n : Lab) : List Int := hs2 l m ++ n.parts.map (·.1)
theorem mem_hs21 (l m n : Lab) (x : Int) : x ∈ hs21 l m n ↔ x ∈ hs3 l m n := by unfold hs21; rw [List.mem_append, mem_hs2, mem_hs3]
theorem hs21_ok {l m n : Lab} (h : labOk l = true) (k : labOk m = true) (j : labOk n = true) : ∀ x ∈ hs21 l m n, hOk x = true := fun x hx => hs3_ok h k j x ((mem_hs21 l m n x).1 hx)
theorem hs21_length (l m n : Lab) : (hs21 l m n).length ≤ l.parts.length + m.parts.length + n.parts.length := by
  have := hs2_length l m
  unfold hs21; simp; omega
def keepT (l m n : Lab) : Lab := keepL l (heardLev l.base m.base n.base) (hs21 l m n) (fun h => heardLev (lev l h) (lev m h) (lev n h))
theorem keepT_taint {l m n : Lab} (h : labOk l = true) (k : labOk m = true) (j : labOk n = true) : taintL l m n = if 8 < (keepT l m n).parts.length then (noLab, false) else (keepT l m n, true) := by
  have hk : okL (keepT l m n) := keepL_ok (heardLev_lv (labOk_base_of h) (labOk_base_of k) (labOk_base_of j)) (hs21_ok h k j) (fun x _ => heardLev_lv (lev_lv h x) (lev_lv k x) (lev_lv j x))
  have hb : (keepT l m n).base = taintLev l.base m.base n.base := keepL_base
  have hg : ∀ x, lev (keepT l m n) x = taintLev (lev l x) (lev m x) (lev n x) := fun x => by
    unfold keepT
    rw [keepL_lev]
    split
    · rfl
    · rename_i e
      rw [mem_hs21, mem_hs3, not_or, not_or] at e
      rw [lev_none e.1.1, lev_none e.1.2, lev_none e.2]; rfl
  have hm := okL_mk hk (hs3_ss l m n) hg (fun x e => by
    rw [mem_hs3, not_or, not_or] at e
    rw [lev_none e.1.1, lev_none e.1.2, lev_none e.2, hb])
  rw [hb] at hm
  rw [taintL_yes h k j]
  split
  · rename_i e; exact ofLev_long hm e
  · rename_i e
    rw [ofLev_short hm (by omega), ← hb]
end Go.Proofs.YtnpeojlhjbdjiaaGreatDoor
