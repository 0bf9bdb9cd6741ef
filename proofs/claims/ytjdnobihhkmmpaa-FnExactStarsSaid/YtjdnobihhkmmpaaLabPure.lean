/-
  Labels as plain data: right or not, the level of a handle, with a level, the handles. No program, no memory.
-/
import Derived.Test.YtjdnobihhkmmpaaLab
import Derived.Test.YtjdnobihhkmmpaaLevel
namespace Go.Proofs.Ytjdnobihhkmmpaa
set_option maxRecDepth 100000

def hOk (h : Int) : Bool := decide (0 ≤ h) && decide (h ≤ 999)
theorem of_hOk {h : Int} (k : hOk h = true) : 0 ≤ h ∧ h ≤ 999 := by simpa [hOk] using k
theorem hOk_no {h : Int} (k : h < 0 ∨ 999 < h) : hOk h = false := by simp [hOk]; omega
theorem hOk_yes {h : Int} (k : 0 ≤ h) (j : h ≤ 999) : hOk h = true := by simp [hOk, k, j]

/-- Are parts right, behind a handle, beside a base? -/
def partsOk (b : Int) : Int → List (Int × Int) → Bool
  | _, [] => true
  | prev, (h, v) :: ps => hOk h && lvOk v && decide (v ≠ b) && decide (prev < h) && partsOk b h ps
def labOk (l : Lab) : Bool := lvOk l.base && decide (l.parts.length ≤ 8) && partsOk l.base (-1) l.parts
def noLab : Lab := ⟨0, []⟩

/-- The handle ahead of place k. -/
def prevH (ps : List (Int × Int)) : Nat → Int
  | 0 => -1
  | k + 1 => (ps.getD k (0, 0)).1
/-- Behind k rounds, what is left decides. -/
def OkLeft (b : Int) (ps : List (Int × Int)) (k : Nat) : Prop := partsOk b (-1) ps = partsOk b (prevH ps k) (ps.drop k)
theorem OkLeft.zero (b : Int) (ps : List (Int × Int)) : OkLeft b ps 0 := rfl
theorem drop_at {α : Type} {ps : List α} {k : Nat} {x : α} (hx : ps[k]? = some x) : ps.drop k = x :: ps.drop (k + 1) := by
  have hk : k < ps.length := by rcases Nat.lt_or_ge k ps.length with h | h; exact h; rw [List.getElem?_eq_none h] at hx; cases hx
  rw [List.drop_eq_getElem_cons hk]
  rw [List.getElem?_eq_getElem hk] at hx
  rw [Option.some.inj hx]
theorem prevH_succ {ps : List (Int × Int)} {k : Nat} {x : Int × Int} (hx : ps[k]? = some x) : prevH ps (k + 1) = x.1 := by simp [prevH, List.getD, hx]
theorem OkLeft.bad {b : Int} {ps : List (Int × Int)} {k : Nat} {h v : Int} (hs : OkLeft b ps k) (hx : ps[k]? = some (h, v)) (hbad : hOk h = false ∨ lvOk v = false ∨ v = b ∨ h ≤ prevH ps k) : partsOk b (-1) ps = false := by
  rw [hs, drop_at hx]
  rcases hbad with e | e | e | e
  · simp [partsOk, e]
  · simp [partsOk, e]
  · simp [partsOk, e]
  · have : ¬ prevH ps k < h := by omega
    simp [partsOk, this]
theorem OkLeft.succ {b : Int} {ps : List (Int × Int)} {k : Nat} {h v : Int} (hs : OkLeft b ps k) (hx : ps[k]? = some (h, v)) (h1 : hOk h = true) (h2 : lvOk v = true) (h3 : v ≠ b) (h4 : prevH ps k < h) : OkLeft b ps (k + 1) := by
  unfold OkLeft at hs ⊢
  rw [hs, drop_at hx, prevH_succ hx]
  simp [partsOk, h1, h2, h3, h4]
theorem OkLeft.done {b : Int} {ps : List (Int × Int)} {k : Nat} (hs : OkLeft b ps k) (hk : ps.length ≤ k) : partsOk b (-1) ps = true := by
  rw [hs, List.drop_eq_nil_of_le hk]; rfl
theorem labOk_base {l : Lab} (h : lvOk l.base = false) : labOk l = false := by simp [labOk, h]
theorem labOk_long {l : Lab} (h : 8 < l.parts.length) : labOk l = false := by
  have : ¬ l.parts.length ≤ 8 := by omega
  simp [labOk, this]
theorem labOk_parts {l : Lab} {c : Bool} (h : lvOk l.base = true) (k : l.parts.length ≤ 8) (hp : partsOk l.base (-1) l.parts = c) : labOk l = c := by simp [labOk, h, k, hp]

/-- A plain label. -/
def plainL (b : Int) : Lab := if lvOk b then ⟨b, []⟩ else noLab
theorem plainL_yes {b : Int} (h : lvOk b = true) : plainL b = ⟨b, []⟩ := by simp [plainL, h]
theorem plainL_no {b : Int} (h : lvOk b = false) : plainL b = ⟨0, []⟩ := by simp [plainL, h, noLab]

/-- The level of a handle. -/
def levIn (b h : Int) : List (Int × Int) → Int
  | [] => b
  | (a, v) :: ps => if a = h then v else levIn b h ps
def lev (l : Lab) (h : Int) : Int := levIn l.base h l.parts
def LevLeft (b h : Int) (ps : List (Int × Int)) (k : Nat) : Prop := levIn b h ps = levIn b h (ps.drop k)
theorem LevLeft.zero (b h : Int) (ps : List (Int × Int)) : LevLeft b h ps 0 := rfl
theorem LevLeft.hit {b h : Int} {ps : List (Int × Int)} {k : Nat} {v : Int} (hs : LevLeft b h ps k) (hx : ps[k]? = some (h, v)) : levIn b h ps = v := by rw [hs, drop_at hx]; simp [levIn]
theorem LevLeft.succ {b h : Int} {ps : List (Int × Int)} {k : Nat} {a v : Int} (hs : LevLeft b h ps k) (hx : ps[k]? = some (a, v)) (hn : a ≠ h) : LevLeft b h ps (k + 1) := by
  unfold LevLeft at hs ⊢
  rw [hs, drop_at hx]
  simp [levIn, hn]
theorem LevLeft.done {b h : Int} {ps : List (Int × Int)} {k : Nat} (hs : LevLeft b h ps k) (hk : ps.length ≤ k) : levIn b h ps = b := by rw [hs, List.drop_eq_nil_of_le hk]; rfl
def levelOf (l : Lab) (h : Int) : Int := if labOk l && hOk h then lev l h else -1
theorem levelOf_no {l : Lab} {h : Int} (k : labOk l = false ∨ hOk h = false) : levelOf l h = -1 := by rcases k with e | e <;> simp [levelOf, e]
theorem levelOf_yes {l : Lab} {h : Int} (k : labOk l = true) (j : hOk h = true) : levelOf l h = lev l h := by simp [levelOf, k, j]

/-- A level put in: what is still to be put (done: no more) and the parts. -/
def withGo (h v : Int) : Bool → List (Int × Int) → List (Int × Int)
  | done, [] => if done then [] else [(h, v)]
  | true, (a, u) :: ps => if a ≠ h then (a, u) :: withGo h v true ps else withGo h v true ps
  | false, (a, u) :: ps => if h < a then (h, v) :: (a, u) :: withGo h v true ps else if a ≠ h then (a, u) :: withGo h v false ps else (h, v) :: withGo h v true ps
/-- The label with that level of that handle. -/
def withL (l : Lab) (h v : Int) : Lab × Bool :=
  let ps := withGo h v (decide (v = l.base)) l.parts
  if 8 < ps.length then (noLab, false) else (⟨l.base, ps⟩, true)
def withLabel (l : Lab) (h v : Int) : Lab × Bool := if labOk l && hOk h && lvOk v then withL l h v else (noLab, false)

/-- A handle comes to others, rising. -/
def into : List Int → Int → List Int
  | [], h => [h]
  | x :: xs, h => if x < h then x :: into xs h else if x = h then x :: xs else h :: x :: xs
def handlesIn (xs : List Int) (ps : List (Int × Int)) : List Int := ps.foldl (fun xs p => into xs p.1) xs
def handlesOf (l m : Lab) : List Int := if labOk l && labOk m then handlesIn (handlesIn [] l.parts) m.parts else []

/-- All up to place k are less. -/
def LtTo (xs : List Int) (h : Int) (k : Nat) : Prop := into xs h = xs.take k ++ into (xs.drop k) h
theorem LtTo.zero (xs : List Int) (h : Int) : LtTo xs h 0 := rfl
theorem take_at {α : Type} {ps : List α} {k : Nat} {x : α} (hx : ps[k]? = some x) : ps.take (k + 1) = ps.take k ++ [x] := by
  have hk : k < ps.length := by rcases Nat.lt_or_ge k ps.length with h | h; exact h; rw [List.getElem?_eq_none h] at hx; cases hx
  rw [List.take_succ_eq_append_getElem hk]
  rw [List.getElem?_eq_getElem hk] at hx
  rw [Option.some.inj hx]
theorem LtTo.succ {xs : List Int} {h x : Int} {k : Nat} (hs : LtTo xs h k) (hx : xs[k]? = some x) (hl : x < h) : LtTo xs h (k + 1) := by
  unfold LtTo at hs ⊢
  rw [hs, drop_at hx, take_at hx]
  simp [into, hl]
theorem LtTo.done {xs : List Int} {h : Int} {k : Nat} (hs : LtTo xs h k) (hk : xs.length ≤ k) : into xs h = xs ++ [h] := by
  rw [hs, List.drop_eq_nil_of_le hk, List.take_of_length_le hk]; rfl
theorem LtTo.here {xs : List Int} {h : Int} {k : Nat} (hs : LtTo xs h k) (hx : xs[k]? = some h) : into xs h = xs := by
  rw [hs, drop_at hx]
  simp only [into, Int.lt_irrefl, if_false, if_true]
  rw [← drop_at hx, List.take_append_drop]
theorem LtTo.more {xs : List Int} {h x : Int} {k : Nat} (hs : LtTo xs h k) (hx : xs[k]? = some x) (hl : h < x) : into xs h = xs.take k ++ [h] ++ xs.drop k := by
  have h1 : ¬ x < h := by omega
  have h2 : x ≠ h := by omega
  rw [hs, drop_at hx]
  simp [into, h1, h2]

theorem into_length (xs : List Int) (h : Int) : (into xs h).length ≤ xs.length + 1 := by
  induction xs with
  | nil => simp [into]
  | cons x xs ih =>
    simp only [into]
    split
    · simp only [List.length_cons]; omega
    · split <;> simp
theorem handlesIn_snoc {xs : List Int} {ps : List (Int × Int)} {k : Nat} {x y : Int} (hx : ps[k]? = some (x, y)) : handlesIn xs (ps.take (k + 1)) = into (handlesIn xs (ps.take k)) x := by
  rw [take_at hx]; simp [handlesIn, List.foldl_append]
theorem handlesIn_length (xs : List Int) (ps : List (Int × Int)) : (handlesIn xs ps).length ≤ xs.length + ps.length := by
  induction ps generalizing xs with
  | nil => simp [handlesIn]
  | cons p ps ih =>
    have h1 := ih (into xs p.1)
    have h2 := into_length xs p.1
    simp only [handlesIn, List.foldl_cons, List.length_cons] at h1 ⊢
    omega
theorem handlesOf_no {l m : Lab} (h : labOk l = false ∨ labOk m = false) : handlesOf l m = [] := by rcases h with e | e <;> simp [handlesOf, e]
theorem handlesOf_yes {l m : Lab} (h : labOk l = true) (k : labOk m = true) : handlesOf l m = handlesIn (handlesIn [] l.parts) m.parts := by simp [handlesOf, h, k]
theorem labOk_short {l : Lab} (h : labOk l = true) : l.parts.length ≤ 8 := by simp [labOk] at h; exact h.1.2

/-- Behind k rounds: what stands in out, and what is left. -/
def WithLeft (h v : Int) (d0 : Bool) (ps : List (Int × Int)) (out : List (Int × Int)) (done : Bool) (k : Nat) : Prop := withGo h v d0 ps = out ++ withGo h v done (ps.drop k)
theorem WithLeft.zero (h v : Int) (d0 : Bool) (ps : List (Int × Int)) : WithLeft h v d0 ps [] d0 0 := rfl
section
variable {h v : Int} {d0 : Bool} {ps out : List (Int × Int)} {k : Nat} {x y : Int}
theorem WithLeft.less (hs : WithLeft h v d0 ps out false k) (hx : ps[k]? = some (x, y)) (hl : h < x) : WithLeft h v d0 ps (out ++ [(h, v)] ++ [(x, y)]) true (k + 1) := by
  unfold WithLeft at hs ⊢
  rw [hs, drop_at hx]
  simp [withGo, hl]
theorem WithLeft.other (hs : WithLeft h v d0 ps out false k) (hx : ps[k]? = some (x, y)) (hl : ¬ h < x) (hn : x ≠ h) : WithLeft h v d0 ps (out ++ [(x, y)]) false (k + 1) := by
  unfold WithLeft at hs ⊢
  rw [hs, drop_at hx]
  simp [withGo, hl, hn]
theorem WithLeft.here (hs : WithLeft h v d0 ps out false k) (hx : ps[k]? = some (h, y)) : WithLeft h v d0 ps (out ++ [(h, v)]) true (k + 1) := by
  unfold WithLeft at hs ⊢
  rw [hs, drop_at hx]
  simp [withGo]
theorem WithLeft.otherD (hs : WithLeft h v d0 ps out true k) (hx : ps[k]? = some (x, y)) (hn : x ≠ h) : WithLeft h v d0 ps (out ++ [(x, y)]) true (k + 1) := by
  unfold WithLeft at hs ⊢
  rw [hs, drop_at hx]
  simp [withGo, hn]
theorem WithLeft.hereD (hs : WithLeft h v d0 ps out true k) (hx : ps[k]? = some (h, y)) : WithLeft h v d0 ps out true (k + 1) := by
  unfold WithLeft at hs ⊢
  rw [hs, drop_at hx]
  simp [withGo]
theorem WithLeft.done (hs : WithLeft h v d0 ps out true k) (hk : ps.length ≤ k) : withGo h v d0 ps = out := by rw [hs, List.drop_eq_nil_of_le hk]; simp [withGo]
theorem WithLeft.last (hs : WithLeft h v d0 ps out false k) (hk : ps.length ≤ k) : withGo h v d0 ps = out ++ [(h, v)] := by rw [hs, List.drop_eq_nil_of_le hk]; simp [withGo]
end
theorem withL_long {l : Lab} {h v : Int} {out : List (Int × Int)} (hs : withGo h v (decide (v = l.base)) l.parts = out) (hk : 8 < out.length) : withL l h v = (noLab, false) := by simp [withL, hs, hk]
theorem withL_short {l : Lab} {h v : Int} {out : List (Int × Int)} (hs : withGo h v (decide (v = l.base)) l.parts = out) (hk : out.length ≤ 8) : withL l h v = (⟨l.base, out⟩, true) := by
  have : ¬ 8 < out.length := by omega
  simp [withL, hs, this]
theorem withLabel_no {l : Lab} {h v : Int} (k : labOk l = false ∨ hOk h = false ∨ lvOk v = false) : withLabel l h v = (noLab, false) := by rcases k with e | e | e <;> simp [withLabel, e]
theorem withLabel_yes {l : Lab} {h v : Int} (k : labOk l = true) (j : hOk h = true) (i : lvOk v = true) : withLabel l h v = withL l h v := by simp [withLabel, k, j, i]
end Go.Proofs.Ytjdnobihhkmmpaa
