/-
  The order, the higher and the lower of two labels, stars, taint: as plain data. No program, no memory.
-/
import Derived.Test.YtjdnobihhkmmpaaOrdPure
namespace Go.Proofs.Ytjdnobihhkmmpaa
set_option maxRecDepth 100000

def hs2 (l m : Lab) : List Int := handlesIn (handlesIn [] l.parts) m.parts
theorem hs2_ss (l m : Lab) : SS (hs2 l m) := handlesIn_ss _ _ (handlesIn_ss _ _ (by simp [SS]))
theorem mem_hs2 (l m : Lab) (x : Int) : x ∈ hs2 l m ↔ x ∈ l.parts.map (·.1) ∨ x ∈ m.parts.map (·.1) := by unfold hs2; rw [mem_handlesIn, mem_handlesIn]; simp
theorem hs2_length (l m : Lab) : (hs2 l m).length ≤ l.parts.length + m.parts.length := by
  have h1 := handlesIn_length [] l.parts
  have h2 := handlesIn_length (handlesIn [] l.parts) m.parts
  unfold hs2; simp at h1; omega
theorem hs2_ok {l m : Lab} (h : labOk l = true) (k : labOk m = true) : ∀ x ∈ hs2 l m, hOk x = true := fun x hx => by
  rcases (mem_hs2 l m x).1 hx with e | e
  · obtain ⟨q, hq, rfl⟩ := List.mem_map.1 e; exact (partsOk_mem (labOk_partsOk h) q hq).1
  · obtain ⟨q, hq, rfl⟩ := List.mem_map.1 e; exact (partsOk_mem (labOk_partsOk k) q hq).1

/-- At most, of everything. -/
def atMostIn (l m : Lab) : List Int → Bool
  | [] => true
  | h :: hs => decide (lev l h ≤ lev m h) && atMostIn l m hs
def atMost0 (l m : Lab) : Bool := atMostIn l m (hs2 l m) && decide (l.base ≤ m.base)
def atMost (l m : Lab) : Bool := labOk l && labOk m && atMost0 l m
theorem atMostIn_iff (l m : Lab) (hs : List Int) : atMostIn l m hs = true ↔ ∀ h ∈ hs, lev l h ≤ lev m h := by
  induction hs with
  | nil => simp [atMostIn]
  | cons h hs ih => simp [atMostIn, ih]
theorem atMost0_iff (l m : Lab) : atMost0 l m = true ↔ ∀ x, lev l x ≤ lev m x := by
  simp only [atMost0, Bool.and_eq_true, atMostIn_iff, decide_eq_true_eq]
  constructor
  · rintro ⟨h1, h2⟩ x
    by_cases hx : x ∈ hs2 l m
    · exact h1 x hx
    · rw [mem_hs2, not_or] at hx
      rw [lev_none hx.1, lev_none hx.2]; exact h2
  · intro h
    refine ⟨fun x _ => h x, ?_⟩
    obtain ⟨x, hx⟩ := fresh (l.parts.map (·.1) ++ m.parts.map (·.1))
    simp only [List.mem_append, not_or] at hx
    have := h x
    rwa [lev_none hx.1, lev_none hx.2] at this
theorem atMost_iff {l m : Lab} (h : labOk l = true) (k : labOk m = true) : atMost l m = true ↔ ∀ x, lev l x ≤ lev m x := by simp [atMost, h, k, atMost0_iff]
theorem atMost_of {l m : Lab} (h : atMost l m = true) : labOk l = true ∧ labOk m = true ∧ ∀ x, lev l x ≤ lev m x := by
  have h1 : labOk l = true := by simp [atMost] at h; exact h.1.1
  have h2 : labOk m = true := by simp [atMost] at h; exact h.1.2
  exact ⟨h1, h2, (atMost_iff h1 h2).1 h⟩
theorem atMost_no {l m : Lab} (h : labOk l = false ∨ labOk m = false) : atMost l m = false := by rcases h with e | e <;> simp [atMost, e]
theorem atMost_yes {l m : Lab} (h : labOk l = true) (k : labOk m = true) : atMost l m = atMost0 l m := by simp [atMost, h, k]

/-- The label that tells f of the levels; too many parts: none. -/
def ofLev (b : Int) (f : Int → Int) (hs : List Int) : Lab × Bool := if 8 < (mkParts b f hs).length then (noLab, false) else (⟨b, mkParts b f hs⟩, true)
theorem ofLev_long {b : Int} {f : Int → Int} {hs : List Int} {ps : List (Int × Int)} (h : mkParts b f hs = ps) (k : 8 < ps.length) : ofLev b f hs = (noLab, false) := by simp [ofLev, h, k]
theorem ofLev_short {b : Int} {f : Int → Int} {hs : List Int} {ps : List (Int × Int)} (h : mkParts b f hs = ps) (k : ps.length ≤ 8) : ofLev b f hs = (⟨b, ps⟩, true) := by
  have : ¬ 8 < ps.length := by omega
  simp [ofLev, h, this]
theorem ofLev_law {b : Int} {f : Int → Int} {hs : List Int} {x : Lab} (he : ofLev b f hs = (x, true)) (hss : SS hs) (hb : lvOk b = true) (ho : ∀ h ∈ hs, hOk h = true) (hf : ∀ h, h ∉ hs → f h = b) (hl : ∀ h, lvOk (f h) = true) :
    labOk x = true ∧ x.base = b ∧ ∀ h, lev x h = f h := by
  unfold ofLev at he
  split at he
  · simp at he
  · rename_i hn
    simp only [Prod.mk.injEq, and_true] at he
    subst he
    refine ⟨labOk_parts hb (by simp only []; omega) (ss_mk hss (fun h hh => by have := of_hOk (ho h hh); omega) ho (fun h _ => hl h)), rfl, fun h => levIn_mk hf h⟩
/-- It does not hang on the list, where this has all handles that are told otherwise. -/
theorem mkParts_cover {b : Int} {f : Int → Int} : ∀ {hs gs : List Int}, SS hs → SS gs → (∀ h, f h ≠ b → (h ∈ hs ↔ h ∈ gs)) → mkParts b f hs = mkParts b f gs := by
  have key : ∀ {hs : List Int}, mkParts b f hs = mkParts b f (hs.filter fun h => decide (f h ≠ b)) := by
    intro hs
    induction hs with
    | nil => rfl
    | cons h hs ih =>
      by_cases e : f h = b
      · simp [mkParts, e, ih]
      · simp [mkParts, e, ih]
  intro hs gs h1 h2 hc
  rw [key (hs := hs), key (hs := gs)]
  congr 1
  refine ss_ext (List.Pairwise.filter _ h1) (List.Pairwise.filter _ h2) (fun x => ?_)
  simp only [List.mem_filter, decide_eq_true_eq]
  constructor
  · rintro ⟨p, q⟩; exact ⟨(hc x q).1 p, q⟩
  · rintro ⟨p, q⟩; exact ⟨(hc x q).2 p, q⟩
theorem ofLev_cover {b : Int} {f : Int → Int} {hs gs : List Int} (h1 : SS hs) (h2 : SS gs) (hc : ∀ h, f h ≠ b → (h ∈ hs ↔ h ∈ gs)) : ofLev b f hs = ofLev b f gs := by unfold ofLev; rw [mkParts_cover h1 h2 hc]

/-- Of each handle the one of both. -/
def bothL (f : Int → Int → Int) (l m : Lab) : Lab × Bool := ofLev (f l.base m.base) (fun h => f (lev l h) (lev m h)) (hs2 l m)
def joinL (l m : Lab) : Lab × Bool := if labOk l && labOk m then bothL max l m else (noLab, false)
def meetL (l m : Lab) : Lab × Bool := if labOk l && labOk m then bothL min l m else (noLab, false)
theorem bothL_law {f : Int → Int → Int} (hf : ∀ a b, lvOk a = true → lvOk b = true → lvOk (f a b) = true) {l m x : Lab} (h : labOk l = true) (k : labOk m = true) (he : bothL f l m = (x, true)) :
    labOk x = true ∧ x.base = f l.base m.base ∧ ∀ y, lev x y = f (lev l y) (lev m y) :=
  ofLev_law he (hs2_ss l m) (hf _ _ (labOk_base_of h) (labOk_base_of k)) (hs2_ok h k) (fun y hy => by rw [mem_hs2, not_or] at hy; rw [lev_none hy.1, lev_none hy.2]) (fun y => hf _ _ (lev_lv h y) (lev_lv k y))
theorem lvOk_max {a b : Int} (h : lvOk a = true) (k : lvOk b = true) : lvOk (max a b) = true := by have := of_lvOk h; have := of_lvOk k; exact lvOk_yes (by omega) (by omega)
theorem lvOk_min {a b : Int} (h : lvOk a = true) (k : lvOk b = true) : lvOk (min a b) = true := by have := of_lvOk h; have := of_lvOk k; exact lvOk_yes (by omega) (by omega)
theorem joinL_no {l m : Lab} (h : labOk l = false ∨ labOk m = false) : joinL l m = (noLab, false) := by rcases h with e | e <;> simp [joinL, e]
theorem joinL_yes {l m : Lab} (h : labOk l = true) (k : labOk m = true) : joinL l m = bothL max l m := by simp [joinL, h, k]
theorem meetL_no {l m : Lab} (h : labOk l = false ∨ labOk m = false) : meetL l m = (noLab, false) := by rcases h with e | e <;> simp [meetL, e]
theorem meetL_yes {l m : Lab} (h : labOk l = true) (k : labOk m = true) : meetL l m = bothL min l m := by simp [meetL, h, k]
theorem joinL_law {l m x : Lab} (he : joinL l m = (x, true)) : labOk l = true ∧ labOk m = true ∧ labOk x = true ∧ x.base = max l.base m.base ∧ ∀ y, lev x y = max (lev l y) (lev m y) := by
  unfold joinL at he
  split at he
  · rename_i h
    simp only [Bool.and_eq_true] at h
    have := bothL_law (fun a b => lvOk_max) h.1 h.2 he
    exact ⟨h.1, h.2, this⟩
  · simp at he
theorem meetL_law {l m x : Lab} (he : meetL l m = (x, true)) : labOk l = true ∧ labOk m = true ∧ labOk x = true ∧ x.base = min l.base m.base ∧ ∀ y, lev x y = min (lev l y) (lev m y) := by
  unfold meetL at he
  split at he
  · rename_i h
    simp only [Bool.and_eq_true] at h
    have := bothL_law (fun a b => lvOk_min) h.1 h.2 he
    exact ⟨h.1, h.2, this⟩
  · simp at he

/-- Stars. -/
def star (n : Int) : Int := if n = 0 then 0 else 4
theorem star_lv (n : Int) : lvOk (star n) = true := by unfold star; split <;> rfl
def starsL (l : Lab) : Lab × Bool := if labOk l then ofLev (star l.base) (fun h => star (lev l h)) (l.parts.map (·.1)) else (noLab, false)
theorem rises_map {b : Int} : ∀ {p : Int} {ps : List (Int × Int)}, partsOk b p ps = true → SS (ps.map (·.1))
  | _, [], _ => by simp [SS]
  | p, (a, v) :: ps, h => by
    simp only [partsOk, Bool.and_eq_true, decide_eq_true_eq] at h
    refine List.pairwise_cons.2 ⟨fun x hx => ?_, rises_map h.2⟩
    obtain ⟨q, hq, rfl⟩ := List.mem_map.1 hx
    exact (partsOk_mem h.2 q hq).2.2.2
theorem starsL_law {l x : Lab} {is : Bool} (he : starsL l = (x, is)) (h : labOk l = true) : is = true ∧ labOk x = true ∧ x.base = star l.base ∧ ∀ y, lev x y = star (lev l y) := by
  unfold starsL at he
  rw [if_pos h] at he
  have hlen : (mkParts (star l.base) (fun h => star (lev l h)) (l.parts.map (·.1))).length ≤ 8 := by
    have h1 := mkParts_length (star l.base) (fun h => star (lev l h)) (l.parts.map (·.1))
    have h2 := labOk_short h
    rw [List.length_map] at h1; omega
  have hs := ofLev_short (b := star l.base) (f := fun h => star (lev l h)) (hs := l.parts.map (·.1)) rfl hlen
  rw [hs] at he
  have hi : is = true := by simp only [Prod.mk.injEq] at he; exact he.2.symm
  subst hi
  rw [← hs] at he
  exact ⟨rfl, ofLev_law he (rises_map (labOk_partsOk h)) (star_lv _) (fun y hy => by obtain ⟨q, hq, rfl⟩ := List.mem_map.1 hy; exact (partsOk_mem (labOk_partsOk h) q hq).1) (fun y hy => by simp only [lev_none hy]) (fun y => star_lv _)⟩

/-- Taint. -/
def taintLev (has clear eff : Int) : Int := if has = 0 then 0 else max eff (min has clear)
theorem taintLev_lv {a b c : Int} (h : lvOk a = true) (k : lvOk b = true) (j : lvOk c = true) : lvOk (taintLev a b c) = true := by
  unfold taintLev
  split
  · rfl
  · exact lvOk_max j (lvOk_min h k)
def hs3 (l m n : Lab) : List Int := handlesIn (hs2 l m) n.parts
theorem hs3_ss (l m n : Lab) : SS (hs3 l m n) := handlesIn_ss _ _ (hs2_ss l m)
theorem mem_hs3 (l m n : Lab) (x : Int) : x ∈ hs3 l m n ↔ (x ∈ l.parts.map (·.1) ∨ x ∈ m.parts.map (·.1)) ∨ x ∈ n.parts.map (·.1) := by unfold hs3; rw [mem_handlesIn, mem_hs2]
theorem hs3_length (l m n : Lab) : (hs3 l m n).length ≤ l.parts.length + m.parts.length + n.parts.length := by
  have h1 := hs2_length l m
  have h2 := handlesIn_length (hs2 l m) n.parts
  unfold hs3; omega
theorem hs3_ok {l m n : Lab} (h : labOk l = true) (k : labOk m = true) (j : labOk n = true) : ∀ x ∈ hs3 l m n, hOk x = true := fun x hx => by
  rcases (mem_hs3 l m n x).1 hx with e | e
  · exact hs2_ok h k x ((mem_hs2 l m x).2 e)
  · obtain ⟨q, hq, rfl⟩ := List.mem_map.1 e; exact (partsOk_mem (labOk_partsOk j) q hq).1
def taintL (l m n : Lab) : Lab × Bool := if labOk l && labOk m && labOk n then ofLev (taintLev l.base m.base n.base) (fun h => taintLev (lev l h) (lev m h) (lev n h)) (hs3 l m n) else (noLab, false)
theorem taintL_law {l m n x : Lab} (he : taintL l m n = (x, true)) : labOk l = true ∧ labOk m = true ∧ labOk n = true ∧ labOk x = true ∧ x.base = taintLev l.base m.base n.base ∧ ∀ y, lev x y = taintLev (lev l y) (lev m y) (lev n y) := by
  unfold taintL at he
  split at he
  · rename_i h
    simp only [Bool.and_eq_true] at h
    obtain ⟨⟨h1, h2⟩, h3⟩ := h
    refine ⟨h1, h2, h3, ofLev_law he (hs3_ss l m n) (taintLev_lv (labOk_base_of h1) (labOk_base_of h2) (labOk_base_of h3)) (hs3_ok h1 h2 h3) (fun y hy => ?_) (fun y => taintLev_lv (lev_lv h1 y) (lev_lv h2 y) (lev_lv h3 y))⟩
    rw [mem_hs3, not_or, not_or] at hy
    simp only [lev_none hy.1.1, lev_none hy.1.2, lev_none hy.2]
  · simp at he
theorem taintL_no {l m n : Lab} (h : labOk l = false ∨ labOk m = false ∨ labOk n = false) : taintL l m n = (noLab, false) := by rcases h with e | e | e <;> simp [taintL, e]
theorem taintL_yes {l m n : Lab} (h : labOk l = true) (k : labOk m = true) (j : labOk n = true) : taintL l m n = ofLev (taintLev l.base m.base n.base) (fun h => taintLev (lev l h) (lev m h) (lev n h)) (hs3 l m n) := by simp [taintL, h, k, j]
end Go.Proofs.Ytjdnobihhkmmpaa
