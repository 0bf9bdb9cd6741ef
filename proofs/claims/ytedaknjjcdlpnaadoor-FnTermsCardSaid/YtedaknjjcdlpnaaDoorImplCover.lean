/-
  What is asked of one handle that no label names, and of all that are named, is asked of every handle. No program, no memory.
-/
import Derived.Test.YtedaknjjcdlpnaaDoorImplFirst
import Derived.Test.YtedaknjjcdlpnaaDoorPure
import Derived.Test.YtedaknjjcdlpnaaDoorTermsPure
namespace Go.Proofs.YtedaknjjcdlpnaaDoor
set_option maxRecDepth 100000

theorem allOk_map (X : List LB) : allOk X = (X.map (·.l)).all labOk := by simp [allOk, List.all_map, Function.comp_def]
theorem mem_hsOf {X : List LB} {x : Int} : x ∈ hsOf X ↔ x = -1 ∨ ∃ l ∈ X.map (·.l), x ∈ l.parts.map (·.1) := by
  simp only [hsOf, keysOf, List.mem_cons, List.mem_flatMap, List.mem_map]
  constructor
  · rintro (h | ⟨y, hy, h⟩)
    · exact .inl h
    · exact .inr ⟨y.l, ⟨y, hy, rfl⟩, h⟩
  · rintro (h | ⟨l, ⟨y, hy, rfl⟩, h⟩)
    · exact .inl h
    · exact .inr ⟨y, hy, h⟩
theorem cover1 {p : Int → Bool} {hs : List Int} (hm : (-1 : Int) ∈ hs) (hb : ∀ x, x ∉ hs → p x = p (-1)) : hs.all p = true ↔ ∀ x, p x = true := by
  constructor
  · intro h x
    have h' := List.all_eq_true.1 h
    by_cases hx : x ∈ hs
    · exact h' x hx
    · rw [hb x hx]; exact h' _ hm
  · intro h
    exact List.all_eq_true.2 fun x _ => h x
theorem no_minus {l : Lab} (h : labOk l = true) : (-1 : Int) ∉ l.parts.map (·.1) := fun hm => by
  obtain ⟨q, hq, he⟩ := List.mem_map.1 hm
  have := of_hOk (partsOk_mem (labOk_partsOk h) q hq).1
  omega
theorem out_lev {X : List LB} (h : allOk X = true) {l : Lab} (hl : l ∈ X.map (·.l)) {x : Int} (hx : x ∉ hsOf X) : lev l x = lev l (-1) := by
  rw [allOk_map] at h
  have ho := List.all_eq_true.1 h l hl
  have h1 : x ∉ l.parts.map (·.1) := fun hm => hx (mem_hsOf.2 (.inr ⟨l, hl, hm⟩))
  rw [lev_none h1, lev_none (no_minus ho)]
theorem bool_iff {a b : Bool} (h : a = true ↔ b = true) : a = b := by cases a <;> cases b <;> simp_all
theorem allowed_all {s : Lab} {t : Tm} {X : List LB} (hX : X.map (·.l) = [t.taint, t.clear, t.raise, t.verify, s]) : (allOk X && (hsOf X).all (mayL s t)) = allowed s t := by
  cases ho : allOk X
  · rw [allOk_map, hX] at ho
    have h2 : (termsOk t && labOk s) = false := by rw [← ho]; simp [termsOk, Bool.and_assoc]
    cases ha : labOk s
    · simp [allowed, ha]
    · rw [ha, Bool.and_true] at h2
      simp [allowed, ha, h2]
  · have h1 := ho
    rw [allOk_map, hX] at h1
    have h2 : labOk s = true ∧ termsOk t = true := by simp at h1; simp [termsOk, h1]
    refine bool_iff ?_
    rw [allowed_iff h2.1 h2.2, Bool.true_and]
    refine cover1 (mem_hsOf.2 (.inl rfl)) (fun x hx => ?_)
    have e1 : lev s x = lev s (-1) := out_lev ho (by rw [hX]; simp) hx
    have e2 : lev t.clear x = lev t.clear (-1) := out_lev ho (by rw [hX]; simp) hx
    have e3 : lev t.raise x = lev t.raise (-1) := out_lev ho (by rw [hX]; simp) hx
    simp only [mayL, e1, e2, e3]
theorem accepts_all {e r d : Lab} {t : Tm} {X : List LB} (hX : X.map (·.l) = [t.taint, t.clear, t.raise, t.verify, e, r, d]) : (allOk X && (hsOf X).all (inL e r t d)) = accepts e r t d := by
  cases ho : allOk X
  · rw [allOk_map, hX] at ho
    have h2 : (termsOk t && (labOk e && (labOk r && labOk d))) = false := by rw [← ho]; simp [termsOk, Bool.and_assoc]
    cases he : labOk e
    · simp [accepts, he]
    · cases hr : labOk r
      · simp [accepts, hr]
      · cases ht : termsOk t
        · simp [accepts, ht]
        · cases hd : labOk d
          · simp [accepts, hd]
          · rw [he, hr, ht, hd] at h2; cases h2
  · have h1 := ho
    rw [allOk_map, hX] at h1
    have h2 : labOk e = true ∧ labOk r = true ∧ termsOk t = true ∧ labOk d = true := by simp at h1; simp [termsOk, h1]
    refine bool_iff ?_
    rw [accepts_iff h2.1 h2.2.1 h2.2.2.1 h2.2.2.2, Bool.true_and]
    refine cover1 (mem_hsOf.2 (.inl rfl)) (fun x hx => ?_)
    have e1 : lev e x = lev e (-1) := out_lev ho (by rw [hX]; simp) hx
    have e2 : lev r x = lev r (-1) := out_lev ho (by rw [hX]; simp) hx
    have e3 : lev t.raise x = lev t.raise (-1) := out_lev ho (by rw [hX]; simp) hx
    have e4 : lev t.verify x = lev t.verify (-1) := out_lev ho (by rw [hX]; simp) hx
    have e5 : lev d x = lev d (-1) := out_lev ho (by rw [hX]; simp) hx
    simp only [inL, e1, e2, e3, e4, e5]
end Go.Proofs.YtedaknjjcdlpnaaDoor
