/-
  Labels made one handle after the other, stars last: the label that tells these levels. No program, no memory.
-/
import Derived.Test.YtjdnobihhkmmpaaOrdPure2
import Derived.Test.YtjdnobihhkmmpaaLabLaws
namespace Go.Proofs.Ytjdnobihhkmmpaa
set_option maxRecDepth 100000

/-- A label with that level of that handle, however many parts it has then. -/
def withP (l : Lab) (h v : Int) : Lab := ⟨l.base, withGo h v (decide (v = l.base)) l.parts⟩
/-- Right, but for the number of parts. -/
def okL (l : Lab) : Prop := lvOk l.base = true ∧ partsOk l.base (-1) l.parts = true
theorem okL.rises {l : Lab} (h : okL l) : Rises (-1) l.parts := rises_of h.2
theorem withP_ok {l : Lab} {h v : Int} (k : okL l) (hh : hOk h = true) (hv : lvOk v = true) : okL (withP l h v) := by
  have hh' := of_hOk hh
  refine ⟨k.1, ?_⟩
  unfold withP
  by_cases e : v = l.base
  · rw [decide_eq_true e]; exact withGo_done_ok k.2
  · rw [decide_eq_false e]; exact withGo_ok k.2 hh hv e (by omega)
theorem withP_lev (l : Lab) (h v x : Int) : lev (withP l h v) x = if x = h then v else lev l x := by
  unfold lev withP
  by_cases k : x = h
  · subst k
    rw [if_pos rfl]
    by_cases e : v = l.base
    · rw [decide_eq_true e]; simp only []; rw [withGo_same_done, e]
    · rw [decide_eq_false e]; exact withGo_same _
  · rw [if_neg k]; exact withGo_other k _ _
theorem withP_length (l : Lab) (h v : Int) (hr : Rises (-1) l.parts) : (withP l h v).parts.length ≤ l.parts.length + 1 := by
  have h1 := placeK_le h l.parts
  have h2 := behindK_le h l.parts
  have h3 : placeK h l.parts ≤ behindK h l.parts := by unfold behindK; split <;> omega
  unfold withP
  by_cases e : v = l.base
  · rw [decide_eq_true e]; simp only []; rw [withGo_without hr]
    simp only [List.length_append, List.length_take, List.length_drop]; omega
  · rw [decide_eq_false e]; simp only []; rw [withGo_put hr]
    simp only [List.length_append, List.length_take, List.length_drop, List.length_cons, List.length_nil]; omega

/-- One after the other. -/
def tellAll (f : Int → Int) (l : Lab) (hs : List Int) : Lab := hs.foldl (fun l h => withP l h (f h)) l
theorem tellAll_snoc (f : Int → Int) (l : Lab) (hs : List Int) (h : Int) : tellAll f l (hs ++ [h]) = withP (tellAll f l hs) h (f h) := by simp [tellAll, List.foldl_append]
theorem tellAll_take {f : Int → Int} {l : Lab} {hs : List Int} {k : Nat} {h : Int} (hx : hs[k]? = some h) : tellAll f l (hs.take (k + 1)) = withP (tellAll f l (hs.take k)) h (f h) := by rw [take_at hx, tellAll_snoc]
theorem tellAll_base (f : Int → Int) (l : Lab) (hs : List Int) : (tellAll f l hs).base = l.base := by
  induction hs generalizing l with
  | nil => rfl
  | cons h hs ih => show (tellAll f (withP l h (f h)) hs).base = _; rw [ih]; rfl
theorem tellAll_ok {f : Int → Int} {l : Lab} {hs : List Int} (k : okL l) (ho : ∀ h ∈ hs, hOk h = true) (hl : ∀ h ∈ hs, lvOk (f h) = true) : okL (tellAll f l hs) := by
  induction hs generalizing l with
  | nil => exact k
  | cons h hs ih => exact ih (l := withP l h (f h)) (withP_ok k (ho h (by simp)) (hl h (by simp))) (fun x hx => ho x (List.mem_cons_of_mem _ hx)) (fun x hx => hl x (List.mem_cons_of_mem _ hx))
theorem tellAll_lev (f : Int → Int) (l : Lab) (hs : List Int) (x : Int) : lev (tellAll f l hs) x = if x ∈ hs then f x else lev l x := by
  induction hs generalizing l with
  | nil => simp [tellAll]
  | cons h hs ih =>
    show lev (tellAll f (withP l h (f h)) hs) x = _
    rw [ih, withP_lev]
    by_cases e : x ∈ hs
    · simp [e]
    · by_cases e' : x = h
      · subst e'; simp
      · simp [e, e']
theorem tellAll_length {f : Int → Int} {l : Lab} {hs : List Int} (k : okL l) (ho : ∀ h ∈ hs, hOk h = true) (hl : ∀ h ∈ hs, lvOk (f h) = true) : (tellAll f l hs).parts.length ≤ l.parts.length + hs.length := by
  induction hs generalizing l with
  | nil => simp [tellAll]
  | cons h hs ih =>
    have h1 := ih (l := withP l h (f h)) (withP_ok k (ho h (by simp)) (hl h (by simp))) (fun x hx => ho x (List.mem_cons_of_mem _ hx)) (fun x hx => hl x (List.mem_cons_of_mem _ hx))
    have h2 := withP_length l h (f h) k.rises
    show (tellAll f (withP l h (f h)) hs).parts.length ≤ _
    simp only [List.length_cons]; omega

/-- Those that it has the star of. -/
def starsIn (l : Lab) (hs : List Int) : List Int := hs.filter fun h => decide (lev l h = 0)
theorem starsIn_length (l : Lab) (hs : List Int) : (starsIn l hs).length ≤ hs.length := List.length_filter_le _ _
theorem starsIn_yes {l : Lab} {hs : List Int} {k : Nat} {h : Int} (hx : hs[k]? = some h) (he : lev l h = 0) : starsIn l (hs.take (k + 1)) = starsIn l (hs.take k) ++ [h] := by rw [take_at hx]; simp [starsIn, he]
theorem starsIn_no {l : Lab} {hs : List Int} {k : Nat} {h : Int} (hx : hs[k]? = some h) (he : lev l h ≠ 0) : starsIn l (hs.take (k + 1)) = starsIn l (hs.take k) := by rw [take_at hx]; simp [starsIn, he]
theorem mem_starsIn (l : Lab) (hs : List Int) (x : Int) : x ∈ starsIn l hs ↔ x ∈ hs ∧ lev l x = 0 := by simp [starsIn]
/-- Told of each of the handles, the stars kept. -/
def keepBase (l : Lab) (b : Int) : Int := if l.base = 0 then 0 else b
def keepL (l : Lab) (b : Int) (hs : List Int) (f : Int → Int) : Lab := tellAll (fun _ => 0) (tellAll f ⟨keepBase l b, []⟩ hs) (starsIn l hs)
theorem keep0_ok (l : Lab) {b : Int} (hb : lvOk b = true) : okL ⟨keepBase l b, []⟩ := by
  refine ⟨?_, rfl⟩
  simp only [keepBase]
  split
  · rfl
  · exact hb
section
variable {l : Lab} {b : Int} {hs : List Int} {f : Int → Int}
theorem keep1_ok (hb : lvOk b = true) (ho : ∀ h ∈ hs, hOk h = true) (hl : ∀ h ∈ hs, lvOk (f h) = true) : okL (tellAll f ⟨keepBase l b, []⟩ hs) := tellAll_ok (keep0_ok l hb) ho hl
theorem keep1_length (hb : lvOk b = true) (ho : ∀ h ∈ hs, hOk h = true) (hl : ∀ h ∈ hs, lvOk (f h) = true) : (tellAll f ⟨keepBase l b, []⟩ hs).parts.length ≤ hs.length := by
  have := tellAll_length (keep0_ok l hb) ho hl; simpa using this
theorem stars_ok (ho : ∀ h ∈ hs, hOk h = true) : ∀ h ∈ starsIn l hs, hOk h = true := fun h hh => ho h ((mem_starsIn l hs h).1 hh).1
theorem keepL_ok (hb : lvOk b = true) (ho : ∀ h ∈ hs, hOk h = true) (hl : ∀ h ∈ hs, lvOk (f h) = true) : okL (keepL l b hs f) := tellAll_ok (keep1_ok hb ho hl) (stars_ok ho) (fun _ _ => rfl)
theorem keepL_length (hb : lvOk b = true) (ho : ∀ h ∈ hs, hOk h = true) (hl : ∀ h ∈ hs, lvOk (f h) = true) : (keepL l b hs f).parts.length ≤ hs.length + hs.length := by
  have h1 := tellAll_length (f := fun _ => 0) (keep1_ok (l := l) hb ho hl) (stars_ok (l := l) ho) (fun _ _ => rfl)
  have h2 := keep1_length (l := l) hb ho hl
  have h3 := starsIn_length l hs
  unfold keepL; omega
theorem keepL_base : (keepL l b hs f).base = keepBase l b := by unfold keepL; rw [tellAll_base, tellAll_base]
theorem keepL_lev (x : Int) : lev (keepL l b hs f) x = if x ∈ hs then (if lev l x = 0 then 0 else f x) else keepBase l b := by
  unfold keepL
  rw [tellAll_lev, tellAll_lev]
  by_cases e : x ∈ hs
  · by_cases k : lev l x = 0
    · simp [mem_starsIn, e, k]
    · simp [mem_starsIn, e, k]
  · have : lev ⟨keepBase l b, []⟩ x = keepBase l b := rfl
    simp [mem_starsIn, e, this]
end
theorem levIn_part {b : Int} : ∀ {p : Int} {ps : List (Int × Int)} {q : Int × Int}, partsOk b p ps = true → q ∈ ps → levIn b q.1 ps = q.2
  | _, [], q, _, hq => by cases hq
  | p, (a, v) :: ps, q, hp, hq => by
    simp only [partsOk, Bool.and_eq_true, decide_eq_true_eq] at hp
    rcases List.mem_cons.1 hq with rfl | hq
    · simp [levIn]
    · have := (partsOk_mem hp.2 q hq).2.2.2
      have e : ¬ a = q.1 := by omega
      simp only [levIn, if_neg e]
      exact levIn_part hp.2 hq
/-- What is made so is what the levels make. -/
theorem okL_mk {k : Lab} {g : Int → Int} {gs : List Int} (hk : okL k) (hss : SS gs) (hg : ∀ x, lev k x = g x) (hc : ∀ x, x ∉ gs → g x = k.base) : mkParts k.base g gs = k.parts := by
  refine parts_mk hk.2 hss (fun q hq => ?_) (fun x _ hn => ?_)
  · have h1 : lev k q.1 = q.2 := levIn_part hk.2 hq
    refine ⟨Classical.byContradiction fun hn => ?_, by rw [← hg, h1]⟩
    have h2 := hc q.1 hn
    rw [← hg, h1] at h2
    exact (partsOk_mem hk.2 q hq).2.2.1 h2
  · rw [← hg]; exact levIn_none hn
theorem keepL_stars {l : Lab} (h : labOk l = true) : keepL l 4 (l.parts.map (·.1)) (fun _ => 4) = (starsL l).1 ∧ (starsL l).2 = true := by
  have ho : ∀ x ∈ l.parts.map (·.1), hOk x = true := fun x hx => by obtain ⟨q, hq, rfl⟩ := List.mem_map.1 hx; exact (partsOk_mem (labOk_partsOk h) q hq).1
  have hk := keepL_ok (l := l) (b := 4) (f := fun _ => 4) rfl ho (fun _ _ => rfl)
  have hb : (keepL l 4 (l.parts.map (·.1)) (fun _ => 4)).base = star l.base := keepL_base
  have hg : ∀ x, lev (keepL l 4 (l.parts.map (·.1)) (fun _ => 4)) x = star (lev l x) := fun x => by
    rw [keepL_lev]
    split
    · rfl
    · rename_i e; rw [lev_none e]; rfl
  have hm := okL_mk hk (rises_map (labOk_partsOk h)) hg (fun x hx => by rw [lev_none hx, hb])
  have hlen : (mkParts (star l.base) (fun h => star (lev l h)) (l.parts.map (·.1))).length ≤ 8 := by
    have h1 := mkParts_length (star l.base) (fun h => star (lev l h)) (l.parts.map (·.1))
    have h2 := labOk_short h
    rw [List.length_map] at h1; omega
  rw [hb] at hm
  rw [hm] at hlen
  have hs := ofLev_short hm hlen
  unfold starsL
  rw [if_pos h, hs]
  refine ⟨?_, rfl⟩
  rw [← hb]
/-- What has been heard, of one level. -/
def heardLev (has clear eff : Int) : Int := max eff (min has clear)
theorem heardLev_lv {a b c : Int} (h : lvOk a = true) (k : lvOk b = true) (j : lvOk c = true) : lvOk (heardLev a b c) = true := lvOk_max j (lvOk_min h k)
/-- The handles of three labels, as they come. -/
def hs21 (l m n : Lab) : List Int := hs2 l m ++ n.parts.map (·.1)
theorem mem_hs21 (l m n : Lab) (x : Int) : x ∈ hs21 l m n ↔ x ∈ hs3 l m n := by unfold hs21; rw [List.mem_append, mem_hs2, mem_hs3]
theorem hs21_ok {l m n : Lab} (h : labOk l = true) (k : labOk m = true) (j : labOk n = true) : ∀ x ∈ hs21 l m n, hOk x = true := fun x hx => hs3_ok h k j x ((mem_hs21 l m n x).1 hx)
theorem hs21_length (l m n : Lab) : (hs21 l m n).length ≤ l.parts.length + m.parts.length + n.parts.length := by
  have := hs2_length l m
  unfold hs21; simp; omega
def keepT (l m n : Lab) : Lab := keepL l (heardLev l.base m.base n.base) (hs21 l m n) (fun h => heardLev (lev l h) (lev m h) (lev n h))
theorem keepT_taint {l m n : Lab} (h : labOk l = true) (k : labOk m = true) (j : labOk n = true) : taintL l m n = if 8 < (keepT l m n).parts.length then (noLab, false) else (keepT l m n, true) := by
  have hk : okL (keepT l m n) := keepL_ok (heardLev_lv (labOk_base_of h) (labOk_base_of k) (labOk_base_of j)) (hs21_ok h k j) (fun x _ => heardLev_lv (lev_lv h x) (lev_lv k x) (lev_lv j x))
  have hb : (keepT l m n).base = taintLev l.base m.base n.base := keepL_base
  have hg : ∀ x, lev (keepT l m n) x = taintLev (lev l x) (lev m x) (lev n x) := fun x => by
    unfold keepT
    rw [keepL_lev]
    split
    · rfl
    · rename_i e
      rw [mem_hs21, mem_hs3, not_or, not_or] at e
      rw [lev_none e.1.1, lev_none e.1.2, lev_none e.2]; rfl
  have hm := okL_mk hk (hs3_ss l m n) hg (fun x e => by
    rw [mem_hs3, not_or, not_or] at e
    rw [lev_none e.1.1, lev_none e.1.2, lev_none e.2, hb])
  rw [hb] at hm
  rw [taintL_yes h k j]
  split
  · rename_i e; exact ofLev_long hm e
  · rename_i e
    rw [ofLev_short hm (by omega), ← hb]
end Go.Proofs.Ytjdnobihhkmmpaa
