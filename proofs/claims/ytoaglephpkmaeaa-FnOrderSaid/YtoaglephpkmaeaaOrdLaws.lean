/-
  What chapters 3 and 4 promise, as plain data. No program, no memory.
-/
import Derived.Test.YtoaglephpkmaeaaOrdPure2
namespace Go.Proofs.Ytoaglephpkmaeaa
set_option maxRecDepth 100000

theorem atMost_join {a b j : Lab} (h : joinL a b = (j, true)) : atMost a j = true ∧ atMost b j = true ∧ ∀ c, atMost a c = true → atMost b c = true → atMost j c = true := by
  obtain ⟨h1, h2, h3, -, h5⟩ := joinL_law h
  refine ⟨(atMost_iff h1 h3).2 fun x => ?_, (atMost_iff h2 h3).2 fun x => ?_, fun c k1 k2 => ?_⟩
  · rw [h5]; omega
  · rw [h5]; omega
  · obtain ⟨-, c1, c2⟩ := atMost_of k1
    obtain ⟨-, -, c3⟩ := atMost_of k2
    exact (atMost_iff h3 c1).2 fun x => by rw [h5]; have := c2 x; have := c3 x; omega
theorem atMost_meet {a b m : Lab} (h : meetL a b = (m, true)) : atMost m a = true ∧ atMost m b = true ∧ ∀ c, atMost c a = true → atMost c b = true → atMost c m = true := by
  obtain ⟨h1, h2, h3, -, h5⟩ := meetL_law h
  refine ⟨(atMost_iff h3 h1).2 fun x => ?_, (atMost_iff h3 h2).2 fun x => ?_, fun c k1 k2 => ?_⟩
  · rw [h5]; omega
  · rw [h5]; omega
  · obtain ⟨c1, -, c2⟩ := atMost_of k1
    obtain ⟨-, -, c3⟩ := atMost_of k2
    exact (atMost_iff c1 h3).2 fun x => by rw [h5]; have := c2 x; have := c3 x; omega
theorem atMost_trans {a b c : Lab} (h : atMost a b = true) (k : atMost b c = true) : atMost a c = true := by
  obtain ⟨h1, -, h3⟩ := atMost_of h
  obtain ⟨-, k2, k3⟩ := atMost_of k
  exact (atMost_iff h1 k2).2 fun x => Int.le_trans (h3 x) (k3 x)
theorem atMost_antisymm {a b : Lab} (h : atMost a b = true) (k : atMost b a = true) : a = b := by
  obtain ⟨h1, h2, h3⟩ := atMost_of h
  obtain ⟨-, -, k3⟩ := atMost_of k
  exact lab_ext h1 h2 fun x => by have := h3 x; have := k3 x; omega

theorem handlesOf_hs2 {l m : Lab} (h : labOk l = true) (k : labOk m = true) : handlesOf l m = hs2 l m := handlesOf_yes h k
/-- Who is tainted keeps his stars, and has heard of what came in. -/
theorem taint_level {a b c x : Lab} (h : taintL a b c = (x, true)) (y : Int) (hy : y ∈ handlesOf a x) : (levelOf a y = 0 ∧ levelOf x y = 0) ∨ (levelOf a y ≠ 0 ∧ levelOf c y ≤ levelOf x y) := by
  obtain ⟨h1, h2, h3, h4, -, h6⟩ := taintL_law h
  rw [handlesOf_hs2 h1 h4] at hy
  have hh := hs2_ok h1 h4 y hy
  rw [levelOf_yes h1 hh, levelOf_yes h4 hh, levelOf_yes h3 hh, h6]
  unfold taintLev
  split
  · rename_i e; exact .inl ⟨e, rfl⟩
  · rename_i e; exact .inr ⟨e, by omega⟩
theorem plain_lev {b x : Int} (h : lvOk b = true) : lev (plainL b) x = b := by rw [plainL_yes h]; rfl
theorem plain_ok {b : Int} (h : lvOk b = true) : labOk (plainL b) = true := by rw [plainL_yes h]; simp [labOk, h, partsOk]
theorem taint_plain {a : Lab} (h : labOk a = true) : taintL a (plainL 4) (plainL 0) = (a, true) := by
  have h4 : lvOk 4 = true := rfl
  have h0 : lvOk 0 = true := rfl
  rw [taintL_yes h (plain_ok h4) (plain_ok h0)]
  have e : ∀ n, lvOk n = true → taintLev n 4 0 = n := fun n hn => by have := of_lvOk hn; unfold taintLev; split <;> omega
  have eb : taintLev a.base (plainL 4).base (plainL 0).base = a.base := by rw [plainL_yes h4, plainL_yes h0]; exact e _ (labOk_base_of h)
  have ef : (fun y => taintLev (lev a y) (lev (plainL 4) y) (lev (plainL 0) y)) = lev a := funext fun y => by rw [plain_lev h4, plain_lev h0]; exact e _ (lev_lv h y)
  rw [eb, ef]
  have hm := lab_mk (hs := hs3 a (plainL 4) (plainL 0)) h (hs3_ss _ _ _) (fun y hy => (mem_hs3 _ _ _ y).2 (.inl (.inl hy)))
  exact ofLev_short hm (labOk_short h)
end Go.Proofs.Ytoaglephpkmaeaa
