/-
  A region that draws its order and ends in a store to a cell that it loads: the condition on the world is asked only behind those operations that may come before the late ones. No program in sight.
-/
import Derived.OrdersHeld
import Derived.Deep.RegionHeld
namespace Go.Proofs.Ytjdnobihhkmmpaa
set_option maxRecDepth 100000
open Go

/-- Operation j waits for i, at one or more removes. -/
inductive Waits (md : Region.Mode) (ops : Array Oper) (i : Nat) : Nat → Prop where
  | one {j : Nat} {o : Oper} {e : Edge} (hj : ops[j]? = some o) (he : e ∈ o.after) (hb : Region.binds md e = true) (hi : e.on = i) : Waits md ops i j
  | more {j : Nat} {o : Oper} {e : Edge} (hj : ops[j]? = some o) (he : e ∈ o.after) (hb : Region.binds md e = true) (hi : Waits md ops i e.on) : Waits md ops i j
def waitsB (md : Region.Mode) (ops : Array Oper) (i : Nat) : Nat → Nat → Bool
  | 0, _ => false
  | f + 1, j => ((ops[j]?).map fun o => o.after.toList.any fun e => Region.binds md e && (decide (e.on = i) || waitsB md ops i f e.on)).getD false
theorem waitsB_spec {md : Region.Mode} {ops : Array Oper} {i : Nat} : ∀ {f j : Nat}, waitsB md ops i f j = true → Waits md ops i j
  | 0, _, h => by simp [waitsB] at h
  | f + 1, j, h => by
    simp only [waitsB] at h
    cases ho : ops[j]? with
    | none => rw [ho] at h; simp at h
    | some o =>
      rw [ho] at h
      simp only [Option.map_some, Option.getD_some, List.any_eq_true, Bool.and_eq_true, Bool.or_eq_true, decide_eq_true_eq] at h
      obtain ⟨e, he, hb, h | h⟩ := h
      · exact .one ho (by simpa using he) hb h
      · exact .more ho (by simpa using he) hb (waitsB_spec h)
/-- Whatever is listed has all listed that it waits for. -/
def Closed (md : Region.Mode) (ops : Array Oper) (listed : Array Bool) : Prop := ∀ j o, ops[j]? = some o → listed.getD j false = true → ∀ e ∈ o.after, Region.binds md e = true → listed.getD e.on false = true
def closedB (md : Region.Mode) (ops : Array Oper) (listed : Array Bool) : Bool :=
  (List.range ops.size).all fun j => !listed.getD j false || ((ops[j]?).map fun o => o.after.toList.all fun e => !Region.binds md e || listed.getD e.on false).getD true
theorem closedB_spec {md : Region.Mode} {ops : Array Oper} {listed : Array Bool} (h : closedB md ops listed = true) : Closed md ops listed := fun j o hj hl e he hb => by
  have h1 := List.all_eq_true.1 h j (List.mem_range.2 (Array.getElem?_eq_some_iff.1 hj).1)
  rw [hl, hj] at h1
  simp only [Bool.not_true, Bool.false_or, Option.map_some, Option.getD_some, List.all_eq_true] at h1
  have h2 := h1 e (by simpa using he)
  rw [hb] at h2
  simpa using h2
theorem Waits.unlisted {md : Region.Mode} {ops : Array Oper} {i j : Nat} {listed : Array Bool} (hc : Closed md ops listed) (hi : ¬ listed.getD i false = true) (h : Waits md ops i j) : ¬ listed.getD j false = true := by
  induction h with
  | one hj he hb hi' => exact fun hl => hi (by have := hc _ _ hj hl _ he hb; rwa [hi'] at this)
  | more hj he hb _ ih => exact fun hl => ih (hc _ _ hj hl _ he hb)
theorem Waits.not_ready {md : Region.Mode} {ops : Array Oper} {i j : Nat} {listed : Array Bool} (hc : Closed md ops listed) (hi : ¬ listed.getD i false = true) (h : Waits md ops i j) : ¬ j ∈ Region.ready md ops listed := fun hr => by
  obtain ⟨-, o, ho, hall⟩ := mem_ready.1 hr
  cases h with
  | one hj he hb hi' => rw [hj] at ho; cases ho; exact hi (by have := hall _ he hb; rwa [hi'] at this)
  | more hj he hb h' => rw [hj] at ho; cases ho; exact h'.unlisted hc hi (hall _ he hb)
theorem Closed.add {md : Region.Mode} {ops : Array Oper} {j : Nat} {listed : Array Bool} (hc : Closed md ops listed) (hr : j ∈ Region.ready md ops listed) : Closed md ops (listed.setIfInBounds j true) := fun k o hk hl e he hb => by
  obtain ⟨-, oj, hoj, hall⟩ := mem_ready.1 hr
  by_cases q : j = k
  · subst q
    rw [hk] at hoj; cases hoj
    exact getD_set_true (hall e he hb)
  · rw [getD_set_ne false q] at hl
    exact getD_set_true (hc k o hk hl e he hb)

section
variable {P : Program} {ops : Array Oper} {Q : Exit → Act → World → Prop} {md : Region.Mode} {S : World → Prop} {n : Nat}
/-- Whatever order; S holds behind whatever is no late operation. -/
def WpLate (P : Program) (md : Region.Mode) (ops : Array Oper) (Q : Exit → Act → World → Prop) (S : World → Prop) (n : Nat) : Nat → Array Bool → Act → World → Prop
  | 0, listed, a, w => Region.ready md ops listed = [] ∧ Q .normal a w
  | f + 1, listed, a, w => (Region.ready md ops listed = [] → Q .normal a w) ∧
      ∀ i ∈ Region.ready md ops listed, wpOp P ops Q i (fun a' w' => (i < n → S w') ∧ WpLate P md ops Q S n f (listed.setIfInBounds i true) a' w') a w
theorem WpLate.any : ∀ (f : Nat) (listed : Array Bool) (a : Act) (w : World), WpLate P md ops Q S n f listed a w → wpAny P md ops Q f listed a w
  | 0, _, _, _, h => h
  | f + 1, _, _, _, h => ⟨h.1, fun i hi => wpOp_mono (fun a' w' k => WpLate.any f _ a' w' k.2) (h.2 i hi)⟩
theorem not_listed {i : Nat} {listed : Array Bool} (hr : i ∈ Region.ready md ops listed) : ¬ listed.getD i false = true := fun hc => by
  have h0 := (mem_ready.1 hr).1
  rcases Nat.lt_or_ge i listed.size with k | k
  · simp [k] at h0 hc; rw [h0] at hc; cases hc
  · simp [Array.getElem?_eq_none k] at hc
/-- What yields under S may be taken first: T is S, where the late operations wait for it; or nothing at all is asked, where it is a late one itself. -/
theorem WpLate.first {T : World → Prop} {i : Nat} {oi : Oper} {v : Value} (hi : ops[i]? = some oi) (hT : (∀ w, T w → i < n → S w) ∧ ((∀ w, T w) ∨ ((∀ w, S w → T w) ∧ ∀ j, j < ops.size → n ≤ j → Waits md ops i j)))
    (hsel : ∀ (j : Nat) (o : Oper) cs b, ops[j]? = some o → o.op ≠ .select cs b) (hQ : ∀ c a w, Q (.panic c) (a.put oi.dst v) w → Q (.panic c) a w)
    (f : Nat) : ∀ (listed : Array Bool) (a : Act) (w : World), Closed md ops listed → (∀ j oj, ops[j]? = some oj → j ≠ i → listed.getD j true = false → (∀ e ∈ oj.after, Region.binds md e = true → e.on ≠ i) → oi.apart ops oj = true) →
      i ∈ Region.ready md ops listed → YieldsIf P ops T oi v a → T w → WpLate P md ops Q S n f (listed.setIfInBounds i true) (a.put oi.dst v) w → WpLate P md ops Q S n (f + 1) listed a w := by
  induction f with
  | zero =>
    intro listed a w _ _ hr hy hS H
    refine ⟨fun h => (by rw [h] at hr; cases hr), fun j hj => ?_⟩
    by_cases e : j = i
    · subst e; exact hy.wpOp hi hS ⟨fun k => hT.1 _ hS k, H⟩
    · have := ready_mono hj e
      rw [H.1] at this
      cases this
  | succ f ih =>
    intro listed a w hc hfree hr hy hS H
    refine ⟨fun h => (by rw [h] at hr; cases hr), fun j hj => ?_⟩
    by_cases e : j = i
    · subst e; exact hy.wpOp hi hS ⟨fun k => hT.1 _ hS k, H⟩
    · obtain ⟨hun, oj, hoj, hall⟩ := mem_ready.1 hj
      have hts : ∀ w', (j < n → S w') → T w' := fun w' hs => by
        rcases hT.2 with k | ⟨k1, k2⟩
        · exact k w'
        · rcases Nat.lt_or_ge j n with q | q
          · exact k1 _ (hs q)
          · exact absurd hj ((k2 j (Array.getElem?_eq_some_iff.1 hoj).1 q).not_ready hc (not_listed hr))
      have hno : ∀ d ∈ oj.after, Region.binds md d = true → d.on ≠ i := fun d hd hb he => not_listed hr (by have := hall d hd hb; rw [he] at this; exact this)
      have k2 := wpOp_putIf hoj (hfree j oj hoj e hun hno) (fun cs b => hsel i oi cs b hi) (fun cs b => hsel j oj cs b hoj) hQ hy (H.2 j (ready_mono hj e))
      refine wpOp_mono (fun a' w' k => ⟨k.2.1, ih (listed.setIfInBounds j true) a' w' (hc.add hj) (fun x ox hx hxi hux hnx => hfree x ox hx hxi ?_ hnx) (ready_mono hr (Ne.symm e)) k.1 (hts w' k.2.1) ?_⟩) k2
      · by_cases q : j = x
        · subst q; exact hun
        · rwa [getD_set_ne true q] at hux
      · rw [Array.setIfInBounds_comm _ _ e]
        exact k.2.2
/-- An early one, under S. -/
theorem WpLate.take {i : Nat} {oi : Oper} {v : Value} {f : Nat} {listed : Array Bool} {a : Act} {w : World} (hi : ops[i]? = some oi) (hl : ((List.range ops.size).all fun j => decide (j < n) || waitsB md ops i ops.size j) = true) (hc : closedB md ops listed = true) (hs : Region.noSelect ops = true) (hf : Region.free md ops listed i = true) (hr : (Region.ready md ops listed).contains i = true)
    (hQ : ∀ c a w, Q (.panic c) (a.put oi.dst v) w → Q (.panic c) a w) (hy : YieldsIf P ops S oi v a) (hS : S w) (h : WpLate P md ops Q S n f (listed.setIfInBounds i true) (a.put oi.dst v) w) : WpLate P md ops Q S n (f + 1) listed a w :=
  WpLate.first (T := S) hi ⟨fun _ k _ => k, .inr ⟨fun _ k => k, fun j hj hn => by
    have h1 := List.all_eq_true.1 hl j (List.mem_range.2 hj)
    simp only [Bool.or_eq_true, decide_eq_true_eq] at h1
    rcases h1 with h1 | h1
    · omega
    · exact waitsB_spec h1⟩⟩ (Region.noSelect_spec hs) hQ f listed a w (closedB_spec hc) (Region.free_spec hi hf) (by simpa using hr) hy hS h
/-- A late one, in whatever world. -/
theorem WpLate.takeLate {i : Nat} {oi : Oper} {v : Value} {f : Nat} {listed : Array Bool} {a : Act} {w : World} (hi : ops[i]? = some oi) (hl : decide (n ≤ i) = true) (hc : closedB md ops listed = true) (hs : Region.noSelect ops = true) (hf : Region.free md ops listed i = true) (hr : (Region.ready md ops listed).contains i = true)
    (hQ : ∀ c a w, Q (.panic c) (a.put oi.dst v) w → Q (.panic c) a w) (hy : YieldsIf P ops (fun _ => True) oi v a) (h : WpLate P md ops Q S n f (listed.setIfInBounds i true) (a.put oi.dst v) w) : WpLate P md ops Q S n (f + 1) listed a w :=
  WpLate.first (T := fun _ => True) hi ⟨fun _ _ k => absurd k (Nat.not_lt.2 (by simpa using hl)), .inl fun _ => trivial⟩ (Region.noSelect_spec hs) hQ f listed a w (closedB_spec hc) (Region.free_spec hi hf) (by simpa using hr) hy trivial h
/-- More may be asked. -/
theorem WpLate.mono {S' : World → Prop} (hS : ∀ w, S' w → S w) : ∀ {f : Nat} {listed : Array Bool} {a : Act} {w : World}, WpLate P md ops Q S' n f listed a w → WpLate P md ops Q S n f listed a w
  | 0, _, _, _, h => h
  | _ + 1, _, _, _, h => ⟨h.1, fun i hi => wpOp_mono (fun _ _ k => ⟨fun q => hS _ (k.1 q), WpLate.mono hS k.2⟩) (h.2 i hi)⟩
/-- Each of these comes up next. -/
def LateEach (P : Program) (md : Region.Mode) (ops : Array Oper) (Q : Exit → Act → World → Prop) (S : World → Prop) (n f : Nat) (listed : Array Bool) (a : Act) (w : World) (rs : List Nat) : Prop :=
  ∀ i ∈ rs, wpOp P ops Q i (fun a' w' => (i < n → S w') ∧ WpLate P md ops Q S n f (listed.setIfInBounds i true) a' w') a w
theorem LateEach.nil {f : Nat} {listed : Array Bool} {a : Act} {w : World} : LateEach P md ops Q S n f listed a w [] := fun _ h => by cases h
theorem LateEach.cons {f : Nat} {listed : Array Bool} {a : Act} {w : World} {i : Nat} {o : Oper} {rs : List Nat} (ho : ops[i]? = some o)
    (h : ∀ K' : Act → World → Prop, Shut (∀ a w, (i < n → S w) → WpLate P md ops Q S n f (listed.setIfInBounds i true) a w → K' a w) → if Region.wanted o (yielded ops a.tmps) = true then Oper.wp P o a w K' Q else K' (a.put o.dst undef) w)
    (hs : LateEach P md ops Q S n f listed a w rs) : LateEach P md ops Q S n f listed a w (i :: rs) := fun j hj => by
  rcases List.mem_cons.1 hj with rfl | hj
  · exact wpOp_step ho (fun K' hK => h K' (fun a w hS hW => hK a w ⟨hS, hW⟩))
  · exact hs j hj
theorem WpLate.each {rs : List Nat} {f : Nat} {listed : Array Bool} {a : Act} {w : World} (hr : Region.ready md ops listed = rs) (hne : rs ≠ []) (h : LateEach P md ops Q S n f listed a w rs) : WpLate P md ops Q S n (f + 1) listed a w :=
  ⟨fun h0 => absurd (hr ▸ h0) hne, hr ▸ h⟩
theorem WpLate.done {listed : Array Bool} {a : Act} {w : World} (hr : Region.ready md ops listed = []) (h : Q .normal a w) : ∀ f, WpLate P md ops Q S n f listed a w
  | 0 => ⟨hr, h⟩
  | _ + 1 => ⟨fun _ => h, by rw [hr]; simp⟩
theorem wp_region_late {id : Nat} {a : Act} {w : World} (n : Nat) (S : World → Prop) (hm : P.follows .mixedOrders = true) (h : WpLate P .any ops Q S n ops.size (Array.replicate ops.size false) a w.drew) : (Code.region id ops true).wp P Q a w :=
  wp_region_any hm (WpLate.any _ _ _ _ h)
end
end Go.Proofs.Ytjdnobihhkmmpaa
