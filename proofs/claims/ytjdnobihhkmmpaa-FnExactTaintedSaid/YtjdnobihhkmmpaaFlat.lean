/-
  Rows of structs of plain cells, as lists of cells: reading one element, and filling a row element by element. No program in sight.
-/
import Derived.Test.YtjdnobihhkmmpaaMem
import Derived.Laws.OwnMore
import Derived.Deep.Draws
namespace Go.Proofs.Ytjdnobihhkmmpaa
set_option maxRecDepth 100000
open Go.RowKit

/-- The cells of a list of elements, each of s cells. -/
def flat {α : Type} (enc : α → List Value) (xs : List α) : List Value := xs.flatMap enc

section
variable {α : Type} {enc : α → List Value} {s : Nat}

theorem flat_length (hs : ∀ x, (enc x).length = s) (xs : List α) : (flat enc xs).length = xs.length * s := by
  induction xs with
  | nil => simp [flat]
  | cons x xs ih => simp only [flat, List.flatMap_cons, List.length_append, List.length_cons] at ih ⊢; rw [ih, hs, Nat.succ_mul]; omega

theorem flat_at (hs : ∀ x, (enc x).length = s) (xs : List α) {k i : Nat} {x : α} (h : xs[k]? = some x) (hi : i < s) : (flat enc xs)[k * s + i]? = (enc x)[i]? := by
  induction xs generalizing k with
  | nil => cases h
  | cons y xs ih =>
    cases k with
    | zero =>
      cases h
      simp only [flat, List.flatMap_cons, Nat.zero_mul, Nat.zero_add]
      rw [List.getElem?_append_left (by rw [hs]; exact hi)]
    | succ k =>
      simp only [flat, List.flatMap_cons]
      rw [List.getElem?_append_right (by rw [hs, Nat.succ_mul]; omega), hs, show (k + 1) * s + i - s = k * s + i by rw [Nat.succ_mul]; omega]
      exact ih (by simpa using h)

theorem flat_append (xs ys : List α) : flat enc (xs ++ ys) = flat enc xs ++ flat enc ys := by simp [flat]
theorem flat_take (hs : ∀ x, (enc x).length = s) (xs : List α) (k : Nat) : flat enc (xs.take k) = (flat enc xs).take (k * s) := by
  induction xs generalizing k with
  | nil => simp [flat]
  | cons x xs ih =>
    cases k with
    | zero => simp [flat]
    | succ k =>
      have := ih k
      simp only [flat, List.take_succ_cons, List.flatMap_cons] at this ⊢
      have e : List.take ((k + 1) * s) (enc x) = enc x := List.take_of_length_le (by rw [hs, Nat.succ_mul]; omega)
      rw [this, List.take_append, hs, show (k + 1) * s - s = k * s by rw [Nat.succ_mul]; omega, e]
theorem flat_drop (hs : ∀ x, (enc x).length = s) (xs : List α) (k : Nat) : flat enc (xs.drop k) = (flat enc xs).drop (k * s) := by
  induction xs generalizing k with
  | nil => simp [flat]
  | cons x xs ih =>
    cases k with
    | zero => simp [flat]
    | succ k =>
      have := ih k
      simp only [flat, List.drop_succ_cons, List.flatMap_cons] at this ⊢
      have e : List.drop ((k + 1) * s) (enc x) = [] := List.drop_eq_nil_of_le (by rw [hs, Nat.succ_mul]; omega)
      rw [this, List.drop_append, hs, show (k + 1) * s - s = k * s by rw [Nat.succ_mul]; omega, e]
      simp

/-- Stores, one behind the other. -/
def setAll (cur : List Value) (o : Nat) : List Value → List Value
  | [] => cur
  | v :: vs => setAll (cur.set o v) (o + 1) vs
theorem setAll_length (vs cur : List Value) (o : Nat) : (setAll cur o vs).length = cur.length := by
  induction vs generalizing cur o with
  | nil => rfl
  | cons v vs ih => simp only [setAll]; rw [ih]; simp
theorem setAll_at (vs cur : List Value) (o j : Nat) (h : o + vs.length ≤ cur.length) : (setAll cur o vs)[j]? = if o ≤ j ∧ j < o + vs.length then vs[j - o]? else cur[j]? := by
  induction vs generalizing cur o with
  | nil => simp only [setAll, List.length_nil]; rw [if_neg (by omega)]
  | cons v vs ih =>
    simp only [setAll]
    rw [ih _ _ (by simpa [Nat.add_assoc, Nat.add_comm 1] using h)]
    by_cases e : j = o
    · subst e
      rw [if_neg (by omega), if_pos (by simp), List.getElem?_set_self (by simp at h; omega)]
      simp
    · by_cases k : o + 1 ≤ j ∧ j < o + 1 + vs.length
      · rw [if_pos k, if_pos (by simp; omega), show j - o = (j - (o + 1)) + 1 by omega]
        simp
      · rw [if_neg k, if_neg (by simp; omega), List.getElem?_set_ne (by omega)]

/-- The first k elements stand in the row. -/
def Pre (enc : α → List Value) (s : Nat) (cur : List Value) (xs : List α) (k : Nat) : Prop := cur.length = xs.length * s ∧ ∀ j, j < k * s → cur[j]? = (flat enc xs)[j]?
theorem Pre.zero {cur : List Value} {xs : List α} (h : cur.length = xs.length * s) : Pre enc s cur xs 0 := ⟨h, fun j hj => absurd hj (by simp)⟩
theorem Pre.succ (hs : ∀ x, (enc x).length = s) {cur : List Value} {xs : List α} {k : Nat} {x : α} (h : Pre enc s cur xs k) (hx : xs[k]? = some x) : Pre enc s (setAll cur (k * s) (enc x)) xs (k + 1) := by
  have hk : k < xs.length := by rcases Nat.lt_or_ge k xs.length with h | h; exact h; rw [List.getElem?_eq_none h] at hx; cases hx
  have hm : (k + 1) * s ≤ xs.length * s := Nat.mul_le_mul_right _ hk
  rw [Nat.succ_mul] at hm
  refine ⟨by rw [setAll_length]; exact h.1, fun j hj => ?_⟩
  rw [Nat.succ_mul] at hj
  rw [setAll_at _ _ _ _ (by rw [hs, h.1]; exact hm), hs]
  by_cases c : k * s ≤ j ∧ j < k * s + s
  · rw [if_pos c]
    have := flat_at hs xs hx (i := j - k * s) (by omega)
    rw [show k * s + (j - k * s) = j by omega] at this
    exact this.symm
  · rw [if_neg c]
    exact h.2 j (by omega)
theorem Pre.done (hs : ∀ x, (enc x).length = s) {cur : List Value} {xs : List α} {k : Nat} (h : Pre enc s cur xs k) (hk : xs.length ≤ k) : cur = flat enc xs := by
  apply List.ext_getElem?
  intro j
  by_cases c : j < k * s
  · exact h.2 j c
  · have := Nat.mul_le_mul_right s hk
    rw [List.getElem?_eq_none (by rw [h.1]; omega), List.getElem?_eq_none (by rw [flat_length hs]; omega)]
end

theorem At.take {w : World} {A : Option Addr} {xs : List Value} (h : At w A xs) (k : Nat) : At w A (xs.take k) := fun hx => by
  obtain ⟨b, o, rfl, hc⟩ := h (by rw [List.length_take] at hx; omega)
  refine ⟨b, o, rfl, fun j u hj => ?_⟩
  rw [List.getElem?_take] at hj
  split at hj
  · exact hc j u hj
  · cases hj
theorem At.drop {w : World} {b o : Nat} {xs : List Value} (h : At w (some ⟨b, o, none⟩) xs) (k : Nat) : At w (some ⟨b, o + k, none⟩) (xs.drop k) := fun hx => by
  obtain ⟨b', o', he, hc⟩ := h (by rw [List.length_drop] at hx; omega)
  cases he
  refine ⟨b, o + k, rfl, fun j u hj => ?_⟩
  rw [List.getElem?_drop] at hj
  rw [Nat.add_assoc]
  exact hc _ u hj
theorem At.one {w : World} {b : Nat} {vs : List Value} (h : ∀ j u, vs[j]? = some u → w.cell? ⟨b, j, none⟩ = some u) : At w (some ⟨b, 0, none⟩) vs := fun _ => ⟨b, 0, rfl, fun j u hj => by rw [Nat.zero_add]; exact h j u hj⟩
theorem flat_one {α : Type} {enc : α → List Value} (h : ∀ x, ∀ u ∈ enc x, u.oneCell' = true) (xs : List α) : ∀ u ∈ flat enc xs, u.oneCell' = true := fun u hu => by
  obtain ⟨x, _, hx⟩ := List.mem_flatMap.1 hu
  exact h x u hx
theorem At.new (w : World) (cs : Array Value) (t : TypeId) (n : Nat) (hn : n = w.heap.size) : At (w.alloc (.cells cs t)) (some ⟨n, 0, none⟩) cs.toList := At.one fun j u hj => by
  subst hn
  rw [World.cell?_alloc_new]
  simpa using hj
/-- A row that the call owns, kept while what was there is kept. -/
theorem own_below {w w' : World} {base : Nat} {e : TypeId} {size : Nat} {v : Value} {n : Nat} {xs : List Value} (h : w.ownsRow base e size v n xs) (hb : Below w.heap.size w w') : w'.ownsRow base e size v n xs := by
  refine ⟨h.1, ?_⟩
  rcases h.2 with hn | ⟨g, cap, cur, rfl, hbase, hgg, rest⟩
  · exact .inl hn
  · exact .inr ⟨g, cap, cur, rfl, hbase, (hb.block g (Array.getElem?_eq_some_iff.1 hgg).1).trans hgg, rest⟩
theorem own_lower {w : World} {base base' : Nat} {e : TypeId} {size : Nat} {v : Value} {n : Nat} {xs : List Value} (h : w.ownsRow base e size v n xs) (hb : base' ≤ base) : w.ownsRow base' e size v n xs := by
  refine ⟨h.1, ?_⟩
  rcases h.2 with hn | ⟨g, cap, cur, rfl, hbase, rest⟩
  · exact .inl hn
  · exact .inr ⟨g, cap, cur, rfl, by omega, rest⟩
/-- What is owned can be read. -/
theorem own_at {w : World} {base : Nat} {e : TypeId} {size : Nat} {v : Value} {n : Nat} {xs : List Value} (h : w.ownsRow base e size v n xs) : ∃ A c, v = .slice A n c ∧ n ≤ c ∧ c ≤ maxLen ∧ At w A xs := by
  have hl := h.1
  rcases h.2 with ⟨rfl, rfl⟩ | ⟨g, cap, cur, rfl, hbase, hgg, hn, hm, hs, ht⟩
  · exact ⟨none, 0, rfl, Nat.le_refl _, Nat.zero_le _, fun hx => absurd hx (by rw [hl]; simp)⟩
  · refine ⟨_, _, rfl, hn, hm, fun _ => ⟨g, 0, rfl, fun j u hu => ?_⟩⟩
    have hj : j < n * size := by
      rcases Nat.lt_or_ge j xs.length with h' | h'
      · omega
      · rw [List.getElem?_eq_none h'] at hu; cases hu
    rw [Nat.zero_add, h.cellAt j hj]
    exact hu
theorem own_read {w : World} {base : Nat} {e : TypeId} {size n c : Nat} {A : Option Addr} {xs : List Value} (h : w.ownsRow base e size (.slice A n c) n xs) : At w A xs := by
  obtain ⟨A', c', he, -, -, ha⟩ := own_at h
  simp only [Value.slice.injEq, true_and] at he
  obtain ⟨rfl, rfl⟩ := he
  exact ha
/-- A cell of an owned row: it is there, and it may be written. -/
theorem own_cell {w : World} {base : Nat} {e : TypeId} {size : Nat} {g n cap : Nat} {xs : List Value} (h : w.ownsRow base e size (.slice (some ⟨g, 0, none⟩) n cap) n xs) (j : Nat) (hj : j < n * size) :
    (∃ u, w.cell? ⟨g, j, none⟩ = some u) ∧ w.frozen? ⟨g, j, none⟩ = false :=
  ⟨⟨xs[j]'(by rw [h.1]; exact hj), by rw [h.cellAt j hj]; exact List.getElem?_eq_getElem _⟩, h.frozenAt j⟩
/-- Stores into an owned row. -/
theorem own_set1 {w : World} {base : Nat} {e : TypeId} {size : Nat} {g n cap : Nat} {xs : List Value} (h : w.ownsRow base e size (.slice (some ⟨g, 0, none⟩) n cap) n xs) (j : Nat) (u : Value) :
    (w.setCell ⟨g, j, none⟩ u).ownsRow base e size (.slice (some ⟨g, 0, none⟩) n cap) n (setAll xs j [u]) ∧ w.grownBy (w.setCell ⟨g, j, none⟩ u) (some g) := h.stored j u
theorem own_set2 {w : World} {base : Nat} {e : TypeId} {size : Nat} {g n cap : Nat} {xs : List Value} (h : w.ownsRow base e size (.slice (some ⟨g, 0, none⟩) n cap) n xs) (j : Nat) (u v : Value) :
    ((w.setCell ⟨g, j, none⟩ u).setCell ⟨g, j + 1, none⟩ v).ownsRow base e size (.slice (some ⟨g, 0, none⟩) n cap) n (setAll xs j [u, v]) :=
  ((h.stored j u).1.stored (j + 1) v).1
theorem own_set4 {w : World} {base : Nat} {e : TypeId} {size : Nat} {g n cap : Nat} {xs : List Value} (h : w.ownsRow base e size (.slice (some ⟨g, 0, none⟩) n cap) n xs) (j : Nat) (u v x y : Value) :
    ((((w.setCell ⟨g, j, none⟩ u).setCell ⟨g, j + 1, none⟩ v).setCell ⟨g, j + 1 + 1, none⟩ x).setCell ⟨g, j + 1 + 1 + 1, none⟩ y).ownsRow base e size (.slice (some ⟨g, 0, none⟩) n cap) n (setAll xs j [u, v, x, y]) :=
  ((((h.stored j u).1.stored (j + 1) v).1.stored (j + 1 + 1) x).1.stored (j + 1 + 1 + 1) y).1

/-- The call returns a new slice, a row of the call's own. -/
def RetOwn (t : TypeId) (size n : Nat) (xs : List Value) (w : World) (e : Ending) (w' : World) : Prop :=
  ∃ v, e = .returned v ∧ w'.ownsRow w.heap.size t size v n xs ∧ Below w.heap.size w w'
/-- The call writes a row's cells anew, and returns a number. -/
def RetMark (t : TypeId) (size : Nat) (v : Value) (base n : Nat) (k : Int) (xs : List Value) (w : World) (e : Ending) (w' : World) : Prop :=
  e = .returned (.int .i64 k) ∧ w'.ownsRow base t size v n xs ∧ w.grownBy w' v.ownBlock
theorem own_form {w : World} {base : Nat} {e : TypeId} {size n c : Nat} {A : Option Addr} {xs : List Value} (h : w.ownsRow base e size (.slice A n c) n xs) (hn : 0 < n) : ∃ g, A = some ⟨g, 0, none⟩ := by
  rcases h.2 with ⟨_, h0⟩ | ⟨g, cap, cur, hv, _⟩
  · omega
  · simp only [Value.slice.injEq] at hv; exact ⟨g, hv.1⟩
theorem gb_setb {w w' : World} {g i : Nat} {n c : Nat} (h : w.grownBy w' (Value.slice (some ⟨g, 0, none⟩) n c).ownBlock) (v : Value) : w.grownBy (w'.setCell ⟨g, i, none⟩ v) (Value.slice (some ⟨g, 0, none⟩) n c).ownBlock :=
  ⟨h.os, h.tape, h.output, by simpa using h.size, fun k hk hne => by rw [Below.heap_setCell _ _ _ _ (fun e => hne (by simp [Value.ownBlock, e]))]; exact h.block k hk hne⟩
theorem below_drewN {B : Nat} {a w : World} (h : Below B a w) (k : Nat) : Below B a (w.drewN k) := ⟨h.os, h.tape, h.output, h.size, h.block⟩
end Go.Proofs.Ytjdnobihhkmmpaa
