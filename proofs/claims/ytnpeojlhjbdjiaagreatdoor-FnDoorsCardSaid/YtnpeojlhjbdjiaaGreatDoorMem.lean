/-
  Texts put together: Mem, Hnd, Flat, App, Step, Late. What each proves stands ahead of it.
-/
import Derived.Below
import Derived.WalkKit
import Derived.Test.YtnpeojlhjbdjiaaGreatDoorBase
import Derived.IntWalk
import Derived.Laws.OwnMore
import Derived.Deep.Draws
import Derived.Maps.AppendAt
import Derived.Deep.RegionLaw
import Derived.OrdersHeld
import Derived.Deep.RegionHeld
/-
  Words for memory: cells behind an address, kept while their blocks are kept; a block of the call's own. No program in sight.
-/
namespace Go.Proofs.YtnpeojlhjbdjiaaGreatDoor
set_option maxRecDepth 100000
open Go.RowKit

/-- The cells behind an address (none where there are no cells). -/
def At (w : World) (A : Option Addr) (xs : List Value) : Prop :=
  0 < xs.length → ∃ b o, A = some ⟨b, o, none⟩ ∧ ∀ j u, xs[j]? = some u → w.cell? ⟨b, o + j, none⟩ = some u

theorem At.nil (w : World) (A : Option Addr) : At w A [] := fun h => absurd h (by simp)
theorem At.below {w w' : World} {A : Option Addr} {xs : List Value} (h : At w A xs) (hb : Below w.heap.size w w') : At w' A xs := fun hx => by
  obtain ⟨b, o, rfl, hc⟩ := h hx
  exact ⟨b, o, rfl, fun j u hj => (hb.cell (block_lt_of_cell (hc j u hj))).trans (hc j u hj)⟩
theorem At.alloc {w : World} {A : Option Addr} {xs : List Value} (h : At w A xs) (x : Obj) : At (w.alloc x) A xs :=
  h.below ((Below.refl _ _).alloc (Nat.le_refl _) x)
theorem At.drew {w : World} {A : Option Addr} {xs : List Value} (h : At w A xs) : At w.drew A xs := h

theorem below_undrew {B : Nat} {w w' : World} (h : Below B w.drew w') : Below B w w' := ⟨h.os, h.tape, h.output, h.size, h.block⟩
/-- Below, step by step, from one fixed beginning. -/
theorem below_more {w w1 w2 : World} (h : Below w.heap.size w w1) (k : Below w1.heap.size w1 w2) : Below w.heap.size w w2 := h.trans (k.mono h.size)

/-- Behind a call that writes nothing that was there: the old cells read as before. -/
theorem bcell {W w1 : World} (hb : Below W.heap.size W w1) : (∀ b o, b < W.heap.size → w1.cell? ⟨b, o, none⟩ = W.cell? ⟨b, o, none⟩) ∧ (∀ b o, b < W.heap.size → w1.frozen? ⟨b, o, none⟩ = W.frozen? ⟨b, o, none⟩) :=
  ⟨fun b o h => hb.cell (p := ⟨b, o, none⟩) h, fun b o h => hb.frozen (p := ⟨b, o, none⟩) h⟩

/-- The call returns this value, and writes nothing that was there. -/
def RetV (v : Value) (w : World) (e : Ending) (w' : World) : Prop := e = .returned v ∧ Below w.heap.size w w'
theorem RetV.mk {v : Value} {w w' : World} {e : Ending} (h : e = .returned v) (hb : Below w.heap.size w w') : RetV v w e w' := ⟨h, hb⟩
/-- The call returns this value, and writes nothing at all. -/
def RetS (v : Value) (w : World) (e : Ending) (w' : World) : Prop := e = .returned v ∧ w = w'
theorem RetS.mk {v : Value} {w : World} {e : Ending} (h : e = .returned v) : RetS v w e w := ⟨h, rfl⟩
theorem ret_eq {a b : Value} (h : a = b) : Ending.returned a = .returned b := by rw [h]

theorem gb_drew {w w' : World} {row : Option Nat} (h : w.grownBy w' row) : w.grownBy w'.drew row := ⟨h.os, h.tape, h.output, h.size, h.block⟩
theorem gb_set {w w' : World} {b i : Nat} (h : w.grownBy w' (some b)) (v : Value) : w.grownBy (w'.setCell ⟨b, i, none⟩ v) (some b) :=
  ⟨h.os, h.tape, h.output, by simpa using h.size, fun k hk hne => by rw [Below.heap_setCell _ _ _ _ (fun e => hne (by rw [e]))]; exact h.block k hk hne⟩
theorem gb_trans {a w w' : World} {row : Option Nat} (h : a.grownBy w row) (k : w.grownBy w' row) : a.grownBy w' row :=
  ⟨k.os.trans h.os, k.tape.trans h.tape, k.output.trans h.output, Nat.le_trans h.size k.size, fun b hb hne => (k.block b (Nat.lt_of_lt_of_le hb h.size) hne).trans (h.block b hb hne)⟩

end Go.Proofs.YtnpeojlhjbdjiaaGreatDoor

/-
  Handles as numbers: which there are, in the model.
-/
namespace Go.Proofs.YtnpeojlhjbdjiaaGreatDoor
set_option maxRecDepth 100000
open Go.RowKit

/-- A number of int64, whatever. -/
def InI64 (x : Int) : Prop := -9223372036854775808 ≤ x ∧ x ≤ 9223372036854775807
theorem InI64.wf {x : Int} (h : InI64 x) : (Lit.int .i64 x).wf = true := by
  have m : IntKind.i64.min = -9223372036854775808 := by decide
  simpa [Lit.wf, m, InI64] using h
theorem InI64.of {x : Int} (h : (Lit.int .i64 x).wf = true) : InI64 x := by
  have m : IntKind.i64.min = -9223372036854775808 := by decide
  simpa [Lit.wf, m, InI64] using h

def hOk (h : Int) : Bool := decide (0 ≤ h) && decide (h ≤ 999)
theorem of_hOk {h : Int} (k : hOk h = true) : 0 ≤ h ∧ h ≤ 999 := by simpa [hOk] using k
theorem hOk_no {h : Int} (k : h < 0 ∨ 999 < h) : hOk h = false := by simp [hOk]; omega
theorem hOk_yes {h : Int} (k : 0 ≤ h) (j : h ≤ 999) : hOk h = true := by simp [hOk, k, j]

theorem spec_handle (h : Int) (w : World) : Calls Tryz.prog 41 #[.int .i64 h] w (RetS (.bool (hOk h)) w) := by
  by_cases h0 : 0 ≤ h
  · by_cases h1 : h ≤ 999
    · have HR := Lib.hid (hOk_yes h0 h1)
      go_enter Tryz.func41, Tryz.ntmps41
      go_wp2
      go_ret
      exact .mk (by rw [HR.out]; rfl)
    · have HR := Lib.hid (hOk_no (h := h) (by omega))
      go_enter Tryz.func41, Tryz.ntmps41
      go_wp2
      go_ret
      exact .mk (by rw [HR.out]; rfl)
  · have HR := Lib.hid (hOk_no (h := h) (by omega))
    go_enter Tryz.func41, Tryz.ntmps41
    go_wp2
    go_ret
    exact .mk (by rw [HR.out]; rfl)
end Go.Proofs.YtnpeojlhjbdjiaaGreatDoor

/-
  Rows of structs of plain cells, as lists of cells: reading one element, and filling a row element by element. No program in sight.
-/
namespace Go.Proofs.YtnpeojlhjbdjiaaGreatDoor
set_option maxRecDepth 100000
open Go.RowKit

/-- The cells of a list of elements, each of s cells. -/
def flat {α : Type} (enc : α → List Value) (xs : List α) : List Value := xs.flatMap enc

section
variable {α : Type} {enc : α → List Value} {s : Nat}

theorem flat_length (hs : ∀ x, (enc x).length = s) (xs : List α) : (flat enc xs).length = xs.length * s := by
  induction xs with
  | nil => simp [flat]
  | cons x xs ih => simp only [flat, List.flatMap_cons, List.length_append, List.length_cons] at ih ⊢; rw [ih, hs, Nat.succ_mul]; omega

theorem flat_at (hs : ∀ x, (enc x).length = s) (xs : List α) {k i : Nat} {x : α} (h : xs[k]? = some x) (hi : i < s) : (flat enc xs)[k * s + i]? = (enc x)[i]? := by
  induction xs generalizing k with
  | nil => cases h
  | cons y xs ih =>
    cases k with
    | zero =>
      cases h
      simp only [flat, List.flatMap_cons, Nat.zero_mul, Nat.zero_add]
      rw [List.getElem?_append_left (by rw [hs]; exact hi)]
    | succ k =>
      simp only [flat, List.flatMap_cons]
      rw [List.getElem?_append_right (by rw [hs, Nat.succ_mul]; omega), hs, show (k + 1) * s + i - s = k * s + i by rw [Nat.succ_mul]; omega]
      exact ih (by simpa using h)

theorem flat_append (xs ys : List α) : flat enc (xs ++ ys) = flat enc xs ++ flat enc ys := by simp [flat]
theorem flat_take (hs : ∀ x, (enc x).length = s) (xs : List α) (k : Nat) : flat enc (xs.take k) = (flat enc xs).take (k * s) := by
  induction xs generalizing k with
  | nil => simp [flat]
  | cons x xs ih =>
    cases k with
    | zero => simp [flat]
    | succ k =>
      have := ih k
      simp only [flat, List.take_succ_cons, List.flatMap_cons] at this ⊢
      have e : List.take ((k + 1) * s) (enc x) = enc x := List.take_of_length_le (by rw [hs, Nat.succ_mul]; omega)
      rw [this, List.take_append, hs, show (k + 1) * s - s = k * s by rw [Nat.succ_mul]; omega, e]
theorem flat_drop (hs : ∀ x, (enc x).length = s) (xs : List α) (k : Nat) : flat enc (xs.drop k) = (flat enc xs).drop (k * s) := by
  induction xs generalizing k with
  | nil => simp [flat]
  | cons x xs ih =>
    cases k with
    | zero => simp [flat]
    | succ k =>
      have := ih k
      simp only [flat, List.drop_succ_cons, List.flatMap_cons] at this ⊢
      have e : List.drop ((k + 1) * s) (enc x) = [] := List.drop_eq_nil_of_le (by rw [hs, Nat.succ_mul]; omega)
      rw [this, List.drop_append, hs, show (k + 1) * s - s = k * s by rw [Nat.succ_mul]; omega, e]
      simp

/-- Stores, one behind the other. -/
def setAll (cur : List Value) (o : Nat) : List Value → List Value
  | [] => cur
  | v :: vs => setAll (cur.set o v) (o + 1) vs
theorem setAll_length (vs cur : List Value) (o : Nat) : (setAll cur o vs).length = cur.length := by
  induction vs generalizing cur o with
  | nil => rfl
  | cons v vs ih => simp only [setAll]; rw [ih]; simp
theorem setAll_at (vs cur : List Value) (o j : Nat) (h : o + vs.length ≤ cur.length) : (setAll cur o vs)[j]? = if o ≤ j ∧ j < o + vs.length then vs[j - o]? else cur[j]? := by
  induction vs generalizing cur o with
  | nil => simp only [setAll, List.length_nil]; rw [if_neg (by omega)]
  | cons v vs ih =>
    simp only [setAll]
    rw [ih _ _ (by simpa [Nat.add_assoc, Nat.add_comm 1] using h)]
    by_cases e : j = o
    · subst e
      rw [if_neg (by omega), if_pos (by simp), List.getElem?_set_self (by simp at h; omega)]
      simp
    · by_cases k : o + 1 ≤ j ∧ j < o + 1 + vs.length
      · rw [if_pos k, if_pos (by simp; omega), show j - o = (j - (o + 1)) + 1 by omega]
        simp
      · rw [if_neg k, if_neg (by simp; omega), List.getElem?_set_ne (by omega)]

/-- The first k elements stand in the row. -/
def Pre (enc : α → List Value) (s : Nat) (cur : List Value) (xs : List α) (k : Nat) : Prop := cur.length = xs.length * s ∧ ∀ j, j < k * s → cur[j]? = (flat enc xs)[j]?
theorem Pre.zero {cur : List Value} {xs : List α} (h : cur.length = xs.length * s) : Pre enc s cur xs 0 := ⟨h, fun j hj => absurd hj (by simp)⟩
theorem Pre.succ (hs : ∀ x, (enc x).length = s) {cur : List Value} {xs : List α} {k : Nat} {x : α} (h : Pre enc s cur xs k) (hx : xs[k]? = some x) : Pre enc s (setAll cur (k * s) (enc x)) xs (k + 1) := by
  have hk : k < xs.length := by rcases Nat.lt_or_ge k xs.length with h | h; exact h; rw [List.getElem?_eq_none h] at hx; cases hx
  have hm : (k + 1) * s ≤ xs.length * s := Nat.mul_le_mul_right _ hk
  rw [Nat.succ_mul] at hm
  refine ⟨by rw [setAll_length]; exact h.1, fun j hj => ?_⟩
  rw [Nat.succ_mul] at hj
  rw [setAll_at _ _ _ _ (by rw [hs, h.1]; exact hm), hs]
  by_cases c : k * s ≤ j ∧ j < k * s + s
  · rw [if_pos c]
    have := flat_at hs xs hx (i := j - k * s) (by omega)
    rw [show k * s + (j - k * s) = j by omega] at this
    exact this.symm
  · rw [if_neg c]
    exact h.2 j (by omega)
theorem Pre.done (hs : ∀ x, (enc x).length = s) {cur : List Value} {xs : List α} {k : Nat} (h : Pre enc s cur xs k) (hk : xs.length ≤ k) : cur = flat enc xs := by
  apply List.ext_getElem?
  intro j
  by_cases c : j < k * s
  · exact h.2 j c
  · have := Nat.mul_le_mul_right s hk
    rw [List.getElem?_eq_none (by rw [h.1]; omega), List.getElem?_eq_none (by rw [flat_length hs]; omega)]
end

theorem At.take {w : World} {A : Option Addr} {xs : List Value} (h : At w A xs) (k : Nat) : At w A (xs.take k) := fun hx => by
  obtain ⟨b, o, rfl, hc⟩ := h (by rw [List.length_take] at hx; omega)
  refine ⟨b, o, rfl, fun j u hj => ?_⟩
  rw [List.getElem?_take] at hj
  split at hj
  · exact hc j u hj
  · cases hj
theorem At.drop {w : World} {b o : Nat} {xs : List Value} (h : At w (some ⟨b, o, none⟩) xs) (k : Nat) : At w (some ⟨b, o + k, none⟩) (xs.drop k) := fun hx => by
  obtain ⟨b', o', he, hc⟩ := h (by rw [List.length_drop] at hx; omega)
  cases he
  refine ⟨b, o + k, rfl, fun j u hj => ?_⟩
  rw [List.getElem?_drop] at hj
  rw [Nat.add_assoc]
  exact hc _ u hj
theorem At.one {w : World} {b : Nat} {vs : List Value} (h : ∀ j u, vs[j]? = some u → w.cell? ⟨b, j, none⟩ = some u) : At w (some ⟨b, 0, none⟩) vs := fun _ => ⟨b, 0, rfl, fun j u hj => by rw [Nat.zero_add]; exact h j u hj⟩
theorem flat_one {α : Type} {enc : α → List Value} (h : ∀ x, ∀ u ∈ enc x, u.oneCell' = true) (xs : List α) : ∀ u ∈ flat enc xs, u.oneCell' = true := fun u hu => by
  obtain ⟨x, _, hx⟩ := List.mem_flatMap.1 hu
  exact h x u hx
theorem At.new (w : World) (cs : Array Value) (t : TypeId) (n : Nat) (hn : n = w.heap.size) : At (w.alloc (.cells cs t)) (some ⟨n, 0, none⟩) cs.toList := At.one fun j u hj => by
  subst hn
  rw [World.cell?_alloc_new]
  simpa using hj
/-- A row that the call owns, kept while what was there is kept. -/
theorem own_below {w w' : World} {base : Nat} {e : TypeId} {size : Nat} {v : Value} {n : Nat} {xs : List Value} (h : w.ownsRow base e size v n xs) (hb : Below w.heap.size w w') : w'.ownsRow base e size v n xs := by
  refine ⟨h.1, ?_⟩
  rcases h.2 with hn | ⟨g, cap, cur, rfl, hbase, hgg, rest⟩
  · exact .inl hn
  · exact .inr ⟨g, cap, cur, rfl, hbase, (hb.block g (Array.getElem?_eq_some_iff.1 hgg).1).trans hgg, rest⟩
theorem own_lower {w : World} {base base' : Nat} {e : TypeId} {size : Nat} {v : Value} {n : Nat} {xs : List Value} (h : w.ownsRow base e size v n xs) (hb : base' ≤ base) : w.ownsRow base' e size v n xs := by
  refine ⟨h.1, ?_⟩
  rcases h.2 with hn | ⟨g, cap, cur, rfl, hbase, rest⟩
  · exact .inl hn
  · exact .inr ⟨g, cap, cur, rfl, by omega, rest⟩
/-- What is owned can be read. -/
theorem own_at {w : World} {base : Nat} {e : TypeId} {size : Nat} {v : Value} {n : Nat} {xs : List Value} (h : w.ownsRow base e size v n xs) : ∃ A c, v = .slice A n c ∧ n ≤ c ∧ c ≤ maxLen ∧ At w A xs := by
  have hl := h.1
  rcases h.2 with ⟨rfl, rfl⟩ | ⟨g, cap, cur, rfl, hbase, hgg, hn, hm, hs, ht⟩
  · exact ⟨none, 0, rfl, Nat.le_refl _, Nat.zero_le _, fun hx => absurd hx (by rw [hl]; simp)⟩
  · refine ⟨_, _, rfl, hn, hm, fun _ => ⟨g, 0, rfl, fun j u hu => ?_⟩⟩
    have hj : j < n * size := by
      rcases Nat.lt_or_ge j xs.length with h' | h'
      · omega
      · rw [List.getElem?_eq_none h'] at hu; cases hu
    rw [Nat.zero_add, h.cellAt j hj]
    exact hu
theorem own_read {w : World} {base : Nat} {e : TypeId} {size n c : Nat} {A : Option Addr} {xs : List Value} (h : w.ownsRow base e size (.slice A n c) n xs) : At w A xs := by
  obtain ⟨A', c', he, -, -, ha⟩ := own_at h
  simp only [Value.slice.injEq, true_and] at he
  obtain ⟨rfl, rfl⟩ := he
  exact ha
/-- A cell of an owned row: it is there, and it may be written. -/
theorem own_cell {w : World} {base : Nat} {e : TypeId} {size : Nat} {g n cap : Nat} {xs : List Value} (h : w.ownsRow base e size (.slice (some ⟨g, 0, none⟩) n cap) n xs) (j : Nat) (hj : j < n * size) :
    (∃ u, w.cell? ⟨g, j, none⟩ = some u) ∧ w.frozen? ⟨g, j, none⟩ = false :=
  ⟨⟨xs[j]'(by rw [h.1]; exact hj), by rw [h.cellAt j hj]; exact List.getElem?_eq_getElem _⟩, h.frozenAt j⟩
/-- Stores into an owned row. -/
theorem own_set1 {w : World} {base : Nat} {e : TypeId} {size : Nat} {g n cap : Nat} {xs : List Value} (h : w.ownsRow base e size (.slice (some ⟨g, 0, none⟩) n cap) n xs) (j : Nat) (u : Value) :
    (w.setCell ⟨g, j, none⟩ u).ownsRow base e size (.slice (some ⟨g, 0, none⟩) n cap) n (setAll xs j [u]) ∧ w.grownBy (w.setCell ⟨g, j, none⟩ u) (some g) := h.stored j u
theorem own_set2 {w : World} {base : Nat} {e : TypeId} {size : Nat} {g n cap : Nat} {xs : List Value} (h : w.ownsRow base e size (.slice (some ⟨g, 0, none⟩) n cap) n xs) (j : Nat) (u v : Value) :
    ((w.setCell ⟨g, j, none⟩ u).setCell ⟨g, j + 1, none⟩ v).ownsRow base e size (.slice (some ⟨g, 0, none⟩) n cap) n (setAll xs j [u, v]) :=
  ((h.stored j u).1.stored (j + 1) v).1
theorem own_set4 {w : World} {base : Nat} {e : TypeId} {size : Nat} {g n cap : Nat} {xs : List Value} (h : w.ownsRow base e size (.slice (some ⟨g, 0, none⟩) n cap) n xs) (j : Nat) (u v x y : Value) :
    ((((w.setCell ⟨g, j, none⟩ u).setCell ⟨g, j + 1, none⟩ v).setCell ⟨g, j + 1 + 1, none⟩ x).setCell ⟨g, j + 1 + 1 + 1, none⟩ y).ownsRow base e size (.slice (some ⟨g, 0, none⟩) n cap) n (setAll xs j [u, v, x, y]) :=
  ((((h.stored j u).1.stored (j + 1) v).1.stored (j + 1 + 1) x).1.stored (j + 1 + 1 + 1) y).1

/-- The call returns a new slice, a row of the call's own. -/
def RetOwn (t : TypeId) (size n : Nat) (xs : List Value) (w : World) (e : Ending) (w' : World) : Prop :=
  ∃ v, e = .returned v ∧ w'.ownsRow w.heap.size t size v n xs ∧ Below w.heap.size w w'
/-- The call writes a row's cells anew, and returns a number. -/
def RetMark (t : TypeId) (size : Nat) (v : Value) (base n : Nat) (k : Int) (xs : List Value) (w : World) (e : Ending) (w' : World) : Prop :=
  e = .returned (.int .i64 k) ∧ w'.ownsRow base t size v n xs ∧ w.grownBy w' v.ownBlock
theorem own_form {w : World} {base : Nat} {e : TypeId} {size n c : Nat} {A : Option Addr} {xs : List Value} (h : w.ownsRow base e size (.slice A n c) n xs) (hn : 0 < n) : ∃ g, A = some ⟨g, 0, none⟩ := by
  rcases h.2 with ⟨_, h0⟩ | ⟨g, cap, cur, hv, _⟩
  · omega
  · simp only [Value.slice.injEq] at hv; exact ⟨g, hv.1⟩
theorem gb_setb {w w' : World} {g i : Nat} {n c : Nat} (h : w.grownBy w' (Value.slice (some ⟨g, 0, none⟩) n c).ownBlock) (v : Value) : w.grownBy (w'.setCell ⟨g, i, none⟩ v) (Value.slice (some ⟨g, 0, none⟩) n c).ownBlock :=
  ⟨h.os, h.tape, h.output, by simpa using h.size, fun k hk hne => by rw [Below.heap_setCell _ _ _ _ (fun e => hne (by simp [Value.ownBlock, e]))]; exact h.block k hk hne⟩
theorem below_drewN {B : Nat} {a w : World} (h : Below B a w) (k : Nat) : Below B a (w.drewN k) := ⟨h.os, h.tape, h.output, h.size, h.block⟩
end Go.Proofs.YtnpeojlhjbdjiaaGreatDoor

/-
  Appending to a row of the call's own, from whatever source (nil, empty or not). No program in sight.
-/
namespace Go.Proofs.YtnpeojlhjbdjiaaGreatDoor
set_option maxRecDepth 100000
open Go.RowKit

/-- What appending needs to know of the element type. -/
structure Elem (P : Program) (t e : TypeId) (size bytes : Nat) : Prop where
  under : P.underlying t = some (.slice e)
  info : ∃ i z, P.info? e = some i ∧ i.zero = some z ∧ i.size = size ∧ i.bytes = bytes ∧ z.cells.size = size
  pos : 0 < size

theorem Elem.of_info {P : Program} {t e : TypeId} {z : Value} {size bytes : Nat} (h : (P.info? e).map (fun i => (i.zero, i.size, i.bytes)) = some (some z, size, bytes)) (ht : P.underlying t = some (.slice e)) (hz : z.cells.size = size) (hp : 0 < size) : Elem P t e size bytes := by
  obtain ⟨i, hi, hz0, hz1, hz2⟩ := info_parts h
  exact ⟨ht, ⟨i, z, hi, hz0, hz1, hz2, hz⟩, hp⟩
/-- What append leaves: a longer row of the call's own; new blocks, and writes to the elder row alone. -/
structure Apped (base : Nat) (e : TypeId) (size : Nat) (v : Value) (n : Nat) (xs : List Value) (w : World) (v' : Value) (w' : World) : Prop where
  own : w'.ownsRow base e size v' n xs
  grown : w.grownBy w' v.ownBlock
  block : v'.ownBlock = v.ownBlock ∨ v'.ownBlock = some w.heap.size

theorem app_run {P : Program} {t e : TypeId} {size bytes : Nat} (E : Elem P t e size bytes) (w : World) (base : Nat) (ty : TypeId) {v : Value} {n : Nat} {xs : List Value} (hown : w.ownsRow base e size v n xs)
    (A : Option Addr) (m c : Nat) (ys : List Value) (hat : At w A ys) (hl : ys.length = m * size) (h1 : ∀ u ∈ ys, u.oneCell' = true) (hb : (n + m) * bytes ≤ 140737488355328) (hm : n + m ≤ 1099511627776) (hbase : base ≤ w.heap.size) :
    ∃ v' w', (Builtin.append_ #[t, t] ty #[v, .slice A m c]).run P w = .ok v' w' ∧ Apped base e size v (n + m) (xs ++ ys) w v' w' := by
  obtain ⟨ht, ⟨i, z, hi, hz, hs, hby, hzs⟩, hp⟩ := E
  cases A with
  | none =>
    have hm0 : m = 0 := by
      rcases Nat.eq_zero_or_pos m with h | h
      · exact h
      · obtain ⟨b, o, he, _⟩ := hat (by rw [hl]; exact Nat.mul_pos h hp)
        cases he
    subst hm0
    obtain rfl : ys = [] := List.eq_nil_of_length_eq_zero (by simpa using hl)
    refine ⟨v, w, ?_, ⟨by simpa using hown, World.grownBy.refl _ _, .inl rfl⟩⟩
    rcases hown.2 with ⟨rfl, rfl⟩ | ⟨g, cap, cur, rfl, _, _, hnc, _⟩
    · simp [Builtin.append_, run_underlying ht, sizeOf, typeInfo, hi, Builtin.lenOf, Builtin.firstCells]
    · simp [Builtin.append_, run_underlying ht, sizeOf, typeInfo, hi, Builtin.lenOf, Builtin.firstCells, hnc, storeCells]
  | some a =>
    have hc : ∀ j u, ys[j]? = some u → w.cell? (a.add j) = some u := fun j u hj => by
      have hpos : 0 < ys.length := by
        rcases Nat.eq_zero_or_pos ys.length with h | h
        · rw [List.getElem?_eq_none (by omega)] at hj; cases hj
        · exact h
      obtain ⟨b, o, he, hcell⟩ := hat hpos
      cases he
      rw [Go.WideShapes.add_plain]
      exact hcell j u hj
    obtain ⟨v', w', hr, h2, h3, _, h5⟩ := run_append_own_at (P := P) w base t ty e i z size bytes ht hi hz hs hby hzs hp v n xs hown a m c ys hl hc h1 (by unfold maxLen; omega) hb hbase
    exact ⟨v', w', hr, h2, h3, h5⟩

theorem wpList_app {P : Program} {t e : TypeId} {size bytes : Nat} (E : Elem P t e size bytes) {w : World} {ops : Array Oper} {rest : List Oper} {o : Oper} {a : Act} {Q : Exit → Act → World → Prop} (hgd : o.guard = none) (s x : Operand)
    (ho : o.op = .call { callee := .builtin .append, args := #[s, x], argTypes := #[t, t] })
    (base : Nat) (v : Value) (n : Nat) (xs : List Value) (hs : a.eval s = v) (hown : w.ownsRow base e size v n xs)
    (A : Option Addr) (m c : Nat) (ys : List Value) (hx : a.eval x = .slice A m c) (hat : At w A ys) (hl : ys.length = m * size) (h1 : ∀ u ∈ ys, u.oneCell' = true) (hb : (n + m) * bytes ≤ 140737488355328) (hm : n + m ≤ 1099511627776) (hbase : base ≤ w.heap.size)
    (h : ∀ v' w', Apped base e size v (n + m) (xs ++ ys) w v' w' → wpList P ops Q rest (a.put o.dst v') w') : wpList P ops Q (o :: rest) a w := by
  obtain ⟨v', w', hr, hap⟩ := app_run E w base o.type hown A m c ys hat hl h1 hb hm hbase
  refine wpList_plain hgd fun K hK => ?_
  unfold Oper.wp execOp
  simp only [ho, resolve, invoke, builtin, Sem.run_bind, Sem.run_pure, Result.andThen_ok, List.map_toArray, List.map_cons, List.map_nil, hs, hx, hr]
  exact hK _ _ (h v' w' hap)
end Go.Proofs.YtnpeojlhjbdjiaaGreatDoor

/-
  Appending to a row of the call's own, inside a region that draws its order. No program in sight.
-/
namespace Go.Proofs.YtnpeojlhjbdjiaaGreatDoor
set_option maxRecDepth 100000
open Go.RowKit

/-- append, inside a region that draws its order. -/
theorem step_app {P : Program} {t e : TypeId} {size bytes : Nat} (E : Elem P t e size bytes) {w : World} {ops : Array Oper} {o : Oper} {a : Act} {K : Act → World → Prop} {Q : Exit → Act → World → Prop} {El : Prop} (hgd : o.guard = none) (s x : Operand)
    (ho : o.op = .call { callee := .builtin .append, args := #[s, x], argTypes := #[t, t] })
    (base : Nat) (v : Value) (n : Nat) (xs : List Value) (hs : a.eval s = v) (hown : w.ownsRow base e size v n xs)
    (A : Option Addr) (m c : Nat) (ys : List Value) (hx : a.eval x = .slice A m c) (hat : At w A ys) (hl : ys.length = m * size) (h1 : ∀ u ∈ ys, u.oneCell' = true) (hb : (n + m) * bytes ≤ 140737488355328) (hm : n + m ≤ 1099511627776) (hbase : base ≤ w.heap.size)
    (h : ∀ v' w', Apped base e size v (n + m) (xs ++ ys) w v' w' → K (a.put o.dst v') w') :
    if Region.wanted o (yielded ops a.tmps) = true then Oper.wp P o a w K Q else El := by
  have hw : Region.wanted o (yielded ops a.tmps) = true := by simp [Region.wanted, hgd]
  rw [if_pos hw]
  obtain ⟨v', w', hr, hap⟩ := app_run E w base o.type hown A m c ys hat hl h1 hb hm hbase
  unfold Oper.wp execOp
  simp only [ho, resolve, invoke, builtin, Sem.run_bind, Sem.run_pure, Result.andThen_ok, List.map_toArray, List.map_cons, List.map_nil, hs, hx, hr]
  exact h v' w' hap
end Go.Proofs.YtnpeojlhjbdjiaaGreatDoor

/-
  A region that draws its order and ends in a store to a cell that it loads: the condition on the world is asked only behind those operations that may come before the late ones. No program in sight.
-/
namespace Go.Proofs.YtnpeojlhjbdjiaaGreatDoor
set_option maxRecDepth 100000
open Go

/-- Operation j waits for i, at one or more removes. -/
inductive Waits (md : Region.Mode) (ops : Array Oper) (i : Nat) : Nat → Prop where
  | one {j : Nat} {o : Oper} {e : Edge} (hj : ops[j]? = some o) (he : e ∈ o.after) (hb : Region.binds md e = true) (hi : e.on = i) : Waits md ops i j
  | more {j : Nat} {o : Oper} {e : Edge} (hj : ops[j]? = some o) (he : e ∈ o.after) (hb : Region.binds md e = true) (hi : Waits md ops i e.on) : Waits md ops i j
def waitsB (md : Region.Mode) (ops : Array Oper) (i : Nat) : Nat → Nat → Bool
  | 0, _ => false
  | f + 1, j => ((ops[j]?).map fun o => o.after.toList.any fun e => Region.binds md e && (decide (e.on = i) || waitsB md ops i f e.on)).getD false
theorem waitsB_spec {md : Region.Mode} {ops : Array Oper} {i : Nat} : ∀ {f j : Nat}, waitsB md ops i f j = true → Waits md ops i j
  | 0, _, h => by simp [waitsB] at h
  | f + 1, j, h => by
    simp only [waitsB] at h
    cases ho : ops[j]? with
    | none => rw [ho] at h; simp at h
    | some o =>
      rw [ho] at h
      simp only [Option.map_some, Option.getD_some, List.any_eq_true, Bool.and_eq_true, Bool.or_eq_true, decide_eq_true_eq] at h
      obtain ⟨e, he, hb, h | h⟩ := h
      · exact .one ho (by simpa using he) hb h
      · exact .more ho (by simpa using he) hb (waitsB_spec h)
/-- Whatever is listed has all listed that it waits for. -/
def Closed (md : Region.Mode) (ops : Array Oper) (listed : Array Bool) : Prop := ∀ j o, ops[j]? = some o → listed.getD j false = true → ∀ e ∈ o.after, Region.binds md e = true → listed.getD e.on false = true
def closedB (md : Region.Mode) (ops : Array Oper) (listed : Array Bool) : Bool :=
  (List.range ops.size).all fun j => !listed.getD j false || ((ops[j]?).map fun o => o.after.toList.all fun e => !Region.binds md e || listed.getD e.on false).getD true
theorem closedB_spec {md : Region.Mode} {ops : Array Oper} {listed : Array Bool} (h : closedB md ops listed = true) : Closed md ops listed := fun j o hj hl e he hb => by
  have h1 := List.all_eq_true.1 h j (List.mem_range.2 (Array.getElem?_eq_some_iff.1 hj).1)
  rw [hl, hj] at h1
  simp only [Bool.not_true, Bool.false_or, Option.map_some, Option.getD_some, List.all_eq_true] at h1
  have h2 := h1 e (by simpa using he)
  rw [hb] at h2
  simpa using h2
theorem Waits.unlisted {md : Region.Mode} {ops : Array Oper} {i j : Nat} {listed : Array Bool} (hc : Closed md ops listed) (hi : ¬ listed.getD i false = true) (h : Waits md ops i j) : ¬ listed.getD j false = true := by
  induction h with
  | one hj he hb hi' => exact fun hl => hi (by have := hc _ _ hj hl _ he hb; rwa [hi'] at this)
  | more hj he hb _ ih => exact fun hl => ih (hc _ _ hj hl _ he hb)
theorem Waits.not_ready {md : Region.Mode} {ops : Array Oper} {i j : Nat} {listed : Array Bool} (hc : Closed md ops listed) (hi : ¬ listed.getD i false = true) (h : Waits md ops i j) : ¬ j ∈ Region.ready md ops listed := fun hr => by
  obtain ⟨-, o, ho, hall⟩ := mem_ready.1 hr
  cases h with
  | one hj he hb hi' => rw [hj] at ho; cases ho; exact hi (by have := hall _ he hb; rwa [hi'] at this)
  | more hj he hb h' => rw [hj] at ho; cases ho; exact h'.unlisted hc hi (hall _ he hb)
theorem Closed.add {md : Region.Mode} {ops : Array Oper} {j : Nat} {listed : Array Bool} (hc : Closed md ops listed) (hr : j ∈ Region.ready md ops listed) : Closed md ops (listed.setIfInBounds j true) := fun k o hk hl e he hb => by
  obtain ⟨-, oj, hoj, hall⟩ := mem_ready.1 hr
  by_cases q : j = k
  · subst q
    rw [hk] at hoj; cases hoj
    exact getD_set_true (hall e he hb)
  · rw [getD_set_ne false q] at hl
    exact getD_set_true (hc k o hk hl e he hb)

section
variable {P : Program} {ops : Array Oper} {Q : Exit → Act → World → Prop} {md : Region.Mode} {S : World → Prop} {n : Nat}
/-- Whatever order; S holds behind whatever is no late operation. -/
def WpLate (P : Program) (md : Region.Mode) (ops : Array Oper) (Q : Exit → Act → World → Prop) (S : World → Prop) (n : Nat) : Nat → Array Bool → Act → World → Prop
  | 0, listed, a, w => Region.ready md ops listed = [] ∧ Q .normal a w
  | f + 1, listed, a, w => (Region.ready md ops listed = [] → Q .normal a w) ∧
      ∀ i ∈ Region.ready md ops listed, wpOp P ops Q i (fun a' w' => (i < n → S w') ∧ WpLate P md ops Q S n f (listed.setIfInBounds i true) a' w') a w
theorem WpLate.any : ∀ (f : Nat) (listed : Array Bool) (a : Act) (w : World), WpLate P md ops Q S n f listed a w → wpAny P md ops Q f listed a w
  | 0, _, _, _, h => h
  | f + 1, _, _, _, h => ⟨h.1, fun i hi => wpOp_mono (fun a' w' k => WpLate.any f _ a' w' k.2) (h.2 i hi)⟩
theorem not_listed {i : Nat} {listed : Array Bool} (hr : i ∈ Region.ready md ops listed) : ¬ listed.getD i false = true := fun hc => by
  have h0 := (mem_ready.1 hr).1
  rcases Nat.lt_or_ge i listed.size with k | k
  · simp [k] at h0 hc; rw [h0] at hc; cases hc
  · simp [Array.getElem?_eq_none k] at hc
/-- What yields under S may be taken first: T is S, where the late operations wait for it; or nothing at all is asked, where it is a late one itself. -/
theorem WpLate.first {T : World → Prop} {i : Nat} {oi : Oper} {v : Value} (hi : ops[i]? = some oi) (hT : (∀ w, T w → i < n → S w) ∧ ((∀ w, T w) ∨ ((∀ w, S w → T w) ∧ ∀ j, j < ops.size → n ≤ j → Waits md ops i j)))
    (hsel : ∀ (j : Nat) (o : Oper) cs b, ops[j]? = some o → o.op ≠ .select cs b) (hQ : ∀ c a w, Q (.panic c) (a.put oi.dst v) w → Q (.panic c) a w)
    (f : Nat) : ∀ (listed : Array Bool) (a : Act) (w : World), Closed md ops listed → (∀ j oj, ops[j]? = some oj → j ≠ i → listed.getD j true = false → (∀ e ∈ oj.after, Region.binds md e = true → e.on ≠ i) → oi.apart ops oj = true) →
      i ∈ Region.ready md ops listed → YieldsIf P ops T oi v a → T w → WpLate P md ops Q S n f (listed.setIfInBounds i true) (a.put oi.dst v) w → WpLate P md ops Q S n (f + 1) listed a w := by
  induction f with
  | zero =>
    intro listed a w _ _ hr hy hS H
    refine ⟨fun h => (by rw [h] at hr; cases hr), fun j hj => ?_⟩
    by_cases e : j = i
    · subst e; exact hy.wpOp hi hS ⟨fun k => hT.1 _ hS k, H⟩
    · have := ready_mono hj e
      rw [H.1] at this
      cases this
  | succ f ih =>
    intro listed a w hc hfree hr hy hS H
    refine ⟨fun h => (by rw [h] at hr; cases hr), fun j hj => ?_⟩
    by_cases e : j = i
    · subst e; exact hy.wpOp hi hS ⟨fun k => hT.1 _ hS k, H⟩
    · obtain ⟨hun, oj, hoj, hall⟩ := mem_ready.1 hj
      have hts : ∀ w', (j < n → S w') → T w' := fun w' hs => by
        rcases hT.2 with k | ⟨k1, k2⟩
        · exact k w'
        · rcases Nat.lt_or_ge j n with q | q
          · exact k1 _ (hs q)
          · exact absurd hj ((k2 j (Array.getElem?_eq_some_iff.1 hoj).1 q).not_ready hc (not_listed hr))
      have hno : ∀ d ∈ oj.after, Region.binds md d = true → d.on ≠ i := fun d hd hb he => not_listed hr (by have := hall d hd hb; rw [he] at this; exact this)
      have k2 := wpOp_putIf hoj (hfree j oj hoj e hun hno) (fun cs b => hsel i oi cs b hi) (fun cs b => hsel j oj cs b hoj) hQ hy (H.2 j (ready_mono hj e))
      refine wpOp_mono (fun a' w' k => ⟨k.2.1, ih (listed.setIfInBounds j true) a' w' (hc.add hj) (fun x ox hx hxi hux hnx => hfree x ox hx hxi ?_ hnx) (ready_mono hr (Ne.symm e)) k.1 (hts w' k.2.1) ?_⟩) k2
      · by_cases q : j = x
        · subst q; exact hun
        · rwa [getD_set_ne true q] at hux
      · rw [Array.setIfInBounds_comm _ _ e]
        exact k.2.2
/-- An early one, under S. -/
theorem WpLate.take {i : Nat} {oi : Oper} {v : Value} {f : Nat} {listed : Array Bool} {a : Act} {w : World} (hi : ops[i]? = some oi) (hl : ((List.range ops.size).all fun j => decide (j < n) || waitsB md ops i ops.size j) = true) (hc : closedB md ops listed = true) (hs : Region.noSelect ops = true) (hf : Region.free md ops listed i = true) (hr : (Region.ready md ops listed).contains i = true)
    (hQ : ∀ c a w, Q (.panic c) (a.put oi.dst v) w → Q (.panic c) a w) (hy : YieldsIf P ops S oi v a) (hS : S w) (h : WpLate P md ops Q S n f (listed.setIfInBounds i true) (a.put oi.dst v) w) : WpLate P md ops Q S n (f + 1) listed a w :=
  WpLate.first (T := S) hi ⟨fun _ k _ => k, .inr ⟨fun _ k => k, fun j hj hn => by
    have h1 := List.all_eq_true.1 hl j (List.mem_range.2 hj)
    simp only [Bool.or_eq_true, decide_eq_true_eq] at h1
    rcases h1 with h1 | h1
    · omega
    · exact waitsB_spec h1⟩⟩ (Region.noSelect_spec hs) hQ f listed a w (closedB_spec hc) (Region.free_spec hi hf) (by simpa using hr) hy hS h
/-- A late one, in whatever world. -/
theorem WpLate.takeLate {i : Nat} {oi : Oper} {v : Value} {f : Nat} {listed : Array Bool} {a : Act} {w : World} (hi : ops[i]? = some oi) (hl : decide (n ≤ i) = true) (hc : closedB md ops listed = true) (hs : Region.noSelect ops = true) (hf : Region.free md ops listed i = true) (hr : (Region.ready md ops listed).contains i = true)
    (hQ : ∀ c a w, Q (.panic c) (a.put oi.dst v) w → Q (.panic c) a w) (hy : YieldsIf P ops (fun _ => True) oi v a) (h : WpLate P md ops Q S n f (listed.setIfInBounds i true) (a.put oi.dst v) w) : WpLate P md ops Q S n (f + 1) listed a w :=
  WpLate.first (T := fun _ => True) hi ⟨fun _ _ k => absurd k (Nat.not_lt.2 (by simpa using hl)), .inl fun _ => trivial⟩ (Region.noSelect_spec hs) hQ f listed a w (closedB_spec hc) (Region.free_spec hi hf) (by simpa using hr) hy trivial h
/-- More may be asked. -/
theorem WpLate.mono {S' : World → Prop} (hS : ∀ w, S' w → S w) : ∀ {f : Nat} {listed : Array Bool} {a : Act} {w : World}, WpLate P md ops Q S' n f listed a w → WpLate P md ops Q S n f listed a w
  | 0, _, _, _, h => h
  | _ + 1, _, _, _, h => ⟨h.1, fun i hi => wpOp_mono (fun _ _ k => ⟨fun q => hS _ (k.1 q), WpLate.mono hS k.2⟩) (h.2 i hi)⟩
/-- Each of these comes up next. -/
def LateEach (P : Program) (md : Region.Mode) (ops : Array Oper) (Q : Exit → Act → World → Prop) (S : World → Prop) (n f : Nat) (listed : Array Bool) (a : Act) (w : World) (rs : List Nat) : Prop :=
  ∀ i ∈ rs, wpOp P ops Q i (fun a' w' => (i < n → S w') ∧ WpLate P md ops Q S n f (listed.setIfInBounds i true) a' w') a w
theorem LateEach.nil {f : Nat} {listed : Array Bool} {a : Act} {w : World} : LateEach P md ops Q S n f listed a w [] := fun _ h => by cases h
theorem LateEach.cons {f : Nat} {listed : Array Bool} {a : Act} {w : World} {i : Nat} {o : Oper} {rs : List Nat} (ho : ops[i]? = some o)
    (h : ∀ K' : Act → World → Prop, Shut (∀ a w, (i < n → S w) → WpLate P md ops Q S n f (listed.setIfInBounds i true) a w → K' a w) → if Region.wanted o (yielded ops a.tmps) = true then Oper.wp P o a w K' Q else K' (a.put o.dst undef) w)
    (hs : LateEach P md ops Q S n f listed a w rs) : LateEach P md ops Q S n f listed a w (i :: rs) := fun j hj => by
  rcases List.mem_cons.1 hj with rfl | hj
  · exact wpOp_step ho (fun K' hK => h K' (fun a w hS hW => hK a w ⟨hS, hW⟩))
  · exact hs j hj
theorem WpLate.each {rs : List Nat} {f : Nat} {listed : Array Bool} {a : Act} {w : World} (hr : Region.ready md ops listed = rs) (hne : rs ≠ []) (h : LateEach P md ops Q S n f listed a w rs) : WpLate P md ops Q S n (f + 1) listed a w :=
  ⟨fun h0 => absurd (hr ▸ h0) hne, hr ▸ h⟩
theorem WpLate.done {listed : Array Bool} {a : Act} {w : World} (hr : Region.ready md ops listed = []) (h : Q .normal a w) : ∀ f, WpLate P md ops Q S n f listed a w
  | 0 => ⟨hr, h⟩
  | _ + 1 => ⟨fun _ => h, by rw [hr]; simp⟩
theorem wp_region_late {id : Nat} {a : Act} {w : World} (n : Nat) (S : World → Prop) (hm : P.follows .mixedOrders = true) (h : WpLate P .any ops Q S n ops.size (Array.replicate ops.size false) a w.drew) : (Code.region id ops true).wp P Q a w :=
  wp_region_any hm (WpLate.any _ _ _ _ h)
end
end Go.Proofs.YtnpeojlhjbdjiaaGreatDoor
