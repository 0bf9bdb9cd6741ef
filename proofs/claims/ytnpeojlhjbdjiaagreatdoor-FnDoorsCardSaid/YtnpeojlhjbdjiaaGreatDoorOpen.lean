/-
  Arguments of the laws, opened: what a reading as data gives of a slice of flat structs, of a label.
-/
import Derived.Test.YtnpeojlhjbdjiaaGreatDoorBase
import Derived.Test.YtnpeojlhjbdjiaaGreatDoorLab
import Derived.Deep.Slices
import Derived.ChangeSame
import Derived.Deep.RegionHeld3
import Derived.WalkSpells
namespace Go.Proofs.YtnpeojlhjbdjiaaGreatDoor
set_option maxRecDepth 100000
open Go.RowKit Go.ChangeShapes Go.WideShapes Go.Deep

section
variable {H : Type} {enc : TypeId × Value → H} {P : Program} {W : World} {rd : Nat → Bool} {held : Bool}

/-- A slice of elements that are read one by one. -/
theorem slice_of_trod {t e : TypeId} {size fuel : Nat} {cs : List Value} {x : DataW H × List MemPlace} (ht : P.underlying t = some (.slice e)) (hC : P.cellsOf e = size) (h : DataW.trod enc P W 0 rd held fuel t cs = some x) :
    ∃ A n c, cs = [.slice A n c] ∧ n ≤ c ∧ c ≤ maxLen ∧ (0 < n → 0 < size → ∃ b o, A = some ⟨b, o, none⟩ ∧
      ∀ i, i < n → ∃ es y m, es.length = size ∧ DataW.trod enc P W 0 rd held m e es = some y ∧ ∀ j u, es[j]? = some u → W.cell? ⟨b, o + i * size + j, none⟩ = some u) := by
  rcases open_slice ht h with ⟨rfl, _⟩ | ⟨a, len, cap, m, n, D, Pl, rfl, _, hl, hm, hmm, _, hi⟩
  · exact ⟨none, 0, 0, rfl, Nat.le_refl _, Nat.zero_le _, fun h => absurd h (by omega)⟩
  · refine ⟨some a, len, cap, rfl, hl, hm, fun hn hs => ?_⟩
    have hml : len ≤ m := by rw [hmm]; split <;> omega
    have hspot : a.spot = none := by
      obtain ⟨cs', hc, _⟩ := hi 0 (by omega)
      obtain ⟨_, hcl, hat⟩ := World.cells?_some hc
      have h0 := hat 0 (by rw [hC]; exact hs)
      rw [List.getElem?_eq_getElem (by rw [hcl, hC]; exact hs)] at h0
      have := World.cell?_spot h0
      simpa [Addr.add] using this
    obtain ⟨b, o, sp⟩ := a
    subst hspot
    refine ⟨b, o, rfl, fun i hin => ?_⟩
    obtain ⟨cs', hc, hel⟩ := hi i (by omega)
    obtain ⟨_, hcl, hat⟩ := World.cells?_some hc
    refine ⟨cs', _, _, by rw [hcl, hC], hel, fun j u hj => ?_⟩
    have hjl : j < P.cellsOf e := by
      rcases Nat.lt_or_ge j cs'.length with h | h
      · omega
      · rw [List.getElem?_eq_none h] at hj; cases hj
    have := hat j hjl
    rw [hj, hC, add_plain, add_plain] at this
    exact this

/-- A slice of flat elements. -/
theorem flat_of_trod {α : Type} {en : α → List Value} {t e : TypeId} {size fuel : Nat} {cs : List Value} {x : DataW H × List MemPlace} (ht : P.underlying t = some (.slice e)) (hC : P.cellsOf e = size) (hs : 0 < size) (hen : ∀ x, (en x).length = size)
    (hel : ∀ (m : Nat) (es : List Value) (y : DataW H × List MemPlace), es.length = size → DataW.trod enc P W 0 rd held m e es = some y → ∃ z : α, es = en z) (h : DataW.trod enc P W 0 rd held fuel t cs = some x) :
    ∃ A n c, ∃ xs : List α, cs = [.slice A n c] ∧ xs.length = n ∧ n ≤ c ∧ c ≤ maxLen ∧ At W A (flat en xs) := by
  obtain ⟨A, n, c, rfl, hl, hm, hat⟩ := slice_of_trod ht hC h
  by_cases hn : 0 < n
  · obtain ⟨b, o, rfl, hi⟩ := hat hn hs
    have hz : ∀ i : Fin n, ∃ z : α, ∀ j u, (en z)[j]? = some u → W.cell? ⟨b, o + i.val * size + j, none⟩ = some u := fun i => by
      obtain ⟨es, y, m, hlen, hy, hc⟩ := hi i.val i.isLt
      obtain ⟨z, rfl⟩ := hel m es y hlen hy
      exact ⟨z, hc⟩
    obtain ⟨f, hf⟩ := Classical.axiomOfChoice hz
    refine ⟨_, n, c, List.ofFn f, rfl, by simp, hl, hm, fun _ => ⟨b, o, rfl, fun j u hj => ?_⟩⟩
    have hjl : j < n * size := by
      rcases Nat.lt_or_ge j (flat en (List.ofFn f)).length with h | h
      · rw [flat_length hen] at h; simpa using h
      · rw [List.getElem?_eq_none h] at hj; cases hj
    have hq : j / size < n := (Nat.div_lt_iff_lt_mul hs).2 hjl
    have hjm : j / size * size + j % size = j := by rw [Nat.mul_comm]; exact Nat.div_add_mod j size
    have := flat_at hen (List.ofFn f) (k := j / size) (i := j % size) (x := f ⟨j / size, hq⟩) (by simp [hq]) (Nat.mod_lt _ hs)
    rw [hjm, hj] at this
    have hc := hf ⟨j / size, hq⟩ (j % size) u this.symm
    simp only [] at hc
    rw [Nat.add_assoc, hjm] at hc
    exact hc
  · obtain rfl : n = 0 := by omega
    exact ⟨A, 0, c, [], rfl, rfl, hl, hm, .nil _ _⟩

/-- A struct of two int64. -/
theorem two_of_trod {t i : TypeId} {f0 f1 : Field} {fuel : Nat} {cs : List Value} {x : DataW H × List MemPlace} (ht : P.underlying t = some (.struct #[f0, f1])) (hi : P.underlying i = some (.int .i64)) (h0 : f0.type = i) (h1 : f1.type = i) (o0 : f0.offset = 0) (o1 : f1.offset = 1) (hc : P.cellsOf i = 1) (hl : cs.length = 2)
    (h : DataW.trod enc P W 0 rd held fuel t cs = some x) : ∃ z : Int × Int, cs = encPart z := by
  obtain ⟨y0, y1, n, -, -, k0, k1⟩ := trod_struct2 ht h
  rw [h0, o0, hc] at k0
  rw [h1, o1, hc] at k1
  obtain ⟨a, e0, -, -⟩ := DataW.trod_int hi k0
  obtain ⟨b, e1, -, -⟩ := DataW.trod_int hi k1
  match cs, hl with
  | [c0, c1], _ =>
    simp at e0 e1
    exact ⟨(a, b), by simp [encPart, e0, e1]⟩
end

/-- A label that came in: any number of parts. -/
def ArgLab (W : World) (v : Value) (l : Lab) : Prop := ∃ A n c, v = .agg #[.int .i64 l.base, .slice A n c] ∧ l.parts.length = n ∧ n ≤ c ∧ c ≤ maxLen ∧ At W A (ptcells l.parts)
theorem ArgLab.rd {W : World} {v : Value} {l : Lab} (h : ArgLab W v l) (hl : l.parts.length ≤ 1048576) : RdLab W v l := by
  obtain ⟨A, n, c, rfl, hn, hc, hm, ha⟩ := h
  exact ⟨A, n, c, rfl, hn, by omega, hc, hm, ha⟩

/-- A label's shape alone. -/
def ShLab (v : Value) (l : Lab) : Prop := ∃ A n c, v = .agg #[.int .i64 l.base, .slice A n c] ∧ l.parts.length = n ∧ n ≤ 9223372036854775807
theorem ArgLab.sh {W : World} {v : Value} {l : Lab} (h : ArgLab W v l) : ShLab v l := by
  obtain ⟨A, n, c, rfl, hn, hc, hm, -⟩ := h
  exact ⟨A, n, c, rfl, hn, by unfold maxLen at hm; omega⟩
end Go.Proofs.YtnpeojlhjbdjiaaGreatDoor
