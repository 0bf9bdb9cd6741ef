/-
  Arguments of the laws, opened as data of whatever depth.
-/
import Derived.Test.YtnpeojlhjbdjiaaDat
import Derived.Lib.SmallJoins
namespace Go.Proofs.Ytnpeojlhjbdjiaa
set_option maxRecDepth 100000
open Go.RowKit Go.ChangeShapes Go.WideShapes Go.Deep

section
variable {H : Type} {enc : TypeId × Value → H} {P : Program} {W : World} {rd : Nat → Bool} {held : Bool}
theorem trod_field {t : TypeId} {fs : Array Field} {fuel : Nat} {cs : List Value} {x : DataW H × List MemPlace} (ht : P.underlying t = some (.struct fs)) (h : DataW.trod enc P W 0 rd held fuel t cs = some x) (j : Nat) (f : Field) (hj : fs[j]? = some f) :
    ∃ m y, DataW.trod enc P W 0 rd held m f.type ((cs.drop f.offset).take (P.cellsOf f.type)) = some y := by
  obtain ⟨xs, n, _, rfl, hl, hlen, hf⟩ := DataW.trod_struct ht h
  have h1 := hf j f hj
  have hjl : j < xs.length := by
    have := (Array.getElem?_eq_some_iff.1 hj).1
    omega
  rw [List.getElem?_eq_getElem hjl] at h1
  exact ⟨n, _, h1⟩
theorem rds_flat {α : Type} {f : α → List Dt} : ∀ {zs : List α} {ess : List (List Value)}, zs.length = ess.length → (∀ (i : Nat) (z : α) (es : List Value), zs[i]? = some z → ess[i]? = some es → Rds W (f z) es) → Rds W (zs.flatMap f) ess.flatten
  | [], [], _, _ => by simp only [List.flatMap_nil, List.flatten_nil, Rds]
  | z :: zs, es :: ess, hl, h => by
    rw [List.flatMap_cons, List.flatten_cons]
    exact (h 0 z es rfl rfl).append (rds_flat (by simpa using hl) (fun i z' es' h1 h2 => h (i + 1) z' es' (by simpa using h1) (by simpa using h2)))
/-- A slice of elements that are read one by one. -/
theorem row_of_trodQ {α : Type} {Q : α → Prop} {f : α → List Dt} {t e s : TypeId} {size fuel : Nat} {cs : List Value} {x : DataW H × List MemPlace} (ht : P.underlying t = some (.slice e)) (hC : P.cellsOf e = size) (hs : 0 < size) (hf : ∀ x, (f x).length = size)
    (hel : ∀ (m : Nat) (es : List Value) (y : DataW H × List MemPlace), es.length = size → DataW.trod enc P W 0 rd held m e es = some y → ∃ z : α, Rds W (f z) es ∧ Q z) (h : DataW.trod enc P W 0 rd held fuel t cs = some x) :
    ∃ xs : List α, Rds W [.row size s (xs.flatMap f)] cs ∧ ∀ x ∈ xs, Q x := by
  obtain ⟨A, n, c, rfl, hl, hm, hat⟩ := slice_of_trod ht hC h
  by_cases hn : 0 < n
  · obtain ⟨b, o, rfl, hi⟩ := hat hn hs
    have hz : ∀ i : Fin n, ∃ p : α × { l : List Value // l.length = size }, (Rds W (f p.1) p.2.1 ∧ Q p.1) ∧ ∀ j u, p.2.1[j]? = some u → W.cell? ⟨b, o + i.val * size + j, none⟩ = some u := fun i => by
      obtain ⟨es, y, m, hlen, hy, hc⟩ := hi i.val i.isLt
      obtain ⟨z, hz⟩ := hel m es y hlen hy
      exact ⟨(z, ⟨es, hlen⟩), hz, hc⟩
    obtain ⟨g, hg⟩ := Classical.axiomOfChoice hz
    refine ⟨List.ofFn fun i => (g i).1, rds1_mk ?_, fun x hx => by obtain ⟨i, rfl⟩ := List.mem_ofFn.1 hx; exact (hg i).1.2⟩
    simp only [Rd]
    have hflat : ((List.ofFn fun i => (g i).2.1)).flatten = flat (fun l : { l : List Value // l.length = size } => l.1) (List.ofFn fun i => (g i).2) := by
      unfold flat
      rw [List.flatMap_def, List.map_ofFn]
      rfl
    refine ⟨_, n, c, (List.ofFn fun i => (g i).2.1).flatten, rfl, fun _ => ⟨b, o, rfl, fun j u hj => ?_⟩, rds_flat (by simp) (fun i z es h1 h2 => ?_), by rw [flatMap_len hf]; simp, hl, hm⟩
    · rw [hflat] at hj
      have hen : ∀ l : { l : List Value // l.length = size }, l.1.length = size := fun l => l.2
      have hjl : j < n * size := by
        rcases Nat.lt_or_ge j (flat (fun l : { l : List Value // l.length = size } => l.1) (List.ofFn fun i => (g i).2)).length with h | h
        · rw [flat_length hen] at h; simpa using h
        · rw [List.getElem?_eq_none h] at hj; cases hj
      have hq : j / size < n := (Nat.div_lt_iff_lt_mul hs).2 hjl
      have hjm : j / size * size + j % size = j := by rw [Nat.mul_comm]; exact Nat.div_add_mod j size
      have := flat_at hen (List.ofFn fun i => (g i).2) (k := j / size) (i := j % size) (x := (g ⟨j / size, hq⟩).2) (by simp [hq]) (Nat.mod_lt _ hs)
      rw [hjm, hj] at this
      have hc := (hg ⟨j / size, hq⟩).2 (j % size) u this.symm
      rw [Nat.add_assoc, hjm] at hc
      exact hc
    · have hil : i < n := by simpa using (List.getElem?_eq_some_iff.1 h1).1
      rw [List.getElem?_ofFn, dif_pos hil] at h1 h2
      cases h1
      cases h2
      exact (hg ⟨i, hil⟩).1.1
  · obtain rfl : n = 0 := by omega
    refine ⟨[], rds1_mk ?_, fun _ h => by cases h⟩
    simp only [Rd, List.flatMap_nil]
    exact ⟨A, 0, c, [], rfl, .nil _ _, by simp only [Rds], by simp, hl, hm⟩
theorem row_of_trod {α : Type} {f : α → List Dt} {t e s : TypeId} {size fuel : Nat} {cs : List Value} {x : DataW H × List MemPlace} (ht : P.underlying t = some (.slice e)) (hC : P.cellsOf e = size) (hs : 0 < size) (hf : ∀ x, (f x).length = size)
    (hel : ∀ (m : Nat) (es : List Value) (y : DataW H × List MemPlace), es.length = size → DataW.trod enc P W 0 rd held m e es = some y → ∃ z : α, Rds W (f z) es) (h : DataW.trod enc P W 0 rd held fuel t cs = some x) :
    ∃ xs : List α, Rds W [.row size s (xs.flatMap f)] cs := by
  obtain ⟨xs, hx, -⟩ := row_of_trodQ (Q := fun _ => True) (s := s) ht hC hs hf (fun m es y hl hy => by obtain ⟨z, hz⟩ := hel m es y hl hy; exact ⟨z, hz, trivial⟩) h
  exact ⟨xs, hx⟩
end
section
variable {H : Type} {enc : TypeId × Value → H} {W : World} {rd : Nat → Bool} {held : Bool}
theorem dr_int (m : Nat) (es : List Value) (y : DataW H × List MemPlace) (h : DataW.trod enc Try.prog W 0 rd held m 2 es = some y) : ∃ n : Int, es = [.int .i64 n] ∧ InI64 n := by
  obtain ⟨a, e0, -, hw⟩ := DataW.trod_int Try.underlying2 h
  exact ⟨a, e0, .of hw⟩
theorem Rds.mk_num {w : World} {n : Int} {ds : List Dt} {us : List Value} (h : Rds w ds us) : Rds w (.num n :: ds) (.int .i64 n :: us) := by
  simp only [Rds, Rd]
  exact ⟨_, us, rfl, rfl, h⟩
theorem dr_int1 (m : Nat) (es : List Value) (y : DataW H × List MemPlace) (_hl : es.length = 1) (h : DataW.trod enc Try.prog W 0 rd held m 2 es = some y) : ∃ n : Int, Rds W (dtInt n) es := by
  obtain ⟨n, rfl, -⟩ := dr_int m es y h
  exact ⟨n, by simp only [dtInt, Rds, Rd]; exact ⟨_, _, rfl, rfl, rfl⟩⟩
theorem dr_lab (m : Nat) (es : List Value) (y : DataW H × List MemPlace) (hl : es.length = 2) (h : DataW.trod enc Try.prog W 0 rd held m 24 es = some y) : ∃ l : Lab, Rds W (dtLab l) es := by
  obtain ⟨l, A, n, c, rfl, hn, hc, hm, ha⟩ := lab_of_trod hl h
  refine ⟨l, ?_⟩
  simp only [dtLab, Rds, Rd]
  exact ⟨_, _, rfl, rfl, _, _, rfl, ⟨A, n, c, _, rfl, ha, rds_parts.2 rfl, by rw [flatMap_len dtPart_len, hn], hc, hm⟩, rfl⟩
end
end Go.Proofs.Ytnpeojlhjbdjiaa
