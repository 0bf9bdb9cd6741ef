/-
  Data whose rows lie in a range of blocks (two of them may be one): only to be read; a struct left in a block of its own by a region that draws its order. No program in sight.
-/
import Derived.Test.YtnpeojlhjbdjiaaGreatDoorDat
namespace Go.Proofs.YtnpeojlhjbdjiaaGreatDoor
set_option maxRecDepth 100000
open Go.RowKit

def OwW (lo hi : Nat) (w : World) (ds : List Dt) (us : List Value) : Prop := ∃ bs, Ows w ds us bs ∧ ∀ b ∈ bs, lo ≤ b ∧ b < hi
section
variable {lo hi lo' hi' p : Nat} {w w' : World} {ds es : List Dt} {us vs : List Value} {bs : List Nat}
theorem OwW.rd (h : OwW lo hi w ds us) : Rds w ds us := h.choose_spec.1.rd
theorem OwW.chg (h : OwW lo hi w ds us) (hc : Chg bs w w') (hn : ∀ b ∈ bs, b < lo ∨ hi ≤ b) : OwW lo hi w' ds us := by
  obtain ⟨cs, h1, h2⟩ := h
  exact ⟨cs, h1.chg hc (fun k hk hm => by have := h2 k hk; have := hn k hm; omega), h2⟩
theorem OwW.below (h : OwW lo hi w ds us) (hb : Below w.heap.size w w') : OwW lo hi w' ds us := h.chg (.of_below hb []) (fun _ h => by cases h)
theorem OwW.gb (h : OwW lo hi w ds us) (hg : w.grownBy w' (some p)) (hp : p < lo) : OwW lo hi w' ds us := h.chg (bs := [p]) (.of_grown hg (fun k hk => by simpa using hk.symm)) (fun b hb => by rw [List.mem_singleton.1 hb]; exact .inl hp)
theorem OwW.wide (h : OwW lo hi w ds us) (h1 : lo' ≤ lo) (h2 : hi ≤ hi') : OwW lo' hi' w ds us := by
  obtain ⟨cs, k1, k2⟩ := h
  exact ⟨cs, k1, fun b hb => by have := k2 b hb; omega⟩
theorem OwW.num {n : Int} (h : OwW lo hi w ds us) : OwW lo hi w (.num n :: ds) (.int .i64 n :: us) := by
  obtain ⟨cs, k1, k2⟩ := h
  exact ⟨cs, k1.mk_num, k2⟩
theorem OwW.and (h : OwW lo hi w ds us) (k : OwW lo hi w es vs) : OwW lo hi w (ds ++ es) (us ++ vs) := by
  obtain ⟨cs, k1, k2⟩ := h
  obtain ⟨cs', k1', k2'⟩ := k
  exact ⟨cs ++ cs', k1.append k1', fun b hb => by rcases List.mem_append.1 hb with q | q; exact k2 b q; exact k2' b q⟩
theorem OwW.cut (h : OwW lo hi w (ds ++ es) (us ++ vs)) (hl : us.length = ds.length) : OwW lo hi w ds us ∧ OwW lo hi w es vs := by
  obtain ⟨cs, k1, k2⟩ := h
  obtain ⟨u1, u2, b1, b2, e, rfl, h1, h2⟩ := k1.split
  obtain ⟨rfl, rfl⟩ := List.append_inj e (hl.trans h1.length.symm)
  exact ⟨⟨b1, h1, fun b hb => k2 b (List.mem_append_left _ hb)⟩, ⟨b2, h2, fun b hb => k2 b (List.mem_append_right _ hb)⟩⟩
theorem OwW.unnum {n : Int} {u : Value} (h : OwW lo hi w (.num n :: ds) (u :: us)) : OwW lo hi w ds us := by
  obtain ⟨cs, k1, k2⟩ := h
  obtain ⟨vs, e, h1⟩ := k1.num
  cases e
  exact ⟨cs, h1, k2⟩
theorem OwW.nil (lo hi : Nat) (w : World) : OwW lo hi w [] [] := ⟨[], Ows.mk_nil w, fun _ h => by cases h⟩
theorem Own.ww (h : Own lo w ds us) : OwW lo w.heap.size w ds us := by
  obtain ⟨cs, k1, -, k2⟩ := h
  exact ⟨cs, k1, fun b hb => ⟨k2 b hb, k1.lt b hb⟩⟩
theorem OwW.set {g i : Nat} {u : Value} (h : OwW lo hi w ds us) (hg : g < lo ∨ hi ≤ g) : OwW lo hi (w.setCell ⟨g, i, none⟩ u) ds us := by
  obtain ⟨cs, k1, k2⟩ := h
  exact ⟨cs, k1.same (fun b hb => Below.heap_setCell _ _ _ _ (fun e => by have := k2 b hb; simp only [] at e; omega)), k2⟩
theorem OwW.put {g : Nat} : ∀ (xs : List Value) {w : World} {i : Nat}, OwW lo hi w ds us → g < lo ∨ hi ≤ g → OwW lo hi (putRow w g i xs) ds us
  | [], _, _, h, _ => h
  | _ :: xs, _, _, h, hg => OwW.put xs (h.set hg) hg
end
theorem mkt_len (k : Int) : ∀ (ds : List Dt), (mkt k ds).length = ds.length
  | [] => rfl
  | .num _ :: ds => by simp [mkt, mkt_len k ds]
  | .row _ _ es :: ds => by simp [mkt, mkt_len _ ds]
theorem Rds.alc {w : World} {ds : List Dt} {us : List Value} (h : Rds w ds us) (o : Obj) : Rds (w.alloc o) ds us := h.below ((Below.refl _ _).alloc (Nat.le_refl _) o)
theorem Rds.drw {w : World} {ds : List Dt} {us : List Value} (h : Rds w ds us) : Rds w.drew ds us := h.below (Below.refl _ _).drew
theorem Rds.off {w w0 : World} {o : Obj} {ds : List Dt} {us : List Value} (h : Rds w ds us) (hb : Below (w.alloc o).heap.size (w.alloc o) w0) : Rds w0 ds us := (h.alc o).below hb
theorem Box.newb {w w1 : World} {cs : List Value} {t : TypeId} (hb : Below (w.alloc (.cells cs.toArray t)).heap.size (w.alloc (.cells cs.toArray t)) w1) : Box w1 w.heap.size cs := (Box.new w cs.toArray t).below hb
/-- A region has left a struct in a block of its own. -/
def NestR (old : World) (ds : List Dt) (sa : Value) (wx : World) : Prop :=
  ∃ g us, sa = .pointer (some ⟨g, 0, none⟩) ∧ Below old.heap.size old wx ∧ old.heap.size ≤ g ∧ Box wx g us ∧ Rds wx ds us
theorem NestR.laid {old w5 : World} {ds : List Dt} {us : List Value} {t : TypeId} (hb : Below old.heap.size old w5) (hr : Rds w5 ds us) : NestR old ds (.pointer (some ⟨w5.heap.size, 0, none⟩)) (w5.alloc (.cells us.toArray t)) :=
  ⟨w5.heap.size, us, rfl, hb.alloc hb.size _, hb.size, Box.new _ _ _, hr.alc _⟩
theorem heap_putRow' {b g : Nat} (hn : b ≠ g) : ∀ (us : List Value) {w : World} {i : Nat}, (putRow w g i us).heap[b]? = w.heap[b]?
  | [], _, _ => rfl
  | u :: us, w, i => by rw [putRow, heap_putRow' hn us]; exact Below.heap_setCell _ _ _ _ hn
/-- It reads so, whatever else than these blocks turns. -/
def RdK (lo hi : Nat) (w : World) (ds : List Dt) (us : List Value) : Prop := ∀ w' : World, (∀ b, lo ≤ b → b < hi → w'.heap[b]? = w.heap[b]?) → Rds w' ds us
section
variable {lo hi lo' hi' : Nat} {w w' : World} {ds es : List Dt} {us vs : List Value}
theorem RdK.rd (h : RdK lo hi w ds us) : Rds w ds us := h w fun _ _ _ => rfl
theorem RdK.same (h : RdK lo hi w ds us) (hs : ∀ b, lo ≤ b → b < hi → w'.heap[b]? = w.heap[b]?) : RdK lo hi w' ds us := fun w2 h2 => h w2 fun b h3 h4 => (h2 b h3 h4).trans (hs b h3 h4)
theorem RdK.below (h : RdK lo hi w ds us) (hb : Below w.heap.size w w') (hh : hi ≤ w.heap.size) : RdK lo hi w' ds us := h.same fun b _ h2 => hb.block b (by omega)
theorem RdK.wide (h : RdK lo hi w ds us) (h1 : lo' ≤ lo) (h2 : hi ≤ hi') : RdK lo' hi' w ds us := fun w2 hs => h w2 fun b h3 h4 => hs b (by omega) (by omega)
theorem RdK.put {g : Nat} (h : RdK lo hi w ds us) (xs : List Value) {i : Nat} (hg : g < lo ∨ hi ≤ g) : RdK lo hi (putRow w g i xs) ds us := h.same fun b h1 h2 => heap_putRow' (by omega) xs
theorem RdK.num {n : Int} (h : RdK lo hi w ds us) : RdK lo hi w (.num n :: ds) (.int .i64 n :: us) := fun w2 hs => by
  have := h w2 hs
  simp only [Rds, Rd]
  exact ⟨_, us, rfl, rfl, this⟩
theorem RdK.and (h : RdK lo hi w ds us) (k : RdK lo hi w es vs) : RdK lo hi w (ds ++ es) (us ++ vs) := fun w2 hs => (h w2 hs).append (k w2 hs)
theorem OwW.kk (h : OwW lo hi w ds us) : RdK lo hi w ds us := fun w2 hs => by
  obtain ⟨bs, h1, h2⟩ := h
  exact (h1.same fun b hb => hs b (h2 b hb).1 (h2 b hb).2).rd
theorem Own.kk (h : Own lo w ds us) : RdK lo w.heap.size w ds us := h.ww.kk
theorem RdK.kk (h : RdK lo hi w ds us) : RdK lo hi w ds us := h
end
theorem NestR.stored {old w5 : World} {g lo hi : Nat} {ds : List Dt} {us zs : List Value} (hb : Below old.heap.size old w5) (hg : old.heap.size ≤ g) (hy : Box w5 g zs) (hl : zs.length = us.length) (ho : RdK lo hi w5 ds us) (hgb : g < lo) :
    NestR old ds (.pointer (some ⟨g, 0, none⟩)) (putRow w5 g 0 us) :=
  ⟨g, us, rfl, below_putRow us hb hg, hg, box_putRow (pre := []) us (by simpa using hy) hl rfl, (ho.put us (.inl hgb)).rd⟩
/-- The rest of a row behind its first element; the first element. -/
theorem Rd.tail {w : World} {α : Type} {f : α → List Dt} {sz n c b o : Nat} {t : TypeId} {x : α} {xs : List α} (hf : ∀ x, (f x).length = sz) (h : Rd w (.row sz t ((x :: xs).flatMap f)) (.slice (some ⟨b, o, none⟩) (n + 1) c)) : Rd w (.row sz t (xs.flatMap f)) (.slice (some ⟨b, o + sz, none⟩) n (c - 1)) := by
  simp only [Rd] at h ⊢
  obtain ⟨A', n', c', us, hv, ha, hr, hl, hc, hm⟩ := h
  simp only [Value.slice.injEq] at hv
  obtain ⟨rfl, rfl, rfl⟩ := hv
  rw [List.flatMap_cons] at hr hl
  obtain ⟨u1, u2, rfl, h1, h2⟩ := hr.split
  refine ⟨_, n, _, u2, rfl, fun hp => ?_, h2, ?_, by omega, by omega⟩
  · obtain ⟨b', o', e, hc'⟩ := ha (by simp; omega)
    cases e
    refine ⟨b, o + sz, rfl, fun j v hj => ?_⟩
    rw [Nat.add_assoc]
    refine hc' _ _ ?_
    rw [List.getElem?_append_right (by rw [h1.length, hf]; omega), h1.length, hf, Nat.add_sub_cancel_left]
    exact hj
  · rw [List.length_append, hf, Nat.add_mul] at hl
    omega
theorem RdK.tail {lo hi : Nat} {w : World} {α : Type} {f : α → List Dt} {sz n c b o : Nat} {t : TypeId} {x : α} {xs : List α} (hf : ∀ x, (f x).length = sz) (h : RdK lo hi w [.row sz t ((x :: xs).flatMap f)] [.slice (some ⟨b, o, none⟩) (n + 1) c]) : RdK lo hi w [.row sz t (xs.flatMap f)] [.slice (some ⟨b, o + sz, none⟩) n (c - 1)] :=
  fun w2 hs => rds1_mk (Rd.tail hf (rds1 (h w2 hs)))
theorem cell_of_heap {w w' : World} {b i : Nat} (h : w'.heap[b]? = w.heap[b]?) : w'.cell? ⟨b, i, none⟩ = w.cell? ⟨b, i, none⟩ := World.cell?_of_block h
theorem RdK.head {lo hi : Nat} {w : World} {α : Type} {f : α → List Dt} {sz n c b o : Nat} {t : TypeId} {x : α} {xs : List α} {us : List Value} (hf : ∀ x, (f x).length = sz) (hs0 : 0 < sz) (h : RdK lo hi w [.row sz t ((x :: xs).flatMap f)] [.slice (some ⟨b, o, none⟩) (n + 1) c]) (hb : lo ≤ b ∧ b < hi)
    (hl : us.length = sz) (hc : ∀ j v, us[j]? = some v → w.cell? ⟨b, o + j, none⟩ = some v) : RdK lo hi w (f x) us := fun w2 hs => by
  have h1 := rds1 (h w2 hs)
  rw [List.flatMap_cons] at h1
  obtain ⟨b', o', vs, e, h2, h3⟩ := Rd.piece (P := []) (i := 0) h1 rfl (by rw [hf]; exact hs0)
  cases e
  have : vs = us := by
    refine List.ext_getElem? fun j => ?_
    have hlen : vs.length = us.length := by rw [h3.length, hf, hl]
    by_cases hj : j < us.length
    · obtain ⟨v, hv⟩ : ∃ v, us[j]? = some v := ⟨us[j], List.getElem?_eq_getElem hj⟩
      obtain ⟨u, hu⟩ : ∃ u, vs[j]? = some u := ⟨vs[j]'(by omega), List.getElem?_eq_getElem (by omega)⟩
      have q1 := hc j v hv
      have q2 := h2 j u hu
      rw [Nat.add_zero, cell_of_heap (hs b hb.1 hb.2), q1] at q2
      rw [hu, hv, Option.some.inj q2]
    · rw [List.getElem?_eq_none (by omega), List.getElem?_eq_none (by omega)]
  rw [← this]
  exact h3
/-- Two results of the call's own, and a plain value beside them; one, and a plain value; only to be read. -/
def RetM2 (ds es : List Dt) (p : Value) (w : World) (e : Ending) (w' : World) : Prop := ∃ us vs, e = .returned (.tuple #[.agg us.toArray, .agg vs.toArray, p]) ∧ us.length = ds.length ∧ Own w.heap.size w' (ds ++ es) (us ++ vs) ∧ Below w.heap.size w w'
def RetW (ds : List Dt) (w : World) (e : Ending) (w' : World) : Prop := ∃ us, e = .returned (.agg us.toArray) ∧ RdK w.heap.size w'.heap.size w' ds us ∧ Below w.heap.size w w'
def RetWP (ds : List Dt) (p : Value) (w : World) (e : Ending) (w' : World) : Prop := ∃ us, e = .returned (.tuple #[.agg us.toArray, p]) ∧ RdK w.heap.size w'.heap.size w' ds us ∧ Below w.heap.size w w'
def RetW2 (ds es : List Dt) (p : Value) (w : World) (e : Ending) (w' : World) : Prop := ∃ us vs, e = .returned (.tuple #[.agg us.toArray, .agg vs.toArray, p]) ∧ us.length = ds.length ∧ RdK w.heap.size w'.heap.size w' (ds ++ es) (us ++ vs) ∧ Below w.heap.size w w'
end Go.Proofs.YtnpeojlhjbdjiaaGreatDoor
