/-
  Texts put together: Dat, Dat2, Dat3, Dat4, Dat5, Dat6. What each proves stands ahead of it.
-/
import Derived.Test.YtnpeojlhjbdjiaaGreatDoorMem
import Derived.Test.YtnpeojlhjbdjiaaGreatDoorHas
import Derived.Test.YtnpeojlhjbdjiaaGreatDoorTm
import Derived.Test.YtnpeojlhjbdjiaaGreatDoorFlInt64
import Derived.Test.YtnpeojlhjbdjiaaGreatDoorOpen
/-
  Data in memory, of whatever depth: a cell reads as a number or as a slice whose cells read so; a slice of the call's own, and the blocks that it holds. No program in sight.
-/
namespace Go.Proofs.YtnpeojlhjbdjiaaGreatDoor
set_option maxRecDepth 100000
open Go.RowKit

/-- What a cell reads as: a number; a slice: cells an element, the elements' type, all its cells. -/
inductive Dt where
  | num (n : Int)
  | row (sz : Nat) (t : TypeId) (ds : List Dt)

mutual
/-- The value reads so. -/
def Rd (w : World) : Dt → Value → Prop
  | .num n, v => v = .int .i64 n
  | .row sz _ ds, v => ∃ A n c us, v = .slice A n c ∧ At w A us ∧ Rds w ds us ∧ ds.length = n * sz ∧ n ≤ c ∧ c ≤ maxLen
def Rds (w : World) : List Dt → List Value → Prop
  | [], us => us = []
  | d :: ds, us => ∃ u vs, us = u :: vs ∧ Rd w d u ∧ Rds w ds vs
end
mutual
/-- The value is the call's own: these blocks hold it, each one slice. -/
def Ow (w : World) : Dt → Value → List Nat → Prop
  | .num n, v, bs => v = .int .i64 n ∧ bs = []
  | .row sz t ds, v, bs => ∃ n us cs, w.ownsRow 0 t sz v n us ∧ Ows w ds us cs ∧ bs = v.ownBlock.toList ++ cs
def Ows (w : World) : List Dt → List Value → List Nat → Prop
  | [], us, bs => us = [] ∧ bs = []
  | d :: ds, us, bs => ∃ u vs b1 b2, us = u :: vs ∧ Ow w d u b1 ∧ Ows w ds vs b2 ∧ bs = b1 ++ b2
end
mutual
theorem Rd.below {w w' : World} (hb : Below w.heap.size w w') : ∀ {d : Dt} {v : Value}, Rd w d v → Rd w' d v
  | .num _, _, h => by simpa only [Rd] using h
  | .row _ _ _, _, h => by
    simp only [Rd] at h ⊢
    obtain ⟨A, n, c, us, hv, ha, hr, hl, hc, hm⟩ := h
    exact ⟨A, n, c, us, hv, ha.below hb, Rds.below hb hr, hl, hc, hm⟩
theorem Rds.below {w w' : World} (hb : Below w.heap.size w w') : ∀ {ds : List Dt} {us : List Value}, Rds w ds us → Rds w' ds us
  | [], _, h => by simpa only [Rds] using h
  | _ :: _, _, h => by
    simp only [Rds] at h ⊢
    obtain ⟨u, vs, he, h1, h2⟩ := h
    exact ⟨u, vs, he, Rd.below hb h1, Rds.below hb h2⟩
end
theorem Rds.length {w : World} : ∀ {ds : List Dt} {us : List Value}, Rds w ds us → us.length = ds.length
  | [], _, h => by simp only [Rds] at h; simp [h]
  | _ :: _, _, h => by
    simp only [Rds] at h
    obtain ⟨u, vs, rfl, -, h2⟩ := h
    simp [h2.length]
theorem Ows.length {w : World} : ∀ {ds : List Dt} {us : List Value} {bs : List Nat}, Ows w ds us bs → us.length = ds.length
  | [], _, _, h => by simp only [Ows] at h; simp [h.1]
  | _ :: _, _, _, h => by
    simp only [Ows] at h
    obtain ⟨u, vs, b1, b2, rfl, -, h2, -⟩ := h
    simp [h2.length]
mutual
theorem Ow.rd {w : World} : ∀ {d : Dt} {v : Value} {bs : List Nat}, Ow w d v bs → Rd w d v
  | .num _, _, _, h => by simp only [Ow] at h; simp only [Rd]; exact h.1
  | .row _ _ _, _, _, h => by
    simp only [Ow] at h
    obtain ⟨n, us, cs, ho, hr, -⟩ := h
    obtain ⟨A, c, rfl, hc, hm, ha⟩ := own_at ho
    simp only [Rd]
    exact ⟨A, n, c, us, rfl, ha, Ows.rd hr, by rw [← hr.length]; exact ho.1, hc, hm⟩
theorem Ows.rd {w : World} : ∀ {ds : List Dt} {us : List Value} {bs : List Nat}, Ows w ds us bs → Rds w ds us
  | [], _, _, h => by simp only [Ows] at h; simp only [Rds]; exact h.1
  | _ :: _, _, _, h => by
    simp only [Ows] at h
    obtain ⟨u, vs, b1, b2, rfl, h1, h2, -⟩ := h
    simp only [Rds]
    exact ⟨u, vs, rfl, Ow.rd h1, Ows.rd h2⟩
end
theorem owns_same {w w' : World} {base n sz : Nat} {t : TypeId} {v : Value} {us : List Value} (h : w.ownsRow base t sz v n us) (hs : ∀ b, v.ownBlock = some b → w'.heap[b]? = w.heap[b]?) : w'.ownsRow base t sz v n us := by
  refine ⟨h.1, ?_⟩
  rcases h.2 with h0 | ⟨g, cap, cur, rfl, h1, h2, h3⟩
  · exact .inl h0
  · exact .inr ⟨g, cap, cur, rfl, h1, (hs g rfl).trans h2, h3⟩
mutual
/-- Whatever else turns. -/
theorem Ow.same {w w' : World} : ∀ {d : Dt} {v : Value} {bs : List Nat}, Ow w d v bs → (∀ b ∈ bs, w'.heap[b]? = w.heap[b]?) → Ow w' d v bs
  | .num _, _, _, h, _ => by simpa only [Ow] using h
  | .row _ _ _, _, _, h, hs => by
    simp only [Ow] at h ⊢
    obtain ⟨n, us, cs, ho, hr, rfl⟩ := h
    exact ⟨n, us, cs, owns_same ho (fun b hb => hs b (by simp [hb])), Ows.same hr (fun b hb => hs b (by simp [hb])), rfl⟩
theorem Ows.same {w w' : World} : ∀ {ds : List Dt} {us : List Value} {bs : List Nat}, Ows w ds us bs → (∀ b ∈ bs, w'.heap[b]? = w.heap[b]?) → Ows w' ds us bs
  | [], _, _, h, _ => by simpa only [Ows] using h
  | _ :: _, _, _, h, hs => by
    simp only [Ows] at h ⊢
    obtain ⟨u, vs, b1, b2, rfl, h1, h2, rfl⟩ := h
    exact ⟨u, vs, b1, b2, rfl, Ow.same h1 (fun b hb => hs b (by simp [hb])), Ows.same h2 (fun b hb => hs b (by simp [hb])), rfl⟩
end
mutual
theorem Ow.lt {w : World} : ∀ {d : Dt} {v : Value} {bs : List Nat}, Ow w d v bs → ∀ b ∈ bs, b < w.heap.size
  | .num _, _, _, h => by simp only [Ow] at h; simp [h.2]
  | .row _ _ _, _, _, h => by
    simp only [Ow] at h
    obtain ⟨n, us, cs, ho, hr, rfl⟩ := h
    intro b hb
    rcases List.mem_append.1 hb with h1 | h1
    · exact (ho.lt b (by simpa using h1)).2
    · exact Ows.lt hr b h1
theorem Ows.lt {w : World} : ∀ {ds : List Dt} {us : List Value} {bs : List Nat}, Ows w ds us bs → ∀ b ∈ bs, b < w.heap.size
  | [], _, _, h => by simp only [Ows] at h; simp [h.2]
  | _ :: _, _, _, h => by
    simp only [Ows] at h
    obtain ⟨u, vs, b1, b2, rfl, h1, h2, rfl⟩ := h
    intro b hb
    rcases List.mem_append.1 hb with h3 | h3
    · exact Ow.lt h1 b h3
    · exact Ows.lt h2 b h3
end
theorem Ow.below {w w' : World} {d : Dt} {v : Value} {bs : List Nat} (h : Ow w d v bs) (hb : Below w.heap.size w w') : Ow w' d v bs := h.same (fun b hm => hb.block b (h.lt b hm))
theorem Ows.below {w w' : World} {ds : List Dt} {us : List Value} {bs : List Nat} (h : Ows w ds us bs) (hb : Below w.heap.size w w') : Ows w' ds us bs := h.same (fun b hm => hb.block b (h.lt b hm))
/-- Parts of a list of cells. -/
theorem Rds.append {w : World} : ∀ {ds : List Dt} {us : List Value} {es : List Dt} {vs : List Value}, Rds w ds us → Rds w es vs → Rds w (ds ++ es) (us ++ vs)
  | [], _, _, _, h, k => by simp only [Rds] at h; subst h; exact k
  | _ :: _, _, _, _, h, k => by
    simp only [Rds] at h
    obtain ⟨u, vs, rfl, h1, h2⟩ := h
    simp only [List.cons_append, Rds]
    exact ⟨u, _, rfl, h1, h2.append k⟩
theorem Rds.split {w : World} : ∀ {ds es : List Dt} {us : List Value}, Rds w (ds ++ es) us → ∃ u1 u2, us = u1 ++ u2 ∧ Rds w ds u1 ∧ Rds w es u2
  | [], _, us, h => ⟨[], us, rfl, by simp only [Rds], h⟩
  | _ :: _, _, _, h => by
    simp only [List.cons_append, Rds] at h
    obtain ⟨u, vs, rfl, h1, h2⟩ := h
    obtain ⟨u1, u2, rfl, h3, h4⟩ := h2.split
    exact ⟨u :: u1, u2, rfl, by simp only [Rds]; exact ⟨u, u1, rfl, h1, h3⟩, h4⟩
theorem Ows.append {w : World} : ∀ {ds : List Dt} {us : List Value} {bs : List Nat} {es : List Dt} {vs : List Value} {cs : List Nat}, Ows w ds us bs → Ows w es vs cs → Ows w (ds ++ es) (us ++ vs) (bs ++ cs)
  | [], _, _, _, _, _, h, k => by simp only [Ows] at h; obtain ⟨rfl, rfl⟩ := h; exact k
  | _ :: _, _, _, _, _, _, h, k => by
    simp only [Ows] at h
    obtain ⟨u, vs, b1, b2, rfl, h1, h2, rfl⟩ := h
    simp only [List.cons_append, Ows]
    exact ⟨u, _, b1, _, rfl, h1, h2.append k, by simp⟩
theorem Ows.split {w : World} : ∀ {ds es : List Dt} {us : List Value} {bs : List Nat}, Ows w (ds ++ es) us bs → ∃ u1 u2 b1 b2, us = u1 ++ u2 ∧ bs = b1 ++ b2 ∧ Ows w ds u1 b1 ∧ Ows w es u2 b2
  | [], _, us, bs, h => ⟨[], us, [], bs, rfl, rfl, by simp only [Ows]; exact ⟨trivial, trivial⟩, h⟩
  | _ :: _, _, _, _, h => by
    simp only [List.cons_append, Ows] at h
    obtain ⟨u, vs, b1, b2, rfl, h1, h2, rfl⟩ := h
    obtain ⟨u1, u2, c1, c2, rfl, rfl, h3, h4⟩ := h2.split
    exact ⟨u :: u1, u2, b1 ++ c1, c2, rfl, by simp, by simp only [Ows]; exact ⟨u, u1, b1, c1, rfl, h1, h3, rfl⟩, h4⟩
/-- The first cell, by what it reads as. -/
theorem Rds.num {w : World} {n : Int} {ds : List Dt} {us : List Value} (h : Rds w (.num n :: ds) us) : ∃ vs, us = .int .i64 n :: vs ∧ Rds w ds vs := by
  simp only [Rds, Rd] at h
  obtain ⟨u, vs, rfl, rfl, h2⟩ := h
  exact ⟨vs, rfl, h2⟩
theorem Rds.row {w : World} {sz : Nat} {t : TypeId} {es ds : List Dt} {us : List Value} (h : Rds w (.row sz t es :: ds) us) : ∃ A n c vs, us = .slice A n c :: vs ∧ Rd w (.row sz t es) (.slice A n c) ∧ Rds w ds vs := by
  simp only [Rds] at h
  obtain ⟨u, vs, rfl, h1, h2⟩ := h
  have h1' := h1
  simp only [Rd] at h1'
  obtain ⟨A, n, c, _, rfl, -⟩ := h1'
  exact ⟨A, n, c, vs, rfl, h1, h2⟩
theorem Rds.nil {w : World} {us : List Value} (h : Rds w [] us) : us = [] := by simpa only [Rds] using h
theorem Ows.num {w : World} {n : Int} {ds : List Dt} {us : List Value} {bs : List Nat} (h : Ows w (.num n :: ds) us bs) : ∃ vs, us = .int .i64 n :: vs ∧ Ows w ds vs bs := by
  simp only [Ows, Ow] at h
  obtain ⟨u, vs, b1, b2, rfl, ⟨rfl, rfl⟩, h2, rfl⟩ := h
  exact ⟨vs, rfl, h2⟩
theorem Ows.row {w : World} {sz : Nat} {t : TypeId} {es ds : List Dt} {us : List Value} {bs : List Nat} (h : Ows w (.row sz t es :: ds) us bs) : ∃ A n c vs b1 b2, us = .slice A n c :: vs ∧ bs = b1 ++ b2 ∧ Ow w (.row sz t es) (.slice A n c) b1 ∧ Ows w ds vs b2 := by
  simp only [Ows] at h
  obtain ⟨u, vs, b1, b2, rfl, h1, h2, rfl⟩ := h
  have h1' := h1
  simp only [Ow] at h1'
  obtain ⟨n, _, _, ho, -⟩ := h1'
  obtain ⟨A, c, rfl, -⟩ := own_at ho
  exact ⟨A, n, c, vs, b1, b2, rfl, rfl, h1, h2⟩
theorem Ows.nil {w : World} {us : List Value} {bs : List Nat} (h : Ows w [] us bs) : us = [] ∧ bs = [] := by simpa only [Ows] using h
theorem Ows.mk_nil (w : World) : Ows w [] [] [] := by simp only [Ows]; exact ⟨trivial, trivial⟩
theorem Ows.mk_num {w : World} {n : Int} {ds : List Dt} {us : List Value} {bs : List Nat} (h : Ows w ds us bs) : Ows w (.num n :: ds) (.int .i64 n :: us) bs := by
  simp only [Ows, Ow]
  exact ⟨_, us, [], bs, rfl, ⟨rfl, rfl⟩, h, rfl⟩
theorem Ows.mk_row {w : World} {sz : Nat} {t : TypeId} {es ds : List Dt} {v : Value} {us : List Value} {b1 b2 : List Nat} (k : Ow w (.row sz t es) v b1) (h : Ows w ds us b2) : Ows w (.row sz t es :: ds) (v :: us) (b1 ++ b2) := by
  simp only [Ows]
  exact ⟨v, us, b1, b2, rfl, k, h, rfl⟩
/-- A struct of the call's own. -/
def Own (base : Nat) (w : World) (ds : List Dt) (us : List Value) : Prop := ∃ bs, Ows w ds us bs ∧ bs.Nodup ∧ ∀ b ∈ bs, base ≤ b
theorem Own.rd {base : Nat} {w : World} {ds : List Dt} {us : List Value} (h : Own base w ds us) : Rds w ds us := h.choose_spec.1.rd
theorem Own.below {base : Nat} {w w' : World} {ds : List Dt} {us : List Value} (h : Own base w ds us) (hb : Below w.heap.size w w') : Own base w' ds us := by
  obtain ⟨bs, h1, h2, h3⟩ := h; exact ⟨bs, h1.below hb, h2, h3⟩
theorem Own.lower {base base' : Nat} {w : World} {ds : List Dt} {us : List Value} (h : Own base w ds us) (hb : base' ≤ base) : Own base' w ds us := by
  obtain ⟨bs, h1, h2, h3⟩ := h; exact ⟨bs, h1, h2, fun b hm => Nat.le_trans hb (h3 b hm)⟩
/-- A cell below is written. -/
theorem Own.past {base g i : Nat} {w : World} {u : Value} {ds : List Dt} {us : List Value} (h : Own base w ds us) (hg : g < base) : Own base (w.setCell ⟨g, i, none⟩ u) ds us := by
  obtain ⟨bs, h1, h2, h3⟩ := h
  exact ⟨bs, h1.same (fun b hm => Below.heap_setCell _ _ _ _ (by have := h3 b hm; simp only []; omega)), h2, h3⟩
/-- One beside the other: what was made first lies below. -/
theorem Own.beside {base mid : Nat} {w : World} {ds es : List Dt} {us vs : List Value} (h : Own base w ds us) (k : Own mid w es vs) (hm : ∀ bs, Ows w ds us bs → ∀ b ∈ bs, b < mid) (hb : base ≤ mid) : Own base w (ds ++ es) (us ++ vs) := by
  obtain ⟨bs, h1, h2, h3⟩ := h
  obtain ⟨cs, k1, k2, k3⟩ := k
  refine ⟨bs ++ cs, h1.append k1, List.nodup_append.2 ⟨h2, k2, fun a ha b hb' e => ?_⟩, fun b hb' => ?_⟩
  · have := hm bs h1 a ha; have := k3 b hb'; omega
  · rcases List.mem_append.1 hb' with q | q
    · exact h3 b q
    · exact Nat.le_trans hb (k3 b q)
/-- The call returns a struct of its own. -/
def RetD (ds : List Dt) (w : World) (e : Ending) (w' : World) : Prop := ∃ us, e = .returned (.agg us.toArray) ∧ Own w.heap.size w' ds us ∧ Below w.heap.size w w'
/-- .. a slice of its own. -/
def RetR (d : Dt) (w : World) (e : Ending) (w' : World) : Prop := ∃ v, e = .returned v ∧ Own w.heap.size w' [d] [v] ∧ Below w.heap.size w w'
end Go.Proofs.YtnpeojlhjbdjiaaGreatDoor

/-
  Data of whatever depth: numbers told one after the other; a cell put in, a row within a row turned; one more element. No program in sight.
-/
namespace Go.Proofs.YtnpeojlhjbdjiaaGreatDoor
set_option maxRecDepth 100000
open Go.RowKit

mutual
/-- How many numbers. -/
def cnt : Dt → Nat
  | .num _ => 1
  | .row _ _ ds => cnts ds
def cnts : List Dt → Nat
  | [] => 0
  | d :: ds => cnt d + cnts ds
end
mutual
/-- All numbers told one after the other, from k on. -/
def mkd (k : Int) : Dt → Dt
  | .num _ => .num k
  | .row sz t ds => .row sz t (mkds k ds)
def mkds (k : Int) : List Dt → List Dt
  | [] => []
  | d :: ds => mkd k d :: mkds (k + cnt d) ds
end
/-- .. those of the rows alone. -/
def cntt : List Dt → Nat
  | [] => 0
  | .num _ :: ds => cntt ds
  | .row _ _ es :: ds => cnts es + cntt ds
def mkt (k : Int) : List Dt → List Dt
  | [] => []
  | .num n :: ds => .num n :: mkt k ds
  | .row sz t es :: ds => .row sz t (mkds k es) :: mkt (k + cnts es) ds
theorem cnts_append (ds es : List Dt) : cnts (ds ++ es) = cnts ds + cnts es := by
  induction ds with
  | nil => simp [cnts]
  | cons d ds ih => simp only [List.cons_append, cnts, ih]; omega
theorem mkds_append (k : Int) (ds es : List Dt) : mkds k (ds ++ es) = mkds k ds ++ mkds (k + cnts ds) es := by
  induction ds generalizing k with
  | nil => simp [mkds, cnts]
  | cons d ds ih =>
    simp only [List.cons_append, mkds, ih, cnts]
    congr 3
    omega
theorem mkds_length (k : Int) (ds : List Dt) : (mkds k ds).length = ds.length := by
  induction ds generalizing k with
  | nil => rfl
  | cons d ds ih => simp [mkds, ih]
theorem cntt_append (ds es : List Dt) : cntt (ds ++ es) = cntt ds + cntt es := by
  induction ds with
  | nil => simp [cntt]
  | cons d ds ih => cases d <;> simp only [List.cons_append, cntt, ih]; omega
theorem mkt_append (k : Int) (ds es : List Dt) : mkt k (ds ++ es) = mkt k ds ++ mkt (k + cntt ds) es := by
  induction ds generalizing k with
  | nil => simp [mkt, cntt]
  | cons d ds ih =>
    cases d with
    | num n => simp [mkt, cntt, ih]
    | row sz t fs =>
      simp only [List.cons_append, mkt, cntt, ih]
      congr 3
      omega

theorem cntt_num (n : Int) (ds : List Dt) : cntt (.num n :: ds) = cntt ds := by simp [cntt]
theorem mkt_num (k n : Int) (ds : List Dt) : mkt k (.num n :: ds) = .num n :: mkt k ds := by simp [mkt]

/-- A cell of a list of them: what stands ahead, it, and behind. -/
theorem Ows.at {w : World} {pre post : List Dt} {d : Dt} {us : List Value} {bs : List Nat} (h : Ows w (pre ++ d :: post) us bs) :
    ∃ u1 u u2 b1 b b2, us = u1 ++ u :: u2 ∧ bs = b1 ++ (b ++ b2) ∧ u1.length = pre.length ∧ Ows w pre u1 b1 ∧ Ow w d u b ∧ Ows w post u2 b2 := by
  obtain ⟨u1, u3, b1, b3, rfl, rfl, h1, h2⟩ := h.split
  simp only [Ows] at h2
  obtain ⟨u, u2, b, b2, rfl, h3, h4, rfl⟩ := h2
  exact ⟨u1, u, u2, b1, b, b2, rfl, rfl, h1.length, h1, h3, h4⟩
theorem Ows.mk_at {w : World} {pre post : List Dt} {d : Dt} {u1 u2 : List Value} {u : Value} {b1 b b2 : List Nat} (h1 : Ows w pre u1 b1) (h : Ow w d u b) (h2 : Ows w post u2 b2) : Ows w (pre ++ d :: post) (u1 ++ u :: u2) (b1 ++ (b ++ b2)) :=
  h1.append (by simp only [Ows]; exact ⟨u, u2, b, b2, rfl, h, h2, rfl⟩)
theorem nodup_parts {b1 b b2 : List Nat} (h : (b1 ++ (b ++ b2)).Nodup) : b1.Nodup ∧ b.Nodup ∧ b2.Nodup ∧ (∀ x ∈ b1, x ∉ b) ∧ (∀ x ∈ b2, x ∉ b) := by
  rw [List.nodup_append] at h
  obtain ⟨h1, h2, h3⟩ := h
  rw [List.nodup_append] at h2
  obtain ⟨h4, h5, h6⟩ := h2
  exact ⟨h1, h4, h5, fun x hx hb => h3 x hx x (by simp [hb]) rfl, fun x hx hb => h6 x hb x hx rfl⟩
/-- A row, opened: its block, its cells. -/
theorem Ow.open {w : World} {sz n c g : Nat} {t : TypeId} {ds : List Dt} {bs : List Nat} (h : Ow w (.row sz t ds) (.slice (some ⟨g, 0, none⟩) n c) bs) :
    ∃ us cs, w.ownsRow 0 t sz (.slice (some ⟨g, 0, none⟩) n c) n us ∧ Ows w ds us cs ∧ bs = g :: cs := by
  simp only [Ow] at h
  obtain ⟨m, us, cs, ho, hr, rfl⟩ := h
  obtain ⟨A, c', he, -⟩ := own_at ho
  simp only [Value.slice.injEq] at he
  obtain ⟨rfl, rfl, rfl⟩ := he
  exact ⟨us, cs, ho, hr, rfl⟩
theorem Ow.close {w : World} {sz n c g : Nat} {t : TypeId} {ds : List Dt} {us : List Value} {cs : List Nat} (ho : w.ownsRow 0 t sz (.slice (some ⟨g, 0, none⟩) n c) n us) (hr : Ows w ds us cs) : Ow w (.row sz t ds) (.slice (some ⟨g, 0, none⟩) n c) (g :: cs) := by
  simp only [Ow]
  exact ⟨n, us, cs, ho, hr, rfl⟩
/-- The block of a slice that is not empty. -/
theorem Ow.block {w : World} {sz : Nat} {t : TypeId} {ds : List Dt} {v : Value} {bs : List Nat} (h : Ow w (.row sz t ds) v bs) (hd : 0 < ds.length) : ∃ g n c, v = .slice (some ⟨g, 0, none⟩) n c ∧ ds.length = n * sz := by
  simp only [Ow] at h
  obtain ⟨m, us, cs, ho, hr, rfl⟩ := h
  have hl := hr.length
  rcases ho.2 with ⟨rfl, rfl⟩ | ⟨g, cap, cur, rfl, -⟩
  · have h0 : us.length = 0 := by simpa using ho.1
    omega
  · exact ⟨g, m, cap, rfl, by rw [← hl]; exact ho.1⟩
theorem owns_setAt {w : World} {g n c sz i : Nat} {t : TypeId} {u1 u2 : List Value} {u : Value} (ho : w.ownsRow 0 t sz (.slice (some ⟨g, 0, none⟩) n c) n (u1 ++ u :: u2)) (hi : i = u1.length) (x : Value) :
    (w.setCell ⟨g, i, none⟩ x).ownsRow 0 t sz (.slice (some ⟨g, 0, none⟩) n c) n (u1 ++ x :: u2) := by
  subst hi
  refine ⟨by have := ho.1; simpa using this, ?_⟩
  rcases ho.2 with ⟨h0, _⟩ | ⟨g', cap, cur, he, hb, hg, hnc, hm, hs, ht⟩
  · simp at h0
  · simp only [Value.slice.injEq, Option.some.injEq, Addr.mk.injEq, and_true, true_and] at he
    obtain ⟨rfl, rfl⟩ := he
    refine .inr ⟨g, c, cur.setIfInBounds u1.length x, rfl, hb, ?_, hnc, hm, by simpa using hs, ?_⟩
    · simp [World.setCell, Array.getElem?_modify, hg]
    · have hl : u1.length < (cur.toList.take (n * sz)).length := by rw [ht]; simp
      have hlt : u1.length < n * sz := by rw [List.length_take] at hl; omega
      rw [Array.toList_setIfInBounds, List.take_set, ht]
      simp
/-- A number is put in. -/
theorem Ow.setNum {w : World} {sz n' c g i : Nat} {t : TypeId} {pre post : List Dt} {n : Int} {bs : List Nat} (h : Ow w (.row sz t (pre ++ .num n :: post)) (.slice (some ⟨g, 0, none⟩) n' c) bs) (hn : bs.Nodup) (hi : i = pre.length) (m : Int) :
    Ow (w.setCell ⟨g, i, none⟩ (.int .i64 m)) (.row sz t (pre ++ .num m :: post)) (.slice (some ⟨g, 0, none⟩) n' c) bs := by
  obtain ⟨us, cs, ho, hr, rfl⟩ := h.open
  obtain ⟨u1, u, u2, b1, b, b2, rfl, rfl, hl, h1, h2, h3⟩ := hr.at
  simp only [Ow] at h2
  obtain ⟨rfl, rfl⟩ := h2
  have hg : ∀ x ∈ b1 ++ ([] ++ b2), x ≠ g := fun x hx e => by subst e; exact (List.nodup_cons.1 hn).1 hx
  have hsame : ∀ x ∈ b1 ++ ([] ++ b2), (w.setCell ⟨g, i, none⟩ (.int .i64 m)).heap[x]? = w.heap[x]? := fun x hx => Below.heap_setCell _ _ _ _ (hg x hx)
  refine Ow.close (owns_setAt ho (hi.trans hl.symm) _) (Ows.mk_at (h1.same fun x hx => hsame x (by simp [hx])) (by simp only [Ow]; exact ⟨trivial, trivial⟩) (h3.same fun x hx => hsame x (by simp [hx])))
/-- A row within the row, and what it may be turned into. -/
theorem Ow.inner {w : World} {sz n' c g : Nat} {t : TypeId} {pre post : List Dt} {d : Dt} {bs : List Nat} (h : Ow w (.row sz t (pre ++ d :: post)) (.slice (some ⟨g, 0, none⟩) n' c) bs) (hn : bs.Nodup) :
    ∃ u b, w.cell? ⟨g, pre.length, none⟩ = some u ∧ Ow w d u b ∧ b.Nodup ∧ (∀ x ∈ b, x ∈ bs ∧ x ≠ g) ∧
      ∀ (w' : World) (d' : Dt), Chg b w w' → Ow w' d' u b → Ow w' (.row sz t (pre ++ d' :: post)) (.slice (some ⟨g, 0, none⟩) n' c) bs := by
  obtain ⟨us, cs, ho, hr, rfl⟩ := h.open
  obtain ⟨u1, u, u2, b1, b, b2, rfl, rfl, hl, h1, h2, h3⟩ := hr.at
  obtain ⟨hn1, hn2⟩ := List.nodup_cons.1 hn
  obtain ⟨n1, n2, n3, n4, n5⟩ := nodup_parts hn2
  obtain ⟨A, c', he, -, -, ha⟩ := own_at ho
  simp only [Value.slice.injEq] at he
  obtain ⟨rfl, -, rfl⟩ := he
  obtain ⟨b', o', hA, hc⟩ := ha (by simp; omega)
  simp only [Option.some.injEq, Addr.mk.injEq, and_true] at hA
  obtain ⟨rfl, rfl⟩ := hA
  refine ⟨u, b, ?_, h2, n2, fun x hx => ⟨by simp [hx], fun e => hn1 (by subst e; simp [hx])⟩, fun w' d' hc' h' => ?_⟩
  · have := hc pre.length u (by rw [← hl]; simp)
    simpa using this
  · have hs : ∀ x, x < w.heap.size → x ∉ b → w'.heap[x]? = w.heap[x]? := fun x hx hb => hc'.block x hx hb
    refine Ow.close (owns_same ho fun x hx => ?_) (Ows.mk_at (h1.same fun x hx => hs x (h1.lt x hx) (n4 x hx)) h' (h3.same fun x hx => hs x (h3.lt x hx) (n5 x hx)))
    simp only [Value.ownBlock, Option.some.injEq] at hx
    subst hx
    exact hs g (ho.lt g rfl).2 (fun hb => hn1 (by simp [hb]))
/-- Whatever else changes. -/
theorem Ow.chg {w w' : World} {bs cs : List Nat} {d : Dt} {v : Value} (h : Ow w d v cs) (hc : Chg bs w w') (hn : ∀ k ∈ cs, k ∉ bs) : Ow w' d v cs := h.same (fun b hm => hc.block b (h.lt b hm) (hn b hm))
theorem Ows.chg {w w' : World} {bs cs : List Nat} {ds : List Dt} {us : List Value} (h : Ows w ds us cs) (hc : Chg bs w w') (hn : ∀ k ∈ cs, k ∉ bs) : Ows w' ds us cs := h.same (fun b hm => hc.block b (h.lt b hm) (hn b hm))
theorem Chg.set {bs : List Nat} {w w' : World} {g i : Nat} (h : Chg bs w w') (hg : g ∈ bs) (v : Value) : Chg bs w (w'.setCell ⟨g, i, none⟩ v) :=
  h.trans ⟨rfl, rfl, rfl, by simp, fun k _ hn => Below.heap_setCell _ _ _ _ (fun e => hn (by simp only [] at e; rw [e]; exact hg))⟩
/-- The cells of element i of a row, read. -/
theorem flatMap_split {α : Type} {f : α → List Dt} {xs : List α} {i : Nat} {x : α} (hx : xs[i]? = some x) : xs.flatMap f = (xs.take i).flatMap f ++ (f x ++ (xs.drop (i + 1)).flatMap f) := by
  have hk : i < xs.length := (List.getElem?_eq_some_iff.1 hx).1
  have he : xs[i] = x := (List.getElem?_eq_some_iff.1 hx).2
  conv => lhs; rw [← List.take_append_drop i xs]
  rw [List.flatMap_append, List.drop_eq_getElem_cons hk, he, List.flatMap_cons]
theorem flatMap_len {α : Type} {f : α → List Dt} {sz : Nat} (hf : ∀ x, (f x).length = sz) (xs : List α) : (xs.flatMap f).length = xs.length * sz := by
  induction xs with
  | nil => simp
  | cons x xs ih => simp only [List.flatMap_cons, List.length_append, hf, ih, List.length_cons, Nat.add_mul]; omega
theorem Rd.elem {w : World} {α : Type} {f : α → List Dt} {sz n c : Nat} {t : TypeId} {xs : List α} {A : Option Addr} (hf : ∀ x, (f x).length = sz) (hs : 0 < sz) (h : Rd w (.row sz t (xs.flatMap f)) (.slice A n c)) {i : Nat} {x : α} (hx : xs[i]? = some x) :
    ∃ b o us, A = some ⟨b, o, none⟩ ∧ (∀ j u, us[j]? = some u → w.cell? ⟨b, o + i * sz + j, none⟩ = some u) ∧ Rds w (f x) us := by
  simp only [Rd] at h
  obtain ⟨A', n', c', us, he, ha, hr, hl, -⟩ := h
  simp only [Value.slice.injEq] at he
  obtain ⟨rfl, rfl, rfl⟩ := he
  rw [flatMap_split hx] at hr
  obtain ⟨u1, u3, rfl, h1, h2⟩ := hr.split
  obtain ⟨u, u2, rfl, h3, h4⟩ := h2.split
  have l1 : u1.length = i * sz := by
    rw [h1.length, flatMap_len hf, List.length_take]
    have := (List.getElem?_eq_some_iff.1 hx).1
    rw [Nat.min_eq_left (by omega)]
  have l3 : 0 < u.length := by rw [h3.length, hf]; exact hs
  obtain ⟨b, o, rfl, hc⟩ := ha (by simp; omega)
  refine ⟨b, o, u, rfl, fun j v hj => ?_, h3⟩
  rw [Nat.add_assoc]
  refine hc _ _ ?_
  rw [← l1, List.getElem?_append_right (by omega), Nat.add_sub_cancel_left, List.getElem?_append_left (List.getElem?_eq_some_iff.1 hj).1]
  exact hj
/-- Cells in the midst of a row, read. -/
theorem Rd.piece {w : World} {sz n c i : Nat} {t : TypeId} {P es Q : List Dt} {A : Option Addr} (h : Rd w (.row sz t (P ++ (es ++ Q))) (.slice A n c)) (hP : P.length = i) (he : 0 < es.length) :
    ∃ b o us, A = some ⟨b, o, none⟩ ∧ (∀ j u, us[j]? = some u → w.cell? ⟨b, o + i + j, none⟩ = some u) ∧ Rds w es us := by
  simp only [Rd] at h
  obtain ⟨A', n', c', us, hv, ha, hr, hl, -⟩ := h
  simp only [Value.slice.injEq] at hv
  obtain ⟨rfl, rfl, rfl⟩ := hv
  obtain ⟨u1, u3, rfl, h1, h2⟩ := hr.split
  obtain ⟨u, u2, rfl, h3, h4⟩ := h2.split
  have l1 : u1.length = i := by rw [h1.length, hP]
  have l3 : 0 < u.length := by rw [h3.length]; exact he
  obtain ⟨b, o, rfl, hc⟩ := ha (by simp; omega)
  refine ⟨b, o, u, rfl, fun j v hj => ?_, h3⟩
  rw [Nat.add_assoc]
  refine hc _ _ ?_
  rw [← l1, List.getElem?_append_right (by omega), Nat.add_sub_cancel_left, List.getElem?_append_left (List.getElem?_eq_some_iff.1 hj).1]
  exact hj
theorem Rd.len {w : World} {α : Type} {f : α → List Dt} {sz n c : Nat} {t : TypeId} {xs : List α} {A : Option Addr} (hf : ∀ x, (f x).length = sz) (hs : 0 < sz) (h : Rd w (.row sz t (xs.flatMap f)) (.slice A n c)) : xs.length = n ∧ n ≤ c ∧ c ≤ maxLen := by
  simp only [Rd] at h
  obtain ⟨A', n', c', us, he, ha, hr, hl, h1, h2⟩ := h
  simp only [Value.slice.injEq] at he
  obtain ⟨rfl, rfl, rfl⟩ := he
  rw [flatMap_len hf] at hl
  exact ⟨Nat.eq_of_mul_eq_mul_right hs hl, h1, h2⟩
/-- Cells put in one behind the other. -/
theorem owns_putRow {g n c sz : Nat} {t : TypeId} : ∀ (vs : List Value) {w : World} {u1 old u2 : List Value} {i : Nat}, old.length = vs.length → i = u1.length → w.ownsRow 0 t sz (.slice (some ⟨g, 0, none⟩) n c) n (u1 ++ (old ++ u2)) →
    (putRow w g i vs).ownsRow 0 t sz (.slice (some ⟨g, 0, none⟩) n c) n (u1 ++ (vs ++ u2))
  | [], w, u1, old, u2, i, hl, _, h => by
    obtain rfl : old = [] := List.eq_nil_of_length_eq_zero (by simpa using hl)
    exact h
  | v :: vs, w, u1, [], u2, i, hl, _, h => by simp at hl
  | v :: vs, w, u1, o :: old, u2, i, hl, hi, h => by
    have h1 := owns_setAt (u2 := old ++ u2) (by simpa using h) hi v
    have h2 := owns_putRow vs (w := w.setCell ⟨g, i, none⟩ v) (u1 := u1 ++ [v]) (old := old) (u2 := u2) (i := i + 1) (by simpa using hl) (by simp [hi]) (by simpa using h1)
    simpa [putRow] using h2
/-- A row of which the first k elements stand. -/
structure Part (w : World) (lo g n sz : Nat) (t : TypeId) (ds : List Dt) (k : Nat) (cur : List Value) (bs : List Nat) : Prop where
  own : w.ownsRow 0 t sz (.slice (some ⟨g, 0, none⟩) n n) n cur
  got : Ows w ds (cur.take (k * sz)) bs
  nd : bs.Nodup
  lo : ∀ b ∈ bs, lo ≤ b ∧ b ≠ g
theorem Part.below {w w' : World} {lo g n sz k : Nat} {t : TypeId} {ds : List Dt} {cur : List Value} {bs : List Nat} (h : Part w lo g n sz t ds k cur bs) (hb : Below w.heap.size w w') : Part w' lo g n sz t ds k cur bs :=
  ⟨own_below h.own hb, h.got.below hb, h.nd, h.lo⟩
theorem Part.gl {w : World} {lo g n sz k : Nat} {t : TypeId} {ds : List Dt} {cur : List Value} {bs : List Nat} (h : Part w lo g n sz t ds k cur bs) : g < w.heap.size := (h.own.lt g rfl).2
/-- One element more. -/
theorem Part.more {w w1 : World} {lo g n sz k : Nat} {t : TypeId} {ds es : List Dt} {cur vs : List Value} {bs : List Nat} (h : Part w lo g n sz t ds k cur bs) (hb : Below w.heap.size w w1) (ho : Own w.heap.size w1 es vs) (hlo : lo ≤ w.heap.size) (hk : k < n) (hv : vs.length = sz) :
    ∃ cur' bs', Part (putRow w1 g (k * sz) vs) lo g n sz t (ds ++ es) (k + 1) cur' bs' := by
  obtain ⟨cs, o1, o2, o3⟩ := ho
  have h1 := h.below hb
  have hlen : cur.length = n * sz := h.own.1
  have hks : (k + 1) * sz ≤ n * sz := Nat.mul_le_mul_right sz hk
  rw [Nat.add_mul, Nat.one_mul] at hks
  have hcur : cur = cur.take (k * sz) ++ ((cur.drop (k * sz)).take sz ++ cur.drop (k * sz + sz)) := by
    conv => lhs; rw [← List.take_append_drop (k * sz) cur, ← List.take_append_drop sz (cur.drop (k * sz)), List.drop_drop]
  have hl1 : (cur.take (k * sz)).length = k * sz := by rw [List.length_take]; omega
  have ho1 := h1.own
  rw [hcur] at ho1
  have hp := owns_putRow vs (i := k * sz) (by rw [List.length_take, List.length_drop]; omega) hl1.symm ho1
  have hg := h.gl
  have hblk : ∀ (us : List Value) {w : World} {i b : Nat}, b ≠ g → (putRow w g i us).heap[b]? = w.heap[b]? := by
    intro us
    induction us with
    | nil => intros; rfl
    | cons u us ih => intro w i b hb'; rw [putRow, ih hb']; exact Below.heap_setCell _ _ _ _ hb'
  refine ⟨_, bs ++ cs, hp, ?_, ?_, ?_⟩
  · have e : (cur.take (k * sz) ++ (vs ++ cur.drop (k * sz + sz))).take ((k + 1) * sz) = cur.take (k * sz) ++ vs := by
      rw [Nat.add_mul, Nat.one_mul, ← List.append_assoc, List.take_left' (by rw [List.length_append, hl1, hv])]
    rw [e]
    exact (h1.got.same fun b hm => hblk vs (h.lo b hm).2).append (o1.same fun b hm => hblk vs (by have := o3 b hm; omega))
  · refine List.nodup_append.2 ⟨h.nd, o2, fun a ha b hb' e => ?_⟩
    have := h.got.lt a ha
    have := o3 b hb'
    omega
  · intro b hb'
    rcases List.mem_append.1 hb' with q | q
    · exact h.lo b q
    · have := o3 b q
      exact ⟨by omega, by omega⟩
/-- All of them stand. -/
theorem Part.done {w : World} {lo g n sz : Nat} {t : TypeId} {ds : List Dt} {cur : List Value} {bs : List Nat} (h : Part w lo g n sz t ds n cur bs) (hg : lo ≤ g) : Own lo w [.row sz t ds] [.slice (some ⟨g, 0, none⟩) n n] := by
  have hc : cur.take (n * sz) = cur := List.take_of_length_le (by rw [h.own.1]; exact Nat.le_refl _)
  have h1 := h.got
  rw [hc] at h1
  have h2 := Ows.mk_row (Ow.close h.own h1) (Ows.mk_nil w)
  refine ⟨_, h2, ?_, ?_⟩
  · simp only [List.append_nil, List.nodup_cons]
    exact ⟨fun hm => (h.lo g hm).2 rfl, h.nd⟩
  · intro b hb
    simp only [List.append_nil, List.mem_cons] at hb
    rcases hb with rfl | hb
    · exact hg
    · exact (h.lo b hb).1
end Go.Proofs.YtnpeojlhjbdjiaaGreatDoor

/-
  Labels, terms, flat rows as data of whatever depth: both ways; data of the call's own between two heights of the heap. The laws' helpers on labels and terms, said so.
-/
namespace Go.Proofs.YtnpeojlhjbdjiaaGreatDoor
set_option maxRecDepth 100000
open Go.RowKit

def dtInt (n : Int) : List Dt := [.num n]
def dtPart (p : Int × Int) : List Dt := [.num p.1, .num p.2]
def dtLab (l : Lab) : List Dt := [.num l.base, .row 2 80 (l.parts.flatMap dtPart)]
def dtTm (t : Tm) : List Dt := dtLab t.taint ++ (dtLab t.clear ++ (dtLab t.raise ++ dtLab t.verify))
theorem dtPart_len (p : Int × Int) : (dtPart p).length = 2 := rfl
theorem dtInt_len (n : Int) : (dtInt n).length = 1 := rfl
theorem dtLab_len (l : Lab) : (dtLab l).length = 2 := rfl
theorem dtTm_len (t : Tm) : (dtTm t).length = 8 := rfl
theorem rds_parts {w : World} : ∀ {ps : List (Int × Int)} {us : List Value}, Rds w (ps.flatMap dtPart) us ↔ us = ptcells ps
  | [], us => by simp [Rds, ptcells, flat]
  | p :: ps, us => by
    constructor
    · intro h
      simp only [List.flatMap_cons, dtPart, List.cons_append, List.nil_append] at h
      obtain ⟨v1, rfl, h1⟩ := h.num
      obtain ⟨v2, rfl, h2⟩ := h1.num
      rw [rds_parts.1 h2]; rfl
    · rintro rfl
      simp only [List.flatMap_cons, dtPart, List.cons_append, List.nil_append]
      show Rds w _ (.int .i64 p.1 :: .int .i64 p.2 :: ptcells ps)
      simp only [Rds, Rd]
      exact ⟨_, _, rfl, rfl, _, _, rfl, rfl, rds_parts.2 rfl⟩
theorem ows_parts {w : World} : ∀ {ps : List (Int × Int)} {us : List Value} {bs : List Nat}, Ows w (ps.flatMap dtPart) us bs ↔ us = ptcells ps ∧ bs = []
  | [], us, bs => by simp [Ows, ptcells, flat]
  | p :: ps, us, bs => by
    constructor
    · intro h
      simp only [List.flatMap_cons, dtPart, List.cons_append, List.nil_append] at h
      obtain ⟨v1, rfl, h1⟩ := h.num
      obtain ⟨v2, rfl, h2⟩ := h1.num
      obtain ⟨h3, rfl⟩ := ows_parts.1 h2
      rw [h3]; exact ⟨rfl, rfl⟩
    · rintro ⟨rfl, rfl⟩
      simp only [List.flatMap_cons, dtPart, List.cons_append, List.nil_append]
      exact (ows_parts.2 ⟨rfl, rfl⟩ : Ows w (ps.flatMap dtPart) (ptcells ps) []).mk_num.mk_num
theorem rds_ints {w : World} : ∀ {ns : List Int} {us : List Value}, Rds w (ns.flatMap dtInt) us ↔ us = nmcells ns
  | [], us => by simp [Rds, nmcells, flat]
  | n :: ns, us => by
    constructor
    · intro h
      simp only [List.flatMap_cons, dtInt, List.cons_append, List.nil_append] at h
      obtain ⟨v1, rfl, h1⟩ := h.num
      rw [rds_ints.1 h1]; rfl
    · rintro rfl
      simp only [List.flatMap_cons, dtInt, List.cons_append, List.nil_append]
      show Rds w _ (.int .i64 n :: nmcells ns)
      simp only [Rds, Rd]
      exact ⟨_, _, rfl, rfl, rds_ints.2 rfl⟩
theorem ows_ints {w : World} : ∀ {ns : List Int} {us : List Value} {bs : List Nat}, Ows w (ns.flatMap dtInt) us bs ↔ us = nmcells ns ∧ bs = []
  | [], us, bs => by simp [Ows, nmcells, flat]
  | n :: ns, us, bs => by
    constructor
    · intro h
      simp only [List.flatMap_cons, dtInt, List.cons_append, List.nil_append] at h
      obtain ⟨v1, rfl, h1⟩ := h.num
      obtain ⟨h3, rfl⟩ := ows_ints.1 h1
      rw [h3]; exact ⟨rfl, rfl⟩
    · rintro ⟨rfl, rfl⟩
      simp only [List.flatMap_cons, dtInt, List.cons_append, List.nil_append]
      exact (ows_ints.2 ⟨rfl, rfl⟩ : Ows w (ns.flatMap dtInt) (nmcells ns) []).mk_num
/-- A label, both ways. -/
theorem RdLab.dt {w : World} {v : Value} {l : Lab} (h : RdLab w v l) : ∃ A n c, v = .agg #[.int .i64 l.base, .slice A n c] ∧ Rds w (dtLab l) [.int .i64 l.base, .slice A n c] := by
  obtain ⟨A, n, c, rfl, hn, -, hc, hm, ha⟩ := h
  refine ⟨A, n, c, rfl, ?_⟩
  simp only [dtLab, Rds, Rd]
  exact ⟨_, _, rfl, rfl, _, _, rfl, ⟨A, n, c, _, rfl, ha, rds_parts.2 rfl, by rw [flatMap_len dtPart_len, hn], hc, hm⟩, rfl⟩
theorem Rds.lab {w : World} {us : List Value} {l : Lab} (h : Rds w (dtLab l) us) (hf : l.parts.length ≤ 1048576) : RdLab w (.agg us.toArray) l := by
  obtain ⟨vs, rfl, h1⟩ := Rds.num h
  obtain ⟨A, n, c, vs, rfl, h2, h3⟩ := h1.row
  obtain rfl := h3.nil
  obtain ⟨hn, hc, hm⟩ := h2.len dtPart_len (by omega)
  simp only [Rd] at h2
  obtain ⟨A', n', c', us, he, ha, hr, -⟩ := h2
  cases he
  rw [rds_parts.1 hr] at ha
  exact ⟨A, n, c, rfl, hn, by omega, hc, hm, ha⟩
theorem OwnLab.dt {base : Nat} {w : World} {v : Value} {l : Lab} (h : OwnLab base w v l) : ∃ us, v = .agg us.toArray ∧ Own base w (dtLab l) us := by
  obtain ⟨A, n, c, rfl, hn, -, ho⟩ := h
  refine ⟨[.int .i64 l.base, .slice A n c], rfl, (Value.slice A n c).ownBlock.toList, ?_, ?_, ?_⟩
  · have h1 : Ow w (.row 2 80 (l.parts.flatMap dtPart)) (.slice A n c) (Value.slice A n c).ownBlock.toList := by
      simp only [Ow]
      exact ⟨n, _, [], own_lower ho (Nat.zero_le _), ows_parts.2 ⟨rfl, rfl⟩, by simp⟩
    have h2 := (Ows.mk_row h1 (Ows.mk_nil w)).mk_num (n := l.base)
    simpa [dtLab] using h2
  · cases (Value.slice A n c).ownBlock <;> simp
  · intro b hb
    exact (ho.lt b (by simpa using hb)).1
/-- A row's own, above a height. -/
theorem owns_raise {w : World} {base n sz : Nat} {t : TypeId} {v : Value} {us : List Value} (h : w.ownsRow 0 t sz v n us) (hb : ∀ b, v.ownBlock = some b → base ≤ b) : w.ownsRow base t sz v n us := by
  refine ⟨h.1, ?_⟩
  rcases h.2 with h0 | ⟨g, cap, cur, rfl, -, h2⟩
  · exact .inl h0
  · exact .inr ⟨g, cap, cur, rfl, hb g rfl, h2⟩
theorem Own.lab {base : Nat} {w : World} {us : List Value} {l : Lab} (h : Own base w (dtLab l) us) (hf : l.parts.length ≤ 1048576) : OwnLab base w (.agg us.toArray) l := by
  obtain ⟨bs, h1, -, h3⟩ := h
  obtain ⟨vs, rfl, h4⟩ := Ows.num h1
  obtain ⟨A, n, c, vs, b1, b2, rfl, rfl, h5, h6⟩ := h4.row
  obtain ⟨rfl, rfl⟩ := h6.nil
  simp only [Ow] at h5
  obtain ⟨m, us, cs, ho, hr, rfl⟩ := h5
  obtain ⟨rfl, rfl⟩ := ows_parts.1 hr
  obtain ⟨A', c', he, -⟩ := own_at ho
  simp only [Value.slice.injEq] at he
  obtain ⟨rfl, rfl, rfl⟩ := he
  have hl : l.parts.length = n := by have := ho.1; rw [ptcells_length] at this; omega
  exact ⟨A, n, c, rfl, hl, by omega, owns_raise ho (fun b hb => h3 b (by simp [hb]))⟩
/-- Of the call's own, between two heights of the heap. -/
def OwnR (lo hi : Nat) (w : World) (ds : List Dt) (us : List Value) : Prop := ∃ bs, Ows w ds us bs ∧ bs.Nodup ∧ ∀ b ∈ bs, lo ≤ b ∧ b < hi
theorem Own.r {base : Nat} {w : World} {ds : List Dt} {us : List Value} (h : Own base w ds us) : OwnR base w.heap.size w ds us := by
  obtain ⟨bs, h1, h2, h3⟩ := h; exact ⟨bs, h1, h2, fun b hb => ⟨h3 b hb, h1.lt b hb⟩⟩
theorem OwnR.own {lo hi base : Nat} {w : World} {ds : List Dt} {us : List Value} (h : OwnR lo hi w ds us) (hb : base ≤ lo) : Own base w ds us := by
  obtain ⟨bs, h1, h2, h3⟩ := h; exact ⟨bs, h1, h2, fun b hm => Nat.le_trans hb (h3 b hm).1⟩
theorem OwnR.below {lo hi : Nat} {w w' : World} {ds : List Dt} {us : List Value} (h : OwnR lo hi w ds us) (hb : Below w.heap.size w w') : OwnR lo hi w' ds us := by
  obtain ⟨bs, h1, h2, h3⟩ := h; exact ⟨bs, h1.below hb, h2, h3⟩
theorem OwnR.past {lo hi g i : Nat} {w : World} {u : Value} {ds : List Dt} {us : List Value} (h : OwnR lo hi w ds us) (hg : g < lo ∨ hi ≤ g) : OwnR lo hi (w.setCell ⟨g, i, none⟩ u) ds us := by
  obtain ⟨bs, h1, h2, h3⟩ := h
  exact ⟨bs, h1.same (fun b hm => Below.heap_setCell _ _ _ _ (by have := h3 b hm; simp only []; omega)), h2, h3⟩
theorem OwnR.putRow {lo hi b : Nat} {ds : List Dt} {us : List Value} : ∀ (vs : List Value) {w : World} {i : Nat}, OwnR lo hi w ds us → b < lo ∨ hi ≤ b → OwnR lo hi (putRow w b i vs) ds us
  | [], _, _, h, _ => h
  | _ :: vs, _, _, h, hb => OwnR.putRow vs (h.past hb) hb
theorem OwnR.num {lo hi : Nat} {w : World} {n : Int} {ds : List Dt} {us : List Value} (h : OwnR lo hi w ds us) : OwnR lo hi w (.num n :: ds) (.int .i64 n :: us) := by
  obtain ⟨bs, h1, h2, h3⟩ := h; exact ⟨bs, h1.mk_num, h2, h3⟩
theorem OwnR.beside {lo mid hi : Nat} {w : World} {ds es : List Dt} {us vs : List Value} (h : OwnR lo mid w ds us) (k : OwnR mid hi w es vs) (h1 : lo ≤ mid) (h2 : mid ≤ hi) : OwnR lo hi w (ds ++ es) (us ++ vs) := by
  obtain ⟨bs, a1, a2, a3⟩ := h
  obtain ⟨cs, b1, b2, b3⟩ := k
  refine ⟨bs ++ cs, a1.append b1, List.nodup_append.2 ⟨a2, b2, fun a ha b hb' e => ?_⟩, fun b hb' => ?_⟩
  · have := a3 a ha; have := b3 b hb'; omega
  · rcases List.mem_append.1 hb' with q | q
    · have := a3 b q; omega
    · have := b3 b q; omega
theorem OwnR.wide {lo lo' hi hi' : Nat} {w : World} {ds : List Dt} {us : List Value} (h : OwnR lo hi w ds us) (h1 : lo' ≤ lo) (h2 : hi ≤ hi') : OwnR lo' hi' w ds us := by
  obtain ⟨bs, a1, a2, a3⟩ := h; exact ⟨bs, a1, a2, fun b hb => by have := a3 b hb; omega⟩
theorem OwnR.nil (lo hi : Nat) (w : World) : OwnR lo hi w [] [] := ⟨[], Ows.mk_nil w, List.nodup_nil, fun _ h => by cases h⟩
/-- What is left of a budget. -/
def lft (left : Int) (s : Nat) : Int := if left < s then -1 else left - s
theorem lft_no {left : Int} {s : Nat} (h : left < s) : lft left s = -1 := by simp [lft, h]
theorem lft_yes {left : Int} {s : Nat} (h : (s : Int) ≤ left) : lft left s = left - s := by
  have : ¬ left < s := by omega
  simp [lft, this]
/-- The call tells numbers one after the other to what these blocks hold. -/
def RetMks (ds : List Dt) (us : List Value) (bs : List Nat) (k : Int) (w : World) (e : Ending) (w' : World) : Prop := e = .returned (.int .i64 k) ∧ Ows w' ds us bs ∧ Chg bs w w'
def RetMkd (d : Dt) (v : Value) (bs : List Nat) (k : Int) (w : World) (e : Ending) (w' : World) : Prop := e = .returned (.int .i64 k) ∧ Ow w' d v bs ∧ Chg bs w w'
theorem cnts_parts (ps : List (Int × Int)) : cnts (ps.flatMap dtPart) = 2 * ps.length := by
  induction ps with
  | nil => rfl
  | cons p ps ih => simp only [List.flatMap_cons, cnts_append, ih, List.length_cons, dtPart, cnts, cnt]; omega
end Go.Proofs.YtnpeojlhjbdjiaaGreatDoor

/-
  The laws' helpers on labels, parts and numbers, over data of whatever depth.
-/
namespace Go.Proofs.YtnpeojlhjbdjiaaGreatDoor
set_option maxRecDepth 100000
open Go.RowKit

theorem ptmarks_succ (k : Int) (n : Nat) : ptmarks k (n + 1) = (k, k + 1) :: ptmarks (k + 2) n := by
  unfold ptmarks
  rw [List.range_succ_eq_map, List.map_cons, List.map_map]
  congr 1
  · simp
  · refine List.map_congr_left fun i _ => ?_
    simp only [Function.comp_apply, Prod.mk.injEq]
    omega
theorem mkds_parts (k : Int) (ps : List (Int × Int)) : mkds k (ps.flatMap dtPart) = (ptmarks k ps.length).flatMap dtPart := by
  induction ps generalizing k with
  | nil => rfl
  | cons p ps ih =>
    rw [List.flatMap_cons, mkds_append, ih, List.length_cons, ptmarks_succ, List.flatMap_cons]
    have e : k + (cnts (dtPart p) : Nat) = k + 2 := by simp [dtPart, cnts, cnt]
    rw [e]
    simp [dtPart, mkds, mkd, cnt]
theorem Rds.sh {us : List Value} {l : Lab} {w : World} (h : Rds w (dtLab l) us) : ShLab (.agg us.toArray) l := by
  obtain ⟨vs, rfl, h1⟩ := Rds.num h
  obtain ⟨A, n, c, vs, rfl, h2, h3⟩ := h1.row
  obtain rfl := h3.nil
  obtain ⟨hn, hc, hm⟩ := h2.len dtPart_len (by omega)
  exact ⟨A, n, c, rfl, hn, by unfold maxLen at hm; omega⟩
theorem ow_parts {w : World} {ps : List (Int × Int)} {A : Option Addr} {n c : Nat} {bs : List Nat} (h : Ow w (.row 2 80 (ps.flatMap dtPart)) (.slice A n c) bs) : w.ownsRow 0 80 2 (.slice A n c) n (ptcells ps) ∧ bs = (Value.slice A n c).ownBlock.toList ∧ ps.length = n := by
  simp only [Ow] at h
  obtain ⟨m, us, cs, ho, hr, rfl⟩ := h
  obtain ⟨rfl, rfl⟩ := ows_parts.1 hr
  obtain ⟨A', c', he, -⟩ := own_at ho
  simp only [Value.slice.injEq] at he
  obtain ⟨rfl, rfl, rfl⟩ := he
  exact ⟨ho, by simp, by have := ho.1; rw [ptcells_length] at this; omega⟩
theorem ow_of_parts {w : World} {ps : List (Int × Int)} {v : Value} {n : Nat} (h : w.ownsRow 0 80 2 v n (ptcells ps)) : Ow w (.row 2 80 (ps.flatMap dtPart)) v v.ownBlock.toList := by
  simp only [Ow]
  exact ⟨n, _, [], h, ows_parts.2 ⟨rfl, rfl⟩, by simp⟩
theorem chg_own {w w' : World} {v : Value} (h : w.grownBy w' v.ownBlock) : Chg v.ownBlock.toList w w' := .of_grown h (fun k hk => by simp [hk])
theorem rd_parts {w : World} {t : TypeId} {ps : List (Int × Int)} {A : Option Addr} {n c : Nat} (h : Rd w (.row 2 t (ps.flatMap dtPart)) (.slice A n c)) : At w A (ptcells ps) ∧ ps.length = n := by
  obtain ⟨hn, -, -⟩ := h.len dtPart_len (by omega)
  simp only [Rd] at h
  obtain ⟨A', n', c', us, he, ha, hr, -⟩ := h
  cases he
  rw [rds_parts.1 hr] at ha
  exact ⟨ha, hn⟩
theorem cntt_lab (l : Lab) : cntt (dtLab l) = 2 * l.parts.length := by simp [dtLab, cntt, cnts_parts]
theorem cnts_lab (l : Lab) : cnts (dtLab l) = 1 + 2 * l.parts.length := by simp [dtLab, cnts, cnt, cnts_parts]
theorem shp_lab {w : World} {us : List Value} {x : Lab} (h : Rds w (dtLab x) us) : ∃ (A0 : Option Addr) (n0 c0 : Nat), us = [.int .i64 x.base, .slice A0 n0 c0] := by
  obtain ⟨us, rfl, h1⟩ := Rds.num h
  obtain ⟨A0, n0, c0, us, rfl, -, h2⟩ := h1.row
  obtain rfl := h2.nil
  exact ⟨A0, n0, c0, rfl⟩
theorem shp_row {w : World} {us : List Value} {sz : Nat} {t : TypeId} {ds : List Dt} (h : Rds w [.row sz t ds] us) : ∃ (A0 : Option Addr) (n0 c0 : Nat), us = [.slice A0 n0 c0] := by
  obtain ⟨A0, n0, c0, us, rfl, -, h2⟩ := h.row
  obtain rfl := h2.nil
  exact ⟨A0, n0, c0, rfl⟩
theorem shpm_lab {w : World} {us : List Value} {x : Lab} {k : Int} (h : Rds w (mkt k (dtLab x)) us) : ∃ (A0 : Option Addr) (n0 c0 : Nat), us = [.int .i64 x.base, .slice A0 n0 c0] := by
  simp only [dtLab, mkt] at h
  obtain ⟨us, rfl, h1⟩ := Rds.num h
  obtain ⟨A0, n0, c0, us, rfl, -, h2⟩ := h1.row
  obtain rfl := h2.nil
  exact ⟨A0, n0, c0, rfl⟩
theorem shpm_row {w : World} {us : List Value} {sz : Nat} {t : TypeId} {ds : List Dt} {k : Int} (h : Rds w (mkt k [.row sz t ds]) us) : ∃ (A0 : Option Addr) (n0 c0 : Nat), us = [.slice A0 n0 c0] := by
  simp only [mkt] at h
  exact shp_row h
theorem nd2 {a b : List Nat} (h : (a ++ b).Nodup) : a.Nodup ∧ b.Nodup ∧ (∀ y ∈ b, y ∉ a) ∧ (∀ y ∈ a, y ∉ b) := by
  rw [List.nodup_append] at h
  exact ⟨h.1, h.2.1, fun y hy ha => h.2.2 y ha y hy rfl, fun y hy hb => h.2.2 y hy y hb rfl⟩
theorem cntt_row (sz : Nat) (t : TypeId) (ds : List Dt) : cntt [.row sz t ds] = cnts ds := by simp [cntt]
theorem ows1 {w : World} {d : Dt} {v : Value} {bs : List Nat} (h : Ows w [d] [v] bs) : Ow w d v bs := by
  simp only [Ows] at h
  obtain ⟨u, vs, b1, b2, he, h1, ⟨rfl, rfl⟩, rfl⟩ := h
  cases he
  simpa using h1
theorem ows1_mk {w : World} {d : Dt} {v : Value} {bs : List Nat} (h : Ow w d v bs) : Ows w [d] [v] bs := by
  simp only [Ows]
  exact ⟨_, _, bs, [], rfl, h, ⟨rfl, rfl⟩, by simp⟩
theorem cnts_ints (ns : List Int) : cnts (ns.flatMap dtInt) = ns.length := by
  induction ns with
  | nil => rfl
  | cons n ns ih => simp only [List.flatMap_cons, cnts_append, ih, List.length_cons, dtInt, cnts, cnt]; omega
theorem cnts_take_le {α : Type} {f : α → List Dt} (xs : List α) (k : Nat) : cnts ((xs.take k).flatMap f) ≤ cnts (xs.flatMap f) := by
  have h : cnts (xs.flatMap f) = cnts ((xs.take k).flatMap f) + cnts ((xs.drop k).flatMap f) := by
    rw [← cnts_append, ← List.flatMap_append, List.take_append_drop]
  omega
theorem rd_len {sz n c m : Nat} {t : TypeId} {ds : List Dt} {A : Option Addr} {w : World} (h : Rd w (.row sz t ds) (.slice A n c)) (hm : ds.length = m * sz) (hs : 0 < sz) : m = n := by
  simp only [Rd] at h
  obtain ⟨A', n', c', us, hv, -, -, hl, -⟩ := h
  simp only [Value.slice.injEq] at hv
  obtain ⟨rfl, rfl, rfl⟩ := hv
  rw [hm] at hl
  exact Nat.eq_of_mul_eq_mul_right hs hl
theorem ow_slice {w : World} {sz : Nat} {t : TypeId} {ds : List Dt} {u : Value} {b : List Nat} (h : Ow w (.row sz t ds) u b) : ∃ A n c, u = .slice A n c := by
  simp only [Ow] at h
  obtain ⟨n, _, _, ho, -⟩ := h
  obtain ⟨A, c, rfl, -⟩ := own_at ho
  exact ⟨A, n, c, rfl⟩
theorem ow_len {α : Type} {f : α → List Dt} {sz n c : Nat} {t : TypeId} {xs : List α} {A : Option Addr} {w : World} {bs : List Nat} (hf : ∀ x, (f x).length = sz) (hs : 0 < sz) (h : Ow w (.row sz t (xs.flatMap f)) (.slice A n c) bs) : xs.length = n := (h.rd.len hf hs).1
theorem rds1 {w : World} {d : Dt} {v : Value} (h : Rds w [d] [v]) : Rd w d v := by
  simp only [Rds] at h
  obtain ⟨u, vs, he, h1, rfl⟩ := h
  cases he
  exact h1
theorem rds1_mk {w : World} {d : Dt} {v : Value} (h : Rd w d v) : Rds w [d] [v] := by
  simp only [Rds]
  exact ⟨_, _, rfl, h, rfl⟩
end Go.Proofs.YtnpeojlhjbdjiaaGreatDoor

/-
  Data of the call's own while other blocks change; a block beside it. No program in sight.
-/
namespace Go.Proofs.YtnpeojlhjbdjiaaGreatDoor
set_option maxRecDepth 100000
open Go.RowKit

theorem OwnR.chg {lo hi : Nat} {w w' : World} {ds : List Dt} {us : List Value} {bs : List Nat} (h : OwnR lo hi w ds us) (hc : Chg bs w w') (hn : ∀ b ∈ bs, b < lo ∨ hi ≤ b) : OwnR lo hi w' ds us := by
  obtain ⟨cs, h1, h2, h3⟩ := h
  exact ⟨cs, h1.chg hc (fun k hk hb => by have := h3 k hk; have := hn k hb; omega), h2, h3⟩
theorem OwnR.rd {lo hi : Nat} {w : World} {ds : List Dt} {us : List Value} (h : OwnR lo hi w ds us) : Rds w ds us := h.choose_spec.1.rd
/-- A struct of the call's own in a block of its own, and a plain value beside it (or none). -/
def BoxD (old : World) (ds : List Dt) (s : Value) (wx : World) : Prop :=
  ∃ g us lo hi, s = .pointer (some ⟨g, 0, none⟩) ∧ Below old.heap.size old wx ∧ old.heap.size ≤ g ∧ Box wx g us ∧ OwnR lo hi wx ds us ∧ old.heap.size ≤ lo ∧ hi ≤ wx.heap.size ∧ (g < lo ∨ hi ≤ g)
theorem BoxD.laid {old w5 : World} {base : Nat} {ds : List Dt} {us : List Value} {t : TypeId} (hb : Below old.heap.size old w5) (ho : Own base w5 ds us) (hbase : old.heap.size ≤ base) :
    BoxD old ds (.pointer (some ⟨w5.heap.size, 0, none⟩)) (w5.alloc (.cells us.toArray t)) :=
  ⟨w5.heap.size, us, base, w5.heap.size, rfl, hb.alloc hb.size _, hb.size, Box.new _ _ _, ho.r.below ((Below.refl _ _).alloc (Nat.le_refl _) _), hbase, by simp, .inr (Nat.le_refl _)⟩
theorem box_putRow {g : Nat} : ∀ (vs : List Value) {w : World} {pre old : List Value} {i : Nat}, Box w g (pre ++ old) → old.length = vs.length → i = pre.length → Box (putRow w g i vs) g (pre ++ vs)
  | [], w, pre, old, i, h, hl, _ => by
    obtain rfl : old = [] := List.eq_nil_of_length_eq_zero (by simpa using hl)
    exact h
  | v :: vs, w, pre, [], i, h, hl, _ => by simp at hl
  | v :: vs, w, pre, o :: old, i, h, hl, hi => by
    have h1 := h.set (i := i) (u := v) (by simp; omega)
    have e : (pre ++ o :: old).set i v = (pre ++ [v]) ++ old := by subst hi; simp
    rw [e] at h1
    have h2 := box_putRow vs (i := i + 1) h1 (by simpa using hl) (by simp [hi])
    simpa [putRow] using h2
theorem size_putRow {g : Nat} : ∀ (vs : List Value) {w : World} {i : Nat}, (putRow w g i vs).heap.size = w.heap.size
  | [], _, _ => rfl
  | _ :: vs, w, i => by rw [putRow, size_putRow vs]; simp
theorem BoxD.stored {old w5 : World} {g base : Nat} {ds : List Dt} {us zs : List Value} (hb : Below old.heap.size old w5) (hg : old.heap.size ≤ g) (hy : Box w5 g zs) (hl : zs.length = us.length) (ho : Own base w5 ds us) (hgb : g < base) :
    BoxD old ds (.pointer (some ⟨g, 0, none⟩)) (putRow w5 g 0 us) :=
  ⟨g, us, base, w5.heap.size, rfl, below_putRow us hb hg, hg, box_putRow (pre := []) us (by simpa using hy) hl rfl, ho.r.putRow us (.inl hgb), by omega, by rw [size_putRow]; exact Nat.le_refl _, .inl hgb⟩
/-- What was there at an earlier world stays. -/
structure Anch (a b : World) : Prop where
  h : Below a.heap.size a b
theorem Anch.below {a b c : World} (k : Anch a b) (h : Below b.heap.size b c) : Anch a c := ⟨below_more k.h h⟩
theorem Anch.chg {a b c : World} {bs : List Nat} (k : Anch a b) (hc : Chg bs b c) (hb : a.heap.size ≤ b.heap.size) (hn : ∀ x ∈ bs, a.heap.size ≤ x) : Anch a c := ⟨hc.below k.h hb hn⟩
theorem Anch.new (a : World) : Anch a a := ⟨.refl _ _⟩
/-- The call returns a struct of its own, and a plain value beside it. -/
def RetDP (ds : List Dt) (p : Value) (w : World) (e : Ending) (w' : World) : Prop := ∃ us, e = .returned (.tuple #[.agg us.toArray, p]) ∧ Own w.heap.size w' ds us ∧ Below w.heap.size w w'
theorem cntt_lab_le (l : Lab) : cntt (dtLab l) ≤ 40 * l.parts.length := by rw [cntt_lab]; omega
end Go.Proofs.YtnpeojlhjbdjiaaGreatDoor

/-
  Data of the call's own in a block of its own, in the making: one more element, of whatever depth, behind a row of it. No program in sight.
-/
namespace Go.Proofs.YtnpeojlhjbdjiaaGreatDoor
set_option maxRecDepth 100000
open Go.RowKit

theorem Rds.one {w : World} : ∀ {ds : List Dt} {us : List Value}, Rds w ds us → ∀ u ∈ us, u.oneCell' = true
  | [], us, h, u, hu => by rw [h.nil] at hu; cases hu
  | .num n :: ds, us, h, u, hu => by
    obtain ⟨vs, rfl, h1⟩ := h.num
    rcases List.mem_cons.1 hu with rfl | hu
    · rfl
    · exact h1.one u hu
  | .row sz t es :: ds, us, h, u, hu => by
    obtain ⟨A, n, c, vs, rfl, -, h1⟩ := h.row
    rcases List.mem_cons.1 hu with rfl | hu
    · rfl
    · exact h1.one u hu
/-- A row within data of the call's own: what appending needs, and what it leaves. -/
theorem Ows.grow {lo mid : Nat} {w : World} {sz : Nat} {t : TypeId} {pre ds post : List Dt} {us : List Value} {bs : List Nat} (h1 : Ows w (pre ++ .row sz t ds :: post) us bs) (h2 : bs.Nodup) (h3 : ∀ b ∈ bs, lo ≤ b ∧ b < mid) :
    ∃ u1 v u2 n cs, us = u1 ++ v :: u2 ∧ u1.length = pre.length ∧ w.ownsRow lo t sz v n cs ∧ ds.length = n * sz ∧ (∀ k, v.ownBlock = some k → k ∈ bs) ∧
      ∀ {w2 w' : World} {v' : Value} {n' : Nat} {ys : List Value} {es : List Dt}, Below w.heap.size w w2 → Own mid w2 es ys → mid ≤ w2.heap.size → Apped lo t sz v n' (cs ++ ys) w2 v' w' →
        ∃ bs', Ows w' (pre ++ .row sz t (ds ++ es) :: post) (u1 ++ v' :: u2) bs' ∧ bs'.Nodup ∧ ∀ b ∈ bs', b ∈ bs ∨ mid ≤ b := by
  obtain ⟨u1, v, u2, b1, b, b2, rfl, rfl, hl, k1, k2, k3⟩ := h1.at
  simp only [Ow] at k2
  obtain ⟨n, cs, ks, ho, hr, rfl⟩ := k2
  refine ⟨u1, v, u2, n, cs, rfl, hl, owns_raise ho (fun x hx => (h3 x (by simp [hx])).1), by rw [← hr.length]; exact ho.1, fun k hk => by simp [hk], ?_⟩
  intro w2 w' v' n' ys es hbl hown hmid hap
  obtain ⟨eb, e1, e2, e3⟩ := hown
  have p1 : (b1 ++ (v.ownBlock.toList ++ ks ++ b2)).Perm (v.ownBlock.toList ++ (b1 ++ (ks ++ b2))) := List.perm_iff_count.2 fun a => by simp only [List.count_append]; omega
  have N1 := p1.nodup_iff.1 h2
  have hR : ∀ x ∈ b1 ++ (ks ++ b2), (lo ≤ x ∧ x < mid) ∧ v.ownBlock ≠ some x := fun x hx => by
    refine ⟨h3 x (p1.mem_iff.2 (List.mem_append.2 (.inr hx))), fun e => ?_⟩
    exact (List.nodup_append.1 N1).2.2 x (by simp [e]) x hx rfl
  have hv : ∀ x, v.ownBlock = some x → x < mid := fun x hx => (h3 x (by simp [hx])).2
  have hE : ∀ x ∈ eb, v.ownBlock ≠ some x := fun x hx e => by have := hv x e; have := e3 x hx; omega
  have s1 : ∀ x, x < w2.heap.size → v.ownBlock ≠ some x → w'.heap[x]? = w2.heap[x]? := fun x hx hn => hap.grown.block x hx (fun e => hn e.symm)
  have s2 : ∀ x ∈ b1 ++ (ks ++ b2), w'.heap[x]? = w.heap[x]? := fun x hx => by
    have hxl : x < w.heap.size := h1.lt x (p1.mem_iff.2 (List.mem_append.2 (.inr hx)))
    rw [s1 x (by have := (hR x hx).1; omega) (hR x hx).2, hbl.block x hxl]
  refine ⟨b1 ++ ((v'.ownBlock.toList ++ (ks ++ eb)) ++ b2), ?_, ?_, ?_⟩
  · refine Ows.mk_at (k1.same fun x hx => s2 x (by simp [hx])) ?_ (k3.same fun x hx => s2 x (by simp [hx]))
    simp only [Ow]
    exact ⟨n', cs ++ ys, ks ++ eb, own_lower hap.own (Nat.zero_le _), (hr.same fun x hx => s2 x (by simp [hx])).append (e1.same fun x hx => s1 x (e1.lt x hx) (hE x hx)), rfl⟩
  · have p2 : (b1 ++ ((v'.ownBlock.toList ++ (ks ++ eb)) ++ b2)).Perm (v'.ownBlock.toList ++ ((b1 ++ (ks ++ b2)) ++ eb)) := List.perm_iff_count.2 fun a => by simp only [List.count_append]; omega
    refine p2.nodup_iff.2 (List.nodup_append.2 ⟨by cases v'.ownBlock <;> simp, List.nodup_append.2 ⟨(List.nodup_append.1 N1).2.1, e2, fun a ha c hc e => ?_⟩, fun a ha c hc e => ?_⟩)
    · have := (hR a ha).1; have := e3 c hc; omega
    · subst e
      have ha' : v'.ownBlock = some a := by simpa using ha
      rcases hap.block with q | q
      · rw [q] at ha'
        rcases List.mem_append.1 hc with r | r
        · exact (hR a r).2 ha'
        · exact hE a r ha'
      · rw [q] at ha'
        obtain rfl := Option.some.inj ha'
        rcases List.mem_append.1 hc with r | r
        · have := (hR _ r).1; omega
        · have := e1.lt _ r; omega
  · intro x hx
    simp only [List.mem_append] at hx
    rcases hx with hx | (hx | hx | hx) | hx
    · exact .inl (by simp [hx])
    · have hx' : v'.ownBlock = some x := by simpa using hx
      rcases hap.block with q | q
      · rw [q] at hx'; exact .inl (by simp [hx'])
      · rw [q] at hx'; have := Option.some.inj hx'; exact .inr (by omega)
    · exact .inl (by simp [hx])
    · exact .inr (e3 x hx)
    · exact .inl (by simp [hx])
theorem Own.putRow {base g : Nat} {ds : List Dt} {us : List Value} : ∀ (vs : List Value) {w : World} {i : Nat}, Own base w ds us → g < base → Own base (putRow w g i vs) ds us
  | [], _, _, h, _ => h
  | _ :: vs, _, _, h, hg => Own.putRow vs (h.past hg) hg
/-- In block g lies a struct of the call's own; what it holds was made behind 'old', and is not that block. -/
structure Lie (old : World) (g : Nat) (ds : List Dt) (wx : World) (us : List Value) : Prop where
  kept : Below old.heap.size old wx
  og : old.heap.size ≤ g
  box : Box wx g us
  own : ∃ bs, Ows wx ds us bs ∧ bs.Nodup ∧ ∀ b ∈ bs, old.heap.size ≤ b ∧ b ≠ g
section
variable {old wx wy : World} {g : Nat} {ds : List Dt} {us : List Value}
theorem Lie.below (h : Lie old g ds wx us) (hb : Below wx.heap.size wx wy) : Lie old g ds wy us := by
  obtain ⟨bs, h1, h2, h3⟩ := h.own
  exact ⟨below_more h.kept hb, h.og, h.box.below hb, bs, h1.below hb, h2, h3⟩
theorem Lie.rd (h : Lie old g ds wx us) : Rds wx ds us := h.own.choose_spec.1.rd
theorem Lie.owned (h : Lie old g ds wx us) : Own old.heap.size wx ds us := by
  obtain ⟨bs, h1, h2, h3⟩ := h.own
  exact ⟨bs, h1, h2, fun b hb => (h3 b hb).1⟩
/-- Just laid: the block behind all that it holds, or ahead of it. -/
theorem Lie.laid {base : Nat} {t : TypeId} (hb : Below old.heap.size old wx) (ho : Own base wx ds us) (hbase : old.heap.size ≤ base) : Lie old wx.heap.size ds (wx.alloc (.cells us.toArray t)) us := by
  obtain ⟨bs, h1, h2, h3⟩ := ho
  refine ⟨hb.alloc hb.size _, hb.size, Box.new _ _ _, bs, h1.below ((Below.refl _ _).alloc (Nat.le_refl _) _), h2, fun b hm => ?_⟩
  have := h1.lt b hm
  have := h3 b hm
  omega
theorem Lie.stored {base : Nat} {zs : List Value} (hb : Below old.heap.size old wx) (hg : old.heap.size ≤ g) (hy : Box wx g zs) (hl : zs.length = us.length) (ho : Own base wx ds us) (hgb : g < base) : Lie old g ds (putRow wx g 0 us) us := by
  obtain ⟨bs, h1, h2, h3⟩ := ho.putRow (i := 0) us hgb
  exact ⟨below_putRow us hb hg, hg, box_putRow (pre := []) us (by simpa using hy) hl rfl, bs, h1, h2, fun b hm => by have := h3 b hm; omega⟩
/-- One element more. -/
theorem Lie.grow {sz : Nat} {t : TypeId} {pre es post : List Dt} (h : Lie old g (pre ++ .row sz t es :: post) wx us) :
    ∃ u1 v u2 n cs, us = u1 ++ v :: u2 ∧ u1.length = pre.length ∧ wx.ownsRow old.heap.size t sz v n cs ∧ es.length = n * sz ∧ v.ownBlock ≠ some g ∧
      ∀ {w2 w' : World} {v' : Value} {n' : Nat} {ys : List Value} {fs : List Dt}, Below wx.heap.size wx w2 → Own wx.heap.size w2 fs ys → Apped old.heap.size t sz v n' (cs ++ ys) w2 v' w' →
        Lie old g (pre ++ .row sz t (es ++ fs) :: post) (w'.setCell ⟨g, pre.length, none⟩ v') (u1 ++ v' :: u2) := by
  obtain ⟨bs, h1, h2, h3⟩ := h.own
  obtain ⟨u1, v, u2, n, cs, rfl, hl, ho, hn, hvb, hg⟩ := h1.grow h2 (lo := old.heap.size) (mid := wx.heap.size) (fun b hb => ⟨(h3 b hb).1, h1.lt b hb⟩)
  refine ⟨u1, v, u2, n, cs, rfl, hl, ho, hn, fun e => (h3 g (hvb g e)).2 rfl, ?_⟩
  intro w2 w' v' n' ys fs hb hy hap
  have h4 := h.below hb
  have hgo := h.og
  have hc : Chg v.ownBlock.toList w2 w' := .of_grown hap.grown (fun k hk => by simp [hk])
  have hng : g ∉ v.ownBlock.toList := fun hm => (h3 g (hvb g (by simpa using hm))).2 rfl
  have hk : Below old.heap.size old w' := hc.below h4.kept h4.kept.size (fun b hb' => (h3 b (hvb b (by simpa using hb'))).1)
  obtain ⟨bs', q1, q2, q3⟩ := hg hb hy hb.size hap
  have hgw : g < wx.heap.size := h.box.lt
  have q4 : ∀ b ∈ bs', old.heap.size ≤ b ∧ b ≠ g := fun b hm => by
    rcases q3 b hm with r | r
    · exact h3 b r
    · have := h.kept.size; omega
  refine ⟨hk.setCell (by simp only []; omega) _, hgo, ?_, bs', q1.same (fun b hm => Below.heap_setCell _ _ _ _ (by simpa using (q4 b hm).2)), q2, q4⟩
  have e : u1 ++ v' :: u2 = (u1 ++ v :: u2).set pre.length v' := by rw [← hl]; simp
  rw [e]
  exact (hc.box h4.box hng).set (by rw [← hl]; simp)
end
/-- Data of the call's own between two heights, as a call left it. -/
structure OwnI (lo hi : Nat) (w : World) (ds : List Dt) (us : List Value) : Prop where
  o : OwnR lo hi w ds us
  h : lo ≤ hi
  k : hi ≤ w.heap.size
theorem OwnI.below {lo hi : Nat} {w w' : World} {ds : List Dt} {us : List Value} (h : OwnI lo hi w ds us) (hb : Below w.heap.size w w') : OwnI lo hi w' ds us := ⟨h.o.below hb, h.h, Nat.le_trans h.k hb.size⟩
theorem own_r {w0 w1 : World} {base : Nat} {ds : List Dt} {us : List Value} (h : Own base w1 ds us) (hb : Below w0.heap.size w0 w1) (e : base = w0.heap.size) : OwnI w0.heap.size w1.heap.size w1 ds us := ⟨by rw [← e]; exact h.r, hb.size, Nat.le_refl _⟩
/-- Data of the call's own in several such stretches, in whatever order they were made. -/
def OwnS (L : List (Nat × Nat)) (w : World) (ds : List Dt) (us : List Value) : Prop := ∃ bs, Ows w ds us bs ∧ bs.Nodup ∧ ∀ b ∈ bs, ∃ p ∈ L, p.1 ≤ b ∧ b < p.2
theorem OwnS.one {lo hi : Nat} {w : World} {ds : List Dt} {us : List Value} (h : OwnR lo hi w ds us) : OwnS [(lo, hi)] w ds us := by
  obtain ⟨bs, h1, h2, h3⟩ := h; exact ⟨bs, h1, h2, fun b hb => ⟨(lo, hi), List.mem_singleton.2 rfl, h3 b hb⟩⟩
theorem OwnS.num {L : List (Nat × Nat)} {w : World} {n : Int} {ds : List Dt} {us : List Value} (h : OwnS L w ds us) : OwnS L w (.num n :: ds) (.int .i64 n :: us) := by
  obtain ⟨bs, h1, h2, h3⟩ := h; exact ⟨bs, h1.mk_num, h2, h3⟩
theorem OwnS.and {lo hi : Nat} {L : List (Nat × Nat)} {w : World} {ds es : List Dt} {us vs : List Value} (h : OwnS [(lo, hi)] w ds us) (k : OwnS L w es vs) (hd : ∀ p ∈ L, hi ≤ p.1 ∨ p.2 ≤ lo) : OwnS ((lo, hi) :: L) w (ds ++ es) (us ++ vs) := by
  obtain ⟨bs, a1, a2, a3⟩ := h
  obtain ⟨cs, b1, b2, b3⟩ := k
  refine ⟨bs ++ cs, a1.append b1, List.nodup_append.2 ⟨a2, b2, fun a ha b hb' e => ?_⟩, fun b hb' => ?_⟩
  · obtain ⟨p, hp, p1, p2⟩ := a3 a ha
    obtain rfl := List.mem_singleton.1 hp
    obtain ⟨q, hq, q1, q2⟩ := b3 b hb'
    have := hd q hq
    simp only [] at p1 p2
    omega
  · rcases List.mem_append.1 hb' with q | q
    · obtain ⟨p, hp, h1⟩ := a3 b q
      exact ⟨p, by rw [List.mem_singleton.1 hp]; exact List.mem_cons_self .., h1⟩
    · obtain ⟨p, hp, h1⟩ := b3 b q
      exact ⟨p, List.mem_cons_of_mem _ hp, h1⟩
theorem OwnS.own {L : List (Nat × Nat)} {w : World} {base : Nat} {ds : List Dt} {us : List Value} (h : OwnS L w ds us) (hb : ∀ p ∈ L, base ≤ p.1) : Own base w ds us := by
  obtain ⟨bs, h1, h2, h3⟩ := h
  exact ⟨bs, h1, h2, fun b hm => by obtain ⟨p, hp, h4⟩ := h3 b hm; exact Nat.le_trans (hb p hp) h4.1⟩
theorem Box.putRow {g b : Nat} {cs : List Value} : ∀ (vs : List Value) {w : World} {i : Nat}, Box w g cs → g ≠ b → Box (putRow w b i vs) g cs
  | [], _, _, h, _ => h
  | _ :: vs, _, _, h, hg => Box.putRow vs (h.far hg) hg
theorem all_nil {P : Nat × Nat → Prop} : ∀ p ∈ ([] : List (Nat × Nat)), P p := fun _ h => by cases h
theorem all_cons {P : Nat × Nat → Prop} {q : Nat × Nat} {L : List (Nat × Nat)} (h : P q) (k : ∀ p ∈ L, P p) : ∀ p ∈ q :: L, P p := List.forall_mem_cons.2 ⟨h, k⟩
theorem Rds.cut {w : World} {ds es : List Dt} {us vs : List Value} (h : Rds w (ds ++ es) (us ++ vs)) (hl : us.length = ds.length) : Rds w ds us ∧ Rds w es vs := by
  obtain ⟨u1, u2, e, h1, h2⟩ := h.split
  obtain ⟨rfl, rfl⟩ := List.append_inj e (hl.trans h1.length.symm)
  exact ⟨h1, h2⟩
theorem ow_none (w : World) (sz : Nat) (t : TypeId) : Ow w (.row sz t []) (.slice none 0 0) [] := by
  simp only [Ow]
  exact ⟨0, [], [], World.ownsRow_nil _ _ _ _, Ows.mk_nil w, rfl⟩
end Go.Proofs.YtnpeojlhjbdjiaaGreatDoor
