/-
  Texts put together: OwW, DrawnD, DrawDoorSt, DrawMsg, DrawMsgAny, DrawDoor, DrawDoorAny, Draw7. What each proves stands ahead of it.
-/
import Derived.Test.YtnpeojlhjbdjiaaGreatDoorDat7
import Derived.Test.YtnpeojlhjbdjiaaGreatDoorCur
import Derived.Test.YtnpeojlhjbdjiaaGreatDoorDrT
import Derived.Test.YtnpeojlhjbdjiaaGreatDoorDHelp
import Derived.Test.YtnpeojlhjbdjiaaGreatDoorDrawLab
import Derived.Test.YtnpeojlhjbdjiaaGreatDoorSpecOpen
import Derived.Test.YtnpeojlhjbdjiaaGreatDoorDoorRow
import Derived.Test.YtnpeojlhjbdjiaaGreatDoorDrawSend
import Derived.Test.YtnpeojlhjbdjiaaGreatDoorDrawTm
import Derived.Test.YtnpeojlhjbdjiaaGreatDoorDrawTmAny
import Derived.Test.YtnpeojlhjbdjiaaGreatDoorDrawAny
import Derived.Test.YtnpeojlhjbdjiaaGreatDoorSpecDoor
import Derived.Test.YtnpeojlhjbdjiaaGreatDoorLate2
import Derived.Test.YtnpeojlhjbdjiaaGreatDoorMem
/-
  Data whose rows lie in a range of blocks (two of them may be one): what a draw hands out, only to be read. No program in sight.
-/
namespace Go.Proofs.YtnpeojlhjbdjiaaGreatDoor
set_option maxRecDepth 100000
open Go.RowKit

theorem OffLab.ww {base g : Nat} {w : World} {v : Value} {l : Lab} (h : OffLab base g w v l) : ∃ us, v = .agg us.toArray ∧ OwW base w.heap.size w (dtLab l) us := by
  obtain ⟨us, rfl, ho⟩ := h.1.dt
  exact ⟨us, rfl, ho.ww⟩
theorem agg_inj {us vs : List Value} (h : Value.agg us.toArray = .agg vs.toArray) : us = vs := by simpa using h
theorem HoldTm.ww {m base g : Nat} {w : World} {v : Value} {t : Tm} (h : HoldTm m base g w v t) : ∃ us, v = .agg us.toArray ∧ OwW base w.heap.size w (dtTm t) us := by
  obtain ⟨A0, n0, c0, A1, n1, c1, A2, n2, c2, A3, n3, c3, rfl, ⟨h0, -⟩, ⟨h1, -⟩, ⟨h2, -⟩, h3, -⟩ := h
  obtain ⟨u0, e0, o0⟩ := h0.ww
  obtain ⟨u1, e1, o1⟩ := h1.ww
  obtain ⟨u2, e2, o2⟩ := h2.ww
  obtain ⟨u3, e3, o3⟩ := h3.ww
  obtain rfl := agg_inj (us := [_, _]) e0
  obtain rfl := agg_inj (us := [_, _]) e1
  obtain rfl := agg_inj (us := [_, _]) e2
  obtain rfl := agg_inj (us := [_, _]) e3
  exact ⟨_, rfl, o0.and (o1.and (o2.and o3))⟩
theorem OwnLab.ww {base : Nat} {w : World} {v : Value} {l : Lab} (h : OwnLab base w v l) : ∃ us, v = .agg us.toArray ∧ OwW base w.heap.size w (dtLab l) us := by
  obtain ⟨us, rfl, ho⟩ := h.dt
  exact ⟨us, rfl, ho.ww⟩
theorem OwnTm.ww {base : Nat} {w : World} {v : Value} {t : Tm} (h : OwnTm base w v t) : ∃ us, v = .agg us.toArray ∧ OwW base w.heap.size w (dtTm t) us := by
  obtain ⟨A0, n0, c0, A1, n1, c1, A2, n2, c2, A3, n3, c3, rfl, h0, h1, h2, h3, -⟩ := h
  obtain ⟨u0, e0, o0⟩ := h0.ww
  obtain ⟨u1, e1, o1⟩ := h1.ww
  obtain ⟨u2, e2, o2⟩ := h2.ww
  obtain ⟨u3, e3, o3⟩ := h3.ww
  obtain rfl := agg_inj (us := [_, _]) e0
  obtain rfl := agg_inj (us := [_, _]) e1
  obtain rfl := agg_inj (us := [_, _]) e2
  obtain rfl := agg_inj (us := [_, _]) e3
  exact ⟨_, rfl, o0.and (o1.and (o2.and o3))⟩
/-- The cursor and all that was there. -/
structure CurG (p : Nat) (a : Option Addr) (len cap : Nat) (w wr : World) : Prop where
  cur : IsCur p a len cap wr
  grown : w.grownBy wr (some p)
section
variable {p : Nat} {a : Option Addr} {len cap : Nat} {w wr w' : World}
theorem CurG.gb (h : CurG p a len cap w wr) (hc : IsCur p a len cap w') (hg : wr.grownBy w' (some p)) : CurG p a len cap w w' := ⟨hc, gb_trans h.grown hg⟩
theorem CurG.below (h : CurG p a len cap w wr) (hb : Below wr.heap.size wr w') : CurG p a len cap w w' := ⟨h.cur.block (hb.block p h.cur.lt), gb_trans h.grown (gb_of_below hb _)⟩
theorem CurG.set {g i : Nat} {u : Value} (h : CurG p a len cap w wr) (hg : w.heap.size ≤ g) (hp : p < w.heap.size) : CurG p a len cap w (wr.setCell ⟨g, i, none⟩ u) := by
  have hb : ∀ k, k ≠ g → (wr.setCell ⟨g, i, none⟩ u).heap[k]? = wr.heap[k]? := fun k hk => Below.heap_setCell _ _ _ _ (by simpa using hk)
  exact ⟨h.cur.block (hb p (by omega)), ⟨h.grown.os, h.grown.tape, h.grown.output, by simpa using h.grown.size, fun k hk hne => by rw [hb k (by omega)]; exact h.grown.block k hk hne⟩⟩
theorem CurG.put {g : Nat} (hg : w.heap.size ≤ g) (hp : p < w.heap.size) : ∀ (xs : List Value) {wr : World} {i : Nat}, CurG p a len cap w wr → CurG p a len cap w (putRow wr g i xs)
  | [], _, _, h => h
  | _ :: xs, _, _, h => CurG.put hg hp xs (h.set hg hp)
end
theorem chg_p {p : Nat} {w w' : World} (hg : w.grownBy w' (some p)) : Chg [p] w w' := .of_grown hg (fun k hk => by simpa using hk.symm)
theorem OwnR.gb {lo hi p : Nat} {w w' : World} {ds : List Dt} {us : List Value} (h : OwnR lo hi w ds us) (hg : w.grownBy w' (some p)) (hp : p < lo) : OwnR lo hi w' ds us :=
  h.chg (chg_p hg) (fun b hb => by rw [List.mem_singleton.1 hb]; exact .inl hp)
end Go.Proofs.YtnpeojlhjbdjiaaGreatDoor

/-
  What a draw of a message, of a door hands out: some one, only to be read. No program in sight.
-/
namespace Go.Proofs.YtnpeojlhjbdjiaaGreatDoor
set_option maxRecDepth 100000
open Go.RowKit

/-- Some message is drawn, of few parts, only to be read. -/
def DrawnMs (m p : Nat) (a : Option Addr) (len cap : Nat) (w : World) (e : Ending) (w' : World) : Prop := ∃ us x, e = .returned (.agg us.toArray) ∧ msSz x ≤ m ∧ OwW w.heap.size w'.heap.size w' (dtMs x) us ∧ CurG p a len cap w w'
/-- A door's label, its queue's row and what stands in it, from lo on: the row's block apart. -/
structure QOut (lo : Nat) (wr : World) (l : Lab) (q : List Ms) (L Q : Value) (nq : Nat) (us : List Value) : Prop where
  lab : ∃ bs, Ows wr (dtLab l) [.int .i64 l.base, L] bs ∧ ∀ b ∈ bs, lo ≤ b ∧ Q.ownBlock ≠ some b
  row : wr.ownsRow lo 35 12 Q nq us
  inn : ∃ bs, Ows wr (q.flatMap dtMs) us bs ∧ ∀ b ∈ bs, lo ≤ b ∧ Q.ownBlock ≠ some b
  few : l.parts.length ≤ 100
  len : q.length = nq
  each : ∀ m ∈ q, msSz m ≤ 600
/-- Some door. -/
def DrawnDoor (m p : Nat) (a : Option Addr) (len cap : Nat) (w : World) (e : Ending) (w' : World) : Prop := ∃ (h : Int) (l : Lab) (q : List Ms) (A0 : Option Addr) (n0 c0 : Nat) (A1 : Option Addr) (n1 c1 nq : Nat) (us : List Value),
  e = .returned (.agg #[.int .i64 h, .int .i64 l.base, .slice A0 n0 c0, .slice A1 n1 c1]) ∧ QOut w.heap.size w' l q (.slice A0 n0 c0) (.slice A1 n1 c1) nq us ∧ nq ≤ m ∧ InI64 h ∧ CurG p a len cap w w'
theorem mssSum_few : ∀ {q : List Ms}, (∀ m ∈ q, msSz m ≤ 600) → mssSum q ≤ 600 * q.length
  | [], _ => by simp [mssSum]
  | m :: q, h => by
    have h1 := mssSum_few (q := q) (fun x hx => h x (List.mem_cons_of_mem _ hx))
    have h2 := h m (List.mem_cons_self ..)
    have h3 : mssSum (m :: q) = msSz m + mssSum q := by simp [mssSum]
    rw [h3, List.length_cons]
    omega
theorem QOut.sz {lo : Nat} {wr : World} {l : Lab} {q : List Ms} {L Q : Value} {nq : Nat} {us : List Value} (k : QOut lo wr l q L Q nq us) (h : Int) (hn : nq ≤ 30) : doorSz ⟨h, l, q⟩ ≤ 100000 := by
  have h1 : mssSum q ≤ 600 * q.length := mssSum_few k.each
  have := k.few
  have := k.len
  simp only [doorSz, mssSz]
  omega
theorem QOut.ww {lo : Nat} {wr : World} {l : Lab} {q : List Ms} {L Q : Value} {nq : Nat} {us : List Value} (k : QOut lo wr l q L Q nq us) (h : Int) : OwW lo wr.heap.size wr (dtDoor ⟨h, l, q⟩) [.int .i64 h, .int .i64 l.base, L, Q] := by
  obtain ⟨b1, o1, f1⟩ := k.lab
  obtain ⟨b2, o2, f2⟩ := k.inn
  have hrow := k.row.lt
  have hq : Ow wr (.row 12 35 (q.flatMap dtMs)) Q (Q.ownBlock.toList ++ b2) := by
    simp only [Ow]
    exact ⟨nq, us, b2, own_lower k.row (by omega), o2, rfl⟩
  refine ⟨b1 ++ (Q.ownBlock.toList ++ b2), ?_, fun b hb => ?_⟩
  · have q1 := Ows.mk_num (n := h) (o1.append (Ows.mk_row hq (Ows.mk_nil wr)))
    simpa [dtDoor] using q1
  · rcases List.mem_append.1 hb with e | e
    · exact ⟨(f1 b e).1, o1.lt b e⟩
    · rcases List.mem_append.1 e with e | e
      · exact hrow b (by simpa using e)
      · exact ⟨(f2 b e).1, o2.lt b e⟩
theorem QOut.same {lo : Nat} {wr w' : World} {l : Lab} {q : List Ms} {L Q : Value} {nq : Nat} {us : List Value} (k : QOut lo wr l q L Q nq us) (hs : ∀ b, lo ≤ b → w'.heap[b]? = wr.heap[b]?) : QOut lo w' l q L Q nq us := by
  obtain ⟨b1, o1, f1⟩ := k.lab
  obtain ⟨b2, o2, f2⟩ := k.inn
  exact ⟨⟨b1, o1.same (fun b hb => hs b (f1 b hb).1), f1⟩, owns_same k.row (fun b hb => hs b (k.row.lt b hb).1), ⟨b2, o2.same (fun b hb => hs b (f2 b hb).1), f2⟩, k.few, k.len, k.each⟩
theorem QOut.gb {lo p : Nat} {wr w' : World} {l : Lab} {q : List Ms} {L Q : Value} {nq : Nat} {us : List Value} (k : QOut lo wr l q L Q nq us) (hg : wr.grownBy w' (some p)) (hp : p < lo) : QOut lo w' l q L Q nq us := by
  obtain ⟨b1, o1, f1⟩ := k.lab
  obtain ⟨b2, o2, f2⟩ := k.inn
  have hc := chg_p hg
  have np : ∀ b, lo ≤ b → b ∉ [p] := fun b hb hm => by have := List.mem_singleton.1 hm; omega
  exact ⟨⟨b1, o1.chg hc (fun b hb => np b (f1 b hb).1), f1⟩, hc.row k.row (fun b hb => np b (k.row.lt b hb).1), ⟨b2, o2.chg hc (fun b hb => np b (f2 b hb).1), f2⟩, k.few, k.len, k.each⟩
theorem QOut.below {lo : Nat} {wr w' : World} {l : Lab} {q : List Ms} {L Q : Value} {nq : Nat} {us : List Value} (k : QOut lo wr l q L Q nq us) (hb : Below wr.heap.size wr w') : QOut lo w' l q L Q nq us := by
  obtain ⟨b1, o1, f1⟩ := k.lab
  obtain ⟨b2, o2, f2⟩ := k.inn
  exact ⟨⟨b1, o1.below hb, f1⟩, own_below k.row hb, ⟨b2, o2.below hb, f2⟩, k.few, k.len, k.each⟩
theorem QOut.lower {lo lo' : Nat} {wr : World} {l : Lab} {q : List Ms} {L Q : Value} {nq : Nat} {us : List Value} (k : QOut lo wr l q L Q nq us) (h : lo' ≤ lo) : QOut lo' wr l q L Q nq us := by
  obtain ⟨b1, o1, f1⟩ := k.lab
  obtain ⟨b2, o2, f2⟩ := k.inn
  exact ⟨⟨b1, o1, fun b hb => ⟨by have := (f1 b hb).1; omega, (f1 b hb).2⟩⟩, own_lower k.row h, ⟨b2, o2, fun b hb => ⟨by have := (f2 b hb).1; omega, (f2 b hb).2⟩⟩, k.few, k.len, k.each⟩
end Go.Proofs.YtnpeojlhjbdjiaaGreatDoor

/-
  A door in the making, as the draws make it: its block g, its queue's row of the call's own, messages put behind it.
-/
namespace Go.Proofs.YtnpeojlhjbdjiaaGreatDoor
set_option maxRecDepth 100000
open Go.RowKit

abbrev zeros4 : List Value := [.int .i64 0, .int .i64 0, .slice none 0 0, .slice none 0 0]
/-- No block of what stood there, none of the door's own. -/
def Off (lo g : Nat) (v : Value) (b : Nat) : Prop := lo ≤ b ∧ b ≠ g ∧ v.ownBlock ≠ some b
structure QSt (p : Nat) (a : Option Addr) (len cap : Nat) (w : World) (g : Nat) (h : Int) (l : Lab) (q : List Ms) (L Q : Value) (nq : Nat) (us : List Value) (wr : World) : Prop where
  cur : CurG p a len cap w wr
  hp : p < w.heap.size
  hg : w.heap.size < g
  rb : Box wr w.heap.size zeros4
  db : Box wr g [.int .i64 h, .int .i64 l.base, L, Q]
  lab : ∃ bs, Ows wr (dtLab l) [.int .i64 l.base, L] bs ∧ ∀ b ∈ bs, Off (w.heap.size + 1) g Q b
  row : wr.ownsRow (w.heap.size + 1) 35 12 Q nq us
  ng : Q.ownBlock ≠ some g
  inn : ∃ bs, Ows wr (q.flatMap dtMs) us bs ∧ ∀ b ∈ bs, Off (w.heap.size + 1) g Q b
  few : l.parts.length ≤ 100
  len : q.length = nq
  each : ∀ m ∈ q, msSz m ≤ 600
section
variable {p : Nat} {a : Option Addr} {len cap : Nat} {w : World} {g : Nat} {h : Int} {l : Lab} {q : List Ms} {L Q : Value} {nq : Nat} {us : List Value} {wr w' : World}
theorem QSt.chg {cs : List Nat} (k : QSt p a len cap w g h l q L Q nq us wr) (hc : Chg cs wr w') (hcur : CurG p a len cap w w') (hn : ∀ b ∈ cs, b < w.heap.size) : QSt p a len cap w g h l q L Q nq us w' := by
  have hgg := k.hg
  obtain ⟨b1, o1, f1⟩ := k.lab
  obtain ⟨b2, o2, f2⟩ := k.inn
  refine ⟨hcur, k.hp, hgg, hc.box k.rb (fun hm => by have := hn _ hm; omega), hc.box k.db (fun hm => by have := hn _ hm; omega), ⟨b1, o1.chg hc (fun b hb hm => by have := hn b hm; have := (f1 b hb).1; omega), f1⟩, hc.row k.row (fun b hb hm => by have := hn b hm; have := (k.row.lt b hb).1; omega), k.ng, ⟨b2, o2.chg hc (fun b hb hm => by have := hn b hm; have := (f2 b hb).1; omega), f2⟩, k.few, k.len, k.each⟩
theorem QSt.gb (k : QSt p a len cap w g h l q L Q nq us wr) (hc : IsCur p a len cap w') (hg : wr.grownBy w' (some p)) : QSt p a len cap w g h l q L Q nq us w' :=
  k.chg (chg_p hg) (k.cur.gb hc hg) (fun b hb => by rw [List.mem_singleton.1 hb]; exact k.hp)
theorem QSt.below (k : QSt p a len cap w g h l q L Q nq us wr) (hb : Below wr.heap.size wr w') : QSt p a len cap w g h l q L Q nq us w' := k.chg (.of_below hb []) (k.cur.below hb) (fun _ h => by cases h)
/-- A cell of the door's own block is written. -/
theorem QSt.handle (k : QSt p a len cap w g h l q L Q nq us wr) (x : Int) : QSt p a len cap w g x l q L Q nq us (wr.setCell ⟨g, 0, none⟩ (.int .i64 x)) := by
  have hgg := k.hg
  obtain ⟨b1, o1, f1⟩ := k.lab
  obtain ⟨b2, o2, f2⟩ := k.inn
  have hs : ∀ b, b ≠ g → (wr.setCell ⟨g, 0, none⟩ (.int .i64 x)).heap[b]? = wr.heap[b]? := fun b hb => Below.heap_setCell _ _ _ _ (by simpa using hb)
  have hq : QSt p a len cap w g x l q L Q nq us (wr.setCell ⟨g, 0, none⟩ (.int .i64 x)) := ⟨k.cur.set (by omega) k.hp, k.hp, hgg, k.rb.far (by omega), by simpa using k.db.set (i := 0) (u := .int .i64 x) (by simp), ⟨b1, o1.same (fun b hb => hs b (f1 b hb).2.1), f1⟩,
    owns_same k.row (fun b hb => hs b (fun e => k.ng (by rw [← e]; exact hb))), k.ng, ⟨b2, o2.same (fun b hb => hs b (f2 b hb).2.1), f2⟩, k.few, k.len, k.each⟩
  exact hq
/-- Another label is put there: a fresh one. -/
theorem QSt.label {l' : Lab} {A' : Option Addr} {n' c' lo hi : Nat} (k : QSt p a len cap w g h l q L Q nq us wr) (ho : OwW lo hi wr (dtLab l') [.int .i64 l'.base, .slice A' n' c']) (h1 : g < lo) (h2 : ∀ b, Q.ownBlock = some b → b < lo) (hf : l'.parts.length ≤ 100) :
    QSt p a len cap w g h l' q (.slice A' n' c') Q nq us ((wr.setCell ⟨g, 1, none⟩ (.int .i64 l'.base)).setCell ⟨g, 2, none⟩ (.slice A' n' c')) := by
  have hgg := k.hg
  obtain ⟨b1, o1, f1⟩ := ho
  obtain ⟨b2, o2, f2⟩ := k.inn
  have hs : ∀ b, b ≠ g → ((wr.setCell ⟨g, 1, none⟩ (.int .i64 l'.base)).setCell ⟨g, 2, none⟩ (.slice A' n' c')).heap[b]? = wr.heap[b]? := fun b hb => by rw [Below.heap_setCell _ _ _ _ (by simpa using hb), Below.heap_setCell _ _ _ _ (by simpa using hb)]
  exact ⟨(k.cur.set (by omega) k.hp).set (by omega) k.hp, k.hp, hgg, (k.rb.far (by omega)).far (by omega), by simpa using (k.db.set (i := 1) (u := .int .i64 l'.base) (by simp)).set (i := 2) (u := .slice A' n' c') (by simp),
    ⟨b1, o1.same (fun b hb => hs b (by have := f1 b hb; omega)), fun b hb => ⟨by have := f1 b hb; omega, by have := f1 b hb; omega, fun e => by have := f1 b hb; have := h2 b e; omega⟩⟩,
    owns_same k.row (fun b hb => hs b (fun e => k.ng (by rw [← e]; exact hb))), k.ng, ⟨b2, o2.same (fun b hb => hs b (f2 b hb).2.1), f2⟩, hf, k.len, k.each⟩
/-- A message that is drawn behind all that is put behind the others. -/
theorem QSt.push {x : Ms} {vs : List Value} {lo hi : Nat} {Q' : Value} (k : QSt p a len cap w g h l q L Q nq us wr) (ho : OwW lo hi wr (dtMs x) vs) (h1 : g < lo) (h2 : ∀ b, Q.ownBlock = some b → b < lo) (hf : msSz x ≤ 600)
    (hap : Apped (w.heap.size + 1) 35 12 Q (nq + 1) (us ++ vs) wr Q' w') : QSt p a len cap w g h l (q ++ [x]) L Q' (nq + 1) (us ++ vs) (w'.setCell ⟨g, 3, none⟩ Q') := by
  have hgg := k.hg
  have hgl := k.db.lt
  obtain ⟨b1, o1, f1⟩ := k.lab
  obtain ⟨b2, o2, f2⟩ := k.inn
  obtain ⟨b3, o3, f3⟩ := ho
  have hrow : ∀ b, Q.ownBlock = some b → w.heap.size + 1 ≤ b := fun b hb => (k.row.lt b hb).1
  have hc : Chg Q.ownBlock.toList wr w' := .of_grown hap.grown (fun b hb => by rw [hb]; simp)
  have nQ : ∀ b, Q.ownBlock ≠ some b → b ∉ Q.ownBlock.toList := fun b hb hm => hb (by simpa using hm)
  have nq' : Q'.ownBlock ≠ some g := by
    rcases hap.block with e | e
    · rw [e]; exact k.ng
    · rw [e]; intro e2; have := Option.some.inj e2; omega
  have off : ∀ b, b < wr.heap.size → Off (w.heap.size + 1) g Q b → Off (w.heap.size + 1) g Q' b := fun b hl hb => ⟨hb.1, hb.2.1, by
    rcases hap.block with e | e
    · rw [e]; exact hb.2.2
    · rw [e]; intro e2; have := Option.some.inj e2; omega⟩
  have f3' : ∀ b ∈ b3, Off (w.heap.size + 1) g Q b := fun b hb => ⟨by have := f3 b hb; omega, by have := f3 b hb; omega, fun e => by have := f3 b hb; have := h2 b e; omega⟩
  have hcur : CurG p a len cap w w' := ⟨k.cur.cur.block (hc.block p k.cur.cur.lt (nQ p (fun e => by have := hrow p e; have := k.hp; omega))), ⟨hap.grown.os.trans k.cur.grown.os, hap.grown.tape.trans k.cur.grown.tape, hap.grown.output.trans k.cur.grown.output, Nat.le_trans k.cur.grown.size hap.grown.size,
    fun b hb hne => (hap.grown.block b (Nat.lt_of_lt_of_le hb k.cur.grown.size) (fun e => by have := hrow b e.symm; omega)).trans (k.cur.grown.block b hb hne)⟩⟩
  have hs : ∀ b, b ≠ g → (w'.setCell ⟨g, 3, none⟩ Q').heap[b]? = w'.heap[b]? := fun b hb => Below.heap_setCell _ _ _ _ (by simpa using hb)
  have mv : ∀ {ds : List Dt} {vs : List Value} {bs : List Nat}, Ows wr ds vs bs → (∀ b ∈ bs, Off (w.heap.size + 1) g Q b) → Ows (w'.setCell ⟨g, 3, none⟩ Q') ds vs bs := fun o f => (o.chg hc (fun b hb => nQ b (f b hb).2.2)).same (fun b hb => hs b (f b hb).2.1)
  refine ⟨hcur.set (by omega) k.hp, k.hp, hgg, (hc.box k.rb (nQ _ (fun e => by have := hrow _ e; omega))).far (by omega), by simpa using (hc.box k.db (nQ _ k.ng)).set (i := 3) (u := Q') (by simp), ⟨b1, mv o1 f1, fun b hb => off b (o1.lt b hb) (f1 b hb)⟩,
    owns_same hap.own (fun b hb => hs b (fun e => nq' (by rw [← e]; exact hb))), nq', ⟨b2 ++ b3, ?_, fun b hb => ?_⟩, k.few, by simp [k.len], fun m hm => ?_⟩
  · rw [List.flatMap_append, List.flatMap_cons, List.flatMap_nil, List.append_nil]
    exact (mv o2 f2).append (mv o3 f3')
  · rcases List.mem_append.1 hb with e | e
    · exact off b (o2.lt b e) (f2 b e)
    · exact off b (o3.lt b e) (f3' b e)
  · rcases List.mem_append.1 hm with e | e
    · exact k.each m e
    · rw [List.mem_singleton.1 e]; exact hf
theorem QSt.out (k : QSt p a len cap w g h l q L Q nq us wr) : QOut (w.heap.size + 1) wr l q L Q nq us := by
  obtain ⟨b1, o1, f1⟩ := k.lab
  obtain ⟨b2, o2, f2⟩ := k.inn
  exact ⟨⟨b1, o1, fun b hb => ⟨(f1 b hb).1, (f1 b hb).2.2⟩⟩, k.row, ⟨b2, o2, fun b hb => ⟨(f2 b hb).1, (f2 b hb).2.2⟩⟩, k.few, k.len, k.each⟩
theorem heap_putRow {b g : Nat} (hn : b ≠ g) : ∀ (vs : List Value) {w : World} {i : Nat}, (putRow w g i vs).heap[b]? = w.heap[b]?
  | [], _, _ => rfl
  | _ :: vs, _, _ => (heap_putRow hn vs).trans (Below.heap_setCell _ _ _ _ (by simpa using hn))
/-- The queue's cell, behind an append. -/
theorem QSt.app {n : Nat} {xs : List Value} {Q' : Value} (k : QSt p a len cap w g h l q L Q nq us wr) (hap : Apped (w.heap.size + 1) 35 12 Q n xs wr Q' w') : w'.cell? ⟨g, 3, none⟩ = some Q ∧ w'.frozen? ⟨g, 3, none⟩ = false ∧ g < w'.heap.size := by
  have hb := hap.grown.block g k.db.lt (fun e => k.ng e.symm)
  exact ⟨(World.cell?_of_block (w := wr) hb).trans (k.db.cell 3 rfl), (World.frozen?_of_block (w := wr) hb).trans (k.db.free 3), Nat.lt_of_lt_of_le k.db.lt hap.grown.size⟩
/-- The door is stored as the result. -/
theorem QSt.done {A0 A1 : Option Addr} {n0 c0 n1 c1 : Nat} (k : QSt p a len cap w g h l q (.slice A0 n0 c0) (.slice A1 n1 c1) nq us wr) {m : Nat} (hn : nq ≤ m) (hi : InI64 h) :
    DrawnDoor m p a len cap w (.returned (.agg #[.int .i64 h, .int .i64 l.base, .slice A0 n0 c0, .slice A1 n1 c1])) (putRow wr w.heap.size 0 [.int .i64 h, .int .i64 l.base, .slice A0 n0 c0, .slice A1 n1 c1]) :=
  ⟨h, l, q, A0, n0, c0, A1, n1, c1, nq, us, rfl, (k.out.same (fun _ hb => heap_putRow (by omega) _)).lower (by omega), hn, hi, CurG.put (Nat.le_refl _) k.hp _ k.cur⟩
/-- A door that was drawn is laid in a block of its own. -/
theorem QOut.lay {lo : Nat} {A0 A1 : Option Addr} {n0 c0 n1 c1 : Nat} {t : TypeId} (k : QOut lo wr l q (.slice A0 n0 c0) (.slice A1 n1 c1) nq us) (G : CurG p a len cap w wr) (hp : p < w.heap.size) (hg : w.heap.size < wr.heap.size) (rb : Box wr w.heap.size zeros4) (hlo : w.heap.size < lo)
    (hW : wr.alloc (.cells #[.int .i64 h, .int .i64 l.base, .slice A0 n0 c0, .slice A1 n1 c1] t) = w') : QSt p a len cap w wr.heap.size h l q (.slice A0 n0 c0) (.slice A1 n1 c1) nq us w' := by
  obtain ⟨db, -, hb⟩ := laid1 (ps := [.int .i64 h, .int .i64 l.base, .slice A0 n0 c0, .slice A1 n1 c1]) hW
  obtain ⟨b1, o1, f1⟩ := k.lab
  obtain ⟨b2, o2, f2⟩ := k.inn
  exact ⟨G.below hb, hp, hg, rb.below hb, db, ⟨b1, o1.below hb, fun b hm => ⟨by have := (f1 b hm).1; omega, by have := o1.lt b hm; omega, (f1 b hm).2⟩⟩, own_lower (own_below k.row hb) (by omega), fun e => by have := (k.row.lt _ e).2; omega,
    ⟨b2, o2.below hb, fun b hm => ⟨by have := (f2 b hm).1; omega, by have := o2.lt b hm; omega, (f2 b hm).2⟩⟩, k.few, k.len, k.each⟩
/-- The queue, read. -/
theorem QSt.rdq (k : QSt p a len cap w g h l q L Q nq us wr) : Rd wr (.row 12 35 (q.flatMap dtMs)) Q := by
  obtain ⟨b2, o2, f2⟩ := k.inn
  have hq : Ow wr (.row 12 35 (q.flatMap dtMs)) Q (Q.ownBlock.toList ++ b2) := by
    simp only [Ow]
    exact ⟨nq, us, b2, own_lower k.row (by omega), o2, rfl⟩
  exact hq.rd
end
/-- A door without messages, of the call's own, is begun. -/
theorem QSt.begin {p : Nat} {a : Option Addr} {len cap g lo hi : Nat} {w wr : World} {d : Door} {A0 A1 : Option Addr} {n0 c0 n1 c1 : Nat} (G : CurG p a len cap w wr) (hp : p < w.heap.size) (hg : w.heap.size < g) (rb : Box wr w.heap.size zeros4)
    (db : Box wr g [.int .i64 d.handle, .int .i64 d.label.base, .slice A0 n0 c0, .slice A1 n1 c1]) (ow : OwnR lo hi wr (dtDoor d) [.int .i64 d.handle, .int .i64 d.label.base, .slice A0 n0 c0, .slice A1 n1 c1]) (h1 : w.heap.size < lo) (h2 : g < lo ∨ hi ≤ g) (hq : d.queue = []) (hf : d.label.parts.length ≤ 100) :
    QSt p a len cap w g d.handle d.label [] (.slice A0 n0 c0) (.slice A1 n1 c1) 0 [] wr := by
  obtain ⟨bs, o, nd, hb⟩ := ow
  unfold dtDoor at o
  obtain ⟨_, e, o⟩ := o.num
  cases e
  obtain ⟨u1, u2, b1, b2, e, rfl, o1, o2⟩ := Ows.split (ds := dtLab d.label) o
  obtain ⟨rfl, rfl⟩ := List.append_inj (s₁ := [Value.int .i64 d.label.base, Value.slice A0 n0 c0]) e (by rw [o1.length]; rfl)
  rw [hq, List.flatMap_nil] at o2
  have o3 := ows1 o2
  simp only [Ow] at o3
  obtain ⟨m, us, cs, hr, hn, rfl⟩ := o3
  obtain ⟨rfl, rfl⟩ := hn.nil
  have hm : m = 0 := by have := hr.1; simp at this; omega
  subst hm
  have hd := (List.nodup_append.1 nd).2.2
  refine ⟨G, hp, hg, rb, db, ⟨b1, o1, fun b hm => ?_⟩, owns_raise hr (fun b hm => ?_), fun e => ?_, ⟨[], Ows.mk_nil wr, fun _ h => by cases h⟩, hf, rfl, fun _ h => by cases h⟩
  · have q := hb b (List.mem_append_left _ hm)
    exact ⟨by omega, by omega, fun e => hd b hm b (by simp [e]) rfl⟩
  · have q := hb b (List.mem_append_right _ (by simp [hm]))
    omega
  · have q := hb g (List.mem_append_right _ (by simp [e]))
    omega
theorem openD_few (x : Int) : (openD x).queue = [] ∧ (openD x).label.parts.length ≤ 100 := by
  unfold openD
  split <;> simp [noDoor, noLab, plainL] <;> split <;> simp
theorem shutD_few (x : Int) : (shutD x).queue = [] ∧ (shutD x).label.parts.length ≤ 100 := by
  unfold shutD
  split
  · simp [noDoor, noLab]
  · exact ⟨rfl, Nat.le_trans (withL_le _ _ _) (by omega)⟩
/-- A new door, without messages. -/
theorem makerOf_in {h : Int} (k : ¬ makerOf h < 0) : InI64 h := by
  unfold makerOf at k
  split at k <;> unfold InI64 <;> omega
theorem openD_wf (x : Int) : InI64 (openD x).handle := by
  unfold openD
  split
  · simp [InI64, noDoor]
  · rename_i k; exact makerOf_in k
theorem shutD_wf (x : Int) : InI64 (shutD x).handle := by
  unfold shutD
  split
  · simp [InI64, noDoor]
  · rename_i k; exact makerOf_in k
def RetNewD (w : World) (e : Ending) (w' : World) : Prop := ∃ us d, e = .returned (.agg us.toArray) ∧ d.queue = [] ∧ d.label.parts.length ≤ 100 ∧ InI64 d.handle ∧ Own w.heap.size w' (dtDoor d) us ∧ Below w.heap.size w w'
theorem new_open (x : Int) (w : World) : Calls Tryz.prog 13 #[.int .i64 x] w (RetNewD w) :=
  (specD_opendoor x w).mono fun _ _ ⟨us, he, ho, hb⟩ => ⟨us, _, he, (openD_few x).1, (openD_few x).2, openD_wf x, ho, hb⟩
theorem new_shut (x : Int) (w : World) : Calls Tryz.prog 14 #[.int .i64 x] w (RetNewD w) :=
  (specD_shutdoor x w).mono fun _ _ ⟨us, he, ho, hb⟩ => ⟨us, _, he, (shutD_few x).1, (shutD_few x).2, shutD_wf x, ho, hb⟩
end Go.Proofs.YtnpeojlhjbdjiaaGreatDoor

/-
  The draw of a message (chapter 7 of the model).
-/
namespace Go.Proofs.YtnpeojlhjbdjiaaGreatDoor
set_option maxRecDepth 100000
open Go.RowKit

set_option maxHeartbeats 4000000 in
theorem draw_msg (p : Nat) (a : Option Addr) (len cap : Nat) (zs : List Int) (w : World) (hl : len ≤ 4096) (hc : IsCur p a len cap w) (hr : CurRow w p a len cap zs) : Calls Tryz.prog 52 #[.pointer (some ⟨p, 0, none⟩)] w (DrawnMs 40 p a len cap w) := by
  have hp := hc.lt
  have G : Hid (CurG p a len cap w w) := Lib.hid ⟨hc, World.grownBy.refl _ _⟩
  clear hc
  go_enter Tryz.func52, Tryz.ntmps52
  go_wp2_with fail
  generalize hW : w.alloc (.cells #[.int .i64 0, .int .i64 0, .int .i64 0, .slice none 0 0, .int .i64 0, .slice none 0 0, .int .i64 0, .slice none 0 0, .int .i64 0, .slice none 0 0, .int .i64 0, .slice none 0 0] 35) = x0
  obtain ⟨nb0, hsz, hb⟩ := laid1 (ps := [.int .i64 0, .int .i64 0, .int .i64 0, .slice none 0 0, .int .i64 0, .slice none 0 0, .int .i64 0, .slice none 0 0, .int .i64 0, .slice none 0 0, .int .i64 0, .slice none 0 0]) hW
  clear hW
  have nbh0 := Lib.hid nb0
  clear nb0
  have hzx0 : x0.heap.size = w.heap.size + 1 := hsz
  clear hsz
  have hsx0 : w.heap.size ≤ x0.heap.size := hb.size
  have G' := Lib.hid (G.out.below hb)
  clear G
  have G := G'
  clear G'
  clear hb
  have RB := nbh0
  clear nbh0
  refine (below_any p a len cap zs 4 _ hl (by omega) (by omega) G.out.cur (hr.kept G.out.grown)).mono ?_
  rintro e x1 ⟨n1, hn10, hn11, rfl, hc1, hg⟩
  have hsx1 : x0.heap.size ≤ x1.heap.size := hg.size
  have G' := Lib.hid (G.out.gb hc1 hg)
  clear G
  have G := G'
  clear G'
  have RB' := Lib.hid (box_gb RB.out hg (by omega))
  clear RB
  have RB := RB'
  clear RB'
  clear hc1 hg
  go_wp2_with fail
  refine (below_any p a len cap zs 50 _ hl (by omega) (by omega) G.out.cur (hr.kept G.out.grown)).mono ?_
  rintro e x2 ⟨n2, hn20, hn21, rfl, hc1, hg⟩
  have hsx2 : x1.heap.size ≤ x2.heap.size := hg.size
  have G' := Lib.hid (G.out.gb hc1 hg)
  clear G
  have G := G'
  clear G'
  have RB' := Lib.hid (box_gb RB.out hg (by omega))
  clear RB
  have RB := RB'
  clear RB'
  clear hc1 hg
  have lo : w.heap.size + 1 ≤ x2.heap.size := by omega
  go_wp2_with fail
  refine (draw_send p a len cap zs _ hl G.out.cur (hr.kept G.out.grown)).mono ?_
  rintro e x3 ⟨ve, l, rfl, ow, fewe, hc1, hg⟩
  obtain ⟨ue, rfl, ow2⟩ := ow.ww
  obtain ⟨Ae, ne, ce, rfl⟩ := shp_lab ow2.rd
  have Oe := Lib.hid ow2
  clear ow ow2
  have hsx3 : x2.heap.size ≤ x3.heap.size := hg.size
  have G' := Lib.hid (G.out.gb hc1 hg)
  clear G
  have G := G'
  clear G'
  have RB' := Lib.hid (box_gb RB.out hg (by omega))
  clear RB
  have RB := RB'
  clear RB'
  clear hc1 hg
  go_wp2_with fail
  refine (draw_tm p a len cap zs _ hl G.out.cur (hr.kept G.out.grown)).mono ?_
  rintro e x4 ⟨vt, t, rfl, ow, hc1, hg⟩
  have fewt := ow.few
  obtain ⟨ut, rfl, ow2⟩ := ow.ww
  obtain ⟨At0, nt0, ct0, At1, nt1, ct1, At2, nt2, ct2, At3, nt3, ct3, rfl⟩ := shp_tm ow2.rd
  have Ot := Lib.hid ow2
  clear ow ow2
  have hsx4 : x3.heap.size ≤ x4.heap.size := hg.size
  have G' := Lib.hid (G.out.gb hc1 hg)
  clear G
  have G := G'
  clear G'
  have RB' := Lib.hid (box_gb RB.out hg (by omega))
  clear RB
  have RB := RB'
  clear RB'
  have Oe' := Lib.hid (Oe.out.gb hg (by omega))
  clear Oe
  have Oe := Oe'
  clear Oe'
  clear hc1 hg
  have RBk0 := RB.out.cell 0 rfl
  have RBf0 := RB.out.free 0
  have RBk1 := RB.out.cell 1 rfl
  have RBf1 := RB.out.free 1
  have RBk2 := RB.out.cell 2 rfl
  have RBf2 := RB.out.free 2
  have RBk3 := RB.out.cell 3 rfl
  have RBf3 := RB.out.free 3
  have RBk4 := RB.out.cell 4 rfl
  have RBf4 := RB.out.free 4
  have RBk5 := RB.out.cell 5 rfl
  have RBf5 := RB.out.free 5
  have RBk6 := RB.out.cell 6 rfl
  have RBf6 := RB.out.free 6
  have RBk7 := RB.out.cell 7 rfl
  have RBf7 := RB.out.free 7
  have RBk8 := RB.out.cell 8 rfl
  have RBf8 := RB.out.free 8
  have RBk9 := RB.out.cell 9 rfl
  have RBf9 := RB.out.free 9
  have RBk10 := RB.out.cell 10 rfl
  have RBf10 := RB.out.free 10
  have RBk11 := RB.out.cell 11 rfl
  have RBf11 := RB.out.free 11
  have RBz := RB.out.lt
  go_wp2
  refine bodyPost_ret (v := .agg #[.int .i64 n1, .int .i64 n2, .int .i64 l.base, .slice Ae ne ce, .int .i64 t.taint.base, .slice At0 nt0 ct0, .int .i64 t.clear.base, .slice At1 nt1 ct1, .int .i64 t.raise.base, .slice At2 nt2 ct2, .int .i64 t.verify.base, .slice At3 nt3 ct3]) (by simp [results, Tryz.results52, go_sem, RBk0, RBk1, RBk2, RBk3, RBk4, RBk5, RBk6, RBk7, RBk8, RBk9, RBk10, RBk11]) rfl ?_
  change DrawnMs 40 p a len cap w _ (putRow x4 w.heap.size 0 [.int .i64 n1, .int .i64 n2, .int .i64 l.base, .slice Ae ne ce, .int .i64 t.taint.base, .slice At0 nt0 ct0, .int .i64 t.clear.base, .slice At1 nt1 ct1, .int .i64 t.raise.base, .slice At2 nt2 ct2, .int .i64 t.verify.base, .slice At3 nt3 ct3])
  have o1 := (OwW.num (n := n1) (OwW.num (n := n2) ((Oe.out.wide (lo' := w.heap.size + 1) (hi' := x4.heap.size) (by omega) (by omega)).and (Ot.out.wide (lo' := w.heap.size + 1) (hi' := x4.heap.size) (by omega) (by omega)))))
  refine ⟨[.int .i64 n1, .int .i64 n2, .int .i64 l.base, .slice Ae ne ce, .int .i64 t.taint.base, .slice At0 nt0 ct0, .int .i64 t.clear.base, .slice At1 nt1 ct1, .int .i64 t.raise.base, .slice At2 nt2 ct2, .int .i64 t.verify.base, .slice At3 nt3 ct3], ⟨n1, n2, l, t⟩, rfl, ?_, ?_, CurG.put (Nat.le_refl _) hp _ G.out⟩
  · obtain ⟨f1, f2, f3, f4⟩ := fewt
    simp only [msSz, tmSz]
    omega
  · rw [size_putRow]
    exact (o1.put _ (.inl (by omega))).wide (by omega) (Nat.le_refl _)
end Go.Proofs.YtnpeojlhjbdjiaaGreatDoor

/-
  The draw of a message, right or not (chapter 7 of the model).
-/
namespace Go.Proofs.YtnpeojlhjbdjiaaGreatDoor
set_option maxRecDepth 100000
open Go.RowKit

set_option maxHeartbeats 4000000 in
theorem draw_msgany (p : Nat) (a : Option Addr) (len cap : Nat) (zs : List Int) (w : World) (hl : len ≤ 4096) (hc : IsCur p a len cap w) (hr : CurRow w p a len cap zs) : Calls Tryz.prog 25 #[.pointer (some ⟨p, 0, none⟩)] w (DrawnMs 600 p a len cap w) := by
  have hp := hc.lt
  have G : Hid (CurG p a len cap w w) := Lib.hid ⟨hc, World.grownBy.refl _ _⟩
  clear hc
  go_enter Tryz.func25, Tryz.ntmps25
  go_wp2_with fail
  generalize hW : w.alloc (.cells #[.int .i64 0, .int .i64 0, .int .i64 0, .slice none 0 0, .int .i64 0, .slice none 0 0, .int .i64 0, .slice none 0 0, .int .i64 0, .slice none 0 0, .int .i64 0, .slice none 0 0] 35) = x0
  obtain ⟨nb0, hsz, hb⟩ := laid1 (ps := [.int .i64 0, .int .i64 0, .int .i64 0, .slice none 0 0, .int .i64 0, .slice none 0 0, .int .i64 0, .slice none 0 0, .int .i64 0, .slice none 0 0, .int .i64 0, .slice none 0 0]) hW
  clear hW
  have nbh0 := Lib.hid nb0
  clear nb0
  have hzx0 : x0.heap.size = w.heap.size + 1 := hsz
  clear hsz
  have hsx0 : w.heap.size ≤ x0.heap.size := hb.size
  have G' := Lib.hid (G.out.below hb)
  clear G
  have G := G'
  clear G'
  clear hb
  have RB := nbh0
  clear nbh0
  refine (draw_msg p a len cap zs _ hl G.out.cur (hr.kept G.out.grown)).mono ?_
  rintro e x1 ⟨um, mm, rfl, fewm, ow, hc1, hg⟩
  obtain ⟨Ame, nme, cme, Amt0, nmt0, cmt0, Amt1, nmt1, cmt1, Amt2, nmt2, cmt2, Amt3, nmt3, cmt3, rfl⟩ := shp_ms ow.rd
  obtain ⟨owe, owt⟩ := OwW.cut (ds := dtLab mm.eff) (us := [_, _]) ow.unnum.unnum rfl
  have Ome := Lib.hid owe
  have Omt := Lib.hid owt
  clear ow owe owt
  have hsx1 : x0.heap.size ≤ x1.heap.size := hg.size
  have G' := Lib.hid (G.out.gb hc1 hg)
  clear G
  have G := G'
  clear G'
  have RB' := Lib.hid (box_gb RB.out hg (by omega))
  clear RB
  have RB := RB'
  clear RB'
  clear hc1 hg
  have ng : x1.heap.size ≠ w.heap.size := by omega
  have ng' := Ne.symm ng
  go_wp2_with fail
  generalize hW : x1.alloc (.cells #[.int .i64 mm.frm, .int .i64 mm.value, .int .i64 mm.eff.base, .slice Ame nme cme, .int .i64 mm.terms.taint.base, .slice Amt0 nmt0 cmt0, .int .i64 mm.terms.clear.base, .slice Amt1 nmt1 cmt1, .int .i64 mm.terms.raise.base, .slice Amt2 nmt2 cmt2, .int .i64 mm.terms.verify.base, .slice Amt3 nmt3 cmt3] 35) = x2
  obtain ⟨nb0, hsz, hb⟩ := laid1 (ps := [.int .i64 mm.frm, .int .i64 mm.value, .int .i64 mm.eff.base, .slice Ame nme cme, .int .i64 mm.terms.taint.base, .slice Amt0 nmt0 cmt0, .int .i64 mm.terms.clear.base, .slice Amt1 nmt1 cmt1, .int .i64 mm.terms.raise.base, .slice Amt2 nmt2 cmt2, .int .i64 mm.terms.verify.base, .slice Amt3 nmt3 cmt3]) hW
  clear hW
  have nbh0 := Lib.hid nb0
  clear nb0
  have hzx2 : x2.heap.size = x1.heap.size + 1 := hsz
  clear hsz
  have hsx2 : x1.heap.size ≤ x2.heap.size := hb.size
  have G' := Lib.hid (G.out.below hb)
  clear G
  have G := G'
  clear G'
  have RB' := Lib.hid (RB.out.below hb)
  clear RB
  have RB := RB'
  clear RB'
  have Ome' := Lib.hid (Ome.out.below hb)
  clear Ome
  have Ome := Ome'
  clear Ome'
  have Omt' := Lib.hid (Omt.out.below hb)
  clear Omt
  have Omt := Omt'
  clear Omt'
  clear hb
  have MB := nbh0
  clear nbh0
  refine (once_any p a len cap zs 6 _ hl (by omega) (by omega) G.out.cur (hr.kept G.out.grown)).mono ?_
  rintro e x3 ⟨b, rfl, hc1, hg⟩
  have hsx3 : x2.heap.size ≤ x3.heap.size := hg.size
  have G' := Lib.hid (G.out.gb hc1 hg)
  clear G
  have G := G'
  clear G'
  have RB' := Lib.hid (box_gb RB.out hg (by omega))
  clear RB
  have RB := RB'
  clear RB'
  have MB' := Lib.hid (box_gb MB.out hg (by omega))
  clear MB
  have MB := MB'
  clear MB'
  have Ome' := Lib.hid (Ome.out.gb hg (by omega))
  clear Ome
  have Ome := Ome'
  clear Ome'
  have Omt' := Lib.hid (Omt.out.gb hg (by omega))
  clear Omt
  have Omt := Omt'
  clear Omt'
  clear hc1 hg
  cases b
  · have RBk0 := RB.out.cell 0 rfl
    have RBf0 := RB.out.free 0
    have RBk1 := RB.out.cell 1 rfl
    have RBf1 := RB.out.free 1
    have RBk2 := RB.out.cell 2 rfl
    have RBf2 := RB.out.free 2
    have RBk3 := RB.out.cell 3 rfl
    have RBf3 := RB.out.free 3
    have RBk4 := RB.out.cell 4 rfl
    have RBf4 := RB.out.free 4
    have RBk5 := RB.out.cell 5 rfl
    have RBf5 := RB.out.free 5
    have RBk6 := RB.out.cell 6 rfl
    have RBf6 := RB.out.free 6
    have RBk7 := RB.out.cell 7 rfl
    have RBf7 := RB.out.free 7
    have RBk8 := RB.out.cell 8 rfl
    have RBf8 := RB.out.free 8
    have RBk9 := RB.out.cell 9 rfl
    have RBf9 := RB.out.free 9
    have RBk10 := RB.out.cell 10 rfl
    have RBf10 := RB.out.free 10
    have RBk11 := RB.out.cell 11 rfl
    have RBf11 := RB.out.free 11
    have RBz := RB.out.lt
    have MBk0 := MB.out.cell 0 rfl
    have MBk1 := MB.out.cell 1 rfl
    have MBk2 := MB.out.cell 2 rfl
    have MBk3 := MB.out.cell 3 rfl
    have MBk4 := MB.out.cell 4 rfl
    have MBk5 := MB.out.cell 5 rfl
    have MBk6 := MB.out.cell 6 rfl
    have MBk7 := MB.out.cell 7 rfl
    have MBk8 := MB.out.cell 8 rfl
    have MBk9 := MB.out.cell 9 rfl
    have MBk10 := MB.out.cell 10 rfl
    have MBk11 := MB.out.cell 11 rfl
    have MBz := MB.out.lt
    go_wp2
    refine bodyPost_ret (v := .agg #[.int .i64 mm.frm, .int .i64 mm.value, .int .i64 mm.eff.base, .slice Ame nme cme, .int .i64 mm.terms.taint.base, .slice Amt0 nmt0 cmt0, .int .i64 mm.terms.clear.base, .slice Amt1 nmt1 cmt1, .int .i64 mm.terms.raise.base, .slice Amt2 nmt2 cmt2, .int .i64 mm.terms.verify.base, .slice Amt3 nmt3 cmt3]) (by simp [results, Tryz.results25, go_sem, RBk0, RBk1, RBk2, RBk3, RBk4, RBk5, RBk6, RBk7, RBk8, RBk9, RBk10, RBk11]) rfl ?_
    change DrawnMs 600 p a len cap w _ (putRow x3 w.heap.size 0 [.int .i64 mm.frm, .int .i64 mm.value, .int .i64 mm.eff.base, .slice Ame nme cme, .int .i64 mm.terms.taint.base, .slice Amt0 nmt0 cmt0, .int .i64 mm.terms.clear.base, .slice Amt1 nmt1 cmt1, .int .i64 mm.terms.raise.base, .slice Amt2 nmt2 cmt2, .int .i64 mm.terms.verify.base, .slice Amt3 nmt3 cmt3])
    refine ⟨[.int .i64 mm.frm, .int .i64 mm.value, .int .i64 mm.eff.base, .slice Ame nme cme, .int .i64 mm.terms.taint.base, .slice Amt0 nmt0 cmt0, .int .i64 mm.terms.clear.base, .slice Amt1 nmt1 cmt1, .int .i64 mm.terms.raise.base, .slice Amt2 nmt2 cmt2, .int .i64 mm.terms.verify.base, .slice Amt3 nmt3 cmt3], mm, rfl, ?_, ?_, CurG.put (Nat.le_refl _) hp _ G.out⟩
    · simp only [msSz, tmSz] at fewm ⊢
      omega
    · rw [size_putRow]
      have o1 : OwW (w.heap.size + 1) x3.heap.size x3 (dtMs (mm : Ms)) [.int .i64 mm.frm, .int .i64 mm.value, .int .i64 mm.eff.base, .slice Ame nme cme, .int .i64 mm.terms.taint.base, .slice Amt0 nmt0 cmt0, .int .i64 mm.terms.clear.base, .slice Amt1 nmt1 cmt1, .int .i64 mm.terms.raise.base, .slice Amt2 nmt2 cmt2, .int .i64 mm.terms.verify.base, .slice Amt3 nmt3 cmt3] := OwW.num (OwW.num ((Ome.out.wide (lo' := w.heap.size + 1) (hi' := x3.heap.size) (by omega) (by omega)).and (Omt.out.wide (lo' := w.heap.size + 1) (hi' := x3.heap.size) (by omega) (by omega))))
      exact (o1.put _ (.inl (by omega))).wide (by omega) (Nat.le_refl _)
  go_wp2_with fail
  refine (below_any p a len cap zs 4 _ hl (by omega) (by omega) G.out.cur (hr.kept G.out.grown)).mono ?_
  rintro e x4 ⟨k, hk0, hk1, rfl, hc1, hg⟩
  have hsx4 : x3.heap.size ≤ x4.heap.size := hg.size
  have G' := Lib.hid (G.out.gb hc1 hg)
  clear G
  have G := G'
  clear G'
  have RB' := Lib.hid (box_gb RB.out hg (by omega))
  clear RB
  have RB := RB'
  clear RB'
  have MB' := Lib.hid (box_gb MB.out hg (by omega))
  clear MB
  have MB := MB'
  clear MB'
  have Ome' := Lib.hid (Ome.out.gb hg (by omega))
  clear Ome
  have Ome := Ome'
  clear Ome'
  have Omt' := Lib.hid (Omt.out.gb hg (by omega))
  clear Omt
  have Omt := Omt'
  clear Omt'
  clear hc1 hg
  obtain rfl | rfl | rfl | rfl : k = 0 ∨ k = 1 ∨ k = 2 ∨ k = 3 := by omega
  · clear hk0 hk1
    go_wp2_with fail
    refine (from_any p a len cap zs (-1) 4 _ hl (by omega) (by omega) (by omega) G.out.cur (hr.kept G.out.grown)).mono ?_
    rintro e x25 ⟨y, hy0, hy1, rfl, hc1, hg⟩
    have hsx25 : x4.heap.size ≤ x25.heap.size := hg.size
    have G' := Lib.hid (G.out.gb hc1 hg)
    clear G
    have G := G'
    clear G'
    have RB' := Lib.hid (box_gb RB.out hg (by omega))
    clear RB
    have RB := RB'
    clear RB'
    have MB' := Lib.hid (box_gb MB.out hg (by omega))
    clear MB
    have MB := MB'
    clear MB'
    have Ome' := Lib.hid (Ome.out.gb hg (by omega))
    clear Ome
    have Ome := Ome'
    clear Ome'
    have Omt' := Lib.hid (Omt.out.gb hg (by omega))
    clear Omt
    have Omt := Omt'
    clear Omt'
    clear hc1 hg
    have MBk0 := MB.out.cell 0 rfl
    have MBf0 := MB.out.free 0
    have MBk1 := MB.out.cell 1 rfl
    have MBf1 := MB.out.free 1
    have MBk2 := MB.out.cell 2 rfl
    have MBf2 := MB.out.free 2
    have MBk3 := MB.out.cell 3 rfl
    have MBf3 := MB.out.free 3
    have MBk4 := MB.out.cell 4 rfl
    have MBf4 := MB.out.free 4
    have MBk5 := MB.out.cell 5 rfl
    have MBf5 := MB.out.free 5
    have MBk6 := MB.out.cell 6 rfl
    have MBf6 := MB.out.free 6
    have MBk7 := MB.out.cell 7 rfl
    have MBf7 := MB.out.free 7
    have MBk8 := MB.out.cell 8 rfl
    have MBf8 := MB.out.free 8
    have MBk9 := MB.out.cell 9 rfl
    have MBf9 := MB.out.free 9
    have MBk10 := MB.out.cell 10 rfl
    have MBf10 := MB.out.free 10
    have MBk11 := MB.out.cell 11 rfl
    have MBf11 := MB.out.free 11
    have MBz := MB.out.lt
    go_upto_region 12 with fail
    clear MBk0 MBf0 MBk1 MBf1 MBk2 MBf2 MBk3 MBf3 MBk4 MBf4 MBk5 MBf5 MBk6 MBf6 MBk7 MBf7 MBk8 MBf8 MBk9 MBf9 MBk10 MBf10 MBk11 MBf11 MBz
    generalize hW : x25.setCell ⟨x1.heap.size, 0, none⟩ (.int .i64 y) = x26
    have hsx26 : x25.heap.size ≤ x26.heap.size := by rw [← hW]; simp
    have G' := G.out.set (g := x1.heap.size) (i := 0) (u := .int .i64 y) (by omega) hp
    rw [hW] at G'
    clear G
    have G := Lib.hid G'
    clear G'
    have RB' := RB.out.far (b := x1.heap.size) (i := 0) (u := .int .i64 y) (by omega)
    rw [hW] at RB'
    clear RB
    have RB := Lib.hid RB'
    clear RB'
    have MB' : Hid (Box x26 x1.heap.size [.int .i64 y, .int .i64 mm.value, .int .i64 mm.eff.base, .slice Ame nme cme, .int .i64 mm.terms.taint.base, .slice Amt0 nmt0 cmt0, .int .i64 mm.terms.clear.base, .slice Amt1 nmt1 cmt1, .int .i64 mm.terms.raise.base, .slice Amt2 nmt2 cmt2, .int .i64 mm.terms.verify.base, .slice Amt3 nmt3 cmt3]) := Lib.hid (by rw [← hW]; simpa using MB.out.set (i := 0) (u := .int .i64 y) (by simp))
    clear MB
    have MB := MB'
    clear MB'
    have Ome' := Ome.out.set (g := x1.heap.size) (i := 0) (u := .int .i64 y) (.inr (by omega))
    rw [hW] at Ome'
    clear Ome
    have Ome := Lib.hid Ome'
    clear Ome'
    have Omt' := Omt.out.set (g := x1.heap.size) (i := 0) (u := .int .i64 y) (.inr (by omega))
    rw [hW] at Omt'
    clear Omt
    have Omt := Lib.hid Omt'
    clear Omt'
    clear hW
    have RBk0 := RB.out.cell 0 rfl
    have RBf0 := RB.out.free 0
    have RBk1 := RB.out.cell 1 rfl
    have RBf1 := RB.out.free 1
    have RBk2 := RB.out.cell 2 rfl
    have RBf2 := RB.out.free 2
    have RBk3 := RB.out.cell 3 rfl
    have RBf3 := RB.out.free 3
    have RBk4 := RB.out.cell 4 rfl
    have RBf4 := RB.out.free 4
    have RBk5 := RB.out.cell 5 rfl
    have RBf5 := RB.out.free 5
    have RBk6 := RB.out.cell 6 rfl
    have RBf6 := RB.out.free 6
    have RBk7 := RB.out.cell 7 rfl
    have RBf7 := RB.out.free 7
    have RBk8 := RB.out.cell 8 rfl
    have RBf8 := RB.out.free 8
    have RBk9 := RB.out.cell 9 rfl
    have RBf9 := RB.out.free 9
    have RBk10 := RB.out.cell 10 rfl
    have RBf10 := RB.out.free 10
    have RBk11 := RB.out.cell 11 rfl
    have RBf11 := RB.out.free 11
    have RBz := RB.out.lt
    have MBk0 := MB.out.cell 0 rfl
    have MBk1 := MB.out.cell 1 rfl
    have MBk2 := MB.out.cell 2 rfl
    have MBk3 := MB.out.cell 3 rfl
    have MBk4 := MB.out.cell 4 rfl
    have MBk5 := MB.out.cell 5 rfl
    have MBk6 := MB.out.cell 6 rfl
    have MBk7 := MB.out.cell 7 rfl
    have MBk8 := MB.out.cell 8 rfl
    have MBk9 := MB.out.cell 9 rfl
    have MBk10 := MB.out.cell 10 rfl
    have MBk11 := MB.out.cell 11 rfl
    have MBz := MB.out.lt
    go_wp2
    refine bodyPost_ret (v := .agg #[.int .i64 y, .int .i64 mm.value, .int .i64 mm.eff.base, .slice Ame nme cme, .int .i64 mm.terms.taint.base, .slice Amt0 nmt0 cmt0, .int .i64 mm.terms.clear.base, .slice Amt1 nmt1 cmt1, .int .i64 mm.terms.raise.base, .slice Amt2 nmt2 cmt2, .int .i64 mm.terms.verify.base, .slice Amt3 nmt3 cmt3]) (by simp [results, Tryz.results25, go_sem, RBk0, RBk1, RBk2, RBk3, RBk4, RBk5, RBk6, RBk7, RBk8, RBk9, RBk10, RBk11]) rfl ?_
    change DrawnMs 600 p a len cap w _ (putRow x26 w.heap.size 0 [.int .i64 y, .int .i64 mm.value, .int .i64 mm.eff.base, .slice Ame nme cme, .int .i64 mm.terms.taint.base, .slice Amt0 nmt0 cmt0, .int .i64 mm.terms.clear.base, .slice Amt1 nmt1 cmt1, .int .i64 mm.terms.raise.base, .slice Amt2 nmt2 cmt2, .int .i64 mm.terms.verify.base, .slice Amt3 nmt3 cmt3])
    refine ⟨[.int .i64 y, .int .i64 mm.value, .int .i64 mm.eff.base, .slice Ame nme cme, .int .i64 mm.terms.taint.base, .slice Amt0 nmt0 cmt0, .int .i64 mm.terms.clear.base, .slice Amt1 nmt1 cmt1, .int .i64 mm.terms.raise.base, .slice Amt2 nmt2 cmt2, .int .i64 mm.terms.verify.base, .slice Amt3 nmt3 cmt3], ⟨y, mm.value, mm.eff, mm.terms⟩, rfl, ?_, ?_, CurG.put (Nat.le_refl _) hp _ G.out⟩
    · simp only [msSz, tmSz] at fewm ⊢
      omega
    · rw [size_putRow]
      have o1 : OwW (w.heap.size + 1) x26.heap.size x26 (dtMs (⟨y, mm.value, mm.eff, mm.terms⟩ : Ms)) [.int .i64 y, .int .i64 mm.value, .int .i64 mm.eff.base, .slice Ame nme cme, .int .i64 mm.terms.taint.base, .slice Amt0 nmt0 cmt0, .int .i64 mm.terms.clear.base, .slice Amt1 nmt1 cmt1, .int .i64 mm.terms.raise.base, .slice Amt2 nmt2 cmt2, .int .i64 mm.terms.verify.base, .slice Amt3 nmt3 cmt3] := OwW.num (OwW.num ((Ome.out.wide (lo' := w.heap.size + 1) (hi' := x26.heap.size) (by omega) (by omega)).and (Omt.out.wide (lo' := w.heap.size + 1) (hi' := x26.heap.size) (by omega) (by omega))))
      exact (o1.put _ (.inl (by omega))).wide (by omega) (Nat.le_refl _)
  · clear hk0 hk1
    go_wp2_with fail
    refine (num_any p a len cap zs 999999 _ hl (by omega) (by omega) G.out.cur (hr.kept G.out.grown)).mono ?_
    rintro e x25 ⟨y, rfl, hc1, hg⟩
    have hsx25 : x4.heap.size ≤ x25.heap.size := hg.size
    have G' := Lib.hid (G.out.gb hc1 hg)
    clear G
    have G := G'
    clear G'
    have RB' := Lib.hid (box_gb RB.out hg (by omega))
    clear RB
    have RB := RB'
    clear RB'
    have MB' := Lib.hid (box_gb MB.out hg (by omega))
    clear MB
    have MB := MB'
    clear MB'
    have Ome' := Lib.hid (Ome.out.gb hg (by omega))
    clear Ome
    have Ome := Ome'
    clear Ome'
    have Omt' := Lib.hid (Omt.out.gb hg (by omega))
    clear Omt
    have Omt := Omt'
    clear Omt'
    clear hc1 hg
    have MBk0 := MB.out.cell 0 rfl
    have MBf0 := MB.out.free 0
    have MBk1 := MB.out.cell 1 rfl
    have MBf1 := MB.out.free 1
    have MBk2 := MB.out.cell 2 rfl
    have MBf2 := MB.out.free 2
    have MBk3 := MB.out.cell 3 rfl
    have MBf3 := MB.out.free 3
    have MBk4 := MB.out.cell 4 rfl
    have MBf4 := MB.out.free 4
    have MBk5 := MB.out.cell 5 rfl
    have MBf5 := MB.out.free 5
    have MBk6 := MB.out.cell 6 rfl
    have MBf6 := MB.out.free 6
    have MBk7 := MB.out.cell 7 rfl
    have MBf7 := MB.out.free 7
    have MBk8 := MB.out.cell 8 rfl
    have MBf8 := MB.out.free 8
    have MBk9 := MB.out.cell 9 rfl
    have MBf9 := MB.out.free 9
    have MBk10 := MB.out.cell 10 rfl
    have MBf10 := MB.out.free 10
    have MBk11 := MB.out.cell 11 rfl
    have MBf11 := MB.out.free 11
    have MBz := MB.out.lt
    go_upto_region 12 with fail
    clear MBk0 MBf0 MBk1 MBf1 MBk2 MBf2 MBk3 MBf3 MBk4 MBf4 MBk5 MBf5 MBk6 MBf6 MBk7 MBf7 MBk8 MBf8 MBk9 MBf9 MBk10 MBf10 MBk11 MBf11 MBz
    generalize hW : x25.setCell ⟨x1.heap.size, 1, none⟩ (.int .i64 y) = x26
    have hsx26 : x25.heap.size ≤ x26.heap.size := by rw [← hW]; simp
    have G' := G.out.set (g := x1.heap.size) (i := 1) (u := .int .i64 y) (by omega) hp
    rw [hW] at G'
    clear G
    have G := Lib.hid G'
    clear G'
    have RB' := RB.out.far (b := x1.heap.size) (i := 1) (u := .int .i64 y) (by omega)
    rw [hW] at RB'
    clear RB
    have RB := Lib.hid RB'
    clear RB'
    have MB' : Hid (Box x26 x1.heap.size [.int .i64 mm.frm, .int .i64 y, .int .i64 mm.eff.base, .slice Ame nme cme, .int .i64 mm.terms.taint.base, .slice Amt0 nmt0 cmt0, .int .i64 mm.terms.clear.base, .slice Amt1 nmt1 cmt1, .int .i64 mm.terms.raise.base, .slice Amt2 nmt2 cmt2, .int .i64 mm.terms.verify.base, .slice Amt3 nmt3 cmt3]) := Lib.hid (by rw [← hW]; simpa using MB.out.set (i := 1) (u := .int .i64 y) (by simp))
    clear MB
    have MB := MB'
    clear MB'
    have Ome' := Ome.out.set (g := x1.heap.size) (i := 1) (u := .int .i64 y) (.inr (by omega))
    rw [hW] at Ome'
    clear Ome
    have Ome := Lib.hid Ome'
    clear Ome'
    have Omt' := Omt.out.set (g := x1.heap.size) (i := 1) (u := .int .i64 y) (.inr (by omega))
    rw [hW] at Omt'
    clear Omt
    have Omt := Lib.hid Omt'
    clear Omt'
    clear hW
    have RBk0 := RB.out.cell 0 rfl
    have RBf0 := RB.out.free 0
    have RBk1 := RB.out.cell 1 rfl
    have RBf1 := RB.out.free 1
    have RBk2 := RB.out.cell 2 rfl
    have RBf2 := RB.out.free 2
    have RBk3 := RB.out.cell 3 rfl
    have RBf3 := RB.out.free 3
    have RBk4 := RB.out.cell 4 rfl
    have RBf4 := RB.out.free 4
    have RBk5 := RB.out.cell 5 rfl
    have RBf5 := RB.out.free 5
    have RBk6 := RB.out.cell 6 rfl
    have RBf6 := RB.out.free 6
    have RBk7 := RB.out.cell 7 rfl
    have RBf7 := RB.out.free 7
    have RBk8 := RB.out.cell 8 rfl
    have RBf8 := RB.out.free 8
    have RBk9 := RB.out.cell 9 rfl
    have RBf9 := RB.out.free 9
    have RBk10 := RB.out.cell 10 rfl
    have RBf10 := RB.out.free 10
    have RBk11 := RB.out.cell 11 rfl
    have RBf11 := RB.out.free 11
    have RBz := RB.out.lt
    have MBk0 := MB.out.cell 0 rfl
    have MBk1 := MB.out.cell 1 rfl
    have MBk2 := MB.out.cell 2 rfl
    have MBk3 := MB.out.cell 3 rfl
    have MBk4 := MB.out.cell 4 rfl
    have MBk5 := MB.out.cell 5 rfl
    have MBk6 := MB.out.cell 6 rfl
    have MBk7 := MB.out.cell 7 rfl
    have MBk8 := MB.out.cell 8 rfl
    have MBk9 := MB.out.cell 9 rfl
    have MBk10 := MB.out.cell 10 rfl
    have MBk11 := MB.out.cell 11 rfl
    have MBz := MB.out.lt
    go_wp2
    refine bodyPost_ret (v := .agg #[.int .i64 mm.frm, .int .i64 y, .int .i64 mm.eff.base, .slice Ame nme cme, .int .i64 mm.terms.taint.base, .slice Amt0 nmt0 cmt0, .int .i64 mm.terms.clear.base, .slice Amt1 nmt1 cmt1, .int .i64 mm.terms.raise.base, .slice Amt2 nmt2 cmt2, .int .i64 mm.terms.verify.base, .slice Amt3 nmt3 cmt3]) (by simp [results, Tryz.results25, go_sem, RBk0, RBk1, RBk2, RBk3, RBk4, RBk5, RBk6, RBk7, RBk8, RBk9, RBk10, RBk11]) rfl ?_
    change DrawnMs 600 p a len cap w _ (putRow x26 w.heap.size 0 [.int .i64 mm.frm, .int .i64 y, .int .i64 mm.eff.base, .slice Ame nme cme, .int .i64 mm.terms.taint.base, .slice Amt0 nmt0 cmt0, .int .i64 mm.terms.clear.base, .slice Amt1 nmt1 cmt1, .int .i64 mm.terms.raise.base, .slice Amt2 nmt2 cmt2, .int .i64 mm.terms.verify.base, .slice Amt3 nmt3 cmt3])
    refine ⟨[.int .i64 mm.frm, .int .i64 y, .int .i64 mm.eff.base, .slice Ame nme cme, .int .i64 mm.terms.taint.base, .slice Amt0 nmt0 cmt0, .int .i64 mm.terms.clear.base, .slice Amt1 nmt1 cmt1, .int .i64 mm.terms.raise.base, .slice Amt2 nmt2 cmt2, .int .i64 mm.terms.verify.base, .slice Amt3 nmt3 cmt3], ⟨mm.frm, y, mm.eff, mm.terms⟩, rfl, ?_, ?_, CurG.put (Nat.le_refl _) hp _ G.out⟩
    · simp only [msSz, tmSz] at fewm ⊢
      omega
    · rw [size_putRow]
      have o1 : OwW (w.heap.size + 1) x26.heap.size x26 (dtMs (⟨mm.frm, y, mm.eff, mm.terms⟩ : Ms)) [.int .i64 mm.frm, .int .i64 y, .int .i64 mm.eff.base, .slice Ame nme cme, .int .i64 mm.terms.taint.base, .slice Amt0 nmt0 cmt0, .int .i64 mm.terms.clear.base, .slice Amt1 nmt1 cmt1, .int .i64 mm.terms.raise.base, .slice Amt2 nmt2 cmt2, .int .i64 mm.terms.verify.base, .slice Amt3 nmt3 cmt3] := OwW.num (OwW.num ((Ome.out.wide (lo' := w.heap.size + 1) (hi' := x26.heap.size) (by omega) (by omega)).and (Omt.out.wide (lo' := w.heap.size + 1) (hi' := x26.heap.size) (by omega) (by omega))))
      exact (o1.put _ (.inl (by omega))).wide (by omega) (Nat.le_refl _)
  · clear hk0 hk1
    go_wp2_with fail
    refine (draw_any p a len cap zs _ hl G.out.cur (hr.kept G.out.grown)).mono ?_
    rintro e x25 ⟨vn, l, rfl, ow, fewn, hc1, hg⟩
    obtain ⟨un, rfl, ow2⟩ := ow.ww
    obtain ⟨An, nn, cn, rfl⟩ := shp_lab ow2.rd
    have On := Lib.hid ow2
    clear ow ow2
    have hsx25 : x4.heap.size ≤ x25.heap.size := hg.size
    have G' := Lib.hid (G.out.gb hc1 hg)
    clear G
    have G := G'
    clear G'
    have RB' := Lib.hid (box_gb RB.out hg (by omega))
    clear RB
    have RB := RB'
    clear RB'
    have MB' := Lib.hid (box_gb MB.out hg (by omega))
    clear MB
    have MB := MB'
    clear MB'
    have Ome' := Lib.hid (Ome.out.gb hg (by omega))
    clear Ome
    have Ome := Ome'
    clear Ome'
    have Omt' := Lib.hid (Omt.out.gb hg (by omega))
    clear Omt
    have Omt := Omt'
    clear Omt'
    clear hc1 hg
    have MBk0 := MB.out.cell 0 rfl
    have MBf0 := MB.out.free 0
    have MBk1 := MB.out.cell 1 rfl
    have MBf1 := MB.out.free 1
    have MBk2 := MB.out.cell 2 rfl
    have MBf2 := MB.out.free 2
    have MBk3 := MB.out.cell 3 rfl
    have MBf3 := MB.out.free 3
    have MBk4 := MB.out.cell 4 rfl
    have MBf4 := MB.out.free 4
    have MBk5 := MB.out.cell 5 rfl
    have MBf5 := MB.out.free 5
    have MBk6 := MB.out.cell 6 rfl
    have MBf6 := MB.out.free 6
    have MBk7 := MB.out.cell 7 rfl
    have MBf7 := MB.out.free 7
    have MBk8 := MB.out.cell 8 rfl
    have MBf8 := MB.out.free 8
    have MBk9 := MB.out.cell 9 rfl
    have MBf9 := MB.out.free 9
    have MBk10 := MB.out.cell 10 rfl
    have MBf10 := MB.out.free 10
    have MBk11 := MB.out.cell 11 rfl
    have MBf11 := MB.out.free 11
    have MBz := MB.out.lt
    go_upto_region 12 with fail
    clear MBk0 MBf0 MBk1 MBf1 MBk2 MBf2 MBk3 MBf3 MBk4 MBf4 MBk5 MBf5 MBk6 MBf6 MBk7 MBf7 MBk8 MBf8 MBk9 MBf9 MBk10 MBf10 MBk11 MBf11 MBz
    generalize hW : (x25.setCell ⟨x1.heap.size, 2, none⟩ (.int .i64 l.base)).setCell ⟨x1.heap.size, 3, none⟩ (.slice An nn cn) = x26
    have hsx26 : x25.heap.size ≤ x26.heap.size := by rw [← hW]; simp
    have G' := (G.out.set (g := x1.heap.size) (i := 2) (u := .int .i64 l.base) (by omega) hp).set (g := x1.heap.size) (i := 3) (u := .slice An nn cn) (by omega) hp
    rw [hW] at G'
    clear G
    have G := Lib.hid G'
    clear G'
    have RB' := (RB.out.far (b := x1.heap.size) (i := 2) (u := .int .i64 l.base) (by omega)).far (b := x1.heap.size) (i := 3) (u := .slice An nn cn) (by omega)
    rw [hW] at RB'
    clear RB
    have RB := Lib.hid RB'
    clear RB'
    have MB' : Hid (Box x26 x1.heap.size [.int .i64 mm.frm, .int .i64 mm.value, .int .i64 l.base, .slice An nn cn, .int .i64 mm.terms.taint.base, .slice Amt0 nmt0 cmt0, .int .i64 mm.terms.clear.base, .slice Amt1 nmt1 cmt1, .int .i64 mm.terms.raise.base, .slice Amt2 nmt2 cmt2, .int .i64 mm.terms.verify.base, .slice Amt3 nmt3 cmt3]) := Lib.hid (by rw [← hW]; simpa using (MB.out.set (i := 2) (u := .int .i64 l.base) (by simp)).set (i := 3) (u := .slice An nn cn) (by simp))
    clear MB
    have MB := MB'
    clear MB'
    have On' := (On.out.set (g := x1.heap.size) (i := 2) (u := .int .i64 l.base) (.inl (by omega))).set (g := x1.heap.size) (i := 3) (u := .slice An nn cn) (.inl (by omega))
    rw [hW] at On'
    clear On
    have On := Lib.hid On'
    clear On'
    have Omt' := (Omt.out.set (g := x1.heap.size) (i := 2) (u := .int .i64 l.base) (.inr (by omega))).set (g := x1.heap.size) (i := 3) (u := .slice An nn cn) (.inr (by omega))
    rw [hW] at Omt'
    clear Omt
    have Omt := Lib.hid Omt'
    clear Omt'
    clear hW
    have RBk0 := RB.out.cell 0 rfl
    have RBf0 := RB.out.free 0
    have RBk1 := RB.out.cell 1 rfl
    have RBf1 := RB.out.free 1
    have RBk2 := RB.out.cell 2 rfl
    have RBf2 := RB.out.free 2
    have RBk3 := RB.out.cell 3 rfl
    have RBf3 := RB.out.free 3
    have RBk4 := RB.out.cell 4 rfl
    have RBf4 := RB.out.free 4
    have RBk5 := RB.out.cell 5 rfl
    have RBf5 := RB.out.free 5
    have RBk6 := RB.out.cell 6 rfl
    have RBf6 := RB.out.free 6
    have RBk7 := RB.out.cell 7 rfl
    have RBf7 := RB.out.free 7
    have RBk8 := RB.out.cell 8 rfl
    have RBf8 := RB.out.free 8
    have RBk9 := RB.out.cell 9 rfl
    have RBf9 := RB.out.free 9
    have RBk10 := RB.out.cell 10 rfl
    have RBf10 := RB.out.free 10
    have RBk11 := RB.out.cell 11 rfl
    have RBf11 := RB.out.free 11
    have RBz := RB.out.lt
    have MBk0 := MB.out.cell 0 rfl
    have MBk1 := MB.out.cell 1 rfl
    have MBk2 := MB.out.cell 2 rfl
    have MBk3 := MB.out.cell 3 rfl
    have MBk4 := MB.out.cell 4 rfl
    have MBk5 := MB.out.cell 5 rfl
    have MBk6 := MB.out.cell 6 rfl
    have MBk7 := MB.out.cell 7 rfl
    have MBk8 := MB.out.cell 8 rfl
    have MBk9 := MB.out.cell 9 rfl
    have MBk10 := MB.out.cell 10 rfl
    have MBk11 := MB.out.cell 11 rfl
    have MBz := MB.out.lt
    go_wp2
    refine bodyPost_ret (v := .agg #[.int .i64 mm.frm, .int .i64 mm.value, .int .i64 l.base, .slice An nn cn, .int .i64 mm.terms.taint.base, .slice Amt0 nmt0 cmt0, .int .i64 mm.terms.clear.base, .slice Amt1 nmt1 cmt1, .int .i64 mm.terms.raise.base, .slice Amt2 nmt2 cmt2, .int .i64 mm.terms.verify.base, .slice Amt3 nmt3 cmt3]) (by simp [results, Tryz.results25, go_sem, RBk0, RBk1, RBk2, RBk3, RBk4, RBk5, RBk6, RBk7, RBk8, RBk9, RBk10, RBk11]) rfl ?_
    change DrawnMs 600 p a len cap w _ (putRow x26 w.heap.size 0 [.int .i64 mm.frm, .int .i64 mm.value, .int .i64 l.base, .slice An nn cn, .int .i64 mm.terms.taint.base, .slice Amt0 nmt0 cmt0, .int .i64 mm.terms.clear.base, .slice Amt1 nmt1 cmt1, .int .i64 mm.terms.raise.base, .slice Amt2 nmt2 cmt2, .int .i64 mm.terms.verify.base, .slice Amt3 nmt3 cmt3])
    refine ⟨[.int .i64 mm.frm, .int .i64 mm.value, .int .i64 l.base, .slice An nn cn, .int .i64 mm.terms.taint.base, .slice Amt0 nmt0 cmt0, .int .i64 mm.terms.clear.base, .slice Amt1 nmt1 cmt1, .int .i64 mm.terms.raise.base, .slice Amt2 nmt2 cmt2, .int .i64 mm.terms.verify.base, .slice Amt3 nmt3 cmt3], ⟨mm.frm, mm.value, l, mm.terms⟩, rfl, ?_, ?_, CurG.put (Nat.le_refl _) hp _ G.out⟩
    · simp only [msSz, tmSz] at fewm ⊢
      omega
    · rw [size_putRow]
      have o1 : OwW (w.heap.size + 1) x26.heap.size x26 (dtMs (⟨mm.frm, mm.value, l, mm.terms⟩ : Ms)) [.int .i64 mm.frm, .int .i64 mm.value, .int .i64 l.base, .slice An nn cn, .int .i64 mm.terms.taint.base, .slice Amt0 nmt0 cmt0, .int .i64 mm.terms.clear.base, .slice Amt1 nmt1 cmt1, .int .i64 mm.terms.raise.base, .slice Amt2 nmt2 cmt2, .int .i64 mm.terms.verify.base, .slice Amt3 nmt3 cmt3] := OwW.num (OwW.num ((On.out.wide (lo' := w.heap.size + 1) (hi' := x26.heap.size) (by omega) (by omega)).and (Omt.out.wide (lo' := w.heap.size + 1) (hi' := x26.heap.size) (by omega) (by omega))))
      exact (o1.put _ (.inl (by omega))).wide (by omega) (Nat.le_refl _)
  · clear hk0 hk1
    go_wp2_with fail
    refine (draw_tmany p a len cap zs _ hl G.out.cur (hr.kept G.out.grown)).mono ?_
    rintro e x25 ⟨vn, t, rfl, ow, hc1, hg⟩
    have fewn := ow.few
    obtain ⟨un, rfl, ow2⟩ := ow.ww
    obtain ⟨An0, nn0, cn0, An1, nn1, cn1, An2, nn2, cn2, An3, nn3, cn3, rfl⟩ := shp_tm ow2.rd
    have On := Lib.hid ow2
    clear ow ow2
    have hsx25 : x4.heap.size ≤ x25.heap.size := hg.size
    have G' := Lib.hid (G.out.gb hc1 hg)
    clear G
    have G := G'
    clear G'
    have RB' := Lib.hid (box_gb RB.out hg (by omega))
    clear RB
    have RB := RB'
    clear RB'
    have MB' := Lib.hid (box_gb MB.out hg (by omega))
    clear MB
    have MB := MB'
    clear MB'
    have Ome' := Lib.hid (Ome.out.gb hg (by omega))
    clear Ome
    have Ome := Ome'
    clear Ome'
    have Omt' := Lib.hid (Omt.out.gb hg (by omega))
    clear Omt
    have Omt := Omt'
    clear Omt'
    clear hc1 hg
    have MBk0 := MB.out.cell 0 rfl
    have MBf0 := MB.out.free 0
    have MBk1 := MB.out.cell 1 rfl
    have MBf1 := MB.out.free 1
    have MBk2 := MB.out.cell 2 rfl
    have MBf2 := MB.out.free 2
    have MBk3 := MB.out.cell 3 rfl
    have MBf3 := MB.out.free 3
    have MBk4 := MB.out.cell 4 rfl
    have MBf4 := MB.out.free 4
    have MBk5 := MB.out.cell 5 rfl
    have MBf5 := MB.out.free 5
    have MBk6 := MB.out.cell 6 rfl
    have MBf6 := MB.out.free 6
    have MBk7 := MB.out.cell 7 rfl
    have MBf7 := MB.out.free 7
    have MBk8 := MB.out.cell 8 rfl
    have MBf8 := MB.out.free 8
    have MBk9 := MB.out.cell 9 rfl
    have MBf9 := MB.out.free 9
    have MBk10 := MB.out.cell 10 rfl
    have MBf10 := MB.out.free 10
    have MBk11 := MB.out.cell 11 rfl
    have MBf11 := MB.out.free 11
    have MBz := MB.out.lt
    go_upto_region 12 with fail
    clear MBk0 MBf0 MBk1 MBf1 MBk2 MBf2 MBk3 MBf3 MBk4 MBf4 MBk5 MBf5 MBk6 MBf6 MBk7 MBf7 MBk8 MBf8 MBk9 MBf9 MBk10 MBf10 MBk11 MBf11 MBz
    generalize hW : (((((((x25.setCell ⟨x1.heap.size, 4, none⟩ (.int .i64 t.taint.base)).setCell ⟨x1.heap.size, 5, none⟩ (.slice An0 nn0 cn0)).setCell ⟨x1.heap.size, 6, none⟩ (.int .i64 t.clear.base)).setCell ⟨x1.heap.size, 7, none⟩ (.slice An1 nn1 cn1)).setCell ⟨x1.heap.size, 8, none⟩ (.int .i64 t.raise.base)).setCell ⟨x1.heap.size, 9, none⟩ (.slice An2 nn2 cn2)).setCell ⟨x1.heap.size, 10, none⟩ (.int .i64 t.verify.base)).setCell ⟨x1.heap.size, 11, none⟩ (.slice An3 nn3 cn3) = x26
    have hsx26 : x25.heap.size ≤ x26.heap.size := by rw [← hW]; simp
    have G' := (((((((G.out.set (g := x1.heap.size) (i := 4) (u := .int .i64 t.taint.base) (by omega) hp).set (g := x1.heap.size) (i := 5) (u := .slice An0 nn0 cn0) (by omega) hp).set (g := x1.heap.size) (i := 6) (u := .int .i64 t.clear.base) (by omega) hp).set (g := x1.heap.size) (i := 7) (u := .slice An1 nn1 cn1) (by omega) hp).set (g := x1.heap.size) (i := 8) (u := .int .i64 t.raise.base) (by omega) hp).set (g := x1.heap.size) (i := 9) (u := .slice An2 nn2 cn2) (by omega) hp).set (g := x1.heap.size) (i := 10) (u := .int .i64 t.verify.base) (by omega) hp).set (g := x1.heap.size) (i := 11) (u := .slice An3 nn3 cn3) (by omega) hp
    rw [hW] at G'
    clear G
    have G := Lib.hid G'
    clear G'
    have RB' := (((((((RB.out.far (b := x1.heap.size) (i := 4) (u := .int .i64 t.taint.base) (by omega)).far (b := x1.heap.size) (i := 5) (u := .slice An0 nn0 cn0) (by omega)).far (b := x1.heap.size) (i := 6) (u := .int .i64 t.clear.base) (by omega)).far (b := x1.heap.size) (i := 7) (u := .slice An1 nn1 cn1) (by omega)).far (b := x1.heap.size) (i := 8) (u := .int .i64 t.raise.base) (by omega)).far (b := x1.heap.size) (i := 9) (u := .slice An2 nn2 cn2) (by omega)).far (b := x1.heap.size) (i := 10) (u := .int .i64 t.verify.base) (by omega)).far (b := x1.heap.size) (i := 11) (u := .slice An3 nn3 cn3) (by omega)
    rw [hW] at RB'
    clear RB
    have RB := Lib.hid RB'
    clear RB'
    have MB' : Hid (Box x26 x1.heap.size [.int .i64 mm.frm, .int .i64 mm.value, .int .i64 mm.eff.base, .slice Ame nme cme, .int .i64 t.taint.base, .slice An0 nn0 cn0, .int .i64 t.clear.base, .slice An1 nn1 cn1, .int .i64 t.raise.base, .slice An2 nn2 cn2, .int .i64 t.verify.base, .slice An3 nn3 cn3]) := Lib.hid (by rw [← hW]; simpa using (((((((MB.out.set (i := 4) (u := .int .i64 t.taint.base) (by simp)).set (i := 5) (u := .slice An0 nn0 cn0) (by simp)).set (i := 6) (u := .int .i64 t.clear.base) (by simp)).set (i := 7) (u := .slice An1 nn1 cn1) (by simp)).set (i := 8) (u := .int .i64 t.raise.base) (by simp)).set (i := 9) (u := .slice An2 nn2 cn2) (by simp)).set (i := 10) (u := .int .i64 t.verify.base) (by simp)).set (i := 11) (u := .slice An3 nn3 cn3) (by simp))
    clear MB
    have MB := MB'
    clear MB'
    have Ome' := (((((((Ome.out.set (g := x1.heap.size) (i := 4) (u := .int .i64 t.taint.base) (.inr (by omega))).set (g := x1.heap.size) (i := 5) (u := .slice An0 nn0 cn0) (.inr (by omega))).set (g := x1.heap.size) (i := 6) (u := .int .i64 t.clear.base) (.inr (by omega))).set (g := x1.heap.size) (i := 7) (u := .slice An1 nn1 cn1) (.inr (by omega))).set (g := x1.heap.size) (i := 8) (u := .int .i64 t.raise.base) (.inr (by omega))).set (g := x1.heap.size) (i := 9) (u := .slice An2 nn2 cn2) (.inr (by omega))).set (g := x1.heap.size) (i := 10) (u := .int .i64 t.verify.base) (.inr (by omega))).set (g := x1.heap.size) (i := 11) (u := .slice An3 nn3 cn3) (.inr (by omega))
    rw [hW] at Ome'
    clear Ome
    have Ome := Lib.hid Ome'
    clear Ome'
    have On' := (((((((On.out.set (g := x1.heap.size) (i := 4) (u := .int .i64 t.taint.base) (.inl (by omega))).set (g := x1.heap.size) (i := 5) (u := .slice An0 nn0 cn0) (.inl (by omega))).set (g := x1.heap.size) (i := 6) (u := .int .i64 t.clear.base) (.inl (by omega))).set (g := x1.heap.size) (i := 7) (u := .slice An1 nn1 cn1) (.inl (by omega))).set (g := x1.heap.size) (i := 8) (u := .int .i64 t.raise.base) (.inl (by omega))).set (g := x1.heap.size) (i := 9) (u := .slice An2 nn2 cn2) (.inl (by omega))).set (g := x1.heap.size) (i := 10) (u := .int .i64 t.verify.base) (.inl (by omega))).set (g := x1.heap.size) (i := 11) (u := .slice An3 nn3 cn3) (.inl (by omega))
    rw [hW] at On'
    clear On
    have On := Lib.hid On'
    clear On'
    clear hW
    have RBk0 := RB.out.cell 0 rfl
    have RBf0 := RB.out.free 0
    have RBk1 := RB.out.cell 1 rfl
    have RBf1 := RB.out.free 1
    have RBk2 := RB.out.cell 2 rfl
    have RBf2 := RB.out.free 2
    have RBk3 := RB.out.cell 3 rfl
    have RBf3 := RB.out.free 3
    have RBk4 := RB.out.cell 4 rfl
    have RBf4 := RB.out.free 4
    have RBk5 := RB.out.cell 5 rfl
    have RBf5 := RB.out.free 5
    have RBk6 := RB.out.cell 6 rfl
    have RBf6 := RB.out.free 6
    have RBk7 := RB.out.cell 7 rfl
    have RBf7 := RB.out.free 7
    have RBk8 := RB.out.cell 8 rfl
    have RBf8 := RB.out.free 8
    have RBk9 := RB.out.cell 9 rfl
    have RBf9 := RB.out.free 9
    have RBk10 := RB.out.cell 10 rfl
    have RBf10 := RB.out.free 10
    have RBk11 := RB.out.cell 11 rfl
    have RBf11 := RB.out.free 11
    have RBz := RB.out.lt
    have MBk0 := MB.out.cell 0 rfl
    have MBk1 := MB.out.cell 1 rfl
    have MBk2 := MB.out.cell 2 rfl
    have MBk3 := MB.out.cell 3 rfl
    have MBk4 := MB.out.cell 4 rfl
    have MBk5 := MB.out.cell 5 rfl
    have MBk6 := MB.out.cell 6 rfl
    have MBk7 := MB.out.cell 7 rfl
    have MBk8 := MB.out.cell 8 rfl
    have MBk9 := MB.out.cell 9 rfl
    have MBk10 := MB.out.cell 10 rfl
    have MBk11 := MB.out.cell 11 rfl
    have MBz := MB.out.lt
    go_wp2
    refine bodyPost_ret (v := .agg #[.int .i64 mm.frm, .int .i64 mm.value, .int .i64 mm.eff.base, .slice Ame nme cme, .int .i64 t.taint.base, .slice An0 nn0 cn0, .int .i64 t.clear.base, .slice An1 nn1 cn1, .int .i64 t.raise.base, .slice An2 nn2 cn2, .int .i64 t.verify.base, .slice An3 nn3 cn3]) (by simp [results, Tryz.results25, go_sem, RBk0, RBk1, RBk2, RBk3, RBk4, RBk5, RBk6, RBk7, RBk8, RBk9, RBk10, RBk11]) rfl ?_
    change DrawnMs 600 p a len cap w _ (putRow x26 w.heap.size 0 [.int .i64 mm.frm, .int .i64 mm.value, .int .i64 mm.eff.base, .slice Ame nme cme, .int .i64 t.taint.base, .slice An0 nn0 cn0, .int .i64 t.clear.base, .slice An1 nn1 cn1, .int .i64 t.raise.base, .slice An2 nn2 cn2, .int .i64 t.verify.base, .slice An3 nn3 cn3])
    refine ⟨[.int .i64 mm.frm, .int .i64 mm.value, .int .i64 mm.eff.base, .slice Ame nme cme, .int .i64 t.taint.base, .slice An0 nn0 cn0, .int .i64 t.clear.base, .slice An1 nn1 cn1, .int .i64 t.raise.base, .slice An2 nn2 cn2, .int .i64 t.verify.base, .slice An3 nn3 cn3], ⟨mm.frm, mm.value, mm.eff, t⟩, rfl, ?_, ?_, CurG.put (Nat.le_refl _) hp _ G.out⟩
    · simp only [msSz, tmSz] at fewm ⊢
      obtain ⟨f1, f2, f3, f4⟩ := fewn
      omega
    · rw [size_putRow]
      have o1 : OwW (w.heap.size + 1) x26.heap.size x26 (dtMs (⟨mm.frm, mm.value, mm.eff, t⟩ : Ms)) [.int .i64 mm.frm, .int .i64 mm.value, .int .i64 mm.eff.base, .slice Ame nme cme, .int .i64 t.taint.base, .slice An0 nn0 cn0, .int .i64 t.clear.base, .slice An1 nn1 cn1, .int .i64 t.raise.base, .slice An2 nn2 cn2, .int .i64 t.verify.base, .slice An3 nn3 cn3] := OwW.num (OwW.num ((Ome.out.wide (lo' := w.heap.size + 1) (hi' := x26.heap.size) (by omega) (by omega)).and (On.out.wide (lo' := w.heap.size + 1) (hi' := x26.heap.size) (by omega) (by omega))))
      exact (o1.put _ (.inl (by omega))).wide (by omega) (Nat.le_refl _)
end Go.Proofs.YtnpeojlhjbdjiaaGreatDoor

/-
  The draw of a door (chapter 7 of the model).
-/
namespace Go.Proofs.YtnpeojlhjbdjiaaGreatDoor
set_option maxRecDepth 100000
open Go.RowKit

theorem own_len {w : World} {base sz n m c : Nat} {t : TypeId} {A : Option Addr} {us : List Value} (h : w.ownsRow base t sz (.slice A n c) m us) : n = m := by
  obtain ⟨_, _, e, -⟩ := own_at h
  simp only [Value.slice.injEq] at e
  omega
set_option maxHeartbeats 8000000 in
theorem draw_door (p : Nat) (a : Option Addr) (len cap : Nat) (zs : List Int) (w : World) (hl : len ≤ 4096) (hc : IsCur p a len cap w) (hr : CurRow w p a len cap zs) : Calls Tryz.prog 46 #[.pointer (some ⟨p, 0, none⟩)] w (DrawnDoor 6 p a len cap w) := by
  have hp := hc.lt
  have G : Hid (CurG p a len cap w w) := Lib.hid ⟨hc, World.grownBy.refl _ _⟩
  clear hc
  go_enter Tryz.func46, Tryz.ntmps46
  go_wp2_with fail
  generalize hW : w.alloc (.cells #[.int .i64 0, .int .i64 0, .slice none 0 0, .slice none 0 0] 29) = x0
  obtain ⟨nb0, hsz, hb⟩ := laid1 (ps := [.int .i64 0, .int .i64 0, .slice none 0 0, .slice none 0 0]) hW
  clear hW
  have nbh0 := Lib.hid nb0
  clear nb0
  have hzx0 : x0.heap.size = w.heap.size + 1 := hsz
  clear hsz
  have hsx0 : w.heap.size ≤ x0.heap.size := hb.size
  have G' := Lib.hid (G.out.below hb)
  clear G
  have G := G'
  clear G'
  clear hb
  have RB := nbh0
  clear nbh0
  refine (below_any p a len cap zs 3 _ hl (by omega) (by omega) G.out.cur (hr.kept G.out.grown)).mono ?_
  rintro e x1 ⟨k, hk0, hk1, rfl, hc1, hg⟩
  have hsx1 : x0.heap.size ≤ x1.heap.size := hg.size
  have G' := Lib.hid (G.out.gb hc1 hg)
  clear G
  have G := G'
  clear G'
  have RB' := Lib.hid (box_gb RB.out hg (by omega))
  clear RB
  have RB := RB'
  clear RB'
  clear hc1 hg
  go_wp2_with fail
  refine (below_any p a len cap zs 3 _ hl (by omega) (by omega) G.out.cur (hr.kept G.out.grown)).mono ?_
  rintro e x2 ⟨j, hj0, hj1, rfl, hc1, hg⟩
  have hsx2 : x1.heap.size ≤ x2.heap.size := hg.size
  have G' := Lib.hid (G.out.gb hc1 hg)
  clear G
  have G := G'
  clear G'
  have RB' := Lib.hid (box_gb RB.out hg (by omega))
  clear RB
  have RB := RB'
  clear RB'
  clear hc1 hg
  go_wp2_with fail
  refine (new_open _ _).mono ?_
  rintro e x3 ⟨ud, d, rfl, hq, hf, hi, ow, hb⟩
  obtain ⟨A0, n0, c0, A1, n1, c1, rfl⟩ := shp_door ow.rd
  have OD := Lib.hid ow.r
  clear ow
  have hsx3 : x2.heap.size ≤ x3.heap.size := hb.size
  have G' := Lib.hid (G.out.below hb)
  clear G
  have G := G'
  clear G'
  have RB' := Lib.hid (RB.out.below hb)
  clear RB
  have RB := RB'
  clear RB'
  clear hb
  go_wp2_with fail
  generalize hW : x3.alloc (.cells #[.int .i64 d.handle, .int .i64 d.label.base, .slice A0 n0 c0, .slice A1 n1 c1] 29) = x4
  obtain ⟨nb0, hsz, hb⟩ := laid1 (ps := [.int .i64 d.handle, .int .i64 d.label.base, .slice A0 n0 c0, .slice A1 n1 c1]) hW
  clear hW
  have nbh0 := Lib.hid nb0
  clear nb0
  have hzx4 : x4.heap.size = x3.heap.size + 1 := hsz
  clear hsz
  have hsx4 : x3.heap.size ≤ x4.heap.size := hb.size
  have G' := Lib.hid (G.out.below hb)
  clear G
  have G := G'
  clear G'
  have RB' := Lib.hid (RB.out.below hb)
  clear RB
  have RB := RB'
  clear RB'
  have OD' := Lib.hid (OD.out.below hb)
  clear OD
  have OD := OD'
  clear OD'
  clear hb
  have DB := nbh0
  clear nbh0
  refine (once_any p a len cap zs 4 _ hl (by omega) (by omega) G.out.cur (hr.kept G.out.grown)).mono ?_
  rintro e x5 ⟨b, rfl, hc1, hg⟩
  have hsx5 : x4.heap.size ≤ x5.heap.size := hg.size
  have G' := Lib.hid (G.out.gb hc1 hg)
  clear G
  have G := G'
  clear G'
  have RB' := Lib.hid (box_gb RB.out hg (by omega))
  clear RB
  have RB := RB'
  clear RB'
  have DB' := Lib.hid (box_gb DB.out hg (by omega))
  clear DB
  have DB := DB'
  clear DB'
  have OD' := Lib.hid (OD.out.gb hg (by omega))
  clear OD
  have OD := OD'
  clear OD'
  clear hc1 hg
  cases b
  case' false =>
    go_wp2_with fail
    have KK : Hid (∃ (d : Door) (A0 : Option Addr) (n0 c0 : Nat) (A1 : Option Addr) (n1 c1 : Nat), InI64 d.handle ∧ QSt p a len cap w x3.heap.size d.handle d.label [] (.slice A0 n0 c0) (.slice A1 n1 c1) 0 [] x5) := Lib.hid ⟨d, A0, n0, c0, A1, n1, c1, hi, QSt.begin G.out hp (by omega) RB.out DB.out OD.out (by omega) (.inr (by omega)) hq hf⟩
    obtain ⟨y, hy⟩ : ∃ y, y = x5 := ⟨_, rfl⟩
    rw [← hy] at KK ⊢
    have hzy : x3.heap.size < y.heap.size := by rw [hy]; omega
    clear hy G RB DB OD hq hf hi
  case' true =>
    have DBk0 := DB.out.cell 0 rfl
    have DBf0 := DB.out.free 0
    have DBk1 := DB.out.cell 1 rfl
    have DBf1 := DB.out.free 1
    have DBk2 := DB.out.cell 2 rfl
    have DBf2 := DB.out.free 2
    have DBk3 := DB.out.cell 3 rfl
    have DBf3 := DB.out.free 3
    have DBz := DB.out.lt
    go_wp2_with fail
    refine (new_shut _ _).mono ?_
    rintro e x26 ⟨ue, d', rfl, hq', hf', hi', ow, hb⟩
    clear DBk0 DBf0 DBk1 DBf1 DBk2 DBf2 DBk3 DBf3 DBz
    obtain ⟨E0, j0, i0, E1, j1, i1, rfl⟩ := shp_door ow.rd
    have OE := Lib.hid ow.r
    clear ow
    have hsx26 : x5.heap.size ≤ x26.heap.size := hb.size
    have G' := Lib.hid (G.out.below hb)
    clear G
    have G := G'
    clear G'
    have RB' := Lib.hid (RB.out.below hb)
    clear RB
    have RB := RB'
    clear RB'
    have DB' := Lib.hid (DB.out.below hb)
    clear DB
    have DB := DB'
    clear DB'
    have OD' := Lib.hid (OD.out.below hb)
    clear OD
    have OD := OD'
    clear OD'
    clear hb
    have DBk0 := DB.out.cell 0 rfl
    have DBf0 := DB.out.free 0
    have DBk1 := DB.out.cell 1 rfl
    have DBf1 := DB.out.free 1
    have DBk2 := DB.out.cell 2 rfl
    have DBf2 := DB.out.free 2
    have DBk3 := DB.out.cell 3 rfl
    have DBf3 := DB.out.free 3
    have DBz := DB.out.lt
    go_wp2_with fail
    generalize hW : (((x26.setCell ⟨x3.heap.size, 0, none⟩ (.int .i64 d'.handle)).setCell ⟨x3.heap.size, 1, none⟩ (.int .i64 d'.label.base)).setCell ⟨x3.heap.size, 2, none⟩ (.slice E0 j0 i0)).setCell ⟨x3.heap.size, 3, none⟩ (.slice E1 j1 i1) = y
    have hW' : putRow x26 x3.heap.size 0 [.int .i64 d'.handle, .int .i64 d'.label.base, .slice E0 j0 i0, .slice E1 j1 i1] = y := hW
    clear hW
    clear DBk0 DBf0 DBk1 DBf1 DBk2 DBf2 DBk3 DBf3 DBz
    have hzy : x3.heap.size < y.heap.size := by rw [← hW', size_putRow]; omega
    have hK := QSt.begin (d := d') (g := x3.heap.size) (wr := y) (by rw [← hW']; exact CurG.put (by omega) hp _ G.out) hp (by omega) (by rw [← hW']; exact RB.out.putRow _ (by omega)) (by rw [← hW']; exact box_putRow (pre := []) _ DB.out rfl rfl) (by rw [← hW']; exact OE.out.putRow _ (.inl (by omega))) (by omega) (.inl (by omega)) hq' hf'
    have KK : Hid (∃ (d : Door) (A0 : Option Addr) (n0 c0 : Nat) (A1 : Option Addr) (n1 c1 : Nat), InI64 d.handle ∧ QSt p a len cap w x3.heap.size d.handle d.label [] (.slice A0 n0 c0) (.slice A1 n1 c1) 0 [] y) := Lib.hid ⟨d', E0, j0, i0, E1, j1, i1, hi', hK⟩
    clear hK hW' G RB DB OD OE hq hf hq' hf' hi hi'
  all_goals
    obtain ⟨d2, B0, m0, e0, B1, m1, e1, i2, K⟩ := KK.out
    have HK := Lib.hid K
    have HI := Lib.hid i2
    clear K KK i2
    refine (below_any p a len cap zs 6 y hl (by omega) (by omega) HK.out.cur.cur (hr.kept HK.out.cur.grown)).mono ?_
    rintro e y1 ⟨n, hn0, hn1, rfl, hc1, hg⟩
    have HK1 := Lib.hid (HK.out.gb hc1 hg)
    have hz1 : x3.heap.size < y1.heap.size := by have := hg.size; omega
    clear HK hc1 hg
    obtain ⟨m, rfl⟩ : ∃ m : Nat, n = m := ⟨n.toNat, by omega⟩
    go_wp2
    go_loopw [4] (fun s wr => ∃ (k nq : Nat) (qq : List Ms) (A2 : Option Addr) (n2 c2 : Nat) (us : List Value), k + nq ≤ 6 ∧ s = .int .i64 k ∧ x3.heap.size < wr.heap.size ∧ Hid (QSt p a len cap w x3.heap.size d2.handle d2.label qq (.slice B0 m0 e0) (.slice A2 n2 c2) nq us wr)) (fun s _ => (intOf s).toNat)
    case atStart => exact ⟨m, 0, [], B1, m1, e1, [], by omega, rfl, hz1, HK1⟩
    case round =>
      clear HK1
      obtain ⟨k, nq, qq, A2, n2, c2, us, hk, rfl, hzr, HQ⟩ := hrel
      by_cases hk0 : 0 < k
      · obtain ⟨k, rfl⟩ : ∃ k', k = k' + 1 := ⟨k - 1, by omega⟩
        clear hk0
        go_wp2_with fail
        refine (draw_msg p a len cap zs _ hl HQ.out.cur.cur (hr.kept HQ.out.cur.grown)).mono ?_
        rintro e z1 ⟨um, mm, rfl, fewm, ow, hc1, hg⟩
        obtain ⟨Ame, nme, cme, Amt0, nmt0, cmt0, Amt1, nmt1, cmt1, Amt2, nmt2, cmt2, Amt3, nmt3, cmt3, rfl⟩ := shp_ms ow.rd
        have HM := Lib.hid ow
        have HQ1 := Lib.hid (HQ.out.gb hc1 hg)
        have hQlt : Hid (∀ b, (Value.slice A2 n2 c2).ownBlock = some b → b < wr.heap.size) := Lib.hid (fun b hb => (HQ.out.row.lt b hb).2)
        have hsz := hg.size
        clear ow hc1 hg HQ
        have qk := HQ1.out.db.cell 3 rfl
        have qz := HQ1.out.db.lt
        go_wp2_with fail
        generalize hW : z1.alloc (.cells #[.int .i64 mm.frm, .int .i64 mm.value, .int .i64 mm.eff.base, .slice Ame nme cme, .int .i64 mm.terms.taint.base, .slice Amt0 nmt0 cmt0, .int .i64 mm.terms.clear.base, .slice Amt1 nmt1 cmt1, .int .i64 mm.terms.raise.base, .slice Amt2 nmt2 cmt2, .int .i64 mm.terms.verify.base, .slice Amt3 nmt3 cmt3] 35) = z2
        obtain ⟨nb, hs2, hb⟩ := laid1 (ps := [.int .i64 mm.frm, .int .i64 mm.value, .int .i64 mm.eff.base, .slice Ame nme cme, .int .i64 mm.terms.taint.base, .slice Amt0 nmt0 cmt0, .int .i64 mm.terms.clear.base, .slice Amt1 nmt1 cmt1, .int .i64 mm.terms.raise.base, .slice Amt2 nmt2 cmt2, .int .i64 mm.terms.verify.base, .slice Amt3 nmt3 cmt3]) hW
        have MB := Lib.hid nb
        have HQ2 := Lib.hid (HQ1.out.below hb)
        have HM2 := Lib.hid (HM.out.below hb)
        have hsz2 : z1.heap.size < z2.heap.size := by omega
        clear hW nb hb HQ1 HM qk qz hs2
        refine (specD_share _ HQ2.out.rdq (by have := HQ2.out.len; have := own_len HQ2.out.row; omega)).mono ?_
        rintro e z3 ⟨rfl, rfl⟩
        have qk := HQ2.out.db.cell 3 rfl
        have qz := HQ2.out.db.lt
        have qf := HQ2.out.db.free 3
        have mz := MB.out.lt
        have mk0 := MB.out.cell 0 rfl; have mk1 := MB.out.cell 1 rfl; have mk2 := MB.out.cell 2 rfl; have mk3 := MB.out.cell 3 rfl; have mk4 := MB.out.cell 4 rfl; have mk5 := MB.out.cell 5 rfl; have mk6 := MB.out.cell 6 rfl; have mk7 := MB.out.cell 7 rfl; have mk8 := MB.out.cell 8 rfl; have mk9 := MB.out.cell 9 rfl; have mk10 := MB.out.cell 10 rfl; have mk11 := MB.out.cell 11 rfl
        by_cases hsh : share qq mm.frm < 3
        · go_upto_region 9 with fail
          have hal : Below z2.heap.size z2 (z2.alloc (.cells #[.int .i64 mm.frm, .int .i64 mm.value, .int .i64 mm.eff.base, .slice Ame nme cme, .int .i64 mm.terms.taint.base, .slice Amt0 nmt0 cmt0, .int .i64 mm.terms.clear.base, .slice Amt1 nmt1 cmt1, .int .i64 mm.terms.raise.base, .slice Amt2 nmt2 cmt2, .int .i64 mm.terms.verify.base, .slice Amt3 nmt3 cmt3] 35)) := (Below.refl _ _).alloc (Nat.le_refl _) _
          have HQ3 := Lib.hid (HQ2.out.below hal)
          have HM3 := Lib.hid (HM2.out.below hal)
          clear hal
          go_wp2_with (at_builtin; refine wpList_app elemMs rfl (.tmp 33) (.tmp 35) rfl (w.heap.size + 1) (.slice A2 n2 c2) nq us rfl (own_below HQ2.out.row ((Below.refl _ _).alloc (Nat.le_refl _) _)) (some ⟨z2.heap.size, 0, none⟩) 1 1 [.int .i64 mm.frm, .int .i64 mm.value, .int .i64 mm.eff.base, .slice Ame nme cme, .int .i64 mm.terms.taint.base, .slice Amt0 nmt0 cmt0, .int .i64 mm.terms.clear.base, .slice Amt1 nmt1 cmt1, .int .i64 mm.terms.raise.base, .slice Amt2 nmt2 cmt2, .int .i64 mm.terms.verify.base, .slice Amt3 nmt3 cmt3] rfl (At.new z2 #[.int .i64 mm.frm, .int .i64 mm.value, .int .i64 mm.eff.base, .slice Ame nme cme, .int .i64 mm.terms.taint.base, .slice Amt0 nmt0 cmt0, .int .i64 mm.terms.clear.base, .slice Amt1 nmt1 cmt1, .int .i64 mm.terms.raise.base, .slice Amt2 nmt2 cmt2, .int .i64 mm.terms.verify.base, .slice Amt3 nmt3 cmt3] 35 _ rfl) rfl HM2.out.rd.one (by omega) (by omega) (by simp; omega) ?_; intro v4 z4 hap; obtain ⟨A5, c5, rfl, -, -, -⟩ := own_at hap.own; have HAP := Lib.hid hap; obtain ⟨ac, af, az⟩ := HQ3.out.app hap; clear hap)
          go_roundw
          case rel => exact ⟨k, nq + 1, qq ++ [mm], A5, _, c5, us ++ [.int .i64 mm.frm, .int .i64 mm.value, .int .i64 mm.eff.base, .slice Ame nme cme, .int .i64 mm.terms.taint.base, .slice Amt0 nmt0 cmt0, .int .i64 mm.terms.clear.base, .slice Amt1 nmt1 cmt1, .int .i64 mm.terms.raise.base, .slice Amt2 nmt2 cmt2, .int .i64 mm.terms.verify.base, .slice Amt3 nmt3 cmt3], by omega, by go_num, by have := HAP.out.grown.size; simp at this ⊢; omega, Lib.hid (HQ3.out.push HM3.out hzr (fun b hb => hQlt.out b hb) (by omega) HAP.out)⟩
          case measure => (simp [intOf] <;> omega)
        · go_wp2
          go_roundw
          case rel => exact ⟨k, nq, qq, A2, n2, c2, us, by omega, by go_num, by omega, HQ2⟩
          case measure => (simp [intOf] <;> omega)
      · obtain rfl : k = 0 := by omega
        have qk0 := HQ.out.db.cell 0 rfl
        have qk1 := HQ.out.db.cell 1 rfl
        have qk2 := HQ.out.db.cell 2 rfl
        have qk3 := HQ.out.db.cell 3 rfl
        have qz := HQ.out.db.lt
        have rk0 := HQ.out.rb.cell 0 rfl; have rk1 := HQ.out.rb.cell 1 rfl; have rk2 := HQ.out.rb.cell 2 rfl; have rk3 := HQ.out.rb.cell 3 rfl
        have rf0 := HQ.out.rb.free 0; have rf1 := HQ.out.rb.free 1; have rf2 := HQ.out.rb.free 2; have rf3 := HQ.out.rb.free 3
        go_wp2
        refine bodyPost_ret (v := .agg #[.int .i64 d2.handle, .int .i64 d2.label.base, .slice B0 m0 e0, .slice A2 n2 c2]) (by simp [results, Tryz.results46, go_sem, rk0, rk1, rk2, rk3]) rfl ?_
        exact HQ.out.done (by omega) HI.out
end Go.Proofs.YtnpeojlhjbdjiaaGreatDoor

/-
  The draw of a door, right or not (chapter 7 of the model).
-/
namespace Go.Proofs.YtnpeojlhjbdjiaaGreatDoor
set_option maxRecDepth 100000
open Go.RowKit

theorem ow_nolab (lo hi : Nat) (w : World) : OwW lo hi w (dtLab noLab) [.int .i64 0, .slice none 0 0] := ⟨[], Ows.mk_num (Ows.mk_row (ow_none w _ _) (Ows.mk_nil w)), fun _ h => by cases h⟩
set_option maxHeartbeats 8000000 in
theorem draw_doorany (p : Nat) (a : Option Addr) (len cap : Nat) (zs : List Int) (w : World) (hl : len ≤ 4096) (hc : IsCur p a len cap w) (hr : CurRow w p a len cap zs) : Calls Tryz.prog 23 #[.pointer (some ⟨p, 0, none⟩)] w (DrawnDoor 30 p a len cap w) := by
  have hp := hc.lt
  have G : Hid (CurG p a len cap w w) := Lib.hid ⟨hc, World.grownBy.refl _ _⟩
  clear hc
  go_enter Tryz.func23, Tryz.ntmps23
  go_wp2_with fail
  generalize hW : w.alloc (.cells #[.int .i64 0, .int .i64 0, .slice none 0 0, .slice none 0 0] 29) = x0
  obtain ⟨nb0, hsz, hb⟩ := laid1 (ps := [.int .i64 0, .int .i64 0, .slice none 0 0, .slice none 0 0]) hW
  clear hW
  have nbh0 := Lib.hid nb0
  clear nb0
  have hzx0 : x0.heap.size = w.heap.size + 1 := hsz
  clear hsz
  have hsx0 : w.heap.size ≤ x0.heap.size := hb.size
  have G' := Lib.hid (G.out.below hb)
  clear G
  have G := G'
  clear G'
  clear hb
  have RB := nbh0
  clear nbh0
  refine (draw_door p a len cap zs _ hl G.out.cur (hr.kept G.out.grown)).mono ?_
  rintro e x1 ⟨h, l, qq, A0, n0, c0, A1, n1, c1, nq, us, rfl, qo, hn, hi, ⟨hc1, hg⟩⟩
  have QO := Lib.hid qo
  have HI := Lib.hid hi
  clear qo hi
  have hsx1 : x0.heap.size ≤ x1.heap.size := hg.size
  have G' := Lib.hid (G.out.gb hc1 hg)
  clear G
  have G := G'
  clear G'
  have RB' := Lib.hid (box_gb RB.out hg (by omega))
  clear RB
  have RB := RB'
  clear RB'
  clear hc1 hg
  go_wp2_with fail
  generalize hW : x1.alloc (.cells #[.int .i64 h, .int .i64 l.base, .slice A0 n0 c0, .slice A1 n1 c1] 29) = y0
  have HQ : Hid (QSt p a len cap w x1.heap.size (h) l (qq) (.slice A0 n0 c0) (.slice A1 n1 c1) (nq) (us) y0) := Lib.hid (QO.out.lay G.out hp (by omega) RB.out (by omega) hW)
  have hz0 : x1.heap.size < y0.heap.size := by rw [← hW]; simp
  clear hW QO G RB
  refine (once_any p a len cap zs 6 _ hl (by omega) (by omega) HQ.out.cur.cur (hr.kept HQ.out.cur.grown)).mono ?_
  rintro e y1 ⟨b, rfl, hc1, hg⟩
  have HQ1 := Lib.hid (HQ.out.gb hc1 hg)
  have hz1 : x1.heap.size < y1.heap.size := by have := hg.size; omega
  clear HQ hc1 hg hz0
  cases b
  · skip
    have qk0 := HQ1.out.db.cell 0 rfl
    have qk1 := HQ1.out.db.cell 1 rfl
    have qk2 := HQ1.out.db.cell 2 rfl
    have qk3 := HQ1.out.db.cell 3 rfl
    have qz := HQ1.out.db.lt
    have rk0 := HQ1.out.rb.cell 0 rfl
    have rf0 := HQ1.out.rb.free 0
    have rk1 := HQ1.out.rb.cell 1 rfl
    have rf1 := HQ1.out.rb.free 1
    have rk2 := HQ1.out.rb.cell 2 rfl
    have rf2 := HQ1.out.rb.free 2
    have rk3 := HQ1.out.rb.cell 3 rfl
    have rf3 := HQ1.out.rb.free 3
    go_wp2
    refine bodyPost_ret (v := .agg #[.int .i64 h, .int .i64 l.base, .slice A0 n0 c0, .slice A1 n1 c1]) (by simp [results, Tryz.results23, go_sem, rk0, rk1, rk2, rk3]) rfl ?_
    exact HQ1.out.done (by omega) HI.out
  go_wp2_with fail
  refine (below_any p a len cap zs 4 _ hl (by omega) (by omega) HQ1.out.cur.cur (hr.kept HQ1.out.cur.grown)).mono ?_
  rintro e y2 ⟨k, hk0, hk1, rfl, hc1, hg⟩
  have HQ2 := Lib.hid (HQ1.out.gb hc1 hg)
  have hz2 : x1.heap.size < y2.heap.size := by have := hg.size; omega
  clear HQ1 hc1 hg hz1
  obtain rfl | rfl | rfl | rfl : k = 0 ∨ k = 1 ∨ k = 2 ∨ k = 3 := by omega
  · skip
    clear hk0 hk1
    go_wp2_with fail
    refine (num_in p a len cap zs 999 _ hl (by omega) (by omega) HQ2.out.cur.cur (hr.kept HQ2.out.cur.grown)).mono ?_
    rintro e y3 ⟨x, hx, rfl, hc1, hg⟩
    have hx := Lib.hid hx
    have HQ3 := Lib.hid (HQ2.out.gb hc1 hg)
    clear HQ2 hc1 hg
    have qk0 := HQ3.out.db.cell 0 rfl
    have qz := HQ3.out.db.lt
    have qf := HQ3.out.db.free 0
    go_upto_region 15 with fail
    generalize hW : y3.setCell ⟨x1.heap.size, 0, none⟩ (.int .i64 x) = y4
    have HQ4 : Hid (QSt p a len cap w x1.heap.size (x) l (qq) (.slice A0 n0 c0) (.slice A1 n1 c1) (nq) (us) y4) := Lib.hid (by rw [← hW]; exact HQ3.out.handle x)
    clear hW HQ3 qk0 qz qf
    have qk0 := HQ4.out.db.cell 0 rfl
    have qk1 := HQ4.out.db.cell 1 rfl
    have qk2 := HQ4.out.db.cell 2 rfl
    have qk3 := HQ4.out.db.cell 3 rfl
    have qz := HQ4.out.db.lt
    have rk0 := HQ4.out.rb.cell 0 rfl
    have rf0 := HQ4.out.rb.free 0
    have rk1 := HQ4.out.rb.cell 1 rfl
    have rf1 := HQ4.out.rb.free 1
    have rk2 := HQ4.out.rb.cell 2 rfl
    have rf2 := HQ4.out.rb.free 2
    have rk3 := HQ4.out.rb.cell 3 rfl
    have rf3 := HQ4.out.rb.free 3
    go_wp2
    refine bodyPost_ret (v := .agg #[.int .i64 x, .int .i64 l.base, .slice A0 n0 c0, .slice A1 n1 c1]) (by simp [results, Tryz.results23, go_sem, rk0, rk1, rk2, rk3]) rfl ?_
    exact HQ4.out.done (by omega) hx.out
  · skip
    clear hk0 hk1
    go_wp2_with fail
    refine (draw_any p a len cap zs _ hl HQ2.out.cur.cur (hr.kept HQ2.out.cur.grown)).mono ?_
    rintro e y3 ⟨v, l', rfl, ow, fw, hc1, hg⟩
    obtain ⟨ul, rfl, ow2⟩ := ow.ww
    obtain ⟨A2, n2, c2, rfl⟩ := shp_lab ow2.rd
    have HQ3 := Lib.hid (HQ2.out.gb hc1 hg)
    have hQ : Hid (∀ b, (Value.slice A1 n1 c1).ownBlock = some b → b < y2.heap.size) := Lib.hid (fun b hb => (HQ2.out.row.lt b hb).2)
    have OW := Lib.hid ow2
    clear HQ2 hc1 hg ow ow2
    have qk1 := HQ3.out.db.cell 1 rfl
    have qk2 := HQ3.out.db.cell 2 rfl
    have qz := HQ3.out.db.lt
    have qf1 := HQ3.out.db.free 1
    have qf2 := HQ3.out.db.free 2
    go_upto_region 15 with fail
    generalize hW : (y3.setCell ⟨x1.heap.size, 1, none⟩ (.int .i64 l'.base)).setCell ⟨x1.heap.size, 2, none⟩ (.slice A2 n2 c2) = y4
    have HQ4 : Hid (QSt p a len cap w x1.heap.size (h) l' (qq) (.slice A2 n2 c2) (.slice A1 n1 c1) (nq) (us) y4) := Lib.hid (by rw [← hW]; exact HQ3.out.label OW.out hz2 (fun b hb => hQ.out b hb) fw)
    clear hW HQ3 qk1 qk2 qz qf1 qf2
    have qk0 := HQ4.out.db.cell 0 rfl
    have qk1 := HQ4.out.db.cell 1 rfl
    have qk2 := HQ4.out.db.cell 2 rfl
    have qk3 := HQ4.out.db.cell 3 rfl
    have qz := HQ4.out.db.lt
    have rk0 := HQ4.out.rb.cell 0 rfl
    have rf0 := HQ4.out.rb.free 0
    have rk1 := HQ4.out.rb.cell 1 rfl
    have rf1 := HQ4.out.rb.free 1
    have rk2 := HQ4.out.rb.cell 2 rfl
    have rf2 := HQ4.out.rb.free 2
    have rk3 := HQ4.out.rb.cell 3 rfl
    have rf3 := HQ4.out.rb.free 3
    go_wp2
    refine bodyPost_ret (v := .agg #[.int .i64 h, .int .i64 l'.base, .slice A2 n2 c2, .slice A1 n1 c1]) (by simp [results, Tryz.results23, go_sem, rk0, rk1, rk2, rk3]) rfl ?_
    exact HQ4.out.done (by omega) HI.out
  · skip
    clear hk0 hk1
    go_wp2
    have hzy2 := hz2
    clear hz2
    refine wp_region_late 7 (fun w' => w'.cell? ⟨x1.heap.size, 3, none⟩ = some (.slice A1 n1 c1)) (by kernel_rfl) ?_
    have HQ2d := Lib.hid (HQ2.out.below (Below.refl _ _).drew)
    have HQ2z : x1.heap.size < y2.drew.heap.size := hzy2
    clear HQ2 hzy2
    generalize y2.drew = ya at HQ2d HQ2z ⊢
    refine WpLate.take (i := 0) (v := .pointer (some ⟨x1.heap.size, 3, none⟩)) rfl (by kernel_rfl) (by kernel_rfl) (by kernel_rfl) (by kernel_rfl) (by kernel_rfl) (fun _ _ _ h => h) (Or.inl ⟨by rfl, fun w' hw => ?_⟩) (HQ2d.out.db.cell 3 rfl) ?_
    · go_simp
    try simp only [Act.put]
    try simp only [List.setIfInBounds_toArray]
    try simp only [List.set_cons_succ, List.set_cons_zero]
    refine WpLate.take (i := 1) (v := .slice A1 n1 c1) rfl (by kernel_rfl) (by kernel_rfl) (by kernel_rfl) (by kernel_rfl) (by kernel_rfl) (fun _ _ _ h => h) (Or.inl ⟨by rfl, fun w' hw => ?_⟩) (HQ2d.out.db.cell 3 rfl) ?_
    · go_simp
    try simp only [Act.put]
    try simp only [List.setIfInBounds_toArray]
    try simp only [List.set_cons_succ, List.set_cons_zero]
    refine WpLate.take (i := 2) (v := .pointer (some ⟨p, 0, none⟩)) rfl (by kernel_rfl) (by kernel_rfl) (by kernel_rfl) (by kernel_rfl) (by kernel_rfl) (fun _ _ _ h => h) (Or.inl ⟨by rfl, fun w' hw => ?_⟩) (HQ2d.out.db.cell 3 rfl) ?_
    · go_simp
    try simp only [Act.put]
    try simp only [List.setIfInBounds_toArray]
    try simp only [List.set_cons_succ, List.set_cons_zero]
    refine WpLate.each (rs := [3]) (by kernel_rfl) (by simp) (LateEach.cons rfl (fun K hK => ?_) LateEach.nil)
    go_simp
    refine (draw_msgany p a len cap zs _ hl HQ2d.out.cur.cur (hr.kept HQ2d.out.cur.grown)).mono ?_
    rintro e yb ⟨um, mm, rfl, fewm, ow, hc1, hg⟩
    obtain ⟨Ame, nme, cme, Amt0, nmt0, cmt0, Amt1, nmt1, cmt1, Amt2, nmt2, cmt2, Amt3, nmt3, cmt3, rfl⟩ := shp_ms ow.rd
    have HM := Lib.hid ow
    have HQ4 := Lib.hid (HQ2d.out.gb hc1 hg)
    have hQlt : Hid (∀ b, (Value.slice A1 n1 c1).ownBlock = some b → b < ya.heap.size) := Lib.hid (fun b hb => (HQ2d.out.row.lt b hb).2)
    have hsz := hg.size
    clear ow hc1 hg HQ2d
    refine hK.out _ _ (fun _ => (HQ4.out.db.cell 3 rfl)) ?_
    try simp only [Act.put]
    try simp only [List.setIfInBounds_toArray]
    try simp only [List.set_cons_succ, List.set_cons_zero]
    refine WpLate.each (rs := [4]) (by kernel_rfl) (by simp) (LateEach.cons rfl (fun K hK => ?_) LateEach.nil)
    go_simp
    have hal : Below yb.heap.size yb (yb.alloc (.cells #[.int .i64 mm.frm, .int .i64 mm.value, .int .i64 mm.eff.base, .slice Ame nme cme, .int .i64 mm.terms.taint.base, .slice Amt0 nmt0 cmt0, .int .i64 mm.terms.clear.base, .slice Amt1 nmt1 cmt1, .int .i64 mm.terms.raise.base, .slice Amt2 nmt2 cmt2, .int .i64 mm.terms.verify.base, .slice Amt3 nmt3 cmt3] 35)) := (Below.refl _ _).alloc (Nat.le_refl _) _
    have HQ5 := Lib.hid (HQ4.out.below hal)
    have HM5 := Lib.hid (HM.out.below hal)
    clear hal
    refine hK.out _ _ (fun _ => (HQ5.out.db.cell 3 rfl)) ?_
    try simp only [Act.put]
    try simp only [List.setIfInBounds_toArray]
    try simp only [List.set_cons_succ, List.set_cons_zero]
    refine WpLate.each (rs := [5]) (by kernel_rfl) (by simp) (LateEach.cons rfl (fun K hK => ?_) LateEach.nil)
    refine step_app elemMs rfl (.tmp 24) (.tmp 27) rfl (w.heap.size + 1) (.slice A1 n1 c1) nq us rfl HQ5.out.row (some ⟨yb.heap.size, 0, none⟩) 1 1 [.int .i64 mm.frm, .int .i64 mm.value, .int .i64 mm.eff.base, .slice Ame nme cme, .int .i64 mm.terms.taint.base, .slice Amt0 nmt0 cmt0, .int .i64 mm.terms.clear.base, .slice Amt1 nmt1 cmt1, .int .i64 mm.terms.raise.base, .slice Amt2 nmt2 cmt2, .int .i64 mm.terms.verify.base, .slice Amt3 nmt3 cmt3] rfl (At.new yb #[.int .i64 mm.frm, .int .i64 mm.value, .int .i64 mm.eff.base, .slice Ame nme cme, .int .i64 mm.terms.taint.base, .slice Amt0 nmt0 cmt0, .int .i64 mm.terms.clear.base, .slice Amt1 nmt1 cmt1, .int .i64 mm.terms.raise.base, .slice Amt2 nmt2 cmt2, .int .i64 mm.terms.verify.base, .slice Amt3 nmt3 cmt3] 35 _ rfl) rfl HM5.out.rd.one (by omega) (by omega) (by have := HQ5.out.hg; simp; omega) ?_
    intro v5 yc hap
    obtain ⟨A5, c5, rfl, -, -, -⟩ := own_at hap.own
    obtain ⟨ac, af, az⟩ := HQ5.out.app hap
    have HAP := Lib.hid hap
    clear hap
    refine hK.out _ _ (fun _ => ac) ?_
    try simp only [Act.put]
    try simp only [List.setIfInBounds_toArray]
    try simp only [List.set_cons_succ, List.set_cons_zero]
    refine WpLate.take (i := 6) (v := .pointer (some ⟨x1.heap.size, 3, none⟩)) rfl (by kernel_rfl) (by kernel_rfl) (by kernel_rfl) (by kernel_rfl) (by kernel_rfl) (fun _ _ _ h => h) (Or.inl ⟨by rfl, fun w' hw => ?_⟩) ac ?_
    · go_simp
    try simp only [Act.put]
    try simp only [List.setIfInBounds_toArray]
    try simp only [List.set_cons_succ, List.set_cons_zero]
    refine WpLate.each (rs := [7]) (by kernel_rfl) (by simp) (LateEach.cons rfl (fun K hK => ?_) LateEach.nil)
    go_simp
    generalize hW : yc.setCell ⟨x1.heap.size, 3, none⟩ (.slice A5 (nq + 1) c5) = y6
    have HQ6 := Lib.hid (HQ5.out.push HM5.out HQ2z (fun b hb => hQlt.out b hb) (by omega) HAP.out)
    rw [hW] at HQ6
    clear hW HQ5 HM5 HAP ac af az hQlt HQ4 HM
    refine hK.out _ _ (fun h => absurd h (by omega)) ?_
    try simp only [Act.put]
    try simp only [List.setIfInBounds_toArray]
    try simp only [List.set_cons_succ, List.set_cons_zero]
    refine WpLate.done (by kernel_rfl) ?_ _
    have qk0 := HQ6.out.db.cell 0 rfl
    have qk1 := HQ6.out.db.cell 1 rfl
    have qk2 := HQ6.out.db.cell 2 rfl
    have qk3 := HQ6.out.db.cell 3 rfl
    have qz := HQ6.out.db.lt
    have rk0 := HQ6.out.rb.cell 0 rfl
    have rf0 := HQ6.out.rb.free 0
    have rk1 := HQ6.out.rb.cell 1 rfl
    have rf1 := HQ6.out.rb.free 1
    have rk2 := HQ6.out.rb.cell 2 rfl
    have rf2 := HQ6.out.rb.free 2
    have rk3 := HQ6.out.rb.cell 3 rfl
    have rf3 := HQ6.out.rb.free 3
    go_wp2
    refine bodyPost_ret (v := .agg #[.int .i64 h, .int .i64 l.base, .slice A0 n0 c0, .slice A5 (nq + 1) c5]) (by simp [results, Tryz.results23, go_sem, rk0, rk1, rk2, rk3]) rfl ?_
    exact HQ6.out.done (by omega) HI.out
  · skip
    clear hk0 hk1
    go_wp2_with fail
    refine (below_any p a len cap zs 5 _ hl (by omega) (by omega) HQ2.out.cur.cur (hr.kept HQ2.out.cur.grown)).mono ?_
    rintro e y3 ⟨n, hn0, hn1, rfl, hc1, hg⟩
    have HQ3 := Lib.hid (HQ2.out.gb hc1 hg)
    have hz3 : x1.heap.size < y3.heap.size := by have := hg.size; omega
    clear HQ2 hc1 hg hz2
    obtain ⟨m, rfl⟩ : ∃ m : Nat, n = m := ⟨n.toNat, by omega⟩
    go_wp2
    go_loopw [4] (fun s wr => ∃ (k nq2 : Nat) (q2 : List Ms) (A2 : Option Addr) (n2 c2 : Nat) (us2 : List Value), k + nq2 ≤ 11 ∧ s = .int .i64 k ∧ x1.heap.size < wr.heap.size ∧ Hid (QSt p a len cap w x1.heap.size (h) l (q2) (.slice A0 n0 c0) (.slice A2 n2 c2) (nq2) (us2) wr)) (fun s _ => (intOf s).toNat)
    case atStart => exact ⟨m, nq, qq, A1, n1, c1, us, by omega, rfl, hz3, HQ3⟩
    case round =>
      clear HQ3
      obtain ⟨k, nq2, q2, A2, n2, c2, us2, hk, rfl, hzwr, HQ9⟩ := hrel
      by_cases hk0 : 0 < k
      · obtain ⟨k, rfl⟩ : ∃ k', k = k' + 1 := ⟨k - 1, by omega⟩
        clear hk0
        go_upto_region 14 with fail
        refine wp_region_late 7 (fun w' => w'.cell? ⟨x1.heap.size, 3, none⟩ = some (.slice A2 n2 c2)) (by kernel_rfl) ?_
        have HQ9d := Lib.hid (HQ9.out.below (Below.refl _ _).drew)
        have HQ9z : x1.heap.size < wr.drew.heap.size := hzwr
        clear HQ9 hzwr
        generalize wr.drew = ya at HQ9d HQ9z ⊢
        refine WpLate.take (i := 0) (v := .pointer (some ⟨x1.heap.size, 3, none⟩)) rfl (by kernel_rfl) (by kernel_rfl) (by kernel_rfl) (by kernel_rfl) (by kernel_rfl) (fun _ _ _ h => h) (Or.inl ⟨by rfl, fun w' hw => ?_⟩) (HQ9d.out.db.cell 3 rfl) ?_
        · go_simp
        try simp only [Act.put]
        try simp only [List.setIfInBounds_toArray]
        try simp only [List.set_cons_succ, List.set_cons_zero]
        refine WpLate.take (i := 1) (v := .slice A2 n2 c2) rfl (by kernel_rfl) (by kernel_rfl) (by kernel_rfl) (by kernel_rfl) (by kernel_rfl) (fun _ _ _ h => h) (Or.inl ⟨by rfl, fun w' hw => ?_⟩) (HQ9d.out.db.cell 3 rfl) ?_
        · go_simp
        try simp only [Act.put]
        try simp only [List.setIfInBounds_toArray]
        try simp only [List.set_cons_succ, List.set_cons_zero]
        refine WpLate.each (rs := [2]) (by kernel_rfl) (by simp) (LateEach.cons rfl (fun K hK => ?_) LateEach.nil)
        go_simp
        refine (spec_noterms _).mono ?_
        rintro e yb ⟨vz, rfl, own, hb⟩
        obtain ⟨uz, rfl, ow⟩ := own.ww
        obtain ⟨Az0, nz0, cz0, Az1, nz1, cz1, Az2, nz2, cz2, Az3, nz3, cz3, rfl⟩ := shp_tm ow.rd
        have HM : Hid (OwW ya.heap.size yb.heap.size yb (dtMs ⟨1, 0, noLab, noTm⟩) [.int .i64 1, .int .i64 0, .int .i64 0, .slice none 0 0, .int .i64 noTm.taint.base, .slice Az0 nz0 cz0, .int .i64 noTm.clear.base, .slice Az1 nz1 cz1, .int .i64 noTm.raise.base, .slice Az2 nz2 cz2, .int .i64 noTm.verify.base, .slice Az3 nz3 cz3]) := Lib.hid (OwW.num (OwW.num ((ow_nolab _ _ _).and ow)))
        have HQ4 := Lib.hid (HQ9d.out.below hb)
        have hQlt : Hid (∀ b, (Value.slice A2 n2 c2).ownBlock = some b → b < ya.heap.size) := Lib.hid (fun b hb => (HQ9d.out.row.lt b hb).2)
        have hsz := hb.size
        clear own ow hb HQ9d
        refine hK.out _ _ (fun _ => (HQ4.out.db.cell 3 rfl)) ?_
        try simp only [Act.put]
        try simp only [List.setIfInBounds_toArray]
        try simp only [List.set_cons_succ, List.set_cons_zero]
        refine WpLate.each (rs := [3]) (by kernel_rfl) (by simp) (LateEach.cons rfl (fun K hK => ?_) LateEach.nil)
        go_simp
        refine hK.out _ _ (fun _ => (HQ4.out.db.cell 3 rfl)) ?_
        try simp only [Act.put]
        try simp only [List.setIfInBounds_toArray]
        try simp only [List.set_cons_succ, List.set_cons_zero]
        refine WpLate.each (rs := [4]) (by kernel_rfl) (by simp) (LateEach.cons rfl (fun K hK => ?_) LateEach.nil)
        go_simp
        have hal : Below yb.heap.size yb (yb.alloc (.cells #[.int .i64 1, .int .i64 0, .int .i64 0, .slice none 0 0, .int .i64 noTm.taint.base, .slice Az0 nz0 cz0, .int .i64 noTm.clear.base, .slice Az1 nz1 cz1, .int .i64 noTm.raise.base, .slice Az2 nz2 cz2, .int .i64 noTm.verify.base, .slice Az3 nz3 cz3] 35)) := (Below.refl _ _).alloc (Nat.le_refl _) _
        have HQ5 := Lib.hid (HQ4.out.below hal)
        have HM5 := Lib.hid (HM.out.below hal)
        clear hal
        refine hK.out _ _ (fun _ => (HQ5.out.db.cell 3 rfl)) ?_
        try simp only [Act.put]
        try simp only [List.setIfInBounds_toArray]
        try simp only [List.set_cons_succ, List.set_cons_zero]
        refine WpLate.each (rs := [5]) (by kernel_rfl) (by simp) (LateEach.cons rfl (fun K hK => ?_) LateEach.nil)
        refine step_app elemMs rfl (.tmp 39) (.tmp 42) rfl (w.heap.size + 1) (.slice A2 n2 c2) nq2 us2 rfl HQ5.out.row (some ⟨yb.heap.size, 0, none⟩) 1 1 [.int .i64 1, .int .i64 0, .int .i64 0, .slice none 0 0, .int .i64 noTm.taint.base, .slice Az0 nz0 cz0, .int .i64 noTm.clear.base, .slice Az1 nz1 cz1, .int .i64 noTm.raise.base, .slice Az2 nz2 cz2, .int .i64 noTm.verify.base, .slice Az3 nz3 cz3] rfl (At.new yb #[.int .i64 1, .int .i64 0, .int .i64 0, .slice none 0 0, .int .i64 noTm.taint.base, .slice Az0 nz0 cz0, .int .i64 noTm.clear.base, .slice Az1 nz1 cz1, .int .i64 noTm.raise.base, .slice Az2 nz2 cz2, .int .i64 noTm.verify.base, .slice Az3 nz3 cz3] 35 _ rfl) rfl HM5.out.rd.one (by omega) (by omega) (by have := HQ5.out.hg; simp; omega) ?_
        intro v5 yc hap
        obtain ⟨A5, c5, rfl, -, -, -⟩ := own_at hap.own
        obtain ⟨ac, af, az⟩ := HQ5.out.app hap
        have HAP := Lib.hid hap
        clear hap
        refine hK.out _ _ (fun _ => ac) ?_
        try simp only [Act.put]
        try simp only [List.setIfInBounds_toArray]
        try simp only [List.set_cons_succ, List.set_cons_zero]
        refine WpLate.take (i := 6) (v := .pointer (some ⟨x1.heap.size, 3, none⟩)) rfl (by kernel_rfl) (by kernel_rfl) (by kernel_rfl) (by kernel_rfl) (by kernel_rfl) (fun _ _ _ h => h) (Or.inl ⟨by rfl, fun w' hw => ?_⟩) ac ?_
        · go_simp
        try simp only [Act.put]
        try simp only [List.setIfInBounds_toArray]
        try simp only [List.set_cons_succ, List.set_cons_zero]
        refine WpLate.each (rs := [7]) (by kernel_rfl) (by simp) (LateEach.cons rfl (fun K hK => ?_) LateEach.nil)
        go_simp
        have hsc := HAP.out.grown.size
        generalize hW : yc.setCell ⟨x1.heap.size, 3, none⟩ (.slice A5 (nq2 + 1) c5) = y6
        have HQ6 := Lib.hid (HQ5.out.push HM5.out HQ9z (fun b hb => hQlt.out b hb) (by decide) HAP.out)
        have hz6 : x1.heap.size < y6.heap.size := by rw [← hW]; simp at hsc ⊢; omega
        rw [hW] at HQ6
        clear hW HQ5 HM5 HAP ac af az hQlt HQ4 HM hsc
        refine hK.out _ _ (fun h => absurd h (by omega)) ?_
        try simp only [Act.put]
        try simp only [List.setIfInBounds_toArray]
        try simp only [List.set_cons_succ, List.set_cons_zero]
        refine WpLate.done (by kernel_rfl) ?_ _
        go_wp2
        go_roundw
        case rel => exact ⟨k, nq2 + 1, q2 ++ [⟨1, 0, noLab, noTm⟩], A5, _, c5, us2 ++ [.int .i64 1, .int .i64 0, .int .i64 0, .slice none 0 0, .int .i64 noTm.taint.base, .slice Az0 nz0 cz0, .int .i64 noTm.clear.base, .slice Az1 nz1 cz1, .int .i64 noTm.raise.base, .slice Az2 nz2 cz2, .int .i64 noTm.verify.base, .slice Az3 nz3 cz3], by omega, by go_num, hz6, HQ6⟩
        case measure => (simp [intOf] <;> omega)
      · obtain rfl : k = 0 := by omega
        have qk0 := HQ9.out.db.cell 0 rfl
        have qk1 := HQ9.out.db.cell 1 rfl
        have qk2 := HQ9.out.db.cell 2 rfl
        have qk3 := HQ9.out.db.cell 3 rfl
        have qz := HQ9.out.db.lt
        have rk0 := HQ9.out.rb.cell 0 rfl
        have rf0 := HQ9.out.rb.free 0
        have rk1 := HQ9.out.rb.cell 1 rfl
        have rf1 := HQ9.out.rb.free 1
        have rk2 := HQ9.out.rb.cell 2 rfl
        have rf2 := HQ9.out.rb.free 2
        have rk3 := HQ9.out.rb.cell 3 rfl
        have rf3 := HQ9.out.rb.free 3
        go_wp2
        refine bodyPost_ret (v := .agg #[.int .i64 h, .int .i64 l.base, .slice A0 n0 c0, .slice A2 n2 c2]) (by simp [results, Tryz.results23, go_sem, rk0, rk1, rk2, rk3]) rfl ?_
        exact HQ9.out.done (by omega) HI.out
end Go.Proofs.YtnpeojlhjbdjiaaGreatDoor

/-
  What DrawMsgOk and DrawDoorOk hand out (chapter 7 of the model).
-/
namespace Go.Proofs.YtnpeojlhjbdjiaaGreatDoor
set_option maxRecDepth 100000
open Go.RowKit

def DrMs (w : World) (e : Ending) (w' : World) : Prop := ∃ us x, e = .returned (.agg us.toArray) ∧ msSz x ≤ 600 ∧ Rds w' (dtMs x) us ∧ Below w.heap.size w w'
def DrDoor (w : World) (e : Ending) (w' : World) : Prop := ∃ us x, e = .returned (.agg us.toArray) ∧ (doorSz x ≤ 100000 ∧ WfDoor x) ∧ Rds w' (dtDoor x) us ∧ Below w.heap.size w w'
set_option maxHeartbeats 2000000 in
theorem draw_msgok (a : Option Addr) (len cap : Nat) (zs : List Int) (w : World) (hl : len ≤ 4096) (hr : IsRow .u8 w a len cap zs) : Calls Tryz.prog 7 #[.slice a len cap] w (DrMs w) := by
  go_enter Tryz.func7, Tryz.ntmps7
  go_wp2_with fail
  generalize hW : w.alloc (.cells #[.int .i64 0, .int .i64 0, .int .i64 0, .slice none 0 0, .int .i64 0, .slice none 0 0, .int .i64 0, .slice none 0 0, .int .i64 0, .slice none 0 0, .int .i64 0, .slice none 0 0] 35) = x0
  obtain ⟨nb, hsz, hb⟩ := laid1 (ps := [.int .i64 0, .int .i64 0, .int .i64 0, .slice none 0 0, .int .i64 0, .slice none 0 0, .int .i64 0, .slice none 0 0, .int .i64 0, .slice none 0 0, .int .i64 0, .slice none 0 0]) hW
  have RB := Lib.hid nb
  have BEL := Lib.hid hb
  have hz0 : x0.heap.size = w.heap.size + 1 := hsz
  clear hW nb hsz hb
  refine (new_any a len cap zs _ hl (hr.below BEL.out)).mono ?_
  rintro e x1 ⟨p, hp, rfl, hc1, hb⟩
  have RB1 := Lib.hid (RB.out.below hb)
  have BEL1 := Lib.hid (below_more BEL.out hb)
  have hs1 := hb.size
  have hpl := hc1.lt
  clear RB BEL hb
  go_wp2_with fail
  refine (draw_msgany p a len cap zs _ hl hc1 (CurRow.start hr BEL1.out (by omega))).mono ?_
  rintro e x2 ⟨um, mm, rfl, fewm, ow, hc2, hg⟩
  have RB2 := Lib.hid (box_gb RB1.out hg (by omega))
  have BEL2 := Lib.hid (gb_below BEL1.out hg (by omega))
  have hs2 := hg.size
  clear RB1 BEL1 hc2 hg
  obtain ⟨Ame, nme, cme, Amt0, nmt0, cmt0, Amt1, nmt1, cmt1, Amt2, nmt2, cmt2, Amt3, nmt3, cmt3, rfl⟩ := shp_ms ow.rd
  have OW := Lib.hid ow
  clear ow
  have rk0 := RB2.out.cell 0 rfl; have rf0 := RB2.out.free 0; have rk1 := RB2.out.cell 1 rfl; have rf1 := RB2.out.free 1; have rk2 := RB2.out.cell 2 rfl; have rf2 := RB2.out.free 2; have rk3 := RB2.out.cell 3 rfl; have rf3 := RB2.out.free 3; have rk4 := RB2.out.cell 4 rfl; have rf4 := RB2.out.free 4; have rk5 := RB2.out.cell 5 rfl; have rf5 := RB2.out.free 5; have rk6 := RB2.out.cell 6 rfl; have rf6 := RB2.out.free 6; have rk7 := RB2.out.cell 7 rfl; have rf7 := RB2.out.free 7; have rk8 := RB2.out.cell 8 rfl; have rf8 := RB2.out.free 8; have rk9 := RB2.out.cell 9 rfl; have rf9 := RB2.out.free 9; have rk10 := RB2.out.cell 10 rfl; have rf10 := RB2.out.free 10; have rk11 := RB2.out.cell 11 rfl; have rf11 := RB2.out.free 11
  have rz := RB2.out.lt
  go_wp2
  refine bodyPost_ret (v := .agg #[.int .i64 mm.frm, .int .i64 mm.value, .int .i64 mm.eff.base, .slice Ame nme cme, .int .i64 mm.terms.taint.base, .slice Amt0 nmt0 cmt0, .int .i64 mm.terms.clear.base, .slice Amt1 nmt1 cmt1, .int .i64 mm.terms.raise.base, .slice Amt2 nmt2 cmt2, .int .i64 mm.terms.verify.base, .slice Amt3 nmt3 cmt3]) (by simp [results, Tryz.results7, go_sem, rk0, rk1, rk2, rk3, rk4, rk5, rk6, rk7, rk8, rk9, rk10, rk11]) rfl ?_
  change DrMs w _ (putRow x2 w.heap.size 0 [.int .i64 mm.frm, .int .i64 mm.value, .int .i64 mm.eff.base, .slice Ame nme cme, .int .i64 mm.terms.taint.base, .slice Amt0 nmt0 cmt0, .int .i64 mm.terms.clear.base, .slice Amt1 nmt1 cmt1, .int .i64 mm.terms.raise.base, .slice Amt2 nmt2 cmt2, .int .i64 mm.terms.verify.base, .slice Amt3 nmt3 cmt3])
  exact ⟨[.int .i64 mm.frm, .int .i64 mm.value, .int .i64 mm.eff.base, .slice Ame nme cme, .int .i64 mm.terms.taint.base, .slice Amt0 nmt0 cmt0, .int .i64 mm.terms.clear.base, .slice Amt1 nmt1 cmt1, .int .i64 mm.terms.raise.base, .slice Amt2 nmt2 cmt2, .int .i64 mm.terms.verify.base, .slice Amt3 nmt3 cmt3], mm, rfl, fewm, (OW.out.put _ (.inl (by omega))).rd, below_putRow _ BEL2.out (Nat.le_refl _)⟩
set_option maxHeartbeats 2000000 in
theorem draw_doorok (a : Option Addr) (len cap : Nat) (zs : List Int) (w : World) (hl : len ≤ 4096) (hr : IsRow .u8 w a len cap zs) : Calls Tryz.prog 5 #[.slice a len cap] w (DrDoor w) := by
  go_enter Tryz.func5, Tryz.ntmps5
  go_wp2_with fail
  generalize hW : w.alloc (.cells #[.int .i64 0, .int .i64 0, .slice none 0 0, .slice none 0 0] 29) = x0
  obtain ⟨nb, hsz, hb⟩ := laid1 (ps := [.int .i64 0, .int .i64 0, .slice none 0 0, .slice none 0 0]) hW
  have RB := Lib.hid nb
  have BEL := Lib.hid hb
  have hz0 : x0.heap.size = w.heap.size + 1 := hsz
  clear hW nb hsz hb
  refine (new_any a len cap zs _ hl (hr.below BEL.out)).mono ?_
  rintro e x1 ⟨p, hp, rfl, hc1, hb⟩
  have RB1 := Lib.hid (RB.out.below hb)
  have BEL1 := Lib.hid (below_more BEL.out hb)
  have hs1 := hb.size
  have hpl := hc1.lt
  clear RB BEL hb
  go_wp2_with fail
  refine (draw_doorany p a len cap zs _ hl hc1 (CurRow.start hr BEL1.out (by omega))).mono ?_
  rintro e x2 ⟨h, l, qq, A0, n0, c0, A1, n1, c1, nq, us, rfl, qo, hn, hi, ⟨hc2, hg⟩⟩
  have RB2 := Lib.hid (box_gb RB1.out hg (by omega))
  have BEL2 := Lib.hid (gb_below BEL1.out hg (by omega))
  have hs2 := hg.size
  clear RB1 BEL1 hc2 hg
  have hz := qo.sz h hn
  have OW := Lib.hid (qo.ww h)
  clear qo
  have rk0 := RB2.out.cell 0 rfl; have rf0 := RB2.out.free 0; have rk1 := RB2.out.cell 1 rfl; have rf1 := RB2.out.free 1; have rk2 := RB2.out.cell 2 rfl; have rf2 := RB2.out.free 2; have rk3 := RB2.out.cell 3 rfl; have rf3 := RB2.out.free 3
  have rz := RB2.out.lt
  go_wp2
  refine bodyPost_ret (v := .agg #[.int .i64 h, .int .i64 l.base, .slice A0 n0 c0, .slice A1 n1 c1]) (by simp [results, Tryz.results5, go_sem, rk0, rk1, rk2, rk3]) rfl ?_
  change DrDoor w _ (putRow x2 w.heap.size 0 [.int .i64 h, .int .i64 l.base, .slice A0 n0 c0, .slice A1 n1 c1])
  exact ⟨[.int .i64 h, .int .i64 l.base, .slice A0 n0 c0, .slice A1 n1 c1], ⟨h, l, qq⟩, rfl, ⟨hz, hi⟩, (OW.out.put _ (.inl (by omega))).rd, below_putRow _ BEL2.out (Nat.le_refl _)⟩
end Go.Proofs.YtnpeojlhjbdjiaaGreatDoor
