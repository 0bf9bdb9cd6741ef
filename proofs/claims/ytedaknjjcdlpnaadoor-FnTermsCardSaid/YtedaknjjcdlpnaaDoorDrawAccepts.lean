/-
  What DrawAccepts hands out (chapter 5 of the model).
-/
import Derived.Test.YtedaknjjcdlpnaaDoorDrawAllowed
import Derived.Test.YtedaknjjcdlpnaaDoorDrawRecv
namespace Go.Proofs.YtedaknjjcdlpnaaDoor
set_option maxRecDepth 100000
open Go.RowKit

def DrAccepts (w : World) (e : Ending) (w' : World) : Prop := ∃ v u x y le lr t ld, e = .returned (.tuple #[v, u, x, y]) ∧ RdLab w' v le ∧ le.parts.length ≤ 100 ∧ RdLab w' u lr ∧ lr.parts.length ≤ 100 ∧ RdTm w' x t ∧ FewTm 100 t ∧ RdLab w' y ld ∧ ld.parts.length ≤ 100 ∧ Below w.heap.size w w'
/-- What is drawn is in its boxes; the cursor, the results' blocks. -/
structure StAc (p : Nat) (a : Option Addr) (len cap ge gr gt gd : Nat) (w wr : World) (ce cr ct cd : List Value) (e r d : Lab) (t : Tm) : Prop where
  cur : IsCur p a len cap wr
  bel : Below w.heap.size w wr
  r1 : Box wr (w.heap.size) [.int .i64 0, .slice none 0 0]
  r2 : Box wr (w.heap.size + 1) [.int .i64 0, .slice none 0 0]
  r3 : Box wr (w.heap.size + 1 + 1) [.int .i64 0, .slice none 0 0, .int .i64 0, .slice none 0 0, .int .i64 0, .slice none 0 0, .int .i64 0, .slice none 0 0]
  r4 : Box wr (w.heap.size + 1 + 1 + 1) [.int .i64 0, .slice none 0 0]
  g1 : Box wr ge ce
  g2 : Box wr gr cr
  g3 : Box wr gt ct
  g4 : Box wr gd cd
  oe : OffLab (p + 1) gd wr (.agg ce.toArray) e
  or : OffLab (ge + 1) gd wr (.agg cr.toArray) r
  ot : HoldTm 100 (ge + 1) gd wr (.agg ct.toArray) t
  od : OffLab (ge + 1) gd wr (.agg cd.toArray) d
  fe : e.parts.length ≤ 100
  fr : r.parts.length ≤ 100
  fd : d.parts.length ≤ 100
  h0 : w.heap.size + 1 + 1 + 1 < p
  h1 : p < ge
  h2 : ge < gr
  h3 : gr < gt
  h4 : gt < gd
section
variable {p : Nat} {a : Option Addr} {len cap ge gr gt gd : Nat} {w wr w' : World} {ce cr ct cd : List Value} {e r d l : Lab} {t : Tm} {A : Option Addr} {n c : Nat}
theorem StAc.gbr (h : StAc p a len cap ge gr gt gd w wr ce cr ct cd e r d t) (hc : IsCur p a len cap w') (hg : wr.grownBy w' (some p)) : StAc p a len cap ge gr gt gd w w' ce cr ct cd e r d t := by
  have := h.h0; have := h.h1; have := h.h2; have := h.h3; have := h.h4
  exact ⟨hc, gb_below h.bel hg (by omega), box_gb h.r1 hg (by omega), box_gb h.r2 hg (by omega), box_gb h.r3 hg (by omega), box_gb h.r4 hg (by omega), box_gb h.g1 hg (by omega), box_gb h.g2 hg (by omega), box_gb h.g3 hg (by omega), box_gb h.g4 hg (by omega),
    h.oe.gbr hg (by omega), h.or.gbr hg (by omega), h.ot.gbr hg (by omega), h.od.gbr hg (by omega), h.fe, h.fr, h.fd, h.h0, h.h1, h.h2, h.h3, h.h4⟩
theorem HoldTm.past {m base g i : Nat} {v x : Value} (h : HoldTm m base g wr v t) : HoldTm m base g (wr.setCell ⟨g, i, none⟩ x) v t := h.map fun _ _ o => o.past
/-- The door's label is stored anew. -/
theorem StAc.putD (h : StAc p a len cap ge gr gt gd w wr ce cr ct cd e r d t) (h2 : cd.length = 2) (ho : OffLab (ge + 1) gd wr (.agg #[.int .i64 l.base, .slice A n c]) l) (hm : l.parts.length ≤ 100) :
    StAc p a len cap ge gr gt gd w ((wr.setCell ⟨gd, 0, none⟩ (.int .i64 l.base)).setCell ⟨gd, 1, none⟩ (.slice A n c)) ce cr ct [.int .i64 l.base, .slice A n c] e r l t := by
  have := h.h0; have := h.h1; have := h.h2; have := h.h3; have := h.h4
  have hb : ∀ k, k ≠ gd → ((wr.setCell ⟨gd, 0, none⟩ (.int .i64 l.base)).setCell ⟨gd, 1, none⟩ (.slice A n c)).heap[k]? = wr.heap[k]? := fun k hk => by rw [Below.heap_setCell _ _ _ _ (by simpa using hk), Below.heap_setCell _ _ _ _ (by simpa using hk)]
  have hset : Box ((wr.setCell ⟨gd, 0, none⟩ (.int .i64 l.base)).setCell ⟨gd, 1, none⟩ (.slice A n c)) gd [.int .i64 l.base, .slice A n c] := by
    match cd, h2, h.g4 with
    | [_, _], _, q => exact (q.set (by simp)).set (by simp)
  exact ⟨h.cur.block (hb p (by omega)), (h.bel.setCell (by simp only []; omega) _).setCell (by simp only []; omega) _, (h.r1.far (by omega)).far (by omega), (h.r2.far (by omega)).far (by omega), (h.r3.far (by omega)).far (by omega), (h.r4.far (by omega)).far (by omega),
    (h.g1.far (by omega)).far (by omega), (h.g2.far (by omega)).far (by omega), (h.g3.far (by omega)).far (by omega), hset, h.oe.past.past, h.or.past.past, h.ot.past.past, ho.past.past, h.fe, h.fr, hm, h.h0, h.h1, h.h2, h.h3, h.h4⟩
theorem OffLab.ne {base g b i : Nat} {v x : Value} (h : OffLab base g wr v l) (hb : ∀ k, (labRow v).ownBlock = some k → k ≠ b) : OffLab base g (wr.setCell ⟨b, i, none⟩ x) v l :=
  ⟨h.1.keptBy (row := some b) ⟨rfl, rfl, rfl, by simp, fun k _ hne => Below.heap_setCell _ _ _ _ (fun e => hne (by rw [e]))⟩ (fun k hk e => hb k hk (Option.some.inj e).symm), h.2⟩
/-- The sender's label is stored anew. -/
theorem StAc.putE (h : StAc p a len cap ge gr gt gd w wr ce cr ct cd e r d t) (h2 : ce.length = 2) (ho : OffLab (gd + 1) gd wr (.agg #[.int .i64 l.base, .slice A n c]) l) (hm : l.parts.length ≤ 100) :
    StAc p a len cap ge gr gt gd w ((wr.setCell ⟨ge, 0, none⟩ (.int .i64 l.base)).setCell ⟨ge, 1, none⟩ (.slice A n c)) [.int .i64 l.base, .slice A n c] cr ct cd l r d t := by
  have := h.h0; have := h.h1; have := h.h2; have := h.h3; have := h.h4
  have hb : ∀ k, k ≠ ge → ((wr.setCell ⟨ge, 0, none⟩ (.int .i64 l.base)).setCell ⟨ge, 1, none⟩ (.slice A n c)).heap[k]? = wr.heap[k]? := fun k hk => by rw [Below.heap_setCell _ _ _ _ (by simpa using hk), Below.heap_setCell _ _ _ _ (by simpa using hk)]
  have hset : Box ((wr.setCell ⟨ge, 0, none⟩ (.int .i64 l.base)).setCell ⟨ge, 1, none⟩ (.slice A n c)) ge [.int .i64 l.base, .slice A n c] := by
    match ce, h2, h.g1 with
    | [_, _], _, q => exact (q.set (by simp)).set (by simp)
  have ho' : OffLab (p + 1) gd ((wr.setCell ⟨ge, 0, none⟩ (.int .i64 l.base)).setCell ⟨ge, 1, none⟩ (.slice A n c)) (.agg #[.int .i64 l.base, .slice A n c]) l := by
    have q := (ho.out (b := ge) (i := 0) (x := .int .i64 l.base) (by omega)).out (b := ge) (i := 1) (x := .slice A n c) (by omega)
    exact ⟨q.1.lower (by omega), q.2⟩
  exact ⟨h.cur.block (hb p (by omega)), (h.bel.setCell (by simp only []; omega) _).setCell (by simp only []; omega) _, (h.r1.far (by omega)).far (by omega), (h.r2.far (by omega)).far (by omega), (h.r3.far (by omega)).far (by omega), (h.r4.far (by omega)).far (by omega),
    hset, (h.g2.far (by omega)).far (by omega), (h.g3.far (by omega)).far (by omega), (h.g4.far (by omega)).far (by omega), ho', (h.or.out (by omega)).out (by omega), (h.ot.out (by omega)).out (by omega), (h.od.out (by omega)).out (by omega), hm, h.fr, h.fd, h.h0, h.h1, h.h2, h.h3, h.h4⟩
end

set_option maxHeartbeats 16000000 in
theorem draw_accepts (a : Option Addr) (len cap : Nat) (zs : List Int) (w : World) (hl : len ≤ 4096) (hr : IsRow .u8 w a len cap zs) : Calls Tryd.prog 8 #[.slice a len cap] w (DrAccepts w) := by
  go_enter Tryd.func8, Tryd.ntmps8
  go_wp2_with fail
  generalize hW : (((w.alloc (.cells #[.int .i64 0, .slice none 0 0] 26)).alloc (.cells #[.int .i64 0, .slice none 0 0] 26)).alloc (.cells #[.int .i64 0, .slice none 0 0, .int .i64 0, .slice none 0 0, .int .i64 0, .slice none 0 0, .int .i64 0, .slice none 0 0] 28)).alloc (.cells #[.int .i64 0, .slice none 0 0] 26) = x0
  obtain ⟨b1, b2, b3, b4, hsz, bel⟩ := laid4b (ps := [.int .i64 0, .slice none 0 0]) (rs := [.int .i64 0, .slice none 0 0]) (os := [.int .i64 0, .slice none 0 0, .int .i64 0, .slice none 0 0, .int .i64 0, .slice none 0 0, .int .i64 0, .slice none 0 0]) (qs := [.int .i64 0, .slice none 0 0]) hW
  clear hW
  refine (new_any a len cap zs _ hl (hr.below bel)).mono ?_
  rintro e' w1 ⟨p, hp, rfl, hc1, hb1⟩
  have bel1 := below_more bel hb1
  have R1 := Lib.hid (b1.below hb1)
  have R2 := Lib.hid (b2.below hb1)
  have R3 := Lib.hid (b3.below hb1)
  have R4 := Lib.hid (b4.below hb1)
  have hpw : w.heap.size + 1 + 1 + 1 < p := by omega
  have hp1 := hc1.lt
  clear b1 b2 b3 b4 hb1 hsz bel hp
  go_wp2_with fail
  refine (draw_send p a len cap zs _ hl hc1 (CurRow.start hr bel1 (by omega))).mono ?_
  rintro e' w2 ⟨v2, e, rfl, own, he8, hc2, hg2⟩
  have bel2 := gb_below bel1 hg2 (by omega)
  have hs2 := hg2.size
  have R1' := Lib.hid (box_gb R1.out hg2 (by omega))
  clear R1
  have R2' := Lib.hid (box_gb R2.out hg2 (by omega))
  clear R2
  have R3' := Lib.hid (box_gb R3.out hg2 (by omega))
  clear R3
  have R4' := Lib.hid (box_gb R4.out hg2 (by omega))
  clear R4
  obtain ⟨Ae, ne, ce, rfl, -, -, -⟩ := id own
  have OE := Lib.hid own
  clear hg2 own bel1 hc1
  go_wp2_with fail
  generalize hW : w2.alloc (.cells #[.int .i64 e.base, .slice Ae ne ce] 26) = w3
  obtain ⟨nb, hs3, hb3⟩ := laid1 (ps := [.int .i64 e.base, .slice Ae ne ce]) hW
  clear hW
  have bel3 := below_more bel2 hb3
  have hc3 := hc2.block (hb3.block p (by omega))
  have G1 := Lib.hid nb
  have R1 := Lib.hid (R1'.out.below hb3)
  clear R1'
  have R2 := Lib.hid (R2'.out.below hb3)
  clear R2'
  have R3 := Lib.hid (R3'.out.below hb3)
  clear R3'
  have R4 := Lib.hid (R4'.out.below hb3)
  clear R4'
  have OE' := Lib.hid (OE.out.below hb3)
  clear OE nb hb3 bel2 hc2
  refine (draw_recv p a len cap zs _ hl hc3 (CurRow.start hr bel3 (by omega))).mono ?_
  rintro e' w4 ⟨v4, r, rfl, own, hr8, hc4, hg4⟩
  have bel4 := gb_below bel3 hg4 (by omega)
  have hs4 := hg4.size
  have R1' := Lib.hid (box_gb R1.out hg4 (by omega))
  clear R1
  have R2' := Lib.hid (box_gb R2.out hg4 (by omega))
  clear R2
  have R3' := Lib.hid (box_gb R3.out hg4 (by omega))
  clear R3
  have R4' := Lib.hid (box_gb R4.out hg4 (by omega))
  clear R4
  have G1' := Lib.hid (box_gb G1.out hg4 (by omega))
  have OE := Lib.hid (OE'.out.kept hg4 (fun k hk => by have := Option.some.inj hk; omega))
  clear OE' G1
  obtain ⟨Ar, nr, cr, rfl, -, -, -⟩ := id own
  have OR := Lib.hid own
  clear hg4 own bel3 hc3
  go_wp2_with fail
  generalize hW : w4.alloc (.cells #[.int .i64 r.base, .slice Ar nr cr] 26) = w5
  obtain ⟨nb, hs5, hb5⟩ := laid1 (ps := [.int .i64 r.base, .slice Ar nr cr]) hW
  clear hW
  have bel5 := below_more bel4 hb5
  have hc5 := hc4.block (hb5.block p (by omega))
  have G2 := Lib.hid nb
  have G1 := Lib.hid (G1'.out.below hb5)
  have R1 := Lib.hid (R1'.out.below hb5)
  clear R1'
  have R2 := Lib.hid (R2'.out.below hb5)
  clear R2'
  have R3 := Lib.hid (R3'.out.below hb5)
  clear R3'
  have R4 := Lib.hid (R4'.out.below hb5)
  clear R4'
  have OE' := Lib.hid (OE.out.below hb5)
  have OR' := Lib.hid (OR.out.below hb5)
  clear OE OR nb hb5 bel4 hc4 G1'
  refine (draw_tmany p a len cap zs _ hl hc5 (CurRow.start hr bel5 (by omega))).mono ?_
  rintro e' w6 ⟨v6, t, rfl, own, hc6, hg6⟩
  have bel6 := gb_below bel5 hg6 (by omega)
  have hs6 := hg6.size
  have R1' := Lib.hid (box_gb R1.out hg6 (by omega))
  clear R1
  have R2' := Lib.hid (box_gb R2.out hg6 (by omega))
  clear R2
  have R3' := Lib.hid (box_gb R3.out hg6 (by omega))
  clear R3
  have R4' := Lib.hid (box_gb R4.out hg6 (by omega))
  clear R4
  have G1' := Lib.hid (box_gb G1.out hg6 (by omega))
  have G2' := Lib.hid (box_gb G2.out hg6 (by omega))
  have OE := Lib.hid (OE'.out.kept hg6 (fun k hk => by have := Option.some.inj hk; omega))
  have OR := Lib.hid (OR'.out.kept hg6 (fun k hk => by have := Option.some.inj hk; omega))
  clear OE' OR' G1 G2
  obtain ⟨A0, n0, c0, A1, n1, c1, A2, n2, c2, A3, n3, c3, rfl, -⟩ := id own
  have OT := Lib.hid own
  clear hg6 own bel5 hc5
  go_wp2_with fail
  generalize hW : w6.alloc (.cells #[.int .i64 t.taint.base, .slice A0 n0 c0, .int .i64 t.clear.base, .slice A1 n1 c1, .int .i64 t.raise.base, .slice A2 n2 c2, .int .i64 t.verify.base, .slice A3 n3 c3] 28) = w7
  obtain ⟨nb, hs7, hb7⟩ := laid1 (ps := [.int .i64 t.taint.base, .slice A0 n0 c0, .int .i64 t.clear.base, .slice A1 n1 c1, .int .i64 t.raise.base, .slice A2 n2 c2, .int .i64 t.verify.base, .slice A3 n3 c3]) hW
  clear hW
  have bel7 := below_more bel6 hb7
  have hc7 := hc6.block (hb7.block p (by omega))
  have G3 := Lib.hid nb
  have G1 := Lib.hid (G1'.out.below hb7)
  have G2 := Lib.hid (G2'.out.below hb7)
  have R1 := Lib.hid (R1'.out.below hb7)
  clear R1'
  have R2 := Lib.hid (R2'.out.below hb7)
  clear R2'
  have R3 := Lib.hid (R3'.out.below hb7)
  clear R3'
  have R4 := Lib.hid (R4'.out.below hb7)
  clear R4'
  have OE' := Lib.hid (OE.out.below hb7)
  have OR' := Lib.hid (OR.out.below hb7)
  have OT' := Lib.hid (OT.out.below hb7)
  clear OE OR OT nb hb7 bel6 hc6 G1' G2'
  refine (spec_plain 4 _).mono ?_
  rintro e' w8 ⟨v8, rfl, own, hb8⟩
  have hf8 : (plainL 4).parts.length ≤ 100 := by simp [plainL, lvOk]
  generalize plainL 4 = d at own hf8
  have bel8 := below_more bel7 hb8
  have hc8 := hc7.block (hb8.block p (by omega))
  have hs8 := hb8.size
  obtain ⟨Ad, nd, cd, rfl, -, -, -⟩ := id own
  go_wp2_with fail
  generalize hW : w8.alloc (.cells #[.int .i64 d.base, .slice Ad nd cd] 26) = w9
  obtain ⟨nb, hs9, hb9⟩ := laid1 (ps := [.int .i64 d.base, .slice Ad nd cd]) hW
  clear hW
  have HD : Hid (StAc p a len cap w2.heap.size w4.heap.size w6.heap.size w8.heap.size w w9 [.int .i64 e.base, .slice Ae ne ce] [.int .i64 r.base, .slice Ar nr cr] [.int .i64 t.taint.base, .slice A0 n0 c0, .int .i64 t.clear.base, .slice A1 n1 c1, .int .i64 t.raise.base, .slice A2 n2 c2, .int .i64 t.verify.base, .slice A3 n3 c3] [.int .i64 d.base, .slice Ad nd cd] e r d t) := Lib.hid (by
    have b2 := below_more bel8 hb9
    have hb89 := below_more hb8 hb9
    exact ⟨hc8.block (hb9.block p (by omega)), b2, R1.out.below hb89, R2.out.below hb89, R3.out.below hb89, R4.out.below hb89, G1.out.below hb89, G2.out.below hb89, G3.out.below hb89, nb,
      ((OE'.out.below hb8).off (g := w8.heap.size) (by omega) (.inr (Nat.le_refl _))).below hb9, ((OR'.out.below hb8).off (g := w8.heap.size) (by omega) (.inr (Nat.le_refl _))).below hb9, ((OT'.out.below hb8).again (g := w8.heap.size) (by omega) (.inr (Nat.le_refl _))).below hb9, (own.off (g := w8.heap.size) (by omega) (.inr (Nat.le_refl _))).below hb9, by omega, by omega, hf8, hpw, by omega, by omega, by omega, by omega⟩)
  clear nb hs9 hb9 own hb8 bel8 bel7 hc8 hc7 R1 R2 R3 R4 G1 G2 G3 OE' OR' OT' hf8 he8 hr8 hpw
  obtain ⟨ge, hge⟩ : ∃ x, x = w2.heap.size := ⟨_, rfl⟩
  obtain ⟨gr, hgr⟩ : ∃ x, x = w4.heap.size := ⟨_, rfl⟩
  obtain ⟨gt, hgt⟩ : ∃ x, x = w6.heap.size := ⟨_, rfl⟩
  obtain ⟨gd, hgd⟩ : ∃ x, x = w8.heap.size := ⟨_, rfl⟩
  rw [← hge, ← hgr, ← hgt, ← hgd] at HD ⊢
  clear hge hgr hgt hgd hs2 hs3 hs4 hs5 hs6 hs7 hs8 hp1
  refine (once_any p a len cap zs 3 _ hl (by omega) (by omega) HD.out.cur (CurRow.start hr HD.out.bel (by have := HD.out.h0; omega))).mono ?_
  rintro e' wq ⟨b, rfl, hcq, hgq⟩
  have HD' := Lib.hid (HD.out.gbr hcq hgq)
  clear HD hcq hgq
  have HD := HD'
  clear HD'
  go_upto_if 21 with fail
  go_cut [10] (fun s wx => s = .pointer (some ⟨gd, 0, none⟩) ∧ ∃ (d : Lab) (Ad : Option Addr) (nd cd : Nat), Hid (StAc p a len cap ge gr gt gd w wx [.int .i64 e.base, .slice Ae ne ce] [.int .i64 r.base, .slice Ar nr cr] [.int .i64 t.taint.base, .slice A0 n0 c0, .int .i64 t.clear.base, .slice A1 n1 c1, .int .i64 t.raise.base, .slice A2 n2 c2, .int .i64 t.verify.base, .slice A3 n3 c3] [.int .i64 d.base, .slice Ad nd cd] e r d t))
  case first =>
    cases b
    · go_wp2
      go_meet
      case rel => exact ⟨rfl, _, _, _, _, HD⟩
    · go_wp2_with fail
      refine (draw_any p a len cap zs _ hl HD.out.cur (CurRow.start hr HD.out.bel (by have := HD.out.h0; omega))).mono ?_
      rintro e' w5 ⟨v5, l5, rfl, own, h100, hc5, hg5⟩
      have hgl := HD.out.g4.lt
      have k1 := HD.out.h1
      have k2 := HD.out.h2
      have k3 := HD.out.h3
      have k4 := HD.out.h4
      have OL : Hid (OffLab (ge + 1) gd w5 v5 l5) := Lib.hid (own.off (by omega) (.inl hgl))
      have HG := Lib.hid (HD.out.gbr hc5 hg5)
      obtain ⟨A5, n5, c5, rfl, -, -, -⟩ := own
      clear HD hc5 hg5 k1 k2 k3 k4
      have gk0 := HG.out.g4.cell 0 rfl
      have gk1 := HG.out.g4.cell 1 rfl
      have gf0 := HG.out.g4.free 0
      have gf1 := HG.out.g4.free 1
      have HH := Lib.hid (HG.out.putD rfl OL.out h100)
      go_wp2
      go_meet
      case rel => exact ⟨rfl, _, _, _, _, HH⟩
  clear HD
  obtain ⟨rfl, x1, x2, x3, x4, HD'⟩ := hcut
  clear d Ad nd cd
  obtain ⟨d, Ad, nd, cd, HD''⟩ : ∃ (d : Lab) (Ad : Option Addr) (nd cd : Nat), Hid (StAc p a len cap ge gr gt gd w wc [.int .i64 e.base, .slice Ae ne ce] [.int .i64 r.base, .slice Ar nr cr] [.int .i64 t.taint.base, .slice A0 n0 c0, .int .i64 t.clear.base, .slice A1 n1 c1, .int .i64 t.raise.base, .slice A2 n2 c2, .int .i64 t.verify.base, .slice A3 n3 c3] [.int .i64 d.base, .slice Ad nd cd] e r d t) := ⟨_, _, _, _, HD'⟩
  clear HD' x1 x2 x3 x4
  obtain ⟨w10c, hwc⟩ : ∃ x, x = wc := ⟨_, rfl⟩
  rw [← hwc] at HD'' ⊢
  clear hwc
  have HD := HD''
  clear HD''
  go_wp2_with fail
  refine (once_any p a len cap zs 10 _ hl (by omega) (by omega) HD.out.cur (CurRow.start hr HD.out.bel (by have := HD.out.h0; omega))).mono ?_
  rintro e' wq ⟨b, rfl, hcq, hgq⟩
  have HD' := Lib.hid (HD.out.gbr hcq hgq)
  clear HD hcq hgq
  have HD := HD'
  clear HD'
  go_upto_if 25 with fail
  go_cut [7] (fun s wx => s = .pointer (some ⟨ge, 0, none⟩) ∧ ∃ (e : Lab) (Ae : Option Addr) (ne ce : Nat), Hid (StAc p a len cap ge gr gt gd w wx [.int .i64 e.base, .slice Ae ne ce] [.int .i64 r.base, .slice Ar nr cr] [.int .i64 t.taint.base, .slice A0 n0 c0, .int .i64 t.clear.base, .slice A1 n1 c1, .int .i64 t.raise.base, .slice A2 n2 c2, .int .i64 t.verify.base, .slice A3 n3 c3] [.int .i64 d.base, .slice Ad nd cd] e r d t))
  case first =>
    cases b
    · go_wp2
      go_meet
      case rel => exact ⟨rfl, _, _, _, _, HD⟩
    · go_wp2_with fail
      refine (draw_any p a len cap zs _ hl HD.out.cur (CurRow.start hr HD.out.bel (by have := HD.out.h0; omega))).mono ?_
      rintro e' w5 ⟨v5, l5, rfl, own, h100, hc5, hg5⟩
      have hgl := HD.out.g4.lt
      have k1 := HD.out.h1
      have k2 := HD.out.h2
      have k3 := HD.out.h3
      have k4 := HD.out.h4
      have OL : Hid (OffLab (gd + 1) gd w5 v5 l5) := Lib.hid (own.off (by omega) (.inl hgl))
      have HG := Lib.hid (HD.out.gbr hc5 hg5)
      obtain ⟨A5, n5, c5, rfl, -, -, -⟩ := own
      clear HD hc5 hg5 k1 k2 k3 k4
      have gk0 := HG.out.g1.cell 0 rfl
      have gk1 := HG.out.g1.cell 1 rfl
      have gf0 := HG.out.g1.free 0
      have gf1 := HG.out.g1.free 1
      have HH := Lib.hid (HG.out.putE rfl OL.out h100)
      go_wp2
      go_meet
      case rel => exact ⟨rfl, _, _, _, _, HH⟩
  clear HD
  obtain ⟨rfl, x1, x2, x3, x4, HD'⟩ := hcut
  clear e Ae ne ce
  obtain ⟨e, Ae, ne, ce, HD''⟩ : ∃ (e : Lab) (Ae : Option Addr) (ne ce : Nat), Hid (StAc p a len cap ge gr gt gd w wc [.int .i64 e.base, .slice Ae ne ce] [.int .i64 r.base, .slice Ar nr cr] [.int .i64 t.taint.base, .slice A0 n0 c0, .int .i64 t.clear.base, .slice A1 n1 c1, .int .i64 t.raise.base, .slice A2 n2 c2, .int .i64 t.verify.base, .slice A3 n3 c3] [.int .i64 d.base, .slice Ad nd cd] e r d t) := ⟨_, _, _, _, HD'⟩
  clear HD' x1 x2 x3 x4
  obtain ⟨w7c, hwc⟩ : ∃ x, x = wc := ⟨_, rfl⟩
  rw [← hwc] at HD'' ⊢
  clear hwc
  have HD := HD''
  clear HD''
  have j0 := HD.out.h0
  have j1 := HD.out.h1
  have j2 := HD.out.h2
  have j3 := HD.out.h3
  have j4 := HD.out.h4
  go_wp2
  refine wp_region_late 7 (fun w' => w'.cell? ⟨ge, 0, none⟩ = some (.int .i64 e.base) ∧ w'.cell? ⟨ge, 1, none⟩ = some (.slice Ae ne ce) ∧ w'.cell? ⟨gr, 0, none⟩ = some (.int .i64 r.base) ∧ w'.cell? ⟨gr, 1, none⟩ = some (.slice Ar nr cr) ∧ w'.cell? ⟨gt, 0, none⟩ = some (.int .i64 t.taint.base) ∧ w'.cell? ⟨gt, 1, none⟩ = some (.slice A0 n0 c0) ∧ w'.cell? ⟨gt, 2, none⟩ = some (.int .i64 t.clear.base) ∧ w'.cell? ⟨gt, 3, none⟩ = some (.slice A1 n1 c1) ∧ w'.cell? ⟨gt, 4, none⟩ = some (.int .i64 t.raise.base) ∧ w'.cell? ⟨gt, 5, none⟩ = some (.slice A2 n2 c2) ∧ w'.cell? ⟨gt, 6, none⟩ = some (.int .i64 t.verify.base) ∧ w'.cell? ⟨gt, 7, none⟩ = some (.slice A3 n3 c3) ∧ w'.cell? ⟨gd, 0, none⟩ = some (.int .i64 d.base) ∧ w'.cell? ⟨gd, 1, none⟩ = some (.slice Ad nd cd)) (by kernel_rfl) ?_
  obtain ⟨wx, hwx⟩ : ∃ x, x = w7c.drew := ⟨_, rfl⟩
  have HD' : Hid (StAc p a len cap ge gr gt gd w wx [.int .i64 e.base, .slice Ae ne ce] [.int .i64 r.base, .slice Ar nr cr] [.int .i64 t.taint.base, .slice A0 n0 c0, .int .i64 t.clear.base, .slice A1 n1 c1, .int .i64 t.raise.base, .slice A2 n2 c2, .int .i64 t.verify.base, .slice A3 n3 c3] [.int .i64 d.base, .slice Ad nd cd] e r d t) := Lib.hid (by
    rw [hwx]
    have q := HD.out
    exact ⟨q.cur.drew, q.bel.drew, q.r1.drew, q.r2.drew, q.r3.drew, q.r4.drew, q.g1.drew, q.g2.drew, q.g3.drew, q.g4.drew, q.oe.below (Below.refl _ _).drew, q.or.below (Below.refl _ _).drew, q.ot.drew, q.od.below (Below.refl _ _).drew, q.fe, q.fr, q.fd, q.h0, q.h1, q.h2, q.h3, q.h4⟩)
  rw [← hwx]
  clear HD hwx
  have HD := HD'
  clear HD'
  refine WpLate.take (i := 0) (v := .agg #[.int .i64 e.base, .slice Ae ne ce]) rfl (by kernel_rfl) (by kernel_rfl) (by kernel_rfl) (by kernel_rfl) (by kernel_rfl) (fun _ _ _ h => h) (Or.inl ⟨by rfl, fun w' hw => ?_⟩) ⟨HD.out.g1.cell 0 rfl, HD.out.g1.cell 1 rfl, HD.out.g2.cell 0 rfl, HD.out.g2.cell 1 rfl, HD.out.g3.cell 0 rfl, HD.out.g3.cell 1 rfl, HD.out.g3.cell 2 rfl, HD.out.g3.cell 3 rfl, HD.out.g3.cell 4 rfl, HD.out.g3.cell 5 rfl, HD.out.g3.cell 6 rfl, HD.out.g3.cell 7 rfl, HD.out.g4.cell 0 rfl, HD.out.g4.cell 1 rfl⟩ ?_
  · obtain ⟨hw0, hw1, hw2, hw3, hw4, hw5, hw6, hw7, hw8, hw9, hw10, hw11, hw12, hw13⟩ := hw; go_simp
  try simp only [Act.put]
  try simp only [List.setIfInBounds_toArray]
  try simp only [List.set_cons_succ, List.set_cons_zero]
  refine WpLate.take (i := 1) (v := .agg #[.int .i64 r.base, .slice Ar nr cr]) rfl (by kernel_rfl) (by kernel_rfl) (by kernel_rfl) (by kernel_rfl) (by kernel_rfl) (fun _ _ _ h => h) (Or.inl ⟨by rfl, fun w' hw => ?_⟩) ⟨HD.out.g1.cell 0 rfl, HD.out.g1.cell 1 rfl, HD.out.g2.cell 0 rfl, HD.out.g2.cell 1 rfl, HD.out.g3.cell 0 rfl, HD.out.g3.cell 1 rfl, HD.out.g3.cell 2 rfl, HD.out.g3.cell 3 rfl, HD.out.g3.cell 4 rfl, HD.out.g3.cell 5 rfl, HD.out.g3.cell 6 rfl, HD.out.g3.cell 7 rfl, HD.out.g4.cell 0 rfl, HD.out.g4.cell 1 rfl⟩ ?_
  · obtain ⟨hw0, hw1, hw2, hw3, hw4, hw5, hw6, hw7, hw8, hw9, hw10, hw11, hw12, hw13⟩ := hw; go_simp
  try simp only [Act.put]
  try simp only [List.setIfInBounds_toArray]
  try simp only [List.set_cons_succ, List.set_cons_zero]
  refine WpLate.take (i := 2) (v := .agg #[.int .i64 t.taint.base, .slice A0 n0 c0, .int .i64 t.clear.base, .slice A1 n1 c1, .int .i64 t.raise.base, .slice A2 n2 c2, .int .i64 t.verify.base, .slice A3 n3 c3]) rfl (by kernel_rfl) (by kernel_rfl) (by kernel_rfl) (by kernel_rfl) (by kernel_rfl) (fun _ _ _ h => h) (Or.inl ⟨by rfl, fun w' hw => ?_⟩) ⟨HD.out.g1.cell 0 rfl, HD.out.g1.cell 1 rfl, HD.out.g2.cell 0 rfl, HD.out.g2.cell 1 rfl, HD.out.g3.cell 0 rfl, HD.out.g3.cell 1 rfl, HD.out.g3.cell 2 rfl, HD.out.g3.cell 3 rfl, HD.out.g3.cell 4 rfl, HD.out.g3.cell 5 rfl, HD.out.g3.cell 6 rfl, HD.out.g3.cell 7 rfl, HD.out.g4.cell 0 rfl, HD.out.g4.cell 1 rfl⟩ ?_
  · obtain ⟨hw0, hw1, hw2, hw3, hw4, hw5, hw6, hw7, hw8, hw9, hw10, hw11, hw12, hw13⟩ := hw; go_simp
  try simp only [Act.put]
  try simp only [List.setIfInBounds_toArray]
  try simp only [List.set_cons_succ, List.set_cons_zero]
  refine WpLate.take (i := 3) (v := .agg #[.int .i64 d.base, .slice Ad nd cd]) rfl (by kernel_rfl) (by kernel_rfl) (by kernel_rfl) (by kernel_rfl) (by kernel_rfl) (fun _ _ _ h => h) (Or.inl ⟨by rfl, fun w' hw => ?_⟩) ⟨HD.out.g1.cell 0 rfl, HD.out.g1.cell 1 rfl, HD.out.g2.cell 0 rfl, HD.out.g2.cell 1 rfl, HD.out.g3.cell 0 rfl, HD.out.g3.cell 1 rfl, HD.out.g3.cell 2 rfl, HD.out.g3.cell 3 rfl, HD.out.g3.cell 4 rfl, HD.out.g3.cell 5 rfl, HD.out.g3.cell 6 rfl, HD.out.g3.cell 7 rfl, HD.out.g4.cell 0 rfl, HD.out.g4.cell 1 rfl⟩ ?_
  · obtain ⟨hw0, hw1, hw2, hw3, hw4, hw5, hw6, hw7, hw8, hw9, hw10, hw11, hw12, hw13⟩ := hw; go_simp
  try simp only [Act.put]
  try simp only [List.setIfInBounds_toArray]
  try simp only [List.set_cons_succ, List.set_cons_zero]
  have q0k0 := HD.out.r1.cell 0 rfl
  have q0f0 := HD.out.r1.free 0
  have q0k1 := HD.out.r1.cell 1 rfl
  have q0f1 := HD.out.r1.free 1
  have q1k0 := HD.out.r2.cell 0 rfl
  have q1f0 := HD.out.r2.free 0
  have q1k1 := HD.out.r2.cell 1 rfl
  have q1f1 := HD.out.r2.free 1
  have q2k0 := HD.out.r3.cell 0 rfl
  have q2f0 := HD.out.r3.free 0
  have q2k1 := HD.out.r3.cell 1 rfl
  have q2f1 := HD.out.r3.free 1
  have q2k2 := HD.out.r3.cell 2 rfl
  have q2f2 := HD.out.r3.free 2
  have q2k3 := HD.out.r3.cell 3 rfl
  have q2f3 := HD.out.r3.free 3
  have q2k4 := HD.out.r3.cell 4 rfl
  have q2f4 := HD.out.r3.free 4
  have q2k5 := HD.out.r3.cell 5 rfl
  have q2f5 := HD.out.r3.free 5
  have q2k6 := HD.out.r3.cell 6 rfl
  have q2f6 := HD.out.r3.free 6
  have q2k7 := HD.out.r3.cell 7 rfl
  have q2f7 := HD.out.r3.free 7
  have q3k0 := HD.out.r4.cell 0 rfl
  have q3f0 := HD.out.r4.free 0
  have q3k1 := HD.out.r4.cell 1 rfl
  have q3f1 := HD.out.r4.free 1
  refine WpLate.each (rs := [4]) (by kernel_rfl) (by simp) (LateEach.cons rfl (fun K hK => ?_) LateEach.nil)
  go_simp
  refine hK.out _ _ (fun _ => ?_) ?_
  · exact ⟨((HD.out.g1.far (by omega)).far (by omega)).cell 0 rfl, ((HD.out.g1.far (by omega)).far (by omega)).cell 1 rfl, ((HD.out.g2.far (by omega)).far (by omega)).cell 0 rfl, ((HD.out.g2.far (by omega)).far (by omega)).cell 1 rfl, ((HD.out.g3.far (by omega)).far (by omega)).cell 0 rfl, ((HD.out.g3.far (by omega)).far (by omega)).cell 1 rfl, ((HD.out.g3.far (by omega)).far (by omega)).cell 2 rfl, ((HD.out.g3.far (by omega)).far (by omega)).cell 3 rfl, ((HD.out.g3.far (by omega)).far (by omega)).cell 4 rfl, ((HD.out.g3.far (by omega)).far (by omega)).cell 5 rfl, ((HD.out.g3.far (by omega)).far (by omega)).cell 6 rfl, ((HD.out.g3.far (by omega)).far (by omega)).cell 7 rfl, ((HD.out.g4.far (by omega)).far (by omega)).cell 0 rfl, ((HD.out.g4.far (by omega)).far (by omega)).cell 1 rfl⟩
  try simp only [Act.put]
  try simp only [List.setIfInBounds_toArray]
  try simp only [List.set_cons_succ, List.set_cons_zero]
  refine WpLate.each (rs := [5]) (by kernel_rfl) (by simp) (LateEach.cons rfl (fun K hK => ?_) LateEach.nil)
  go_simp
  refine hK.out _ _ (fun _ => ?_) ?_
  · exact ⟨((((HD.out.g1.far (by omega)).far (by omega)).far (by omega)).far (by omega)).cell 0 rfl, ((((HD.out.g1.far (by omega)).far (by omega)).far (by omega)).far (by omega)).cell 1 rfl, ((((HD.out.g2.far (by omega)).far (by omega)).far (by omega)).far (by omega)).cell 0 rfl, ((((HD.out.g2.far (by omega)).far (by omega)).far (by omega)).far (by omega)).cell 1 rfl, ((((HD.out.g3.far (by omega)).far (by omega)).far (by omega)).far (by omega)).cell 0 rfl, ((((HD.out.g3.far (by omega)).far (by omega)).far (by omega)).far (by omega)).cell 1 rfl, ((((HD.out.g3.far (by omega)).far (by omega)).far (by omega)).far (by omega)).cell 2 rfl, ((((HD.out.g3.far (by omega)).far (by omega)).far (by omega)).far (by omega)).cell 3 rfl, ((((HD.out.g3.far (by omega)).far (by omega)).far (by omega)).far (by omega)).cell 4 rfl, ((((HD.out.g3.far (by omega)).far (by omega)).far (by omega)).far (by omega)).cell 5 rfl, ((((HD.out.g3.far (by omega)).far (by omega)).far (by omega)).far (by omega)).cell 6 rfl, ((((HD.out.g3.far (by omega)).far (by omega)).far (by omega)).far (by omega)).cell 7 rfl, ((((HD.out.g4.far (by omega)).far (by omega)).far (by omega)).far (by omega)).cell 0 rfl, ((((HD.out.g4.far (by omega)).far (by omega)).far (by omega)).far (by omega)).cell 1 rfl⟩
  try simp only [Act.put]
  try simp only [List.setIfInBounds_toArray]
  try simp only [List.set_cons_succ, List.set_cons_zero]
  refine WpLate.each (rs := [6]) (by kernel_rfl) (by simp) (LateEach.cons rfl (fun K hK => ?_) LateEach.nil)
  go_simp
  refine hK.out _ _ (fun _ => ?_) ?_
  · exact ⟨((((((((((((HD.out.g1.far (by omega)).far (by omega)).far (by omega)).far (by omega)).far (by omega)).far (by omega)).far (by omega)).far (by omega)).far (by omega)).far (by omega)).far (by omega)).far (by omega)).cell 0 rfl, ((((((((((((HD.out.g1.far (by omega)).far (by omega)).far (by omega)).far (by omega)).far (by omega)).far (by omega)).far (by omega)).far (by omega)).far (by omega)).far (by omega)).far (by omega)).far (by omega)).cell 1 rfl, ((((((((((((HD.out.g2.far (by omega)).far (by omega)).far (by omega)).far (by omega)).far (by omega)).far (by omega)).far (by omega)).far (by omega)).far (by omega)).far (by omega)).far (by omega)).far (by omega)).cell 0 rfl, ((((((((((((HD.out.g2.far (by omega)).far (by omega)).far (by omega)).far (by omega)).far (by omega)).far (by omega)).far (by omega)).far (by omega)).far (by omega)).far (by omega)).far (by omega)).far (by omega)).cell 1 rfl, ((((((((((((HD.out.g3.far (by omega)).far (by omega)).far (by omega)).far (by omega)).far (by omega)).far (by omega)).far (by omega)).far (by omega)).far (by omega)).far (by omega)).far (by omega)).far (by omega)).cell 0 rfl, ((((((((((((HD.out.g3.far (by omega)).far (by omega)).far (by omega)).far (by omega)).far (by omega)).far (by omega)).far (by omega)).far (by omega)).far (by omega)).far (by omega)).far (by omega)).far (by omega)).cell 1 rfl, ((((((((((((HD.out.g3.far (by omega)).far (by omega)).far (by omega)).far (by omega)).far (by omega)).far (by omega)).far (by omega)).far (by omega)).far (by omega)).far (by omega)).far (by omega)).far (by omega)).cell 2 rfl, ((((((((((((HD.out.g3.far (by omega)).far (by omega)).far (by omega)).far (by omega)).far (by omega)).far (by omega)).far (by omega)).far (by omega)).far (by omega)).far (by omega)).far (by omega)).far (by omega)).cell 3 rfl, ((((((((((((HD.out.g3.far (by omega)).far (by omega)).far (by omega)).far (by omega)).far (by omega)).far (by omega)).far (by omega)).far (by omega)).far (by omega)).far (by omega)).far (by omega)).far (by omega)).cell 4 rfl, ((((((((((((HD.out.g3.far (by omega)).far (by omega)).far (by omega)).far (by omega)).far (by omega)).far (by omega)).far (by omega)).far (by omega)).far (by omega)).far (by omega)).far (by omega)).far (by omega)).cell 5 rfl, ((((((((((((HD.out.g3.far (by omega)).far (by omega)).far (by omega)).far (by omega)).far (by omega)).far (by omega)).far (by omega)).far (by omega)).far (by omega)).far (by omega)).far (by omega)).far (by omega)).cell 6 rfl, ((((((((((((HD.out.g3.far (by omega)).far (by omega)).far (by omega)).far (by omega)).far (by omega)).far (by omega)).far (by omega)).far (by omega)).far (by omega)).far (by omega)).far (by omega)).far (by omega)).cell 7 rfl, ((((((((((((HD.out.g4.far (by omega)).far (by omega)).far (by omega)).far (by omega)).far (by omega)).far (by omega)).far (by omega)).far (by omega)).far (by omega)).far (by omega)).far (by omega)).far (by omega)).cell 0 rfl, ((((((((((((HD.out.g4.far (by omega)).far (by omega)).far (by omega)).far (by omega)).far (by omega)).far (by omega)).far (by omega)).far (by omega)).far (by omega)).far (by omega)).far (by omega)).far (by omega)).cell 1 rfl⟩
  try simp only [Act.put]
  try simp only [List.setIfInBounds_toArray]
  try simp only [List.set_cons_succ, List.set_cons_zero]
  refine WpLate.each (rs := [7]) (by kernel_rfl) (by simp) (LateEach.cons rfl (fun K hK => ?_) LateEach.nil)
  go_simp
  refine hK.out _ _ (fun h => absurd h (by omega)) ?_
  try simp only [Act.put]
  try simp only [List.setIfInBounds_toArray]
  try simp only [List.set_cons_succ, List.set_cons_zero]
  refine WpLate.done (by kernel_rfl) ?_ _
  go_wp2
  refine bodyPost_ret (v := .tuple #[.agg #[.int .i64 e.base, .slice Ae ne ce], .agg #[.int .i64 r.base, .slice Ar nr cr], .agg #[.int .i64 t.taint.base, .slice A0 n0 c0, .int .i64 t.clear.base, .slice A1 n1 c1, .int .i64 t.raise.base, .slice A2 n2 c2, .int .i64 t.verify.base, .slice A3 n3 c3], .agg #[.int .i64 d.base, .slice Ad nd cd]]) (by simp [results, Tryd.results8, go_sem, q0k0, q0k1, q1k0, q1k1, q2k0, q2k1, q2k2, q2k3, q2k4, q2k5, q2k6, q2k7, q3k0, q3k1]) rfl ?_
  exact ⟨_, _, _, _, e, r, t, d, rfl, (((((((((((((((HD.out.oe.out (by omega)).out (by omega)).out (by omega)).out (by omega)).out (by omega)).out (by omega)).out (by omega)).out (by omega)).out (by omega)).out (by omega)).out (by omega)).out (by omega)).out (by omega)).out (by omega))).1.rd, HD.out.fe, (((((((((((((((HD.out.or.out (by omega)).out (by omega)).out (by omega)).out (by omega)).out (by omega)).out (by omega)).out (by omega)).out (by omega)).out (by omega)).out (by omega)).out (by omega)).out (by omega)).out (by omega)).out (by omega))).1.rd, HD.out.fr, (((((((((((((((HD.out.ot.out (by omega)).out (by omega)).out (by omega)).out (by omega)).out (by omega)).out (by omega)).out (by omega)).out (by omega)).out (by omega)).out (by omega)).out (by omega)).out (by omega)).out (by omega)).out (by omega))).rd, HD.out.ot.few, (((((((((((((((HD.out.od.out (by omega)).out (by omega)).out (by omega)).out (by omega)).out (by omega)).out (by omega)).out (by omega)).out (by omega)).out (by omega)).out (by omega)).out (by omega)).out (by omega)).out (by omega)).out (by omega))).1.rd, HD.out.fd, ((((((((((((((HD.out.bel.setCell (by simp only []; omega) _).setCell (by simp only []; omega) _).setCell (by simp only []; omega) _).setCell (by simp only []; omega) _).setCell (by simp only []; omega) _).setCell (by simp only []; omega) _).setCell (by simp only []; omega) _).setCell (by simp only []; omega) _).setCell (by simp only []; omega) _).setCell (by simp only []; omega) _).setCell (by simp only []; omega) _).setCell (by simp only []; omega) _).setCell (by simp only []; omega) _).setCell (by simp only []; omega) _)⟩
end Go.Proofs.YtedaknjjcdlpnaaDoor
