/-
  What DrawAllowed hands out (chapter 5 of the model).
-/
import Derived.Test.YtedaknjjcdlpnaaDoorDrawTmAny
import Derived.Test.YtedaknjjcdlpnaaDoorDrawSend
namespace Go.Proofs.YtedaknjjcdlpnaaDoor
set_option maxRecDepth 100000
open Go.RowKit

def DrAllowed (w : World) (e : Ending) (w' : World) : Prop := ∃ v u l t, e = .returned (.tuple #[v, u]) ∧ RdLab w' v l ∧ l.parts.length ≤ 100 ∧ RdTm w' u t ∧ FewTm 100 t ∧ Below w.heap.size w w'
/-- The label is in its box; the cursor, the results' blocks. -/
structure StAl (p : Nat) (a : Option Addr) (len cap B g : Nat) (w wr : World) (l : Lab) (A : Option Addr) (n c : Nat) : Prop where
  cur : IsCur p a len cap wr
  bel : Below w.heap.size w wr
  r1 : Box wr w.heap.size [.int .i64 0, .slice none 0 0]
  r2 : Box wr (w.heap.size + 1) [.int .i64 0, .slice none 0 0, .int .i64 0, .slice none 0 0, .int .i64 0, .slice none 0 0, .int .i64 0, .slice none 0 0]
  gb : Box wr g [.int .i64 l.base, .slice A n c]
  off : OffLab B g wr (.agg #[.int .i64 l.base, .slice A n c]) l
  few : l.parts.length ≤ 100
  hp : w.heap.size + 1 < p
  pB : p < B
  hg : B ≤ g
section
variable {p : Nat} {a : Option Addr} {len cap : Nat} {B g : Nat} {w wr w' : World} {l l' : Lab} {A A' : Option Addr} {n c n' c' : Nat}
theorem StAl.gbr (h : StAl p a len cap B g w wr l A n c) (hc : IsCur p a len cap w') (hg : wr.grownBy w' (some p)) : StAl p a len cap B g w w' l A n c :=
  ⟨hc, gb_below h.bel hg (by have := h.hp; omega), box_gb h.r1 hg (by have := h.hp; omega), box_gb h.r2 hg (by have := h.hp; omega), box_gb h.gb hg (by have := h.pB; have := h.hg; omega), h.off.gbr hg h.pB, h.few, h.hp, h.pB, h.hg⟩
theorem StAl.put (h : StAl p a len cap B g w wr l A n c) (ho : OffLab B g wr (.agg #[.int .i64 l'.base, .slice A' n' c']) l') (hm : l'.parts.length ≤ 100) :
    StAl p a len cap B g w ((wr.setCell ⟨g, 0, none⟩ (.int .i64 l'.base)).setCell ⟨g, 1, none⟩ (.slice A' n' c')) l' A' n' c' := by
  have := h.hp
  have := h.pB
  have := h.hg
  have hb : ∀ k, k ≠ g → ((wr.setCell ⟨g, 0, none⟩ (.int .i64 l'.base)).setCell ⟨g, 1, none⟩ (.slice A' n' c')).heap[k]? = wr.heap[k]? := fun k hk => by rw [Below.heap_setCell _ _ _ _ (by simpa using hk), Below.heap_setCell _ _ _ _ (by simpa using hk)]
  have hpg : p ≠ g := by omega
  exact ⟨h.cur.block (hb p hpg), (h.bel.setCell (by simp only []; omega) _).setCell (by simp only []; omega) _, (h.r1.far (by omega)).far (by omega), (h.r2.far (by omega)).far (by omega), (h.gb.set (by simp)).set (by simp), ho.past.past, hm, h.hp, h.pB, h.hg⟩
end

set_option maxHeartbeats 8000000 in
theorem draw_allowed (a : Option Addr) (len cap : Nat) (zs : List Int) (w : World) (hl : len ≤ 4096) (hr : IsRow .u8 w a len cap zs) : Calls Tryd.prog 7 #[.slice a len cap] w (DrAllowed w) := by
  go_enter Tryd.func7, Tryd.ntmps7
  go_wp2_with fail
  generalize hW : (w.alloc (.cells #[.int .i64 0, .slice none 0 0] 26)).alloc (.cells #[.int .i64 0, .slice none 0 0, .int .i64 0, .slice none 0 0, .int .i64 0, .slice none 0 0, .int .i64 0, .slice none 0 0] 28) = x0
  obtain ⟨rb1, rb2, hsz, bel⟩ := laid2 (ps := [.int .i64 0, .slice none 0 0]) (rs := [.int .i64 0, .slice none 0 0, .int .i64 0, .slice none 0 0, .int .i64 0, .slice none 0 0, .int .i64 0, .slice none 0 0]) hW
  clear hW
  refine (new_any a len cap zs _ hl (hr.below bel)).mono ?_
  rintro e w1 ⟨p, hp, rfl, hc1, hb1⟩
  have bel1 := below_more bel hb1
  have q1 := rb1.below hb1
  have q2 := rb2.below hb1
  have hpw : w.heap.size + 1 < p := by omega
  clear rb1 rb2 hb1 hsz bel hp
  go_wp2_with fail
  refine (draw_send p a len cap zs _ hl hc1 (CurRow.start hr bel1 (by omega))).mono ?_
  rintro e w2 ⟨v, l, rfl, own, h8, hc2, hg2⟩
  obtain ⟨A, n, c, rfl, -, -, -⟩ := id own
  go_wp2_with fail
  generalize hW : w2.alloc (.cells #[.int .i64 l.base, .slice A n c] 26) = w3
  obtain ⟨gb, hsz3, bel3⟩ := laid1 (ps := [.int .i64 l.base, .slice A n c]) hW
  have HD : Hid (StAl p a len cap w1.heap.size w2.heap.size w w3 l A n c) := Lib.hid (by
    have hlt := hc1.lt
    have hs := hg2.size
    have b2 := gb_below bel1 hg2 (by omega)
    exact ⟨hc2.block (bel3.block p (by omega)), below_more b2 bel3, (box_gb q1 hg2 (by omega)).below bel3, (box_gb q2 hg2 (by omega)).below bel3, gb, (own.off (Nat.le_refl _) (.inr (Nat.le_refl _))).below bel3, by omega, hpw, hlt, hs⟩)
  clear hW gb hsz3 bel3 own hc2 hg2 q1 q2 bel1 hc1 h8
  obtain ⟨g, hg⟩ : ∃ g, g = w2.heap.size := ⟨_, rfl⟩
  obtain ⟨B, hB⟩ : ∃ B, B = w1.heap.size := ⟨_, rfl⟩
  rw [← hg, ← hB] at HD
  rw [← hg]
  clear hg hB
  refine (once_any p a len cap zs 6 _ hl (by omega) (by omega) HD.out.cur (CurRow.start hr HD.out.bel (by omega))).mono ?_
  rintro e wq ⟨b, rfl, hcq, hgq⟩
  have HD' := Lib.hid (HD.out.gbr hcq hgq)
  clear HD hcq hgq
  have HD := HD'
  clear HD'
  go_upto_if 11 with fail
  go_cut [5] (fun s wx => s = .pointer (some ⟨g, 0, none⟩) ∧ ∃ (l : Lab) (A : Option Addr) (n c : Nat), Hid (StAl p a len cap B g w wx l A n c))
  case first =>
    cases b
    · go_wp2
      go_meet
      case rel => exact ⟨rfl, _, _, _, _, HD⟩
    · go_wp2_with fail
      refine (draw_any p a len cap zs _ hl HD.out.cur (CurRow.start hr HD.out.bel (by omega))).mono ?_
      rintro e w5 ⟨v5, l5, rfl, own, h100, hc5, hg5⟩
      have OL : Hid (OffLab B g w5 v5 l5) := Lib.hid (own.off (by have := HD.out.hg; have := HD.out.gb.lt; omega) (.inl HD.out.gb.lt))
      have HG := Lib.hid (HD.out.gbr hc5 hg5)
      obtain ⟨A5, n5, c5, rfl, -, -, -⟩ := own
      clear HD hc5 hg5
      have gk0 := HG.out.gb.cell 0 rfl
      have gk1 := HG.out.gb.cell 1 rfl
      have gf0 := HG.out.gb.free 0
      have gf1 := HG.out.gb.free 1
      have HH := Lib.hid (HG.out.put OL.out h100)
      go_wp2
      go_meet
      case rel => exact ⟨rfl, _, _, _, _, HH⟩
  clear HD
  obtain ⟨rfl, l9, A9, n9, c9, HD⟩ := hcut
  obtain ⟨w7, hw7⟩ : ∃ w7, w7 = wc := ⟨_, rfl⟩
  rw [← hw7] at HD ⊢
  clear hw7
  have HDk0 := HD.out.gb.cell 0 rfl
  have HDk1 := HD.out.gb.cell 1 rfl
  have HDz := HD.out.gb.lt
  have hBg : B ≤ g := HD.out.hg
  have hpB : p < B := HD.out.pB
  have n1 : w.heap.size ≠ g := by omega
  have n2 : w.heap.size + 1 ≠ g := by omega
  have m1 : g ≠ w.heap.size := by omega
  have m2 : g ≠ w.heap.size + 1 := by omega
  go_wp2
  go_region_held3 (fun w' => w'.cell? ⟨g, 0, none⟩ = some (.int .i64 l9.base) ∧ w'.cell? ⟨g, 1, none⟩ = some (.slice A9 n9 c9))
    (first | with_reducible exact ⟨HFk0, HFk1⟩ | with_reducible exact ⟨HDk0, HDk1⟩ | go_keep)
    (first
    | (go_at_call 33
       refine (draw_tmany p a len cap zs _ hl (by first | exact HD.out.cur | exact HD.out.cur.drew) (by first | exact CurRow.start hr HD.out.bel (by omega) | exact CurRow.start hr HD.out.bel.drew (by omega))).mono ?_
       rintro e w8 ⟨v8, t, rfl, own8, hc8, hg8⟩
       have HF : Hid (StAl p a len cap B g w w8 l9 A9 n9 c9) := Lib.hid (HD.out.gbr hc8 (by first | exact hg8 | exact gb_undrew hg8))
       have HFk0 := HF.out.gb.cell 0 rfl
       have HFk1 := HF.out.gb.cell 1 rfl
       have HO := Lib.hid own8
       have hw8 : B ≤ w7.heap.size := by have := HD.out.hg; have := HD.out.gb.lt; omega
       obtain ⟨A0, n0, c0, A1, n1, c1, A2, n2, c2, A3, n3, c3, rfl, -⟩ := own8
       have rk0 := HF.out.r2.cell 0 rfl
       have rf0 := HF.out.r2.free 0
       have rk1 := HF.out.r2.cell 1 rfl
       have rf1 := HF.out.r2.free 1
       have rk2 := HF.out.r2.cell 2 rfl
       have rf2 := HF.out.r2.free 2
       have rk3 := HF.out.r2.cell 3 rfl
       have rf3 := HF.out.r2.free 3
       have rk4 := HF.out.r2.cell 4 rfl
       have rf4 := HF.out.r2.free 4
       have rk5 := HF.out.r2.cell 5 rfl
       have rf5 := HF.out.r2.free 5
       have rk6 := HF.out.r2.cell 6 rfl
       have rf6 := HF.out.r2.free 6
       have rk7 := HF.out.r2.cell 7 rfl
       have rf7 := HF.out.r2.free 7
       have sk0 := HF.out.r1.cell 0 rfl
       have sk1 := HF.out.r1.cell 1 rfl
       have sf0 := HF.out.r1.free 0
       have sf1 := HF.out.r1.free 1
       clear hg8 hc8))
  all_goals
    go_wp2
    refine bodyPost_ret (v := .tuple #[.agg #[.int .i64 l9.base, .slice A9 n9 c9], .agg #[.int .i64 t.taint.base, .slice A0 n0 c0, .int .i64 t.clear.base, .slice A1 n1 c1, .int .i64 t.raise.base, .slice A2 n2 c2, .int .i64 t.verify.base, .slice A3 n3 c3]]) (by simp [results, Tryd.results7, go_sem, sk0, sk1, rk0, rk1, rk2, rk3, rk4, rk5, rk6, rk7]) rfl ?_
    exact ⟨_, _, l9, t, rfl, (((((((((((HF.out.off.out (by omega)).out (by omega)).out (by omega)).out (by omega)).out (by omega)).out (by omega)).out (by omega)).out (by omega)).out (by omega)).out (by omega))).1.rd, HF.out.few, ((((((((((((HO.out.lower (base' := B) (by simpa using hw8)).out (by omega)).out (by omega)).out (by omega)).out (by omega)).out (by omega)).out (by omega)).out (by omega)).out (by omega)).out (by omega)).out (by omega))).rd, HO.out.few, ((((((((((HF.out.bel.setCell (by simp) _).setCell (by simp) _).setCell (by simp) _).setCell (by simp) _).setCell (by simp) _).setCell (by simp) _).setCell (by simp) _).setCell (by simp) _).setCell (by simp) _).setCell (by simp) _)⟩
end Go.Proofs.YtedaknjjcdlpnaaDoor
