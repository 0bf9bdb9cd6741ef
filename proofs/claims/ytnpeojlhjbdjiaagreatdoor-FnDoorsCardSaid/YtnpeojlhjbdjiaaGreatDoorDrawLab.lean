/-
  The draws of labels (chapter 2 of the model): some label of the call's own; the cursor stays one; nothing else is written.
-/
import Derived.Test.YtnpeojlhjbdjiaaGreatDoorCur
import Derived.Test.YtnpeojlhjbdjiaaGreatDoorSpecLab4
import Derived.Deep.RegionWith
namespace Go.Proofs.YtnpeojlhjbdjiaaGreatDoor
set_option maxRecDepth 100000
open Go.RowKit

theorem pick6 {k : Nat} {x0 x1 x2 x3 x4 x5 : Int} (hk : k < 6) : ∃ tv : Int, (#[Value.int .i64 x0, .int .i64 x1, .int .i64 x2, .int .i64 x3, .int .i64 x4, .int .i64 x5] : Array Value)[k]? = some (.int .i64 tv) := by
  match k, hk with
  | 0, _ => exact ⟨_, rfl⟩
  | 1, _ => exact ⟨_, rfl⟩
  | 2, _ => exact ⟨_, rfl⟩
  | 3, _ => exact ⟨_, rfl⟩
  | 4, _ => exact ⟨_, rfl⟩
  | 5, _ => exact ⟨_, rfl⟩
theorem withL_le (l : Lab) (h v : Int) : (withL l h v).1.parts.length ≤ 8 := by
  unfold withL
  simp only []
  split
  · simp [noLab]
  · simp only []; omega

/-- What the drawing keeps: the result's block, the label in the making and its row behind it, the cursor. -/
structure Drawing (p : Nat) (a : Option Addr) (len cap g : Nat) (w wr : World) (v : Value) (l : Lab) : Prop where
  cur : IsCur p a len cap wr
  grown : w.grownBy wr (some p)
  hg : w.heap.size < g
  gl : g < wr.heap.size
  r0 : wr.cell? ⟨w.heap.size, 0, none⟩ = some (.int .i64 0)
  r1 : wr.cell? ⟨w.heap.size, 1, none⟩ = some (.slice none 0 0)
  f0 : wr.frozen? ⟨w.heap.size, 0, none⟩ = false
  f1 : wr.frozen? ⟨w.heap.size, 1, none⟩ = false
  o0 : wr.frozen? ⟨g, 0, none⟩ = false
  o1 : wr.frozen? ⟨g, 1, none⟩ = false
  own : OwnLab (g + 1) wr v l
theorem Drawing.gb {p : Nat} {a : Option Addr} {len cap g : Nat} {w wr w' : World} {v : Value} {l : Lab} (h : Drawing p a len cap g w wr v l) (hp : p < w.heap.size) (hc : IsCur p a len cap w') (hg : wr.grownBy w' (some p)) : Drawing p a len cap g w w' v l := by
  have hs := h.grown.size
  have ec : ∀ b i, b ≠ p → b < wr.heap.size → w'.cell? ⟨b, i, none⟩ = wr.cell? ⟨b, i, none⟩ := fun b i hb hl => World.cell?_of_block (w := wr) (hg.block b hl (fun e => hb (Option.some.inj e)))
  have ef : ∀ b i, b ≠ p → b < wr.heap.size → w'.frozen? ⟨b, i, none⟩ = wr.frozen? ⟨b, i, none⟩ := fun b i hb hl => World.frozen?_of_block (w := wr) (hg.block b hl (fun e => hb (Option.some.inj e)))
  have hgl := h.gl
  have hgg := h.hg
  exact ⟨hc, gb_trans h.grown hg, hgg, Nat.lt_of_lt_of_le hgl hg.size, by rw [ec _ _ (by omega) (by omega)]; exact h.r0, by rw [ec _ _ (by omega) (by omega)]; exact h.r1,
    by rw [ef _ _ (by omega) (by omega)]; exact h.f0, by rw [ef _ _ (by omega) (by omega)]; exact h.f1, by rw [ef _ _ (by omega) (by omega)]; exact h.o0, by rw [ef _ _ (by omega) (by omega)]; exact h.o1,
    h.own.kept hg (fun k hk => by have := Option.some.inj hk; omega)⟩

theorem Drawing.alloc {p : Nat} {a : Option Addr} {len cap g : Nat} {w wr : World} {v : Value} {l : Lab} (h : Drawing p a len cap g w wr v l) (hp : p < w.heap.size) (o : Obj) : Drawing p a len cap g w (wr.alloc o) v l := h.gb hp (h.cur.alloc o) (World.grownBy_alloc _ _ _)
theorem Drawing.drew {p : Nat} {a : Option Addr} {len cap g : Nat} {w wr : World} {v : Value} {l : Lab} (h : Drawing p a len cap g w wr v l) (hp : p < w.heap.size) : Drawing p a len cap g w wr.drew v l := h.gb hp h.cur.drew (gb_drew (World.grownBy.refl _ _))
theorem Drawing.below {p : Nat} {a : Option Addr} {len cap g : Nat} {w wr w' : World} {v : Value} {l : Lab} (h : Drawing p a len cap g w wr v l) (hp : p < w.heap.size) (hb : Below wr.heap.size wr w') : Drawing p a len cap g w w' v l :=
  h.gb hp (h.cur.block (hb.block p h.cur.lt)) (gb_of_below hb _)
theorem Drawing.put {p : Nat} {a : Option Addr} {len cap g : Nat} {w wr : World} {v v' : Value} {l l' : Lab} (h : Drawing p a len cap g w wr v l) (hp : p < w.heap.size) (own : OwnLab (g + 1) wr v' l') (x y : Value) :
    Drawing p a len cap g w ((wr.setCell ⟨g, 0, none⟩ x).setCell ⟨g, 1, none⟩ y) v' l' := by
  have hgg := h.hg
  have hb : ∀ k, k ≠ g → ((wr.setCell ⟨g, 0, none⟩ x).setCell ⟨g, 1, none⟩ y).heap[k]? = wr.heap[k]? := fun k hk => by rw [Below.heap_setCell _ _ _ _ (by simpa using hk), Below.heap_setCell _ _ _ _ (by simpa using hk)]
  refine ⟨h.cur.block (hb p (by omega)), ⟨h.grown.os, h.grown.tape, h.grown.output, by simpa using h.grown.size, fun k hk hne => by rw [hb k (by omega)]; exact h.grown.block k hk hne⟩, hgg, by simpa using h.gl,
    by rw [World.cell?_of_block (w := wr) (hb _ (by simp only []; omega))]; exact h.r0, by rw [World.cell?_of_block (w := wr) (hb _ (by simp only []; omega))]; exact h.r1, by simpa using h.f0, by simpa using h.f1, by simpa using h.o0, by simpa using h.o1, ?_⟩
  obtain ⟨A, n, c, rfl, hn, hl, ho⟩ := own
  exact ⟨A, n, c, rfl, hn, hl, ownsRow_setCell_below (ownsRow_setCell_below ho (by simp) _) (by simp) _⟩

theorem Drawing.done {p : Nat} {a : Option Addr} {len cap g : Nat} {w wr : World} {v : Value} {l : Lab} (h : Drawing p a len cap g w wr v l) (hp : p < w.heap.size) (x y : Value) :
    OwnLab w.heap.size ((wr.setCell ⟨w.heap.size, 0, none⟩ x).setCell ⟨w.heap.size, 1, none⟩ y) v l ∧ IsCur p a len cap ((wr.setCell ⟨w.heap.size, 0, none⟩ x).setCell ⟨w.heap.size, 1, none⟩ y) ∧ w.grownBy ((wr.setCell ⟨w.heap.size, 0, none⟩ x).setCell ⟨w.heap.size, 1, none⟩ y) (some p) := by
  have hgg := h.hg
  have hb : ∀ k, k ≠ w.heap.size → ((wr.setCell ⟨w.heap.size, 0, none⟩ x).setCell ⟨w.heap.size, 1, none⟩ y).heap[k]? = wr.heap[k]? := fun k hk => by rw [Below.heap_setCell _ _ _ _ (by simpa using hk), Below.heap_setCell _ _ _ _ (by simpa using hk)]
  refine ⟨?_, h.cur.block (hb p (by omega)), ⟨h.grown.os, h.grown.tape, h.grown.output, by simpa using h.grown.size, fun k hk hne => by rw [hb k (by omega)]; exact h.grown.block k hk hne⟩⟩
  obtain ⟨A, n, c, rfl, hn, hl, ho⟩ := h.own
  exact ⟨A, n, c, rfl, hn, hl, own_lower (ownsRow_setCell_below (ownsRow_setCell_below ho (by simp only []; omega) _) (by simp only []; omega) _) (by omega)⟩

set_option maxHeartbeats 8000000 in
theorem draw_lab (p : Nat) (a : Option Addr) (len cap : Nat) (zs : List Int) (w : World) (hl : len ≤ 4096) (hc : IsCur p a len cap w) (hr : CurRow w p a len cap zs) :
    Calls Tryz.prog 76 #[.pointer (some ⟨p, 0, none⟩)] w (DrawnLab 8 p a len cap w) := by
  have hp := hc.lt
  go_enter Tryz.func76, Tryz.ntmps76
  go_wp2_with fail
  refine (below_any p a len cap zs _ _ hl (by omega) (by omega) (hc.alloc _) (hr.kept (World.grownBy_alloc _ _ _))).mono ?_
  rintro e w1 ⟨x, hx0, hx1, rfl, hc1, hg1⟩
  have hs1 : w.heap.size < w1.heap.size := by have := hg1.size; simp at this; omega
  have hg01 := gb_trans (World.grownBy_alloc w _ _) hg1
  have hr1 := hr.kept hg01
  have r0 := hg1.cell (a := ⟨w.heap.size, 0, none⟩) (v := .int .i64 0) (by simp) (fun e => by have := Option.some.inj e; first | omega | (simp only [] at this; omega))
  have r1 := hg1.cell (a := ⟨w.heap.size, 1, none⟩) (v := .slice none 0 0) (by simp) (fun e => by have := Option.some.inj e; first | omega | (simp only [] at this; omega))
  have f0 := new_frozen hg1 (fun e => by have := Option.some.inj e; omega) 0
  have f1 := new_frozen hg1 (fun e => by have := Option.some.inj e; omega) 1
  have HG1 := Lib.hid hg1
  clear hg1
  go_wp2_with fail
  refine (below_any p a len cap zs _ _ hl (by omega) (by omega) (hc1.alloc _) (hr1.kept (World.grownBy_alloc _ _ _))).mono ?_
  rintro e w2 ⟨y, hy0, hy1, rfl, hc2, hg2⟩
  have hD : Drawing p a len cap w1.heap.size w w2 (.agg #[.int .i64 x, .slice none 0 0]) ⟨x, []⟩ := by
    refine Drawing.gb (wr := w1.alloc (.cells #[.int .i64 x, .slice none 0 0] 26)) ?_ hp hc2 hg2
    exact ⟨hc1.alloc _, gb_alloc hg01 _, hs1, by simp, by simp [go_sem, hs1, r0], by simp [go_sem, hs1, r1], by simp [go_sem, hs1, f0], by simp [go_sem, hs1, f1], by simp, by simp, own_nil _ _ _⟩
  have d0 : w2.cell? ⟨w1.heap.size, 0, none⟩ = some (.int .i64 x) := hg2.cell (World.cell?_alloc_new _ _ _ 0) (fun e => by have h1 := Option.some.inj e; have h2 := hc1.lt; simp only [] at h1; omega)
  have d1 : w2.cell? ⟨w1.heap.size, 1, none⟩ = some (.slice none 0 0) := hg2.cell (World.cell?_alloc_new _ _ _ 1) (fun e => by have h1 := Option.some.inj e; have h2 := hc1.lt; simp only [] at h1; omega)
  go_wp2
  have HD := Lib.hid hD
  clear hD r0 r1 f0 f1 hg2
  obtain ⟨y', rfl⟩ := Int.eq_ofNat_of_zero_le hy0
  go_loopw [4] (fun i wr => ∃ (j : Nat) (l : Lab) (A' : Option Addr) (n' c' : Nat), j ≤ 4 ∧ i = .int .i64 j ∧ l.parts.length ≤ 8 ∧ Hid (Drawing p a len cap w1.heap.size w wr (.agg #[.int .i64 l.base, .slice A' n' c']) l) ∧ wr.cell? ⟨w1.heap.size, 0, none⟩ = some (.int .i64 l.base) ∧ wr.cell? ⟨w1.heap.size, 1, none⟩ = some (.slice A' n' c')) (fun i _ => (intOf i).toNat)
  case atStart => exact ⟨y', ⟨x, []⟩, none, 0, 0, by omega, rfl, by simp, HD, d0, d1⟩
  case round =>
    clear d0 d1 HD
    obtain ⟨j, l, A', n', c', hj, rfl, h8, HD, d0, d1⟩ := hrel
    have hrr := hr.kept HD.out.grown
    have hgl := HD.out.gl
    have hpr := HD.out.cur.lt
    by_cases hj0 : 0 < (j : Int)
    · go_wp2
      go_region_with
        (first
        | (go_at_call_of 48 (Value.int IntKind.i64 6)
           refine (below_any p a len cap zs _ _ hl (by omega) (by omega) (by first | exact HD.out.cur | exact HD.out.cur.drew | exact HD.out.cur.alloc _ | exact (HD.out.cur.alloc _).drew) (by first | exact hrr | exact hrr.kept (World.grownBy_alloc _ _ _) | exact hrr.kept (gb_drew (World.grownBy_alloc _ _ _)))).mono ?_
           rintro e w3 ⟨z, hz0, hz1, rfl, hc3, hg3⟩
           have HD3 : Hid (Drawing p a len cap w1.heap.size w w3 (.agg #[.int .i64 l.base, .slice A' n' c']) l) := Drawing.gb (by first | exact HD.out | exact HD.out.drew hp | exact HD.out.alloc hp _ | exact (HD.out.alloc hp _).drew hp) hp hc3 hg3
           have k30 : w3.cell? ⟨w1.heap.size, 0, none⟩ = some (.int .i64 l.base) := hg3.cell (by simp [go_sem, hgl, d0]) (fun e => by have h1 := Option.some.inj e; simp only [] at h1; omega)
           have k31 : w3.cell? ⟨w1.heap.size, 1, none⟩ = some (.slice A' n' c') := hg3.cell (by simp [go_sem, hgl, d1]) (fun e => by have h1 := Option.some.inj e; simp only [] at h1; omega)
           obtain ⟨zk, rfl⟩ := Int.eq_ofNat_of_zero_le hz0
           obtain ⟨tv, harr⟩ : ∃ tv : Int, (#[Value.int .i64 0, .int .i64 1, .int .i64 100, .int .i64 101, .int .i64 200, .int .i64 301] : Array Value)[zk]? = some (.int .i64 tv) := pick6 (by omega)
           try (have htv : w3.cell? ⟨wr.heap.size, zk, none⟩ = some (.int .i64 tv) := hg3.cell (by exact (World.cell?_alloc_new _ _ _ _).trans harr) (fun e => by have h1 := Option.some.inj e; simp only [] at h1; omega))
           have hr3 := hr.kept HD3.out.grown
           have hgl3 := HD3.out.gl
           have hpr3 := HD3.out.cur.lt
           clear hg3)
        | (go_at_call_of 48 (Value.int IntKind.i64 5)
           refine (below_any p a len cap zs _ _ hl (by omega) (by omega) (by first | exact HD3.out.cur | exact HD3.out.cur.drew | exact HD3.out.cur.alloc _ | exact (HD3.out.cur.alloc _).drew) (by first | exact hr3 | exact hr3.kept (World.grownBy_alloc _ _ _) | exact hr3.kept (gb_drew (World.grownBy_alloc _ _ _)))).mono ?_
           rintro e w4 ⟨u, hu0, hu1, rfl, hc4, hg4⟩
           try (have htv4 : w4.cell? ⟨wr.heap.size, zk, none⟩ = some (.int .i64 tv) := hg4.cell htv (fun e => by have h1 := Option.some.inj e; simp only [] at h1; omega))
           try (have htv5 : w4.cell? ⟨w3.heap.size, zk, none⟩ = some (.int .i64 tv) := hg4.cell (by exact (World.cell?_alloc_new _ _ _ _).trans harr) (fun e => by have h1 := Option.some.inj e; simp only [] at h1; omega))
           have HD4 : Hid (Drawing p a len cap w1.heap.size w w4 (.agg #[.int .i64 l.base, .slice A' n' c']) l) := Drawing.gb (by first | exact HD3.out | exact HD3.out.drew hp | exact HD3.out.alloc hp _ | exact (HD3.out.alloc hp _).drew hp) hp hc4 hg4
           have k40 : w4.cell? ⟨w1.heap.size, 0, none⟩ = some (.int .i64 l.base) := hg4.cell (by first | exact k30 | (simp [go_sem, hgl3, k30]; done)) (fun e => by have h1 := Option.some.inj e; simp only [] at h1; omega)
           have k41 : w4.cell? ⟨w1.heap.size, 1, none⟩ = some (.slice A' n' c') := hg4.cell (by first | exact k31 | (simp [go_sem, hgl3, k31]; done)) (fun e => by have h1 := Option.some.inj e; simp only [] at h1; omega)
           have hgl4 := HD4.out.gl
           clear hg4)
        | (go_at_call 36
           refine (spec_with0 _ l _ _ _ (by first | exact HD4.out.own.rd | exact (HD4.out.alloc hp _).own.rd) h8).mono ?_
           rintro e w5 ⟨v5, rfl, hown5, hb5⟩
           have HD5 : Hid (Drawing p a len cap w1.heap.size w w5 (.agg #[.int .i64 l.base, .slice A' n' c']) l) := Drawing.below (by first | exact HD4.out | exact HD4.out.alloc hp _) hp hb5
           have k50 : w5.cell? ⟨w1.heap.size, 0, none⟩ = some (.int .i64 l.base) := (hb5.cell (by first | exact hgl4 | (simp; omega))).trans (by first | exact k40 | (simp [go_sem, hgl4, k40]; done))
           have k51 : w5.cell? ⟨w1.heap.size, 1, none⟩ = some (.slice A' n' c') := (hb5.cell (by first | exact hgl4 | (simp; omega))).trans (by first | exact k41 | (simp [go_sem, hgl4, k41]; done))
           have HO5 : Hid (OwnLab (w1.heap.size + 1) w5 v5 _) := hown5.lower (by first | omega | (simp; omega))
           have q0 := HD5.out.o0
           have q1 := HD5.out.o1
           obtain ⟨A5, n5, c5, rfl, -, -, -⟩ := hown5
           clear hb5))
      all_goals
        have hle := withL_le l tv u
        go_wp2
        go_roundw
        case rel => exact ⟨j - 1, _, A5, n5, c5, by omega, by simp; omega, hle, HD5.out.put hp HO5.out _ _, by simp [go_sem, k50], by simp [go_sem, k51]⟩
        case measure => simp [intOf]; omega
    · have r0 := HD.out.r0
      have r1 := HD.out.r1
      have f0 := HD.out.f0
      have f1 := HD.out.f1
      obtain rfl : j = 0 := by omega
      go_wp2
      refine bodyPost_ret (v := .agg #[.int .i64 l.base, .slice A' n' c']) (by simp [results, Tryz.results76, go_sem, r0, r1]) rfl ?_
      have hend := HD.out.done hp (.int .i64 l.base) (.slice A' n' c')
      exact ⟨_, l, rfl, hend.1, h8, hend.2.1, hend.2.2⟩
end Go.Proofs.YtnpeojlhjbdjiaaGreatDoor
