/-
  Chapter 4 of the program: Stars; Tainted.
-/
import Derived.Test.YtjdnobihhkmmpaaImplStars
import Derived.Test.YtjdnobihhkmmpaaImplKeepT
namespace Go.Proofs.Ytjdnobihhkmmpaa
set_option maxRecDepth 100000
open Go.RowKit

theorem lvMin_min {a b : Int} (h : lvOk a = true) (k : lvOk b = true) : lvMin a b = min a b := by simp [lvMin, h, k]
theorem lvMax_max {a b : Int} (h : lvOk a = true) (k : lvOk b = true) : lvMax a b = max a b := by simp [lvMax, h, k]
theorem heard_lv {a b c : Int} (h : lvOk a = true) (k : lvOk b = true) (j : lvOk c = true) : lvMax c (lvMin a b) = heardLev a b c := by
  rw [lvMin_min h k, lvMax_max j (lvOk_min h k)]; rfl
theorem impl_heard {a b c : Int} (h : lvOk a = true) (k : lvOk b = true) (j : lvOk c = true) (w : World) : Calls Try.prog 31 #[.int .i64 a, .int .i64 b, .int .i64 c] w (RetS (.int .i64 (heardLev a b c)) w) := by
  have HE := Lib.hid (heard_lv h k j)
  clear h k j
  go_enter Try.func31, Try.ntmps31
  go_wp2_with (first | (go_at_call 61; refine (impl_lower _ _ _).mono ?_; rintro e w' ⟨rfl, rfl⟩) | (go_at_call 60; refine (impl_higher _ _ _).mono ?_; rintro e w' ⟨rfl, rfl⟩))
  go_ret
  exact .mk (by rw [HE.out]; rfl)

set_option maxHeartbeats 4000000 in
theorem impl_tell (x : Int) (p1 p2 p3 : Nat) (A B C : Option Addr) (n c n' d n'' f : Nat) (l m o : Lab) (w : World) (h1 : Has w p1 [.int .i64 l.base, .slice A n c]) (h2 : Has w p2 [.int .i64 m.base, .slice B n' d]) (h3 : Has w p3 [.int .i64 o.base, .slice C n'' f])
    (r1 : RdLab w (.agg #[.int .i64 l.base, .slice A n c]) l) (r2 : RdLab w (.agg #[.int .i64 m.base, .slice B n' d]) m) (r3 : RdLab w (.agg #[.int .i64 o.base, .slice C n'' f]) o) (k1 : labOk l = true) (k2 : labOk m = true) (k3 : labOk o = true) :
    Calls Try.prog 32 #[.int .i64 x, .pointer (some ⟨p1, 0, none⟩), .pointer (some ⟨p2, 0, none⟩), .pointer (some ⟨p3, 0, none⟩)] w (RetV (.int .i64 (heardLev (lev l x) (lev m x) (lev o x))) w) := by
  have H1 := Lib.hid h1
  have H2 := Lib.hid h2
  have H3 := Lib.hid h3
  have R1 := Lib.hid r1
  have R2 := Lib.hid r2
  have R3 := Lib.hid r3
  have I1 := Lib.hid (labOk_rises k1)
  have I2 := Lib.hid (labOk_rises k2)
  have I3 := Lib.hid (labOk_rises k3)
  have L1 := Lib.hid (lev_lv k1 x)
  have L2 := Lib.hid (lev_lv k2 x)
  have L3 := Lib.hid (lev_lv k3 x)
  clear h1 h2 h3 r1 r2 r3 k1 k2 k3
  have HC : Hid (Below w.heap.size w w) := Lib.hid (.refl _ _)
  have f0 := H1.out 0 _ rfl
  have f1 := H1.out 1 _ rfl
  have f2 := H2.out 0 _ rfl
  have f3 := H2.out 1 _ rfl
  have f4 := H3.out 0 _ rfl
  have f5 := H3.out 1 _ rfl
  go_enter Try.func32, Try.ntmps32
  go_wp2
  go_region_held3 (fun w' => w'.cell? ⟨p1, 0, none⟩ = some (.int .i64 l.base) ∧ w'.cell? ⟨p1, 1, none⟩ = some (.slice A n c) ∧ w'.cell? ⟨p2, 0, none⟩ = some (.int .i64 m.base) ∧ w'.cell? ⟨p2, 1, none⟩ = some (.slice B n' d) ∧ w'.cell? ⟨p3, 0, none⟩ = some (.int .i64 o.base) ∧ w'.cell? ⟨p3, 1, none⟩ = some (.slice C n'' f))
    (first | exact ⟨f0, f1, f2, f3, f4, f5⟩ | go_keep)
    (first
      | (go_at_call_of 33 (Value.agg #[Value.int IntKind.i64 l.base, Value.slice A n c])
         refine (impl_lev _ l x _ (by first | exact R1.out.below HC.out | exact (R1.out.below HC.out).drew) I1.out).mono ?_
         rintro e wn ⟨rfl, hb⟩
         have HC' : Hid (Below w.heap.size w wn) := Lib.hid (by first | exact below_more HC.out hb | exact below_more HC.out (below_undrew hb))
         clear HC
         have HC := HC'
         clear HC'
         try clear f0 f1 f2 f3 f4 f5
         have f0 : wn.cell? ⟨p1, 0, none⟩ = some (.int .i64 l.base) := H1.out.below HC.out 0 _ rfl
         have f1 : wn.cell? ⟨p1, 1, none⟩ = some (.slice A n c) := H1.out.below HC.out 1 _ rfl
         have f2 : wn.cell? ⟨p2, 0, none⟩ = some (.int .i64 m.base) := H2.out.below HC.out 0 _ rfl
         have f3 : wn.cell? ⟨p2, 1, none⟩ = some (.slice B n' d) := H2.out.below HC.out 1 _ rfl
         have f4 : wn.cell? ⟨p3, 0, none⟩ = some (.int .i64 o.base) := H3.out.below HC.out 0 _ rfl
         have f5 : wn.cell? ⟨p3, 1, none⟩ = some (.slice C n'' f) := H3.out.below HC.out 1 _ rfl
         clear hb)
      | (go_at_call_of 33 (Value.agg #[Value.int IntKind.i64 m.base, Value.slice B n' d])
         refine (impl_lev _ m x _ (by first | exact R2.out.below HC.out | exact (R2.out.below HC.out).drew) I2.out).mono ?_
         rintro e wn ⟨rfl, hb⟩
         have HC' : Hid (Below w.heap.size w wn) := Lib.hid (by first | exact below_more HC.out hb | exact below_more HC.out (below_undrew hb))
         clear HC
         have HC := HC'
         clear HC'
         try clear f0 f1 f2 f3 f4 f5
         have f0 : wn.cell? ⟨p1, 0, none⟩ = some (.int .i64 l.base) := H1.out.below HC.out 0 _ rfl
         have f1 : wn.cell? ⟨p1, 1, none⟩ = some (.slice A n c) := H1.out.below HC.out 1 _ rfl
         have f2 : wn.cell? ⟨p2, 0, none⟩ = some (.int .i64 m.base) := H2.out.below HC.out 0 _ rfl
         have f3 : wn.cell? ⟨p2, 1, none⟩ = some (.slice B n' d) := H2.out.below HC.out 1 _ rfl
         have f4 : wn.cell? ⟨p3, 0, none⟩ = some (.int .i64 o.base) := H3.out.below HC.out 0 _ rfl
         have f5 : wn.cell? ⟨p3, 1, none⟩ = some (.slice C n'' f) := H3.out.below HC.out 1 _ rfl
         clear hb)
      | (go_at_call_of 33 (Value.agg #[Value.int IntKind.i64 o.base, Value.slice C n'' f])
         refine (impl_lev _ o x _ (by first | exact R3.out.below HC.out | exact (R3.out.below HC.out).drew) I3.out).mono ?_
         rintro e wn ⟨rfl, hb⟩
         have HC' : Hid (Below w.heap.size w wn) := Lib.hid (by first | exact below_more HC.out hb | exact below_more HC.out (below_undrew hb))
         clear HC
         have HC := HC'
         clear HC'
         try clear f0 f1 f2 f3 f4 f5
         have f0 : wn.cell? ⟨p1, 0, none⟩ = some (.int .i64 l.base) := H1.out.below HC.out 0 _ rfl
         have f1 : wn.cell? ⟨p1, 1, none⟩ = some (.slice A n c) := H1.out.below HC.out 1 _ rfl
         have f2 : wn.cell? ⟨p2, 0, none⟩ = some (.int .i64 m.base) := H2.out.below HC.out 0 _ rfl
         have f3 : wn.cell? ⟨p2, 1, none⟩ = some (.slice B n' d) := H2.out.below HC.out 1 _ rfl
         have f4 : wn.cell? ⟨p3, 0, none⟩ = some (.int .i64 o.base) := H3.out.below HC.out 0 _ rfl
         have f5 : wn.cell? ⟨p3, 1, none⟩ = some (.slice C n'' f) := H3.out.below HC.out 1 _ rfl
         clear hb)
      | (go_at_call 31
         refine (impl_heard L1.out L2.out L3.out _).mono ?_
         rintro e w' ⟨rfl, rfl⟩))
  go_wp2
  go_ret
  exact .mk rfl HC.out
theorem keepT_length {l m n : Lab} (h : labOk l = true) (k : labOk m = true) (j : labOk n = true) : (keepT l m n).parts.length ≤ 48 := by
  have h1 := keepL_length (l := l) (heardLev_lv (labOk_base_of h) (labOk_base_of k) (labOk_base_of j)) (hs21_ok h k j) (fun x _ => heardLev_lv (lev_lv h x) (lev_lv k x) (lev_lv j x))
  have h2 := hs21_length l m n
  have := labOk_short h
  have := labOk_short k
  have := labOk_short j
  unfold keepT; omega

set_option maxHeartbeats 8000000 in
theorem impl_tainted (v u v3 : Value) (l m o : Lab) (w : World) (hr : RdLab w v l) (hq : RdLab w u m) (hu : RdLab w v3 o) : Calls Try.prog 8 #[v, u, v3] w (RetLab2 (taintL l m o).1 (taintL l m o).2 w) := by
  have R1 := Lib.hid hr
  have R2 := Lib.hid hq
  have R3 := Lib.hid hu
  obtain ⟨A, n, c, rfl, -⟩ := hr
  obtain ⟨B, n', d, rfl, -⟩ := hq
  obtain ⟨C, n'', f, rfl, hn3, -, -, -, ha3⟩ := hu
  have HN3 := Lib.hid hn3
  have HA3 := Lib.hid ha3
  clear hn3 ha3
  cases hl : labOk l
  · have HNO := Lib.hid (taintL_no (l := l) (m := m) (n := o) (.inl hl))
    go_enter Try.func8, Try.ntmps8
    go_wp2_with fail
    generalize hW : (((w.alloc (.cells #[.int .i64 l.base, .slice A n c] 26)).alloc (.cells #[.int .i64 m.base, .slice B n' d] 26)).alloc (.cells #[.int .i64 o.base, .slice C n'' f] 26)).alloc (.cells #[.int .i64 0, .slice none 0 0] 26) = w0
    obtain ⟨hsz, hb0, b0, b1, b2, b3, fz⟩ := laid4 hW
    have HB0 := Lib.hid hb0
    have FZ := Lib.hid fz
    have B0w0 := Lib.hid (b0)
    have B1w0 := Lib.hid (b1)
    have B2w0 := Lib.hid (b2)
    have B3w0 := Lib.hid (b3)
    clear hW hb0 b0 b1 b2 b3 fz
    refine (impl_labok0 _ l _ (R1.out.below HB0.out)).mono ?_
    rintro e w1 ⟨rfl, hb⟩
    have B0w1 := Lib.hid (B0w0.out.below hb)
    have B1w1 := Lib.hid (B1w0.out.below hb)
    have B2w1 := Lib.hid (B2w0.out.below hb)
    have B3w1 := Lib.hid (B3w0.out.below hb)
    have HB1 := Lib.hid (below_more HB0.out hb)
    have z0 : w1.frozen? ⟨w.heap.size + 1 + 1 + 1, 0, none⟩ = false := (hb.frozen (by simp only []; omega)).trans (FZ.out _ _ (by omega) (by omega))
    have z1 : w1.frozen? ⟨w.heap.size + 1 + 1 + 1, 1, none⟩ = false := (hb.frozen (by simp only []; omega)).trans (FZ.out _ _ (by omega) (by omega))
    have hz1 : w.heap.size + 1 + 1 + 1 < w1.heap.size := block_lt_of_cell (B3w1.out 0 _ rfl)
    clear hb
    have c0 := B0w1.out 0 _ rfl
    have c1 := B0w1.out 1 _ rfl
    have c2 := B1w1.out 0 _ rfl
    have c3 := B1w1.out 1 _ rfl
    have c4 := B2w1.out 0 _ rfl
    have c5 := B2w1.out 1 _ rfl
    have r0 := B3w1.out 0 _ rfl
    have r1 := B3w1.out 1 _ rfl
    go_wp2
    refine bodyPost_ret (v := .tuple #[.agg #[.int .i64 0, .slice none 0 0], .bool false]) (by simp [results, Try.results8, go_sem, r0, r1]) rfl ?_
    rw [HNO.out]
    exact ⟨_, rfl, own_nil _ _ _, (HB1.out.setCell (by simp only []; omega) _).setCell (by simp only []; omega) _⟩
  cases hm : labOk m
  · have HNO := Lib.hid (taintL_no (l := l) (m := m) (n := o) (.inr (.inl hm)))
    go_enter Try.func8, Try.ntmps8
    go_wp2_with fail
    generalize hW : (((w.alloc (.cells #[.int .i64 l.base, .slice A n c] 26)).alloc (.cells #[.int .i64 m.base, .slice B n' d] 26)).alloc (.cells #[.int .i64 o.base, .slice C n'' f] 26)).alloc (.cells #[.int .i64 0, .slice none 0 0] 26) = w0
    obtain ⟨hsz, hb0, b0, b1, b2, b3, fz⟩ := laid4 hW
    have HB0 := Lib.hid hb0
    have FZ := Lib.hid fz
    have B0w0 := Lib.hid (b0)
    have B1w0 := Lib.hid (b1)
    have B2w0 := Lib.hid (b2)
    have B3w0 := Lib.hid (b3)
    clear hW hb0 b0 b1 b2 b3 fz
    refine (impl_labok0 _ l _ (R1.out.below HB0.out)).mono ?_
    rintro e w1 ⟨rfl, hb⟩
    have B0w1 := Lib.hid (B0w0.out.below hb)
    have B1w1 := Lib.hid (B1w0.out.below hb)
    have B2w1 := Lib.hid (B2w0.out.below hb)
    have B3w1 := Lib.hid (B3w0.out.below hb)
    have HB1 := Lib.hid (below_more HB0.out hb)
    have z0 : w1.frozen? ⟨w.heap.size + 1 + 1 + 1, 0, none⟩ = false := (hb.frozen (by simp only []; omega)).trans (FZ.out _ _ (by omega) (by omega))
    have z1 : w1.frozen? ⟨w.heap.size + 1 + 1 + 1, 1, none⟩ = false := (hb.frozen (by simp only []; omega)).trans (FZ.out _ _ (by omega) (by omega))
    have hz1 : w.heap.size + 1 + 1 + 1 < w1.heap.size := block_lt_of_cell (B3w1.out 0 _ rfl)
    clear hb
    have c0 := B0w1.out 0 _ rfl
    have c1 := B0w1.out 1 _ rfl
    have c2 := B1w1.out 0 _ rfl
    have c3 := B1w1.out 1 _ rfl
    have c4 := B2w1.out 0 _ rfl
    have c5 := B2w1.out 1 _ rfl
    have r0 := B3w1.out 0 _ rfl
    have r1 := B3w1.out 1 _ rfl
    have Z0 := Lib.hid z0
    have Z1 := Lib.hid z1
    clear z0 z1
    go_wp2_with fail
    clear c0 c1 c2 c3 c4 c5 r0 r1
    refine (impl_labok0 _ m _ (R2.out.below HB1.out)).mono ?_
    rintro e w2 ⟨rfl, hb⟩
    have B0w2 := Lib.hid (B0w1.out.below hb)
    have B1w2 := Lib.hid (B1w1.out.below hb)
    have B2w2 := Lib.hid (B2w1.out.below hb)
    have B3w2 := Lib.hid (B3w1.out.below hb)
    have HB2 := Lib.hid (below_more HB1.out hb)
    have z0 : w2.frozen? ⟨w.heap.size + 1 + 1 + 1, 0, none⟩ = false := (hb.frozen (by simp only []; omega)).trans Z0.out
    have z1 : w2.frozen? ⟨w.heap.size + 1 + 1 + 1, 1, none⟩ = false := (hb.frozen (by simp only []; omega)).trans Z1.out
    have hz2 : w.heap.size + 1 + 1 + 1 < w2.heap.size := block_lt_of_cell (B3w2.out 0 _ rfl)
    clear hb
    have c0 := B0w2.out 0 _ rfl
    have c1 := B0w2.out 1 _ rfl
    have c2 := B1w2.out 0 _ rfl
    have c3 := B1w2.out 1 _ rfl
    have c4 := B2w2.out 0 _ rfl
    have c5 := B2w2.out 1 _ rfl
    have r0 := B3w2.out 0 _ rfl
    have r1 := B3w2.out 1 _ rfl
    go_wp2
    refine bodyPost_ret (v := .tuple #[.agg #[.int .i64 0, .slice none 0 0], .bool false]) (by simp [results, Try.results8, go_sem, r0, r1]) rfl ?_
    rw [HNO.out]
    exact ⟨_, rfl, own_nil _ _ _, (HB2.out.setCell (by simp only []; omega) _).setCell (by simp only []; omega) _⟩
  cases ho : labOk o
  · have HNO := Lib.hid (taintL_no (l := l) (m := m) (n := o) (.inr (.inr ho)))
    go_enter Try.func8, Try.ntmps8
    go_wp2_with fail
    generalize hW : (((w.alloc (.cells #[.int .i64 l.base, .slice A n c] 26)).alloc (.cells #[.int .i64 m.base, .slice B n' d] 26)).alloc (.cells #[.int .i64 o.base, .slice C n'' f] 26)).alloc (.cells #[.int .i64 0, .slice none 0 0] 26) = w0
    obtain ⟨hsz, hb0, b0, b1, b2, b3, fz⟩ := laid4 hW
    have HB0 := Lib.hid hb0
    have FZ := Lib.hid fz
    have B0w0 := Lib.hid (b0)
    have B1w0 := Lib.hid (b1)
    have B2w0 := Lib.hid (b2)
    have B3w0 := Lib.hid (b3)
    clear hW hb0 b0 b1 b2 b3 fz
    refine (impl_labok0 _ l _ (R1.out.below HB0.out)).mono ?_
    rintro e w1 ⟨rfl, hb⟩
    have B0w1 := Lib.hid (B0w0.out.below hb)
    have B1w1 := Lib.hid (B1w0.out.below hb)
    have B2w1 := Lib.hid (B2w0.out.below hb)
    have B3w1 := Lib.hid (B3w0.out.below hb)
    have HB1 := Lib.hid (below_more HB0.out hb)
    have z0 : w1.frozen? ⟨w.heap.size + 1 + 1 + 1, 0, none⟩ = false := (hb.frozen (by simp only []; omega)).trans (FZ.out _ _ (by omega) (by omega))
    have z1 : w1.frozen? ⟨w.heap.size + 1 + 1 + 1, 1, none⟩ = false := (hb.frozen (by simp only []; omega)).trans (FZ.out _ _ (by omega) (by omega))
    have hz1 : w.heap.size + 1 + 1 + 1 < w1.heap.size := block_lt_of_cell (B3w1.out 0 _ rfl)
    clear hb
    have c0 := B0w1.out 0 _ rfl
    have c1 := B0w1.out 1 _ rfl
    have c2 := B1w1.out 0 _ rfl
    have c3 := B1w1.out 1 _ rfl
    have c4 := B2w1.out 0 _ rfl
    have c5 := B2w1.out 1 _ rfl
    have r0 := B3w1.out 0 _ rfl
    have r1 := B3w1.out 1 _ rfl
    have Z0 := Lib.hid z0
    have Z1 := Lib.hid z1
    clear z0 z1
    go_wp2_with fail
    clear c0 c1 c2 c3 c4 c5 r0 r1
    refine (impl_labok0 _ m _ (R2.out.below HB1.out)).mono ?_
    rintro e w2 ⟨rfl, hb⟩
    have B0w2 := Lib.hid (B0w1.out.below hb)
    have B1w2 := Lib.hid (B1w1.out.below hb)
    have B2w2 := Lib.hid (B2w1.out.below hb)
    have B3w2 := Lib.hid (B3w1.out.below hb)
    have HB2 := Lib.hid (below_more HB1.out hb)
    have z0 : w2.frozen? ⟨w.heap.size + 1 + 1 + 1, 0, none⟩ = false := (hb.frozen (by simp only []; omega)).trans Z0.out
    have z1 : w2.frozen? ⟨w.heap.size + 1 + 1 + 1, 1, none⟩ = false := (hb.frozen (by simp only []; omega)).trans Z1.out
    have hz2 : w.heap.size + 1 + 1 + 1 < w2.heap.size := block_lt_of_cell (B3w2.out 0 _ rfl)
    clear hb
    have c0 := B0w2.out 0 _ rfl
    have c1 := B0w2.out 1 _ rfl
    have c2 := B1w2.out 0 _ rfl
    have c3 := B1w2.out 1 _ rfl
    have c4 := B2w2.out 0 _ rfl
    have c5 := B2w2.out 1 _ rfl
    have r0 := B3w2.out 0 _ rfl
    have r1 := B3w2.out 1 _ rfl
    have Z0 := Lib.hid z0
    have Z1 := Lib.hid z1
    clear z0 z1
    go_wp2_with fail
    clear c0 c1 c2 c3 c4 c5 r0 r1
    refine (impl_labok0 _ o _ (R3.out.below HB2.out)).mono ?_
    rintro e w3 ⟨rfl, hb⟩
    have B0w3 := Lib.hid (B0w2.out.below hb)
    have B1w3 := Lib.hid (B1w2.out.below hb)
    have B2w3 := Lib.hid (B2w2.out.below hb)
    have B3w3 := Lib.hid (B3w2.out.below hb)
    have HB3 := Lib.hid (below_more HB2.out hb)
    have z0 : w3.frozen? ⟨w.heap.size + 1 + 1 + 1, 0, none⟩ = false := (hb.frozen (by simp only []; omega)).trans Z0.out
    have z1 : w3.frozen? ⟨w.heap.size + 1 + 1 + 1, 1, none⟩ = false := (hb.frozen (by simp only []; omega)).trans Z1.out
    have hz3 : w.heap.size + 1 + 1 + 1 < w3.heap.size := block_lt_of_cell (B3w3.out 0 _ rfl)
    clear hb
    have c0 := B0w3.out 0 _ rfl
    have c1 := B0w3.out 1 _ rfl
    have c2 := B1w3.out 0 _ rfl
    have c3 := B1w3.out 1 _ rfl
    have c4 := B2w3.out 0 _ rfl
    have c5 := B2w3.out 1 _ rfl
    have r0 := B3w3.out 0 _ rfl
    have r1 := B3w3.out 1 _ rfl
    go_wp2
    refine bodyPost_ret (v := .tuple #[.agg #[.int .i64 0, .slice none 0 0], .bool false]) (by simp [results, Try.results8, go_sem, r0, r1]) rfl ?_
    rw [HNO.out]
    exact ⟨_, rfl, own_nil _ _ _, (HB3.out.setCell (by simp only []; omega) _).setCell (by simp only []; omega) _⟩
  have HT := Lib.hid (keepT_taint hl hm ho)
  have HKL := Lib.hid (keepT_length hl hm ho)
  go_enter Try.func8, Try.ntmps8
  go_wp2_with fail
  generalize hW : (((w.alloc (.cells #[.int .i64 l.base, .slice A n c] 26)).alloc (.cells #[.int .i64 m.base, .slice B n' d] 26)).alloc (.cells #[.int .i64 o.base, .slice C n'' f] 26)).alloc (.cells #[.int .i64 0, .slice none 0 0] 26) = w0
  obtain ⟨hsz, hb0, b0, b1, b2, b3, fz⟩ := laid4 hW
  have HB0 := Lib.hid hb0
  have FZ := Lib.hid fz
  have B0w0 := Lib.hid (b0)
  have B1w0 := Lib.hid (b1)
  have B2w0 := Lib.hid (b2)
  have B3w0 := Lib.hid (b3)
  clear hW hb0 b0 b1 b2 b3 fz
  refine (impl_labok0 _ l _ (R1.out.below HB0.out)).mono ?_
  rintro e w1 ⟨rfl, hb⟩
  have B0w1 := Lib.hid (B0w0.out.below hb)
  have B1w1 := Lib.hid (B1w0.out.below hb)
  have B2w1 := Lib.hid (B2w0.out.below hb)
  have B3w1 := Lib.hid (B3w0.out.below hb)
  have HB1 := Lib.hid (below_more HB0.out hb)
  have z0 : w1.frozen? ⟨w.heap.size + 1 + 1 + 1, 0, none⟩ = false := (hb.frozen (by simp only []; omega)).trans (FZ.out _ _ (by omega) (by omega))
  have z1 : w1.frozen? ⟨w.heap.size + 1 + 1 + 1, 1, none⟩ = false := (hb.frozen (by simp only []; omega)).trans (FZ.out _ _ (by omega) (by omega))
  have hz1 : w.heap.size + 1 + 1 + 1 < w1.heap.size := block_lt_of_cell (B3w1.out 0 _ rfl)
  clear hb
  have c0 := B0w1.out 0 _ rfl
  have c1 := B0w1.out 1 _ rfl
  have c2 := B1w1.out 0 _ rfl
  have c3 := B1w1.out 1 _ rfl
  have c4 := B2w1.out 0 _ rfl
  have c5 := B2w1.out 1 _ rfl
  have r0 := B3w1.out 0 _ rfl
  have r1 := B3w1.out 1 _ rfl
  have Z0 := Lib.hid z0
  have Z1 := Lib.hid z1
  clear z0 z1
  go_wp2_with fail
  clear c0 c1 c2 c3 c4 c5 r0 r1
  refine (impl_labok0 _ m _ (R2.out.below HB1.out)).mono ?_
  rintro e w2 ⟨rfl, hb⟩
  have B0w2 := Lib.hid (B0w1.out.below hb)
  have B1w2 := Lib.hid (B1w1.out.below hb)
  have B2w2 := Lib.hid (B2w1.out.below hb)
  have B3w2 := Lib.hid (B3w1.out.below hb)
  have HB2 := Lib.hid (below_more HB1.out hb)
  have z0 : w2.frozen? ⟨w.heap.size + 1 + 1 + 1, 0, none⟩ = false := (hb.frozen (by simp only []; omega)).trans Z0.out
  have z1 : w2.frozen? ⟨w.heap.size + 1 + 1 + 1, 1, none⟩ = false := (hb.frozen (by simp only []; omega)).trans Z1.out
  have hz2 : w.heap.size + 1 + 1 + 1 < w2.heap.size := block_lt_of_cell (B3w2.out 0 _ rfl)
  clear hb
  have c0 := B0w2.out 0 _ rfl
  have c1 := B0w2.out 1 _ rfl
  have c2 := B1w2.out 0 _ rfl
  have c3 := B1w2.out 1 _ rfl
  have c4 := B2w2.out 0 _ rfl
  have c5 := B2w2.out 1 _ rfl
  have r0 := B3w2.out 0 _ rfl
  have r1 := B3w2.out 1 _ rfl
  have Z0 := Lib.hid z0
  have Z1 := Lib.hid z1
  clear z0 z1
  go_wp2_with fail
  clear c0 c1 c2 c3 c4 c5 r0 r1
  refine (impl_labok0 _ o _ (R3.out.below HB2.out)).mono ?_
  rintro e w3 ⟨rfl, hb⟩
  have B0w3 := Lib.hid (B0w2.out.below hb)
  have B1w3 := Lib.hid (B1w2.out.below hb)
  have B2w3 := Lib.hid (B2w2.out.below hb)
  have B3w3 := Lib.hid (B3w2.out.below hb)
  have HB3 := Lib.hid (below_more HB2.out hb)
  have z0 : w3.frozen? ⟨w.heap.size + 1 + 1 + 1, 0, none⟩ = false := (hb.frozen (by simp only []; omega)).trans Z0.out
  have z1 : w3.frozen? ⟨w.heap.size + 1 + 1 + 1, 1, none⟩ = false := (hb.frozen (by simp only []; omega)).trans Z1.out
  have hz3 : w.heap.size + 1 + 1 + 1 < w3.heap.size := block_lt_of_cell (B3w3.out 0 _ rfl)
  clear hb
  have c0 := B0w3.out 0 _ rfl
  have c1 := B0w3.out 1 _ rfl
  have c2 := B1w3.out 0 _ rfl
  have c3 := B1w3.out 1 _ rfl
  have c4 := B2w3.out 0 _ rfl
  have c5 := B2w3.out 1 _ rfl
  have r0 := B3w3.out 0 _ rfl
  have r1 := B3w3.out 1 _ rfl
  have HC : Hid (Below w3.heap.size w3 w3) := Lib.hid (.refl _ _)
  have R1w := Lib.hid (R1.out.below HB3.out)
  have R2w := Lib.hid (R2.out.below HB3.out)
  have HA3w := Lib.hid (HA3.out.below HB3.out)
  have s1 := labOk_short hl
  have s2 := labOk_short hm
  have s3 := labOk_short ho
  have s4 := hs2_length l m
  have HH : Hid (handlesOf l m = hs2 l m) := Lib.hid (handlesOf_yes hl hm)
  have HS4 : Hid ((hs2 l m).length ≤ 16) := Lib.hid (by omega)
  have HS3 : Hid (n'' ≤ 8) := Lib.hid (by have := HN3.out; omega)
  clear s1 s2 s3 s4
  go_wp2
  go_region_held3 (fun w' => w'.cell? ⟨w.heap.size, 0, none⟩ = some (.int .i64 l.base) ∧ w'.cell? ⟨w.heap.size, 1, none⟩ = some (.slice A n c) ∧ w'.cell? ⟨w.heap.size + 1, 0, none⟩ = some (.int .i64 m.base) ∧ w'.cell? ⟨w.heap.size + 1, 1, none⟩ = some (.slice B n' d) ∧ w'.cell? ⟨w.heap.size + 1 + 1, 0, none⟩ = some (.int .i64 o.base) ∧ w'.cell? ⟨w.heap.size + 1 + 1, 1, none⟩ = some (.slice C n'' f))
    (first | exact ⟨f0, f1, f2, f3, f4, f5⟩ | go_keep)
    (first
      | (go_at_call 27
         refine (impl_handlesof _ _ l m _ (by first | exact R1w.out.below HC.out | exact (R1w.out.below HC.out).drew | exact (R1w.out.below HC.out).alloc _ | exact ((R1w.out.below HC.out).alloc _).drew) (by first | exact R2w.out.below HC.out | exact (R2w.out.below HC.out).drew | exact (R2w.out.below HC.out).alloc _ | exact ((R2w.out.below HC.out).alloc _).drew)).mono ?_
         rintro e wn ⟨vh, rfl, hownh, hb⟩
         have hlo := HC.out.size
         have HC' : Hid (Below w3.heap.size w3 wn) := Lib.hid (by first | exact below_more HC.out hb | exact below_more HC.out (below_undrew hb) | exact below_more HC.out (over_alloc hb) | exact below_more HC.out (below_undrew (over_alloc hb)) | exact below_more HC.out (over_alloc (below_dr hb)))
         try (have HOk' := Lib.hid (own_below HOk.out (by first | exact hb | exact below_undrew hb))
              clear HOk
              have HOk := HOk'
              clear HOk')
         clear HC
         have HC := HC'
         clear HC'
         try clear f0 f1 f2 f3 f4 f5
         have f0 : wn.cell? ⟨w.heap.size, 0, none⟩ = some (.int .i64 l.base) := B0w3.out.below HC.out 0 _ rfl
         have f1 : wn.cell? ⟨w.heap.size, 1, none⟩ = some (.slice A n c) := B0w3.out.below HC.out 1 _ rfl
         have f2 : wn.cell? ⟨w.heap.size + 1, 0, none⟩ = some (.int .i64 m.base) := B1w3.out.below HC.out 0 _ rfl
         have f3 : wn.cell? ⟨w.heap.size + 1, 1, none⟩ = some (.slice B n' d) := B1w3.out.below HC.out 1 _ rfl
         have f4 : wn.cell? ⟨w.heap.size + 1 + 1, 0, none⟩ = some (.int .i64 o.base) := B2w3.out.below HC.out 0 _ rfl
         have f5 : wn.cell? ⟨w.heap.size + 1 + 1, 1, none⟩ = some (.slice C n'' f) := B2w3.out.below HC.out 1 _ rfl
         rw [HH.out] at hownh
         obtain ⟨Nh, hNh⟩ : ∃ Nh, Nh = (hs2 l m).length := ⟨_, rfl⟩
         rw [← hNh] at hownh
         have HNh := Lib.hid hNh
         have hNh16 : Nh ≤ 16 := by have := HS4.out; omega
         obtain ⟨Ah, kh, rfl, -, -, -⟩ := own_at hownh
         have HOh := Lib.hid (own_lower hownh (show w3.heap.size ≤ _ from hlo))
         clear hb hownh hlo hNh)
      | (go_at_call 28
         refine (impl_parts _ _ _ _ _).mono ?_
         rintro e wn ⟨rfl, hb⟩
         try (have HOh' := Lib.hid (own_below HOh.out (by first | exact hb | exact below_undrew hb))
              clear HOh
              have HOh := HOh'
              clear HOh')
         have HC' : Hid (Below w3.heap.size w3 wn) := Lib.hid (by first | exact below_more HC.out hb | exact below_more HC.out (below_undrew hb) | exact below_more HC.out (over_alloc hb) | exact below_more HC.out (below_undrew (over_alloc hb)) | exact below_more HC.out (over_alloc (below_dr hb)))
         clear HC
         have HC := HC'
         clear HC'
         try clear f0 f1 f2 f3 f4 f5
         have f0 : wn.cell? ⟨w.heap.size, 0, none⟩ = some (.int .i64 l.base) := B0w3.out.below HC.out 0 _ rfl
         have f1 : wn.cell? ⟨w.heap.size, 1, none⟩ = some (.slice A n c) := B0w3.out.below HC.out 1 _ rfl
         have f2 : wn.cell? ⟨w.heap.size + 1, 0, none⟩ = some (.int .i64 m.base) := B1w3.out.below HC.out 0 _ rfl
         have f3 : wn.cell? ⟨w.heap.size + 1, 1, none⟩ = some (.slice B n' d) := B1w3.out.below HC.out 1 _ rfl
         have f4 : wn.cell? ⟨w.heap.size + 1 + 1, 0, none⟩ = some (.int .i64 o.base) := B2w3.out.below HC.out 0 _ rfl
         have f5 : wn.cell? ⟨w.heap.size + 1 + 1, 1, none⟩ = some (.slice C n'' f) := B2w3.out.below HC.out 1 _ rfl
         clear hb)
      | (go_at_call 29
         refine (impl_keys C n'' f o.parts _ (by first | exact HA3w.out.below HC.out | exact (HA3w.out.below HC.out).drew | exact (HA3w.out.below HC.out).alloc _ | exact ((HA3w.out.below HC.out).alloc _).drew) HN3.out (by have := HS3.out; omega)).mono ?_
         rintro e wn ⟨vk, rfl, hownk, hb⟩
         have hlo := HC.out.size
         try (have HOh' := Lib.hid (own_below HOh.out (by first | exact hb | exact below_undrew hb))
              clear HOh
              have HOh := HOh'
              clear HOh')
         have HC' : Hid (Below w3.heap.size w3 wn) := Lib.hid (by first | exact below_more HC.out hb | exact below_more HC.out (below_undrew hb) | exact below_more HC.out (over_alloc hb) | exact below_more HC.out (below_undrew (over_alloc hb)) | exact below_more HC.out (over_alloc (below_dr hb)))
         clear HC
         have HC := HC'
         clear HC'
         try clear f0 f1 f2 f3 f4 f5
         have f0 : wn.cell? ⟨w.heap.size, 0, none⟩ = some (.int .i64 l.base) := B0w3.out.below HC.out 0 _ rfl
         have f1 : wn.cell? ⟨w.heap.size, 1, none⟩ = some (.slice A n c) := B0w3.out.below HC.out 1 _ rfl
         have f2 : wn.cell? ⟨w.heap.size + 1, 0, none⟩ = some (.int .i64 m.base) := B1w3.out.below HC.out 0 _ rfl
         have f3 : wn.cell? ⟨w.heap.size + 1, 1, none⟩ = some (.slice B n' d) := B1w3.out.below HC.out 1 _ rfl
         have f4 : wn.cell? ⟨w.heap.size + 1 + 1, 0, none⟩ = some (.int .i64 o.base) := B2w3.out.below HC.out 0 _ rfl
         have f5 : wn.cell? ⟨w.heap.size + 1 + 1, 1, none⟩ = some (.slice C n'' f) := B2w3.out.below HC.out 1 _ rfl
         obtain ⟨Ak, kk, rfl, -, -, -⟩ := own_at hownk
         have HOk := Lib.hid (own_lower hownk (show w3.heap.size ≤ _ from hlo))
         clear hb hownk hlo)
      | (refine step_app elemInt rfl (.tmp 26) (.tmp 29) rfl w3.heap.size (.slice Ah Nh kh) Nh (nmcells (hs2 l m)) rfl HOh.out Ak n'' kk (nmcells (o.parts.map (·.1))) rfl (own_read HOk.out) (by have := HN3.out; rw [nmcells_length, List.length_map]; omega) (nmcells_one _) (by have := HS3.out; omega) (by have := HS3.out; omega) (by exact HC.out.size) ?_
         intro v4 w4 hap
         have HP4 := Lib.hid hap
         have HC4 : Hid (Below w3.heap.size w3 w4) := Lib.hid (HC.out.grown hap.grown HC.out.size (fun j hj => (HOh.out.lt j hj).1))
         clear HC
         try clear f0 f1 f2 f3 f4 f5
         have f0 : w4.cell? ⟨w.heap.size, 0, none⟩ = some (.int .i64 l.base) := B0w3.out.below HC4.out 0 _ rfl
         have f1 : w4.cell? ⟨w.heap.size, 1, none⟩ = some (.slice A n c) := B0w3.out.below HC4.out 1 _ rfl
         have f2 : w4.cell? ⟨w.heap.size + 1, 0, none⟩ = some (.int .i64 m.base) := B1w3.out.below HC4.out 0 _ rfl
         have f3 : w4.cell? ⟨w.heap.size + 1, 1, none⟩ = some (.slice B n' d) := B1w3.out.below HC4.out 1 _ rfl
         have f4 : w4.cell? ⟨w.heap.size + 1 + 1, 0, none⟩ = some (.int .i64 o.base) := B2w3.out.below HC4.out 0 _ rfl
         have f5 : w4.cell? ⟨w.heap.size + 1 + 1, 1, none⟩ = some (.slice C n'' f) := B2w3.out.below HC4.out 1 _ rfl
         clear hap))
  obtain ⟨A8, k8, rfl, -, -, -⟩ := own_at HP4.out.own
  have HA8 : Hid (At w4 A8 (nmcells (hs21 l m o))) := Lib.hid (by unfold hs21; rw [nmcells_append]; exact own_read HP4.out.own)
  have HL8 : Hid ((hs21 l m o).length = Nh + n'') := Lib.hid (by have := HN3.out; have := HNh.out; unfold hs21; rw [List.length_append, List.length_map]; omega)
  have HO8 := Lib.hid (hs21_ok hl hm ho)
  have HF8 : Hid (∀ h ∈ hs21 l m o, lvOk (heardLev (lev l h) (lev m h) (lev o h)) = true) := Lib.hid (fun x _ => heardLev_lv (lev_lv hl x) (lev_lv hm x) (lev_lv ho x))
  have HB8 := Lib.hid (heardLev_lv (labOk_base_of hl) (labOk_base_of hm) (labOk_base_of ho))
  have LB0 := Lib.hid (labOk_base_of hl)
  have LB1 := Lib.hid (labOk_base_of hm)
  have LB2 := Lib.hid (labOk_base_of ho)
  have RI := Lib.hid (labOk_rises hl)
  have HB4 := Lib.hid (below_more HB3.out HC4.out)
  have R1v := Lib.hid (R1.out.below HB4.out)
  have R2v := Lib.hid (R2.out.below HB4.out)
  have R3v := Lib.hid (R3.out.below HB4.out)
  have B0w4 := Lib.hid (B0w3.out.below HC4.out)
  have B1w4 := Lib.hid (B1w3.out.below HC4.out)
  have B2w4 := Lib.hid (B2w3.out.below HC4.out)
  have B3w4 := Lib.hid (B3w3.out.below HC4.out)
  have hn8 : Nh + n'' ≤ 100 := by have := HS3.out; omega
  have hz4 : w.heap.size + 1 + 1 + 1 < w4.heap.size := block_lt_of_cell (B3w4.out 0 _ rfl)
  have y0 : w4.frozen? ⟨w.heap.size + 1 + 1 + 1, 0, none⟩ = false := (HC4.out.frozen (by simp only []; omega)).trans z0
  have y1 : w4.frozen? ⟨w.heap.size + 1 + 1 + 1, 1, none⟩ = false := (HC4.out.frozen (by simp only []; omega)).trans z1
  have Y0 := Lib.hid y0
  have Y1 := Lib.hid y1
  clear HP4 HC4 f0 f1 f2 f3 f4 f5 c0 c1 c2 c3 c4 c5 r0 r1 z0 z1 y0 y1
  have c0 := B0w4.out 0 _ rfl
  have c1 := B0w4.out 1 _ rfl
  have c2 := B1w4.out 0 _ rfl
  have c3 := B1w4.out 1 _ rfl
  have c4 := B2w4.out 0 _ rfl
  have c5 := B2w4.out 1 _ rfl
  have r0 := B3w4.out 0 _ rfl
  have r1 := B3w4.out 1 _ rfl
  clear r0 r1
  have HC := Lib.hid (Below.refl w4.heap.size w4)
  go_upto_region 4 with fail
  go_cut [9] (fun s wx => Boxed w4 (keepT l m o) true s (.bool true) wx)
  case first =>
    go_region_held3 (fun w' => w'.cell? ⟨w.heap.size, 0, none⟩ = some (.int .i64 l.base) ∧ w'.cell? ⟨w.heap.size, 1, none⟩ = some (.slice A n c) ∧ w'.cell? ⟨w.heap.size + 1, 0, none⟩ = some (.int .i64 m.base) ∧ w'.cell? ⟨w.heap.size + 1, 1, none⟩ = some (.slice B n' d) ∧ w'.cell? ⟨w.heap.size + 1 + 1, 0, none⟩ = some (.int .i64 o.base) ∧ w'.cell? ⟨w.heap.size + 1 + 1, 1, none⟩ = some (.slice C n'' f))
      (first | exact ⟨f0, f1, f2, f3, f4, f5⟩ | go_keep)
      (first
        | (go_at_call 31
           refine (impl_heard LB0.out LB1.out LB2.out _).mono ?_
           rintro e w' ⟨rfl, rfl⟩)
        | (go_at_call 30
           refine (impl_keepT _ _ _ _ l (heardLev l.base m.base o.base) (hs21 l m o) (fun h => heardLev (lev l h) (lev m h) (lev o h)) A8 (Nh + n'') k8 _ (by first | exact R1v.out | exact R1v.out.drew | exact R1v.out.alloc _ | exact (R1v.out.alloc _).drew | exact R1v.out.drew.alloc _) RI.out HB8.out HL8.out hn8
             (by first | exact HA8.out | exact HA8.out.drew | exact HA8.out.alloc _ | exact (HA8.out.alloc _).drew | exact HA8.out.drew.alloc _) HO8.out HF8.out
             (fun x w9 _ hb9 => by
               have hx9 : Below w4.heap.size w4 w9 := by first | exact hb9 | exact over_alloc hb9 | exact below_undrew hb9 | exact over_alloc (below_dr hb9) | exact below_undrew (over_alloc hb9)
               exact impl_tell x _ _ _ A B C n c n' d n'' f l m o w9 (B0w4.out.below hx9) (B1w4.out.below hx9) (B2w4.out.below hx9) (R1v.out.below hx9) (R2v.out.below hx9) (R3v.out.below hx9) hl hm ho)).mono ?_
           rintro e wn ⟨vv, rfl, own, hb⟩
           have HC0 := HC.out.size
           first
           | (have HY : Hid (Fresh wn _) := Lib.hid (by first | exact Fresh.new hb | exact Fresh.new (below_dr hb))
              have ne0 : w.heap.size ≠ _ := Nat.ne_of_lt (Nat.lt_of_lt_of_le (show w.heap.size < w4.heap.size by omega) HC0)
              have nf0 := Ne.symm ne0
              have ne1 : w.heap.size + 1 ≠ _ := Nat.ne_of_lt (Nat.lt_of_lt_of_le (show w.heap.size + 1 < w4.heap.size by omega) HC0)
              have nf1 := Ne.symm ne1
              have ne2 : w.heap.size + 1 + 1 ≠ _ := Nat.ne_of_lt (Nat.lt_of_lt_of_le (show w.heap.size + 1 + 1 < w4.heap.size by omega) HC0)
              have nf2 := Ne.symm ne2
              have HYl := HC0
              have hy0 := HY.out.c0
              have hy1 := HY.out.c1
              have hq0 := HY.out.f0
              have hq1 := HY.out.f1)
           | skip
           have HC' : Hid (Below w4.heap.size w4 wn) := Lib.hid (by first | exact below_more HC.out hb | exact below_more HC.out (below_undrew hb) | exact below_more HC.out (over_alloc hb) | exact below_more HC.out (below_undrew (over_alloc hb)) | exact below_more HC.out (over_alloc (below_dr hb)))
           clear HC
           have HC := HC'
           clear HC'
           try clear f0 f1 f2 f3 f4 f5
           have f0 : wn.cell? ⟨w.heap.size, 0, none⟩ = some (.int .i64 l.base) := B0w4.out.below HC.out 0 _ rfl
           have f1 : wn.cell? ⟨w.heap.size, 1, none⟩ = some (.slice A n c) := B0w4.out.below HC.out 1 _ rfl
           have f2 : wn.cell? ⟨w.heap.size + 1, 0, none⟩ = some (.int .i64 m.base) := B1w4.out.below HC.out 0 _ rfl
           have f3 : wn.cell? ⟨w.heap.size + 1, 1, none⟩ = some (.slice B n' d) := B1w4.out.below HC.out 1 _ rfl
           have f4 : wn.cell? ⟨w.heap.size + 1 + 1, 0, none⟩ = some (.int .i64 o.base) := B2w4.out.below HC.out 0 _ rfl
           have f5 : wn.cell? ⟨w.heap.size + 1 + 1, 1, none⟩ = some (.slice C n'' f) := B2w4.out.below HC.out 1 _ rfl
           have HOs := HC0
           have OW := Lib.hid own
           obtain ⟨A5, n5, c5, rfl, -, -, -⟩ := own
           clear hb))
    all_goals
      go_wp2_with fail
      go_meet
      first
      | exact Boxed.laid HC.out OW.out HOs
      | exact Boxed.stored HC.out HYl HY.out OW.out (by first | exact HYb | (simp; done) | omega)
  obtain ⟨g5, A5, n5, c5, rfl, -, hb, hgo, u0, u1, own⟩ := hcut
  obtain ⟨w5, hw5⟩ : ∃ w5, w5 = wc := ⟨_, rfl⟩
  rw [← hw5] at hb u0 u1 own ⊢
  clear hw5 HC
  have HB5 := Lib.hid (below_more HB4.out hb)
  have r0 := B3w4.out.below hb 0 _ rfl
  have r1 := B3w4.out.below hb 1 _ rfl
  have z0 : w5.frozen? ⟨w.heap.size + 1 + 1 + 1, 0, none⟩ = false := (hb.frozen (by simp only []; omega)).trans Y0.out
  have z1 : w5.frozen? ⟨w.heap.size + 1 + 1 + 1, 1, none⟩ = false := (hb.frozen (by simp only []; omega)).trans Y1.out
  have hz5 : w.heap.size + 1 + 1 + 1 < w5.heap.size := block_lt_of_cell r0
  have OW := Lib.hid own
  obtain ⟨A6, n6, c6, h6, hl6, -, -⟩ := own
  simp only [Value.agg.injEq, Array.mk.injEq, List.cons.injEq, Value.slice.injEq, and_true, true_and] at h6
  obtain ⟨rfl, rfl, rfl⟩ := h6
  have HL6 := Lib.hid hl6
  clear hb hl6
  by_cases h8 : 8 < n5
  · have HR : Hid (taintL l m o = (noLab, false)) := Lib.hid (by rw [HT.out, if_pos (by have := HL6.out; omega)])
    have h8' : (8 : Int) < (n5 : Int) := by omega
    go_wp2
    refine bodyPost_ret (v := .tuple #[.agg #[.int .i64 0, .slice none 0 0], .bool false]) (by simp [results, Try.results8, go_sem, r0, r1]) rfl ?_
    rw [HR.out]
    exact ⟨_, rfl, own_nil _ _ _, (HB5.out.setCell (by simp only []; omega) _).setCell (by simp only []; omega) _⟩
  · have HR : Hid (taintL l m o = (keepT l m o, true)) := Lib.hid (by rw [HT.out, if_neg (by have := HL6.out; omega)])
    have h8' : ¬ (8 : Int) < (n5 : Int) := by omega
    go_wp2
    refine bodyPost_ret (v := .tuple #[.agg #[.int .i64 (keepT l m o).base, .slice A5 n5 c5], .bool true]) (by simp [results, Try.results8, go_sem, r0, r1]) rfl ?_
    rw [HR.out]
    exact ⟨_, rfl, ((OW.out.past (by omega)).past (by omega)).lower (by omega), (HB5.out.setCell (by simp only []; omega) _).setCell (by simp only []; omega) _⟩
end Go.Proofs.Ytjdnobihhkmmpaa
