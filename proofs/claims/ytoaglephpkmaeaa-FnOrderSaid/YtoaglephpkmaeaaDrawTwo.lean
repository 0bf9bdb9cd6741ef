/-
  The draws of chapter 3 and of taint: two labels, whatever, of the call's own; the cursor stays one.
-/
import Derived.Test.YtoaglephpkmaeaaDrawAny
import Derived.Deep.RegionHeld3
import Derived.Deep.RegionWith
import Derived.Test.YtoaglephpkmaeaaSpecJoin2
namespace Go.Proofs.Ytoaglephpkmaeaa
set_option maxRecDepth 100000
open Go.RowKit

/-- Two labels, whatever, of the call's own. -/
def DrawnLabs (p : Nat) (a : Option Addr) (len cap : Nat) (w : World) (e : Ending) (w' : World) : Prop :=
  ∃ v u l m, e = .returned (.tuple #[v, u]) ∧ OwnLab w.heap.size w' v l ∧ OwnLab w.heap.size w' u m ∧ IsCur p a len cap w' ∧ w.grownBy w' (some p)

theorem stored4 {w w5 : World} {p : Nat} {a : Option Addr} {len cap : Nat} {b1 b2 : Nat} {l m : Lab} {A B : Option Addr} {n c k d : Nat} (hp : p < w.heap.size) (hg : w.grownBy w5 (some p)) (hc : IsCur p a len cap w5) (h1 : w.heap.size + 1 + 1 ≤ b1) (h2 : w.heap.size + 1 + 1 ≤ b2)
    (ho1 : OwnLab b1 w5 (.agg #[.int .i64 l.base, .slice A n c]) l) (ho2 : OwnLab b2 w5 (.agg #[.int .i64 m.base, .slice B k d]) m) (x0 x1 y0 y1 : Value) :
    DrawnLabs p a len cap w (.returned (.tuple #[.agg #[.int .i64 l.base, .slice A n c], .agg #[.int .i64 m.base, .slice B k d]]))
      ((((w5.setCell ⟨w.heap.size, 0, none⟩ x0).setCell ⟨w.heap.size, 1, none⟩ x1).setCell ⟨w.heap.size + 1, 0, none⟩ y0).setCell ⟨w.heap.size + 1, 1, none⟩ y1) := by
  have hb : ∀ g, g ≠ w.heap.size → g ≠ w.heap.size + 1 → ((((w5.setCell ⟨w.heap.size, 0, none⟩ x0).setCell ⟨w.heap.size, 1, none⟩ x1).setCell ⟨w.heap.size + 1, 0, none⟩ y0).setCell ⟨w.heap.size + 1, 1, none⟩ y1).heap[g]? = w5.heap[g]? := fun g e1 e2 => by
    rw [Below.heap_setCell _ _ _ _ (by simpa using e2), Below.heap_setCell _ _ _ _ (by simpa using e2), Below.heap_setCell _ _ _ _ (by simpa using e1), Below.heap_setCell _ _ _ _ (by simpa using e1)]
  exact ⟨_, _, l, m, rfl, ((((ho1.past (by omega)).past (by omega)).past (by omega)).past (by omega)).lower (by omega), ((((ho2.past (by omega)).past (by omega)).past (by omega)).past (by omega)).lower (by omega),
    hc.block (hb p (by omega) (by omega)), ⟨hg.os, hg.tape, hg.output, by simpa using hg.size, fun g hl hne => by rw [hb g (by omega) (by omega)]; exact hg.block g hl hne⟩⟩

theorem DrawnLabs.drew {p : Nat} {a : Option Addr} {len cap : Nat} {w w' : World} {e : Ending} (h : DrawnLabs p a len cap w e w') : DrawnLabs p a len cap w e w'.drew := by
  obtain ⟨v, u, l, m, rfl, h1, h2, h3, h4⟩ := h
  exact ⟨v, u, l, m, rfl, h1.below (Below.refl _ _).drew, h2.below (Below.refl _ _).drew, h3.drew, gb_drew h4⟩

set_option maxHeartbeats 4000000 in
theorem draw_two (p : Nat) (a : Option Addr) (len cap : Nat) (zs : List Int) (w : World) (hl : len ≤ 4096) (hc : IsCur p a len cap w) (hr : CurRow w p a len cap zs) :
    Calls Try.prog 23 #[.pointer (some ⟨p, 0, none⟩)] w (DrawnLabs p a len cap w) := by
  have hp := hc.lt
  go_enter Try.func23, Try.ntmps23
  go_wp2_with fail
  generalize hW : (w.alloc (.cells #[.int .i64 0, .slice none 0 0] 26)).alloc (.cells #[.int .i64 0, .slice none 0 0] 26) = w0
  have fr1 : Fresh w0 w.heap.size := by rw [← hW]; exact Fresh.alloc Fresh.one _
  have fr2 : Fresh w0 (w.heap.size + 1) := by rw [← hW]; have h := Fresh.one (w := w.alloc (.cells #[.int .i64 0, .slice none 0 0] 26)) (t := 26); rwa [World.size_alloc] at h
  have hg0 : w.grownBy w0 (some p) := by rw [← hW]; exact gb_trans (World.grownBy_alloc _ _ _) (World.grownBy_alloc _ _ _)
  have hs0 : w0.heap.size = w.heap.size + 1 + 1 := by rw [← hW]; simp
  have hc0 : IsCur p a len cap w0 := by rw [← hW]; exact (hc.alloc _).alloc _
  clear hW
  refine (draw_any p a len cap zs _ hl hc0 (hr.kept hg0)).mono ?_
  rintro e w1 ⟨v, l, rfl, hown, -, hc1, hg1⟩
  have hg01 := gb_trans hg0 hg1
  have fr1 := fr1.kept hg1 (by omega)
  have fr2 := fr2.kept hg1 (by omega)
  have hs1 := hg1.size
  have HL := Lib.hid hown
  have HLr := Lib.hid (fun k hk => (hown.row k hk).2)
  obtain ⟨A, n, c, rfl, -, -, -⟩ := hown
  clear hg1 hg0 hc0
  go_wp2_with fail
  refine (draw_any p a len cap zs _ hl (hc1.alloc _) (hr.kept (gb_trans hg01 (World.grownBy_alloc _ _ _)))).mono ?_
  rintro e w2 ⟨u, m, rfl, hown2, -, hc2, hg2⟩
  have hg2' := gb_trans (World.grownBy_alloc w1 (.cells #[.int .i64 l.base, .slice A n c] 26) (some p)) hg2
  have hg02 := gb_trans hg01 hg2'
  have hs2 := hg2.size
  simp at hs2
  have b4 := Has.kept (Has.one (w := w1) (cs := #[.int .i64 l.base, .slice A n c]) (t := 26)) hg2 (by omega)
  have fr1 := fr1.kept hg2' (by omega)
  have fr2 := fr2.kept hg2' (by omega)
  have HL2 : Hid (OwnLab w0.heap.size w2 _ l) := Lib.hid (HL.out.kept hg2' (fun k hk => by have := Option.some.inj hk; omega))
  have HM2 : Hid (OwnLab (w1.heap.size + 1) w2 u m) := Lib.hid (hown2.lower (by simp))
  obtain ⟨B, n', d, rfl, -, -, -⟩ := hown2
  clear hg2 hg2' hg01 hc1 HL
  go_wp2_with fail
  refine (once_any p a len cap zs _ _ hl (by omega) (by omega) (hc2.alloc _) (hr.kept (gb_trans hg02 (World.grownBy_alloc _ _ _)))).mono ?_
  rintro e w3 ⟨b, rfl, hc3, hg3⟩
  have hg3' := gb_trans (World.grownBy_alloc w2 (.cells #[.int .i64 m.base, .slice B n' d] 26) (some p)) hg3
  have hg03 := gb_trans hg02 hg3'
  have hs3 := hg3.size
  simp at hs3
  have b4 := b4.kept hg3' (by omega)
  have b5 := Has.kept (Has.one (w := w2) (cs := #[.int .i64 m.base, .slice B n' d]) (t := 26)) hg3 (by omega)
  have q5 : w3.frozen? ⟨w2.heap.size, 0, none⟩ = false := (keep_frozen hg3 (by simp) (by omega)).trans (by simp)
  have q6 : w3.frozen? ⟨w2.heap.size, 1, none⟩ = false := (keep_frozen hg3 (by simp) (by omega)).trans (by simp)
  have fr1 := fr1.kept hg3' (by omega)
  have fr2 := fr2.kept hg3' (by omega)
  have HL3 : Hid (OwnLab w0.heap.size w3 _ l) := Lib.hid (HL2.out.kept hg3' (fun k hk => by have := Option.some.inj hk; omega))
  have HM3 : Hid (OwnLab (w1.heap.size + 1) w3 _ m) := Lib.hid (HM2.out.kept hg3' (fun k hk => by have := Option.some.inj hk; omega))
  have k0 := b4 0 _ rfl
  have k1 := b4 1 _ rfl
  have j0 := b5 0 _ rfl
  have j1 := b5 1 _ rfl
  have BB := Lib.hid b4
  have z3 : w2.heap.size < w3.heap.size := by omega
  have FR1 := Lib.hid fr1
  have FR2 := Lib.hid fr2
  clear hg3 hg3' hg02 hc2 HL2 HM2 b4 b5 fr1 fr2
  have n1 : w.heap.size ≠ w1.heap.size := by omega
  have n2 : w1.heap.size ≠ w.heap.size := by omega
  have n3 : w.heap.size ≠ w2.heap.size := by omega
  have n4 : w2.heap.size ≠ w.heap.size := by omega
  have n5 : w.heap.size + 1 ≠ w2.heap.size := by omega
  have n6 : w2.heap.size ≠ w.heap.size + 1 := by omega
  have n7 : w.heap.size + 1 ≠ w1.heap.size := by omega
  have n8 : w1.heap.size ≠ w.heap.size + 1 := by omega
  cases b
  · have c0 := FR1.out.c0
    have c1 := FR1.out.c1
    have c2 := FR2.out.c0
    have c3 := FR2.out.c1
    have g0 := FR1.out.f0
    have g1 := FR1.out.f1
    have g2 := FR2.out.f0
    have g3 := FR2.out.f1
    go_wp2
    go_region
    go_wp2
    refine bodyPost_ret (v := .tuple #[.agg #[.int .i64 l.base, .slice A n c], .agg #[.int .i64 m.base, .slice B n' d]]) (by simp [results, Try.results23, go_sem, c0, c1, c2, c3]) rfl ?_
    first
    | exact stored4 hp hg03 hc3 (by omega) (by omega) HL3.out HM3.out _ _ _ _
    | exact (stored4 hp hg03 hc3 (by omega) (by omega) HL3.out HM3.out _ _ _ _).drew
  · have hok : ∀ w4, Below w3.heap.size w3 w4 → RdLab w4 (.agg #[.int .i64 l.base, .slice A n c]) l ∧ RdLab w4 (.agg #[.int .i64 m.base, .slice B n' d]) m := fun w4 hb => ⟨HL3.out.rd.below hb, HM3.out.rd.below hb⟩
    obtain ⟨hrl, hrm⟩ := hok w3 (.refl _ _)
    go_wp2_with fail
    refine (spec_join _ _ l m _ hrl hrm).mono ?_
    rintro e w4 ⟨v4, rfl, hown4, hb4⟩
    have FR1' := Lib.hid (FR1.out.below hb4)
    have FR2' := Lib.hid (FR2.out.below hb4)
    have k0' := (hb4.cell (p := ⟨w1.heap.size, 0, none⟩) (by simp only []; omega)).trans k0
    have k1' := (hb4.cell (p := ⟨w1.heap.size, 1, none⟩) (by simp only []; omega)).trans k1
    have j0' := (hb4.cell (p := ⟨w2.heap.size, 0, none⟩) (by simp only []; omega)).trans j0
    have j1' := (hb4.cell (p := ⟨w2.heap.size, 1, none⟩) (by simp only []; omega)).trans j1
    have q5' := (hb4.frozen (p := ⟨w2.heap.size, 0, none⟩) (by simp only []; omega)).trans q5
    have q6' := (hb4.frozen (p := ⟨w2.heap.size, 1, none⟩) (by simp only []; omega)).trans q6
    have hg04 := gb_trans hg03 (gb_of_below hb4 (some p))
    have hc4 := hc3.block (hb4.block p hc3.lt)
    have HL4 := Lib.hid (HL3.out.below hb4)
    have HJ4 := Lib.hid hown4
    have hs4 := hb4.size
    obtain ⟨A4, n4, c4, rfl, -, -, -⟩ := hown4
    clear hb4 hok hrl hrm FR1 FR2 k0 k1 j0 j1 q5 q6 HL3 HM3 hg03 hc3
    have c0 := FR1'.out.c0
    have c1 := FR1'.out.c1
    have c2 := FR2'.out.c0
    have c3 := FR2'.out.c1
    have g0 := FR1'.out.f0
    have g1 := FR1'.out.f1
    have g2 := FR2'.out.f0
    have g3 := FR2'.out.f1
    go_wp2
    generalize hW : (w4.setCell ⟨w2.heap.size, 0, none⟩ (.int .i64 (joinL l m).1.base)).setCell ⟨w2.heap.size, 1, none⟩ (.slice A4 n4 c4) = w5
    have hb5 : Below w3.heap.size w4 w4 := .refl _ _
    have hblk : ∀ b, b ≠ w2.heap.size → w5.heap[b]? = w4.heap[b]? := fun b hb => by rw [← hW, Below.heap_setCell _ _ _ _ (by simpa using hb), Below.heap_setCell _ _ _ _ (by simpa using hb)]
    have hs5 : w5.heap.size = w4.heap.size := by rw [← hW]; simp
    have hg05 : w.grownBy w5 (some p) := ⟨by rw [← hW]; exact hg04.os, by rw [← hW]; exact hg04.tape, by rw [← hW]; exact hg04.output, by rw [hs5]; exact hg04.size, fun b hl hne => by rw [hblk b (by omega)]; exact hg04.block b hl hne⟩
    have hc5 : IsCur p a len cap w5 := hc4.block (hblk p (by omega))
    have hg45 : w4.grownBy w5 (some w2.heap.size) := ⟨by rw [← hW]; rfl, by rw [← hW]; rfl, by rw [← hW]; rfl, by omega, fun b _ hne => hblk b (fun e => hne (by rw [e]))⟩
    have HL5 := Lib.hid (HL4.out.keptBy hg45 (fun k hk e => by have := HLr.out k hk; have := Option.some.inj e; omega))
    have HJ5 := Lib.hid (HJ4.out.kept hg45 (fun k hk => by have := Option.some.inj hk; omega))
    have e0 : w5.cell? ⟨w1.heap.size, 0, none⟩ = some (.int .i64 l.base) := by rw [← hW]; simp [go_sem, k0']
    have e1 : w5.cell? ⟨w1.heap.size, 1, none⟩ = some (.slice A n c) := by rw [← hW]; simp [go_sem, k1']
    have e2 : w5.cell? ⟨w2.heap.size, 0, none⟩ = some (.int .i64 (joinL l m).1.base) := by rw [← hW]; simp [go_sem, j0']
    have e3 : w5.cell? ⟨w2.heap.size, 1, none⟩ = some (.slice A4 n4 c4) := by rw [← hW]; simp [go_sem, j1']
    have d0 : w5.cell? ⟨w.heap.size, 0, none⟩ = some (.int .i64 0) := by rw [← hW]; simp [go_sem, c0]
    have d1 : w5.cell? ⟨w.heap.size, 1, none⟩ = some (.slice none 0 0) := by rw [← hW]; simp [go_sem, c1]
    have d2 : w5.cell? ⟨w.heap.size + 1, 0, none⟩ = some (.int .i64 0) := by rw [← hW]; simp [go_sem, c2]
    have d3 : w5.cell? ⟨w.heap.size + 1, 1, none⟩ = some (.slice none 0 0) := by rw [← hW]; simp [go_sem, c3]
    have f0 : w5.frozen? ⟨w.heap.size, 0, none⟩ = false := by rw [← hW]; simp [go_sem, g0]
    have f1 : w5.frozen? ⟨w.heap.size, 1, none⟩ = false := by rw [← hW]; simp [go_sem, g1]
    have f2 : w5.frozen? ⟨w.heap.size + 1, 0, none⟩ = false := by rw [← hW]; simp [go_sem, g2]
    have f3 : w5.frozen? ⟨w.heap.size + 1, 1, none⟩ = false := by rw [← hW]; simp [go_sem, g3]
    clear hW k0' k1' j0' j1' c0 c1 c2 c3 g0 g1 g2 g3 q5' q6' hblk hg45 hb5 HL4 HJ4 hg04 hc4
    go_region
    go_wp2
    refine bodyPost_ret (v := .tuple #[.agg #[.int .i64 l.base, .slice A n c], .agg #[.int .i64 (joinL l m).1.base, .slice A4 n4 c4]]) (by simp [results, Try.results23, go_sem, d0, d1, d2, d3]) rfl ?_
    first
    | exact stored4 hp hg05 hc5 (by omega) (by omega) HL5.out HJ5.out _ _ _ _
    | exact (stored4 hp hg05 hc5 (by omega) (by omega) HL5.out HJ5.out _ _ _ _).drew
end Go.Proofs.Ytoaglephpkmaeaa
