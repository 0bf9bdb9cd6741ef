/-
  Texts put together: DrawTwo, DrawLabs34, DrawTaint. What each proves stands ahead of it.
-/
import Derived.Test.YtjdnobihhkmmpaaDrawAny
import Derived.Deep.RegionHeld3
import Derived.Deep.RegionWith
import Derived.Test.YtjdnobihhkmmpaaSpecJoin2
/-
  The draws of chapter 3 and of taint: two labels, whatever, of the call's own; the cursor stays one.
-/
namespace Go.Proofs.Ytjdnobihhkmmpaa
set_option maxRecDepth 100000
open Go.RowKit

/-- Two labels, whatever, of the call's own. -/
def DrawnLabs (p : Nat) (a : Option Addr) (len cap : Nat) (w : World) (e : Ending) (w' : World) : Prop :=
  ∃ v u l m, e = .returned (.tuple #[v, u]) ∧ OwnLab w.heap.size w' v l ∧ OwnLab w.heap.size w' u m ∧ IsCur p a len cap w' ∧ w.grownBy w' (some p)

theorem stored4 {w w5 : World} {p : Nat} {a : Option Addr} {len cap : Nat} {b1 b2 : Nat} {l m : Lab} {A B : Option Addr} {n c k d : Nat} (hp : p < w.heap.size) (hg : w.grownBy w5 (some p)) (hc : IsCur p a len cap w5) (h1 : w.heap.size + 1 + 1 ≤ b1) (h2 : w.heap.size + 1 + 1 ≤ b2)
    (ho1 : OwnLab b1 w5 (.agg #[.int .i64 l.base, .slice A n c]) l) (ho2 : OwnLab b2 w5 (.agg #[.int .i64 m.base, .slice B k d]) m) (x0 x1 y0 y1 : Value) :
    DrawnLabs p a len cap w (.returned (.tuple #[.agg #[.int .i64 l.base, .slice A n c], .agg #[.int .i64 m.base, .slice B k d]]))
      ((((w5.setCell ⟨w.heap.size, 0, none⟩ x0).setCell ⟨w.heap.size, 1, none⟩ x1).setCell ⟨w.heap.size + 1, 0, none⟩ y0).setCell ⟨w.heap.size + 1, 1, none⟩ y1) := by
  have hb : ∀ g, g ≠ w.heap.size → g ≠ w.heap.size + 1 → ((((w5.setCell ⟨w.heap.size, 0, none⟩ x0).setCell ⟨w.heap.size, 1, none⟩ x1).setCell ⟨w.heap.size + 1, 0, none⟩ y0).setCell ⟨w.heap.size + 1, 1, none⟩ y1).heap[g]? = w5.heap[g]? := fun g e1 e2 => by
    rw [Below.heap_setCell _ _ _ _ (by simpa using e2), Below.heap_setCell _ _ _ _ (by simpa using e2), Below.heap_setCell _ _ _ _ (by simpa using e1), Below.heap_setCell _ _ _ _ (by simpa using e1)]
  exact ⟨_, _, l, m, rfl, ((((ho1.past (by omega)).past (by omega)).past (by omega)).past (by omega)).lower (by omega), ((((ho2.past (by omega)).past (by omega)).past (by omega)).past (by omega)).lower (by omega),
    hc.block (hb p (by omega) (by omega)), ⟨hg.os, hg.tape, hg.output, by simpa using hg.size, fun g hl hne => by rw [hb g (by omega) (by omega)]; exact hg.block g hl hne⟩⟩

theorem DrawnLabs.drew {p : Nat} {a : Option Addr} {len cap : Nat} {w w' : World} {e : Ending} (h : DrawnLabs p a len cap w e w') : DrawnLabs p a len cap w e w'.drew := by
  obtain ⟨v, u, l, m, rfl, h1, h2, h3, h4⟩ := h
  exact ⟨v, u, l, m, rfl, h1.below (Below.refl _ _).drew, h2.below (Below.refl _ _).drew, h3.drew, gb_drew h4⟩

set_option maxHeartbeats 4000000 in
theorem draw_two (p : Nat) (a : Option Addr) (len cap : Nat) (zs : List Int) (w : World) (hl : len ≤ 4096) (hc : IsCur p a len cap w) (hr : CurRow w p a len cap zs) :
    Calls Try.prog 24 #[.pointer (some ⟨p, 0, none⟩)] w (DrawnLabs p a len cap w) := by
  have hp := hc.lt
  go_enter Try.func24, Try.ntmps24
  go_wp2_with fail
  generalize hW : (w.alloc (.cells #[.int .i64 0, .slice none 0 0] 26)).alloc (.cells #[.int .i64 0, .slice none 0 0] 26) = w0
  have fr1 : Fresh w0 w.heap.size := by rw [← hW]; exact Fresh.alloc Fresh.one _
  have fr2 : Fresh w0 (w.heap.size + 1) := by rw [← hW]; have h := Fresh.one (w := w.alloc (.cells #[.int .i64 0, .slice none 0 0] 26)) (t := 26); rwa [World.size_alloc] at h
  have hg0 : w.grownBy w0 (some p) := by rw [← hW]; exact gb_trans (World.grownBy_alloc _ _ _) (World.grownBy_alloc _ _ _)
  have hs0 : w0.heap.size = w.heap.size + 1 + 1 := by rw [← hW]; simp
  have hc0 : IsCur p a len cap w0 := by rw [← hW]; exact (hc.alloc _).alloc _
  clear hW
  refine (draw_any p a len cap zs _ hl hc0 (hr.kept hg0)).mono ?_
  rintro e w1 ⟨v, l, rfl, hown, -, hc1, hg1⟩
  have hg01 := gb_trans hg0 hg1
  have fr1 := fr1.kept hg1 (by omega)
  have fr2 := fr2.kept hg1 (by omega)
  have hs1 := hg1.size
  have HL := Lib.hid hown
  have HLr := Lib.hid (fun k hk => (hown.row k hk).2)
  obtain ⟨A, n, c, rfl, -, -, -⟩ := hown
  clear hg1 hg0 hc0
  go_wp2_with fail
  refine (draw_any p a len cap zs _ hl (hc1.alloc _) (hr.kept (gb_trans hg01 (World.grownBy_alloc _ _ _)))).mono ?_
  rintro e w2 ⟨u, m, rfl, hown2, -, hc2, hg2⟩
  have hg2' := gb_trans (World.grownBy_alloc w1 (.cells #[.int .i64 l.base, .slice A n c] 26) (some p)) hg2
  have hg02 := gb_trans hg01 hg2'
  have hs2 := hg2.size
  simp at hs2
  have b4 := Has.kept (Has.one (w := w1) (cs := #[.int .i64 l.base, .slice A n c]) (t := 26)) hg2 (by omega)
  have fr1 := fr1.kept hg2' (by omega)
  have fr2 := fr2.kept hg2' (by omega)
  have HL2 : Hid (OwnLab w0.heap.size w2 _ l) := Lib.hid (HL.out.kept hg2' (fun k hk => by have := Option.some.inj hk; omega))
  have HM2 : Hid (OwnLab (w1.heap.size + 1) w2 u m) := Lib.hid (hown2.lower (by simp))
  obtain ⟨B, n', d, rfl, -, -, -⟩ := hown2
  clear hg2 hg2' hg01 hc1 HL
  go_wp2_with fail
  refine (once_any p a len cap zs _ _ hl (by omega) (by omega) (hc2.alloc _) (hr.kept (gb_trans hg02 (World.grownBy_alloc _ _ _)))).mono ?_
  rintro e w3 ⟨b, rfl, hc3, hg3⟩
  have hg3' := gb_trans (World.grownBy_alloc w2 (.cells #[.int .i64 m.base, .slice B n' d] 26) (some p)) hg3
  have hg03 := gb_trans hg02 hg3'
  have hs3 := hg3.size
  simp at hs3
  have b4 := b4.kept hg3' (by omega)
  have b5 := Has.kept (Has.one (w := w2) (cs := #[.int .i64 m.base, .slice B n' d]) (t := 26)) hg3 (by omega)
  have q5 : w3.frozen? ⟨w2.heap.size, 0, none⟩ = false := (keep_frozen hg3 (by simp) (by omega)).trans (by simp)
  have q6 : w3.frozen? ⟨w2.heap.size, 1, none⟩ = false := (keep_frozen hg3 (by simp) (by omega)).trans (by simp)
  have fr1 := fr1.kept hg3' (by omega)
  have fr2 := fr2.kept hg3' (by omega)
  have HL3 : Hid (OwnLab w0.heap.size w3 _ l) := Lib.hid (HL2.out.kept hg3' (fun k hk => by have := Option.some.inj hk; omega))
  have HM3 : Hid (OwnLab (w1.heap.size + 1) w3 _ m) := Lib.hid (HM2.out.kept hg3' (fun k hk => by have := Option.some.inj hk; omega))
  have k0 := b4 0 _ rfl
  have k1 := b4 1 _ rfl
  have j0 := b5 0 _ rfl
  have j1 := b5 1 _ rfl
  have BB := Lib.hid b4
  have z3 : w2.heap.size < w3.heap.size := by omega
  have FR1 := Lib.hid fr1
  have FR2 := Lib.hid fr2
  clear hg3 hg3' hg02 hc2 HL2 HM2 b4 b5 fr1 fr2
  have n1 : w.heap.size ≠ w1.heap.size := by omega
  have n2 : w1.heap.size ≠ w.heap.size := by omega
  have n3 : w.heap.size ≠ w2.heap.size := by omega
  have n4 : w2.heap.size ≠ w.heap.size := by omega
  have n5 : w.heap.size + 1 ≠ w2.heap.size := by omega
  have n6 : w2.heap.size ≠ w.heap.size + 1 := by omega
  have n7 : w.heap.size + 1 ≠ w1.heap.size := by omega
  have n8 : w1.heap.size ≠ w.heap.size + 1 := by omega
  cases b
  · have c0 := FR1.out.c0
    have c1 := FR1.out.c1
    have c2 := FR2.out.c0
    have c3 := FR2.out.c1
    have g0 := FR1.out.f0
    have g1 := FR1.out.f1
    have g2 := FR2.out.f0
    have g3 := FR2.out.f1
    go_wp2
    go_region
    go_wp2
    refine bodyPost_ret (v := .tuple #[.agg #[.int .i64 l.base, .slice A n c], .agg #[.int .i64 m.base, .slice B n' d]]) (by simp [results, Try.results24, go_sem, c0, c1, c2, c3]) rfl ?_
    first
    | exact stored4 hp hg03 hc3 (by omega) (by omega) HL3.out HM3.out _ _ _ _
    | exact (stored4 hp hg03 hc3 (by omega) (by omega) HL3.out HM3.out _ _ _ _).drew
  · have hok : ∀ w4, Below w3.heap.size w3 w4 → RdLab w4 (.agg #[.int .i64 l.base, .slice A n c]) l ∧ RdLab w4 (.agg #[.int .i64 m.base, .slice B n' d]) m := fun w4 hb => ⟨HL3.out.rd.below hb, HM3.out.rd.below hb⟩
    obtain ⟨hrl, hrm⟩ := hok w3 (.refl _ _)
    go_wp2_with fail
    refine (spec_join _ _ l m _ hrl hrm).mono ?_
    rintro e w4 ⟨v4, rfl, hown4, hb4⟩
    have FR1' := Lib.hid (FR1.out.below hb4)
    have FR2' := Lib.hid (FR2.out.below hb4)
    have k0' := (hb4.cell (p := ⟨w1.heap.size, 0, none⟩) (by simp only []; omega)).trans k0
    have k1' := (hb4.cell (p := ⟨w1.heap.size, 1, none⟩) (by simp only []; omega)).trans k1
    have j0' := (hb4.cell (p := ⟨w2.heap.size, 0, none⟩) (by simp only []; omega)).trans j0
    have j1' := (hb4.cell (p := ⟨w2.heap.size, 1, none⟩) (by simp only []; omega)).trans j1
    have q5' := (hb4.frozen (p := ⟨w2.heap.size, 0, none⟩) (by simp only []; omega)).trans q5
    have q6' := (hb4.frozen (p := ⟨w2.heap.size, 1, none⟩) (by simp only []; omega)).trans q6
    have hg04 := gb_trans hg03 (gb_of_below hb4 (some p))
    have hc4 := hc3.block (hb4.block p hc3.lt)
    have HL4 := Lib.hid (HL3.out.below hb4)
    have HJ4 := Lib.hid hown4
    have hs4 := hb4.size
    obtain ⟨A4, n4, c4, rfl, -, -, -⟩ := hown4
    clear hb4 hok hrl hrm FR1 FR2 k0 k1 j0 j1 q5 q6 HL3 HM3 hg03 hc3
    have c0 := FR1'.out.c0
    have c1 := FR1'.out.c1
    have c2 := FR2'.out.c0
    have c3 := FR2'.out.c1
    have g0 := FR1'.out.f0
    have g1 := FR1'.out.f1
    have g2 := FR2'.out.f0
    have g3 := FR2'.out.f1
    go_wp2
    generalize hW : (w4.setCell ⟨w2.heap.size, 0, none⟩ (.int .i64 (joinL l m).1.base)).setCell ⟨w2.heap.size, 1, none⟩ (.slice A4 n4 c4) = w5
    have hb5 : Below w3.heap.size w4 w4 := .refl _ _
    have hblk : ∀ b, b ≠ w2.heap.size → w5.heap[b]? = w4.heap[b]? := fun b hb => by rw [← hW, Below.heap_setCell _ _ _ _ (by simpa using hb), Below.heap_setCell _ _ _ _ (by simpa using hb)]
    have hs5 : w5.heap.size = w4.heap.size := by rw [← hW]; simp
    have hg05 : w.grownBy w5 (some p) := ⟨by rw [← hW]; exact hg04.os, by rw [← hW]; exact hg04.tape, by rw [← hW]; exact hg04.output, by rw [hs5]; exact hg04.size, fun b hl hne => by rw [hblk b (by omega)]; exact hg04.block b hl hne⟩
    have hc5 : IsCur p a len cap w5 := hc4.block (hblk p (by omega))
    have hg45 : w4.grownBy w5 (some w2.heap.size) := ⟨by rw [← hW]; rfl, by rw [← hW]; rfl, by rw [← hW]; rfl, by omega, fun b _ hne => hblk b (fun e => hne (by rw [e]))⟩
    have HL5 := Lib.hid (HL4.out.keptBy hg45 (fun k hk e => by have := HLr.out k hk; have := Option.some.inj e; omega))
    have HJ5 := Lib.hid (HJ4.out.kept hg45 (fun k hk => by have := Option.some.inj hk; omega))
    have e0 : w5.cell? ⟨w1.heap.size, 0, none⟩ = some (.int .i64 l.base) := by rw [← hW]; simp [go_sem, k0']
    have e1 : w5.cell? ⟨w1.heap.size, 1, none⟩ = some (.slice A n c) := by rw [← hW]; simp [go_sem, k1']
    have e2 : w5.cell? ⟨w2.heap.size, 0, none⟩ = some (.int .i64 (joinL l m).1.base) := by rw [← hW]; simp [go_sem, j0']
    have e3 : w5.cell? ⟨w2.heap.size, 1, none⟩ = some (.slice A4 n4 c4) := by rw [← hW]; simp [go_sem, j1']
    have d0 : w5.cell? ⟨w.heap.size, 0, none⟩ = some (.int .i64 0) := by rw [← hW]; simp [go_sem, c0]
    have d1 : w5.cell? ⟨w.heap.size, 1, none⟩ = some (.slice none 0 0) := by rw [← hW]; simp [go_sem, c1]
    have d2 : w5.cell? ⟨w.heap.size + 1, 0, none⟩ = some (.int .i64 0) := by rw [← hW]; simp [go_sem, c2]
    have d3 : w5.cell? ⟨w.heap.size + 1, 1, none⟩ = some (.slice none 0 0) := by rw [← hW]; simp [go_sem, c3]
    have f0 : w5.frozen? ⟨w.heap.size, 0, none⟩ = false := by rw [← hW]; simp [go_sem, g0]
    have f1 : w5.frozen? ⟨w.heap.size, 1, none⟩ = false := by rw [← hW]; simp [go_sem, g1]
    have f2 : w5.frozen? ⟨w.heap.size + 1, 0, none⟩ = false := by rw [← hW]; simp [go_sem, g2]
    have f3 : w5.frozen? ⟨w.heap.size + 1, 1, none⟩ = false := by rw [← hW]; simp [go_sem, g3]
    clear hW k0' k1' j0' j1' c0 c1 c2 c3 g0 g1 g2 g3 q5' q6' hblk hg45 hb5 HL4 HJ4 hg04 hc4
    go_region
    go_wp2
    refine bodyPost_ret (v := .tuple #[.agg #[.int .i64 l.base, .slice A n c], .agg #[.int .i64 (joinL l m).1.base, .slice A4 n4 c4]]) (by simp [results, Try.results24, go_sem, d0, d1, d2, d3]) rfl ?_
    first
    | exact stored4 hp hg05 hc5 (by omega) (by omega) HL5.out HJ5.out _ _ _ _
    | exact (stored4 hp hg05 hc5 (by omega) (by omega) HL5.out HJ5.out _ _ _ _).drew
end Go.Proofs.Ytjdnobihhkmmpaa

/-
  What the draws of chapters 3 and 4 hand out: labels, whatever they are; nothing that was there is written.
-/
namespace Go.Proofs.Ytjdnobihhkmmpaa
set_option maxRecDepth 100000
open Go.RowKit

/-- The call returns two labels, three labels, whatever. -/
def DrTwo (w : World) (e : Ending) (w' : World) : Prop := ∃ v u l m, e = .returned (.tuple #[v, u]) ∧ RdLab w' v l ∧ RdLab w' u m ∧ Below w.heap.size w w'
def DrThree (w : World) (e : Ending) (w' : World) : Prop := ∃ v u x l m o, e = .returned (.tuple #[v, u, x]) ∧ RdLab w' v l ∧ RdLab w' u m ∧ RdLab w' x o ∧ Below w.heap.size w w'

theorem draw_stars (a : Option Addr) (len cap : Nat) (zs : List Int) (w : World) (hl : len ≤ 4096) (hr : IsRow .u8 w a len cap zs) : Calls Try.prog 10 #[.slice a len cap] w (DrLab w) := by
  go_enter Try.func10, Try.ntmps10
  go_wp2_with fail
  refine (new_any a len cap zs _ hl (hr.below ((Below.refl _ _).alloc (Nat.le_refl _) _))).mono ?_
  rintro e w1 ⟨p, hp, rfl, hc1, hb1⟩
  obtain ⟨c0, c1, hz, hbel⟩ := box2 hb1
  have g0 : w1.frozen? ⟨w.heap.size, 0, none⟩ = false := (hb1.frozen (by simp)).trans (by simp [go_sem])
  have g1 : w1.frozen? ⟨w.heap.size, 1, none⟩ = false := (hb1.frozen (by simp)).trans (by simp [go_sem])
  have hp' : w.heap.size < p := by simp at hp; omega
  clear hb1 hp
  go_wp2_with fail
  refine (draw_any p a len cap zs _ hl hc1 (CurRow.start hr hbel (by omega))).mono ?_
  rintro e w2 ⟨v, l, rfl, hown, h100, hc2, hg2⟩
  have e0 := keep_cell hg2 c0 (by omega)
  have e1 := keep_cell hg2 c1 (by omega)
  have q0 : w2.frozen? ⟨w.heap.size, 0, none⟩ = false := (keep_frozen hg2 (by omega) (by omega)).trans g0
  have q1 : w2.frozen? ⟨w.heap.size, 1, none⟩ = false := (keep_frozen hg2 (by omega) (by omega)).trans g1
  have HB := Lib.hid (gb_below hbel hg2 (by omega))
  have HO := Lib.hid hown
  obtain ⟨A, n, c, rfl, -, -, -⟩ := hown
  clear hg2 c0 c1 g0 g1
  go_wp2
  refine bodyPost_ret (v := .agg #[.int .i64 l.base, .slice A n c]) (by simp [results, Try.results10, go_sem, e0, e1]) rfl ?_
  exact ⟨_, l, rfl, ((HO.out.past hz).past hz).rd, h100, (HB.out.setCell (by simp) _).setCell (by simp) _⟩


end Go.Proofs.Ytjdnobihhkmmpaa

/-
  What chapter 4's draw hands out: three labels, whatever they are; nothing that was there is written.
-/
namespace Go.Proofs.Ytjdnobihhkmmpaa
set_option maxRecDepth 100000
open Go.RowKit

/-- Four cells, where another block is written. -/
theorem held4 {w : World} {x g i : Nat} {a b c d v : Value} (hx : g < x) (h : w.cell? ⟨x, 0, none⟩ = some a ∧ w.cell? ⟨x, 1, none⟩ = some b ∧ w.cell? ⟨x + 1, 0, none⟩ = some c ∧ w.cell? ⟨x + 1, 1, none⟩ = some d) :
    (w.setCell ⟨g, i, none⟩ v).cell? ⟨x, 0, none⟩ = some a ∧ (w.setCell ⟨g, i, none⟩ v).cell? ⟨x, 1, none⟩ = some b ∧ (w.setCell ⟨g, i, none⟩ v).cell? ⟨x + 1, 0, none⟩ = some c ∧ (w.setCell ⟨g, i, none⟩ v).cell? ⟨x + 1, 1, none⟩ = some d := by
  have e : ∀ z k, g < z → (w.setCell ⟨g, i, none⟩ v).cell? ⟨z, k, none⟩ = w.cell? ⟨z, k, none⟩ := fun z k hz => World.cell?_setCell_other _ _ _ _ (fun hh => Nat.ne_of_lt hz (by have h1 := congrArg Addr.block hh; first | exact h1 | exact h1.symm))
  rw [e x 0 hx, e x 1 hx, e (x + 1) 0 (by omega), e (x + 1) 1 (by omega)]
  exact h

set_option maxHeartbeats 4000000 in
theorem draw_tainted (a : Option Addr) (len cap : Nat) (zs : List Int) (w : World) (hl : len ≤ 4096) (hr : IsRow .u8 w a len cap zs) : Calls Try.prog 7 #[.slice a len cap] w (DrThree w) := by
  go_enter Try.func7, Try.ntmps7
  go_wp2_with fail
  refine (new_any a len cap zs _ hl (hr.below ((((Below.refl _ _).alloc (Nat.le_refl _) _).alloc (by simp) _).alloc (by simp; omega) _))).mono ?_
  rintro e w1 ⟨p, hp, rfl, hc1, hb1⟩
  obtain ⟨⟨c0, c1⟩, ⟨c2, c3⟩, ⟨c4, c5⟩, hz, hbel⟩ := box6 hb1
  have FR1 : Fresh w1 w.heap.size := ⟨c0, c1, (hb1.frozen (by simp; omega)).trans (by simp [go_sem]), (hb1.frozen (by simp; omega)).trans (by simp [go_sem])⟩
  have FR2 : Fresh w1 (w.heap.size + 1) := ⟨c2, c3, (hb1.frozen (by first | (simp; done) | (simp; omega))).trans (by simp [go_sem]), (hb1.frozen (by first | (simp; done) | (simp; omega))).trans (by simp [go_sem])⟩
  have FR3 : Fresh w1 (w.heap.size + 1 + 1) := ⟨c4, c5, (hb1.frozen (by simp)).trans (by simp [go_sem]), (hb1.frozen (by simp)).trans (by simp [go_sem])⟩
  have hp' : w.heap.size + 1 + 1 < p := by simp at hp; omega
  clear hb1 hp c0 c1 c2 c3 c4 c5
  go_wp2_with fail
  refine (draw_two p a len cap zs _ hl hc1 (CurRow.start hr hbel (by omega))).mono ?_
  rintro e w2 ⟨v, u, l, m, rfl, ho1, ho2, hc2, hg2⟩
  have hp1 := hc1.lt
  have hs2 := hg2.size
  have F1 := FR1.kept hg2 (by omega)
  have F2 := FR2.kept hg2 (by omega)
  have F3 := FR3.kept hg2 (by omega)
  have hbel2 := gb_below hbel hg2 (by omega)
  have H1 := Lib.hid ho1
  have H2 := Lib.hid ho2
  obtain ⟨A, n, c, rfl, -, -, -⟩ := ho1
  obtain ⟨B, n', d, rfl, -, -, -⟩ := ho2
  clear hg2 FR1 FR2 FR3
  have e0 := F1.c0
  have e1 := F1.c1
  have e2 := F2.c0
  have e3 := F2.c1
  have e4 := F3.c0
  have e5 := F3.c1
  have q0 := F1.f0
  have q1 := F1.f1
  have q2 := F2.f0
  have q3 := F2.f1
  have q4 := F3.f0
  have q5 := F3.f1
  go_wp2
  generalize hW : (w2.alloc (.cells #[.int .i64 l.base, .slice A n c] 26)).alloc (.cells #[.int .i64 m.base, .slice B n' d] 26) = w3
  have hb3 : Below w2.heap.size w2 w3 := by rw [← hW]; exact ((Below.refl _ _).alloc (Nat.le_refl _) _).alloc (by simp) _
  have hs3 : w3.heap.size = w2.heap.size + 1 + 1 := by rw [← hW]; simp
  have k0 : w3.cell? ⟨w2.heap.size, 0, none⟩ = some (.int .i64 l.base) := by rw [← hW]; simp [go_sem]
  have k1 : w3.cell? ⟨w2.heap.size, 1, none⟩ = some (.slice A n c) := by rw [← hW]; simp [go_sem]
  have k2 : w3.cell? ⟨w2.heap.size + 1, 0, none⟩ = some (.int .i64 m.base) := by rw [← hW]; simp [go_sem]
  have k3 : w3.cell? ⟨w2.heap.size + 1, 1, none⟩ = some (.slice B n' d) := by rw [← hW]; simp [go_sem]
  have G1 := Lib.hid (F1.below hb3)
  have G2 := Lib.hid (F2.below hb3)
  have G3 := Lib.hid (F3.below hb3)
  have H1' := Lib.hid (H1.out.below hb3)
  have H2' := Lib.hid (H2.out.below hb3)
  have hc3 := hc2.block (hb3.block p hc2.lt)
  have hbel3 := below_more hbel2 hb3
  clear hW hb3 F1 F2 F3 H1 H2 hc2 hbel2 e0 e1 e2 e3 e4 e5 q0 q1 q2 q3 q4 q5
  have hz2 : w.heap.size + 1 + 1 < w2.heap.size := by omega
  have hz1 : w.heap.size + 1 < w2.heap.size := by omega
  have hz0 : w.heap.size < w2.heap.size := by omega
  go_region_held3 (fun w' => w'.cell? ⟨w2.heap.size, 0, none⟩ = some (.int .i64 l.base) ∧ w'.cell? ⟨w2.heap.size, 1, none⟩ = some (.slice A n c) ∧ w'.cell? ⟨w2.heap.size + 1, 0, none⟩ = some (.int .i64 m.base) ∧ w'.cell? ⟨w2.heap.size + 1, 1, none⟩ = some (.slice B n' d))
    (first | with_reducible exact ⟨k0, k1, k2, k3⟩ | (with_reducible refine held4 (by first | exact hz0 | exact hz1 | exact hz2) ?_; first | with_reducible exact ⟨k0, k1, k2, k3⟩ | (with_reducible refine held4 (by first | exact hz0 | exact hz1 | exact hz2) ?_; first | with_reducible exact ⟨k0, k1, k2, k3⟩ | (with_reducible refine held4 (by first | exact hz0 | exact hz1 | exact hz2) ?_; first | with_reducible exact ⟨k0, k1, k2, k3⟩ | (with_reducible refine held4 (by first | exact hz0 | exact hz1 | exact hz2) ?_; first | with_reducible exact ⟨k0, k1, k2, k3⟩ | (with_reducible refine held4 (by first | exact hz0 | exact hz1 | exact hz2) ?_; first | with_reducible exact ⟨k0, k1, k2, k3⟩ | (with_reducible refine held4 (by first | exact hz0 | exact hz1 | exact hz2) ?_; first | with_reducible exact ⟨k0, k1, k2, k3⟩)))))) | exact ⟨k0, k1, k2, k3⟩ | go_keep)
    (first
      | (go_at_call 25
         refine (draw_any p a len cap zs _ hl (by first | exact hc3 | exact hc3.drew) (by first | exact CurRow.start hr hbel3 (by omega) | exact CurRow.start hr hbel3.drew (by omega))).mono ?_
         rintro e w4 ⟨v4, o, rfl, ho4, -, hc4, hg4⟩
         have hgs : w3.grownBy w4 (some p) := by first | exact hg4 | exact gb_undrew hg4
         have hs4 := hgs.size
         have k0 := keep_cell hgs k0 (by omega)
         have k1 := keep_cell hgs k1 (by omega)
         have k2 := keep_cell hgs k2 (by omega)
         have k3 := keep_cell hgs k3 (by omega)
         have P1 := G1.out.kept hgs (by omega)
         have P2 := G2.out.kept hgs (by omega)
         have P3 := G3.out.kept hgs (by omega)
         have e0 := P1.c0
         have e1 := P1.c1
         have e2 := P2.c0
         have e3 := P2.c1
         have e4 := P3.c0
         have e5 := P3.c1
         have q0 := P1.f0
         have q1 := P1.f1
         have q2 := P2.f0
         have q3 := P2.f1
         have q4 := P3.f0
         have q5 := P3.f1
         have J1 := Lib.hid (H1'.out.kept hgs (fun k hk => by have := Option.some.inj hk; omega))
         have J2 := Lib.hid (H2'.out.kept hgs (fun k hk => by have := Option.some.inj hk; omega))
         have J3 : Hid (OwnLab w1.heap.size w4 v4 o) := Lib.hid (ho4.lower (by first | omega | (simp; omega)))
         have HB4 := Lib.hid (gb_below hbel3 hgs (by omega))
         obtain ⟨C, n'', f, rfl, -, -, -⟩ := ho4
         clear hg4 hgs P1 P2 P3))
  all_goals
    go_wp2
    refine bodyPost_ret (v := .tuple #[.agg #[.int .i64 l.base, .slice A n c], .agg #[.int .i64 m.base, .slice B n' d], .agg #[.int .i64 o.base, .slice C n'' f]]) (by simp [results, Try.results7, go_sem, e0, e1, e2, e3, e4, e5]) rfl ?_
    have b1 : w.heap.size < w1.heap.size := by omega
    have b2 : w.heap.size + 1 < w1.heap.size := by omega
    have hB4 := HB4.out
    refine ⟨_, _, _, l, m, o, rfl, ((((((J1.out.past b1).past b1).past b2).past b2).past hz).past hz).rd, ((((((J2.out.past b1).past b1).past b2).past b2).past hz).past hz).rd, ((((((J3.out.past b1).past b1).past b2).past b2).past hz).past hz).rd, ?_⟩
    exact (((((hB4.setCell (by simp only []; omega) _).setCell (by simp only []; omega) _).setCell (by simp only []; omega) _).setCell (by simp only []; omega) _).setCell (by simp only []; omega) _).setCell (by simp only []; omega) _
end Go.Proofs.Ytjdnobihhkmmpaa
