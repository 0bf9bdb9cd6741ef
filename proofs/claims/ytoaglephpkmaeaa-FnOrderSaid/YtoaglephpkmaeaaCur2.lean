/-
  The draws' cursor, more: once in n, odd numbers, numbers from 0 to most.
-/
import Derived.Test.YtoaglephpkmaeaaCur
namespace Go.Proofs.Ytoaglephpkmaeaa
set_option maxRecDepth 100000
open Go.RowKit

/-- A number, whatever; a bool, whatever. -/
def DrawnInt (p : Nat) (a : Option Addr) (len cap : Nat) (w : World) (e : Ending) (w' : World) : Prop := ∃ x : Int, e = .returned (.int .i64 x) ∧ IsCur p a len cap w' ∧ w.grownBy w' (some p)
def DrawnBool (p : Nat) (a : Option Addr) (len cap : Nat) (w : World) (e : Ending) (w' : World) : Prop := ∃ b : Bool, e = .returned (.bool b) ∧ IsCur p a len cap w' ∧ w.grownBy w' (some p)
theorem drawnInt_mk {p : Nat} {a : Option Addr} {len cap : Nat} {x : Int} {w w' : World} (hc : IsCur p a len cap w') (hg : w.grownBy w' (some p)) : DrawnInt p a len cap w (.returned (.int .i64 x)) w' := ⟨x, rfl, hc, hg⟩
theorem drawnBool_mk {p : Nat} {a : Option Addr} {len cap : Nat} {b : Bool} {w w' : World} (hc : IsCur p a len cap w') (hg : w.grownBy w' (some p)) : DrawnBool p a len cap w (.returned (.bool b)) w' := ⟨b, rfl, hc, hg⟩
theorem gb_alloc {w w' : World} {row : Option Nat} (h : w.grownBy w' row) (o : Obj) : w.grownBy (w'.alloc o) row := gb_trans h (World.grownBy_alloc _ _ _)

section
variable (p : Nat) (a : Option Addr) (len cap : Nat) (zs : List Int)

theorem once_any (n : Int) (w : World) (hl : len ≤ 4096) (h1 : 1 ≤ n) (h2 : n ≤ 1000) (hc : IsCur p a len cap w) (hr : CurRow w p a len cap zs) :
    Calls Try.prog 38 #[.pointer (some ⟨p, 0, none⟩), .int .i64 n] w (DrawnBool p a len cap w) := by
  go_enter Try.func38, Try.ntmps38
  go_wp2_with fail
  refine (below_any p a len cap zs n _ hl h1 (by omega) hc hr).mono ?_
  rintro e w1 ⟨x, hx0, hx1, rfl, hc1, hg1⟩
  go_wp2
  go_ret
  exact drawnBool_mk hc1 hg1

/-- A table of numbers that the call has just laid: each place holds one. -/
theorem table_at {w w' : World} {t : TypeId} (ns : List Int) (hg : (w.alloc (.cells (ns.map (Value.int .i64)).toArray t)).grownBy w' (some p)) (hp : p < w.heap.size) {k : Nat} (hk : k < ns.length) :
    ∃ v : Int, w'.cell? ⟨w.heap.size, k, none⟩ = some (.int .i64 v) := by
  refine ⟨ns[k], hg.cell ?_ (fun e => by have := Option.some.inj e; simp only [] at this; omega)⟩
  rw [World.cell?_alloc_new]
  simp [hk]

theorem odd_any (w : World) (hl : len ≤ 4096) (hc : IsCur p a len cap w) (hr : CurRow w p a len cap zs) :
    Calls Try.prog 69 #[.pointer (some ⟨p, 0, none⟩)] w (DrawnInt p a len cap w) := by
  have hlt := hc.lt
  go_enter Try.func69, Try.ntmps69
  go_wp2_with fail
  refine (below_any p a len cap zs _ _ hl (by omega) (by omega) (hc.alloc _) (hr.kept (World.grownBy_alloc _ _ _))).mono ?_
  rintro e w2 ⟨x, hx0, hx1, rfl, hc2, hg2⟩
  obtain ⟨k, rfl⟩ := Int.eq_ofNat_of_zero_le hx0
  obtain ⟨v, hv⟩ := table_at p [-1, 0, 1, 2147483648, -2147483648, 1099511627776, 4611686018427387904, -4611686018427387904, 9223372036854775807, -9223372036854775808] hg2 hlt (k := k) (by simp; omega)
  have HG := Lib.hid hg2
  clear hg2
  go_wp2
  go_ret
  exact drawnInt_mk hc2 (gb_trans (World.grownBy_alloc _ _ _) HG.out)

theorem min_any (x y : Int) (w : World) : Calls Try.prog 45 #[.int .i64 x, .int .i64 y] w fun e w' => e = .returned (.int .i64 (if x < y then x else y)) ∧ w = w' := by
  by_cases h : x < y
  · rw [if_pos h]
    go_enter Try.func45, Try.ntmps45
    go_wp2
    go_ret
    exact ⟨rfl, rfl⟩
  · rw [if_neg h]
    go_enter Try.func45, Try.ntmps45
    go_wp2
    go_ret
    exact ⟨rfl, rfl⟩

theorem num_any (most : Int) (w : World) (hl : len ≤ 4096) (h1 : 0 ≤ most) (h2 : most ≤ 1000000000) (hc : IsCur p a len cap w) (hr : CurRow w p a len cap zs) :
    Calls Try.prog 55 #[.pointer (some ⟨p, 0, none⟩), .int .i64 most] w (DrawnInt p a len cap w) := by
  go_enter Try.func55, Try.ntmps55
  go_wp2_with fail
  refine (once_any p a len cap zs _ _ hl (by omega) (by omega) hc hr).mono ?_
  rintro e w1 ⟨b, rfl, hc1, hg1⟩
  have hr1 := hr.kept hg1
  cases b
  · go_wp2_with fail
    refine (once_any p a len cap zs _ _ hl (by omega) (by omega) hc1 hr1).mono ?_
    rintro e w2 ⟨b, rfl, hc2, hg2⟩
    have hr2 := hr1.kept hg2
    cases b
    · go_wp2_with fail
      refine (below_any p a len cap zs _ _ hl (by omega) (by omega) hc2 hr2).mono ?_
      rintro e w3 ⟨x, hx0, hx1, rfl, hc3, hg3⟩
      go_wp2
      go_ret
      exact drawnInt_mk hc3 (gb_trans (gb_trans hg1 hg2) hg3)
    · by_cases hm : most < 4
      · go_wp2_with (go_at_call 45; refine (min_any _ _ _).mono ?_; rw [if_pos (by omega)]; rintro e w' ⟨rfl, rfl⟩)
        refine (below_any p a len cap zs _ _ hl (by omega) (by omega) hc2 hr2).mono ?_
        rintro e w3 ⟨x, hx0, hx1, rfl, hc3, hg3⟩
        go_wp2
        go_ret
        exact drawnInt_mk hc3 (gb_trans (gb_trans hg1 hg2) hg3)
      · go_wp2_with (go_at_call 45; refine (min_any _ _ _).mono ?_; rw [if_neg (by omega)]; rintro e w' ⟨rfl, rfl⟩)
        refine (below_any p a len cap zs _ _ hl (by omega) (by omega) hc2 hr2).mono ?_
        rintro e w3 ⟨x, hx0, hx1, rfl, hc3, hg3⟩
        go_wp2
        go_ret
        exact drawnInt_mk hc3 (gb_trans (gb_trans hg1 hg2) hg3)
  · have hlt := hc1.lt
    go_wp2_with fail
    refine (odd_any p a len cap zs _ hl hc1 hr1).mono ?_
    rintro e w2 ⟨od, rfl, hc2, hg2⟩
    have hlt2 := hc2.lt
    have hr2 := hr1.kept hg2
    go_wp2_with fail
    refine (below_any p a len cap zs _ _ hl (by omega) (by omega) (hc2.alloc _) (hr2.kept (World.grownBy_alloc _ _ _))).mono ?_
    rintro e w3 ⟨x, hx0, hx1, rfl, hc3, hg3⟩
    obtain ⟨k, rfl⟩ := Int.eq_ofNat_of_zero_le hx0
    obtain ⟨v, hv⟩ := table_at p [-1, most, most + 1, od] hg3 hlt2 (k := k) (by simp; omega)
    have HG := Lib.hid hg3
    clear hg3
    go_wp2
    go_ret
    exact drawnInt_mk hc3 (gb_trans (gb_trans hg1 hg2) (gb_trans (World.grownBy_alloc _ _ _) HG.out))
end
end Go.Proofs.Ytoaglephpkmaeaa
