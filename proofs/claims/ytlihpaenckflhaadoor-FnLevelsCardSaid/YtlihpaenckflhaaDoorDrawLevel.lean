/-
  The draws of chapter 1: each returns some number, or some text, and writes nothing that was there.
-/
import Derived.Test.YtlihpaenckflhaaDoorCur
namespace Go.Proofs.YtlihpaenckflhaaDoor
open Go.RowKit

theorem draw_level (p : Nat) (a : Option Addr) (len cap : Nat) (zs : List Int) (w : World) (hl : len ≤ 4096) (hc : IsCur p a len cap w) (hr : CurRow w p a len cap zs) :
    Calls Tryd.prog 21 #[.pointer (some ⟨p, 0, none⟩)] w fun e w' => ∃ x : Int, -1 ≤ x ∧ x ≤ 5 ∧ e = .returned (.int .i64 x) ∧ IsCur p a len cap w' ∧ w.grownBy w' (some p) := by
  go_enter Tryd.func21, Tryd.ntmps21
  go_wp2_with fail
  refine (from_any p a len cap zs _ _ _ hl (by omega) (by omega) (by omega) hc hr).mono ?_
  rintro e w1 ⟨x, hx0, hx1, rfl, hc1, hg1⟩
  go_wp2
  go_ret
  exact ⟨x, hx0, hx1, rfl, hc1, hg1⟩

def SomeInt (lo hi : Int) (w : World) (e : Ending) (w' : World) : Prop := ∃ x : Int, lo ≤ x ∧ x ≤ hi ∧ e = .returned (.int .i64 x) ∧ Below w.heap.size w w'
def SomeInts (lo hi : Int) (w : World) (e : Ending) (w' : World) : Prop := ∃ x y : Int, lo ≤ x ∧ x ≤ hi ∧ lo ≤ y ∧ y ≤ hi ∧ e = .returned (.tuple #[.int .i64 x, .int .i64 y]) ∧ Below w.heap.size w w'
def SomeText (w : World) (e : Ending) (w' : World) : Prop := ∃ s : ByteArray, e = .returned (.string s) ∧ Below w.heap.size w w'
theorem below_cur {w w1 w2 : World} {p : Nat} (h : Below w.heap.size w w1) (hp : w.heap.size ≤ p) (hg : w1.grownBy w2 (some p)) : Below w.heap.size w w2 :=
  h.grown hg h.size (fun k hk => by cases hk; exact hp)

theorem draw_show (a : Option Addr) (len cap : Nat) (zs : List Int) (w : World) (hl : len ≤ 4096) (hr : IsRow .u8 w a len cap zs) :
    Calls Tryd.prog 8 #[.slice a len cap] w (SomeInt (-1) 5 w) := by
  go_enter Tryd.func8, Tryd.ntmps8
  go_wp2_with fail
  refine (new_any a len cap zs _ hl hr).mono ?_
  rintro e w1 ⟨p, hp, rfl, hc, hb⟩
  have hr1 := CurRow.start hr hb hp
  go_wp2_with fail
  refine (draw_level p a len cap zs _ hl hc hr1).mono ?_
  rintro e w2 ⟨x, hx0, hx1, rfl, hc2, hg2⟩
  go_wp2
  go_ret
  exact ⟨x, hx0, hx1, rfl, below_cur hb hp hg2⟩

theorem draw_higher (a : Option Addr) (len cap : Nat) (zs : List Int) (w : World) (hl : len ≤ 4096) (hr : IsRow .u8 w a len cap zs) :
    Calls Tryd.prog 7 #[.slice a len cap] w (SomeInts (-1) 5 w) := by
  go_enter Tryd.func7, Tryd.ntmps7
  go_wp2_with fail
  refine (new_any a len cap zs _ hl hr).mono ?_
  rintro e w1 ⟨p, hp, rfl, hc, hb⟩
  have hr1 := CurRow.start hr hb hp
  go_wp2_with fail
  refine (draw_level p a len cap zs _ hl hc hr1).mono ?_
  rintro e w2 ⟨x, hx0, hx1, rfl, hc2, hg2⟩
  have hr2 := hr1.kept hg2
  go_wp2_with fail
  refine (draw_level p a len cap zs _ hl hc2 hr2).mono ?_
  rintro e w3 ⟨y, hy0, hy1, rfl, hc3, hg3⟩
  go_wp2
  go_ret2
  exact ⟨x, y, hx0, hx1, hy0, hy1, rfl, below_cur (below_cur hb hp hg2) hp hg3⟩

theorem draw_read (a : Option Addr) (len cap : Nat) (zs : List Int) (w : World) (hl : len ≤ 4096) (hr : IsRow .u8 w a len cap zs) :
    Calls Tryd.prog 9 #[.slice a len cap] w (SomeText w) := by
  go_enter Tryd.func9, Tryd.ntmps9
  go_wp2_with fail
  refine (new_any a len cap zs _ hl hr).mono ?_
  rintro e w1 ⟨p, hp, rfl, hc, hb⟩
  have hr1 := CurRow.start hr hb hp
  go_wp2_with fail
  refine (below_any p a len cap zs _ _ hl (by omega) (by omega) (hc.alloc _) (hr1.kept (World.grownBy_alloc _ _ _))).mono ?_
  rintro e w2 ⟨x, hx0, hx1, rfl, hc2, hg2⟩
  obtain ⟨k, rfl⟩ := Int.eq_ofNat_of_zero_le hx0
  have hlt := hc.lt
  obtain ⟨s, hs⟩ : ∃ s : ByteArray, w2.cell? ⟨w1.heap.size, k, none⟩ = some (.string s) := by
    have hcell := fun v (h : (w1.alloc _).cell? ⟨w1.heap.size, k, none⟩ = some v) => hg2.cell h (by simp; omega)
    simp only [World.cell?_alloc_new] at hcell
    have hk : k = 0 ∨ k = 1 ∨ k = 2 ∨ k = 3 ∨ k = 4 ∨ k = 5 ∨ k = 6 ∨ k = 7 ∨ k = 8 ∨ k = 9 := by omega
    rcases hk with rfl | rfl | rfl | rfl | rfl | rfl | rfl | rfl | rfl | rfl <;> exact ⟨_, hcell _ rfl⟩
  go_wp2
  go_ret
  exact ⟨s, rfl, below_cur (hb.alloc hb.size _) hp hg2⟩
end Go.Proofs.YtlihpaenckflhaaDoor
