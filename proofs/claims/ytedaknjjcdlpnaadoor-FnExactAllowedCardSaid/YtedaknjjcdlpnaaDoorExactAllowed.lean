/-
  FnExactAllowed: whatever the input, the law returns true and its arguments read as they did; no condition but the tie of the listed variables.
-/
import Derived.Test.YtedaknjjcdlpnaaDoorBase
import Derived.Test.YtedaknjjcdlpnaaDoorCards
import Derived.Test.YtedaknjjcdlpnaaDoorTie
import Derived.SevenTiedAt
import Derived.LaidMore
import Derived.Stop.Joined
import Derived.Test.YtedaknjjcdlpnaaDoorTmOpen
import Derived.Test.YtedaknjjcdlpnaaDoorSpecAllowed
import Derived.Test.YtedaknjjcdlpnaaDoorImplTerms
import Derived.Test.YtedaknjjcdlpnaaDoorSent
namespace Go.Proofs.YtedaknjjcdlpnaaDoor.fnExactAllowed
set_option maxRecDepth 100000
open Go.ChangeShapes Go.WideShapes Go.ChangeAt Go.RowKit
open Go.ChangeMaps (open_string shut_string)
set_option linter.unusedVariables false

set_option maxHeartbeats 8000000 in
theorem walk {w : World} (v0 : Value) (s : Lab) (h0 : ArgLab w v0 s) (v1 : Value) (t : Tm) (h1 : ArgTm w v1 t) (hs : Sent w 2) :
    Calls Tryd.prog 4 #[v0, v1] w fun e w' => e = .returned (.bool true) ∧ Below w.heap.size w w' := by
  have g0 := Lib.hid h0
  obtain ⟨Ap0_, np0_, cp0_, rfl, -⟩ := h0
  have g1 := Lib.hid h1
  obtain ⟨Ap1_0, np1_0, cp1_0, Ap1_1, np1_1, cp1_1, Ap1_2, np1_2, cp1_2, Ap1_3, np1_3, cp1_3, rfl, -, -, -, -⟩ := h1
  by_cases z0 : (s.parts.length : Nat) ≤ (1048576 : Int)
  · skip
    by_cases z1 : (tmLen t : Nat) ≤ (1048576 - (s.parts.length : Nat) : Int)
    · skip
      go_enter Tryd.func4, Tryd.ntmps4
      have u0 : ¬ (((1048576 - (s.parts.length : Nat) : Int)) < 0) := by omega
      go_wp2_with fail
      generalize hW : (w.alloc (.cells #[.int .i64 s.base, .slice Ap0_ np0_ cp0_] 45)).alloc (.cells #[.int .i64 t.taint.base, .slice Ap1_0 np1_0 cp1_0, .int .i64 t.clear.base, .slice Ap1_1 np1_1 cp1_1, .int .i64 t.raise.base, .slice Ap1_2 np1_2 cp1_2, .int .i64 t.verify.base, .slice Ap1_3 np1_3 cp1_3] 47) = x0
      obtain ⟨nb0, nb1, hsz, hb⟩ := laid2 (ps := [.int .i64 s.base, .slice Ap0_ np0_ cp0_]) (rs := [.int .i64 t.taint.base, .slice Ap1_0 np1_0 cp1_0, .int .i64 t.clear.base, .slice Ap1_1 np1_1 cp1_1, .int .i64 t.raise.base, .slice Ap1_2 np1_2 cp1_2, .int .i64 t.verify.base, .slice Ap1_3 np1_3 cp1_3]) hW
      have bel' : Below w.heap.size w x0 := hb
      clear hb
      have bel := bel'
      clear bel'
      have P0 := Lib.hid nb0
      have P1 := Lib.hid nb1
      clear hW hsz nb0 nb1
      refine (sz_labx_yes _ s (1048576) _ (by omega) (by omega) (by omega) g0.out.sh).mono ?_
      rintro e y1 ⟨rfl, hb⟩
      have P0' := Lib.hid (P0.out.below hb)
      clear P0
      have P0 := P0'
      clear P0'
      have P1' := Lib.hid (P1.out.below hb)
      clear P1
      have P1 := P1'
      clear P1'
      have bel' : Below w.heap.size w y1 := below_more bel hb
      clear bel hb
      have bel := bel'
      clear bel'
      have P1k0 := P1.out.cell 0 rfl
      have P1k1 := P1.out.cell 1 rfl
      have P1k2 := P1.out.cell 2 rfl
      have P1k3 := P1.out.cell 3 rfl
      have P1k4 := P1.out.cell 4 rfl
      have P1k5 := P1.out.cell 5 rfl
      have P1k6 := P1.out.cell 6 rfl
      have P1k7 := P1.out.cell 7 rfl
      have P1kz := P1.out.lt
      have u1 : ¬ (((1048576 - (s.parts.length : Nat) - (tmLen t : Nat) : Int)) < 0) := by omega
      go_wp2_with fail
      refine (sz_tm_yes _ t (1048576 - (s.parts.length : Nat)) _ (by omega) (by omega) (by omega) g1.out.sh).mono ?_
      rintro e y2 ⟨rfl, hb⟩
      clear P1k0 P1k1 P1k2 P1k3 P1k4 P1k5 P1k6 P1k7 P1kz
      have P0' := Lib.hid (P0.out.below hb)
      clear P0
      have P0 := P0'
      clear P0'
      have P1' := Lib.hid (P1.out.below hb)
      clear P1
      have P1 := P1'
      clear P1'
      have bel' : Below w.heap.size w y2 := below_more bel hb
      clear bel hb
      have bel := bel'
      clear bel'
      have D0 := Lib.hid (g0.out.rd (by omega))
      have D1 := Lib.hid (g1.out.rd (by omega))
      have P0k0 := P0.out.cell 0 rfl
      have P0k1 := P0.out.cell 1 rfl
      have P0kz := P0.out.lt
      have P1k0 := P1.out.cell 0 rfl
      have P1k1 := P1.out.cell 1 rfl
      have P1k2 := P1.out.cell 2 rfl
      have P1k3 := P1.out.cell 3 rfl
      have P1k4 := P1.out.cell 4 rfl
      have P1k5 := P1.out.cell 5 rfl
      have P1k6 := P1.out.cell 6 rfl
      have P1k7 := P1.out.cell 7 rfl
      have P1kz := P1.out.lt
      clear P0k0 P0k1 P0kz P1k0 P1k1 P1k2 P1k3 P1k4 P1k5 P1k6 P1k7 P1kz
      have P0k0 := P0.out.cell 0 rfl
      have P0k1 := P0.out.cell 1 rfl
      have P0kz := P0.out.lt
      have P1k0 := P1.out.cell 0 rfl
      have P1k1 := P1.out.cell 1 rfl
      have P1k2 := P1.out.cell 2 rfl
      have P1k3 := P1.out.cell 3 rfl
      have P1k4 := P1.out.cell 4 rfl
      have P1k5 := P1.out.cell 5 rfl
      have P1k6 := P1.out.cell 6 rfl
      have P1k7 := P1.out.cell 7 rfl
      have P1kz := P1.out.lt
      have HC := Lib.hid (Below.refl y2.heap.size y2)
      go_wp2
      go_region_held3 (fun w' => w'.cell? ⟨w.heap.size, 0, none⟩ = some (.int .i64 s.base) ∧ w'.cell? ⟨w.heap.size, 1, none⟩ = some (.slice Ap0_ np0_ cp0_) ∧ w'.cell? ⟨w.heap.size + 1, 0, none⟩ = some (.int .i64 t.taint.base) ∧ w'.cell? ⟨w.heap.size + 1, 1, none⟩ = some (.slice Ap1_0 np1_0 cp1_0) ∧ w'.cell? ⟨w.heap.size + 1, 2, none⟩ = some (.int .i64 t.clear.base) ∧ w'.cell? ⟨w.heap.size + 1, 3, none⟩ = some (.slice Ap1_1 np1_1 cp1_1) ∧ w'.cell? ⟨w.heap.size + 1, 4, none⟩ = some (.int .i64 t.raise.base) ∧ w'.cell? ⟨w.heap.size + 1, 5, none⟩ = some (.slice Ap1_2 np1_2 cp1_2) ∧ w'.cell? ⟨w.heap.size + 1, 6, none⟩ = some (.int .i64 t.verify.base) ∧ w'.cell? ⟨w.heap.size + 1, 7, none⟩ = some (.slice Ap1_3 np1_3 cp1_3))
        (first | exact ⟨ff0, ff1, ff2, ff3, ff4, ff5, ff6, ff7, ff8, ff9⟩ | go_keep)
        (first
        | (go_at_call_of 25 (Value.agg #[Value.int IntKind.i64 s.base, Value.slice Ap0_ np0_ cp0_])
           refine (to_lab _ s _ (by first | exact D0.out.below (below_more bel HC.out) | exact (D0.out.below (below_more bel HC.out)).drew)).mono ?_
           rintro e wn ⟨vv, rfl, own, hb⟩
           have HC' : Hid (Below y2.heap.size y2 wn) := Lib.hid (by first | exact below_more HC.out hb | exact below_more HC.out (below_undrew hb))
           clear HC
           have HC := HC'
           clear HC'
           try clear ff0 ff1 ff2 ff3 ff4 ff5 ff6 ff7 ff8 ff9
           have ff0 : wn.cell? ⟨w.heap.size, 0, none⟩ = some (.int .i64 s.base) := (P0.out.below HC.out).cell 0 rfl
           have ff1 : wn.cell? ⟨w.heap.size, 1, none⟩ = some (.slice Ap0_ np0_ cp0_) := (P0.out.below HC.out).cell 1 rfl
           have ff2 : wn.cell? ⟨w.heap.size + 1, 0, none⟩ = some (.int .i64 t.taint.base) := (P1.out.below HC.out).cell 0 rfl
           have ff3 : wn.cell? ⟨w.heap.size + 1, 1, none⟩ = some (.slice Ap1_0 np1_0 cp1_0) := (P1.out.below HC.out).cell 1 rfl
           have ff4 : wn.cell? ⟨w.heap.size + 1, 2, none⟩ = some (.int .i64 t.clear.base) := (P1.out.below HC.out).cell 2 rfl
           have ff5 : wn.cell? ⟨w.heap.size + 1, 3, none⟩ = some (.slice Ap1_1 np1_1 cp1_1) := (P1.out.below HC.out).cell 3 rfl
           have ff6 : wn.cell? ⟨w.heap.size + 1, 4, none⟩ = some (.int .i64 t.raise.base) := (P1.out.below HC.out).cell 4 rfl
           have ff7 : wn.cell? ⟨w.heap.size + 1, 5, none⟩ = some (.slice Ap1_2 np1_2 cp1_2) := (P1.out.below HC.out).cell 5 rfl
           have ff8 : wn.cell? ⟨w.heap.size + 1, 6, none⟩ = some (.int .i64 t.verify.base) := (P1.out.below HC.out).cell 6 rfl
           have ff9 : wn.cell? ⟨w.heap.size + 1, 7, none⟩ = some (.slice Ap1_3 np1_3 cp1_3) := (P1.out.below HC.out).cell 7 rfl
           try (have R1' := Lib.hid (R1.out.below (by first | exact hb | exact below_undrew hb))
                clear R1
                have R1 := R1'
                clear R1')
           have R0 := Lib.hid own.rd
           obtain ⟨Ar0_, nr0_, cr0_, rfl, -⟩ := own
           clear hb)
        | (go_at_call_of 26 (Value.agg #[Value.int IntKind.i64 t.taint.base, Value.slice Ap1_0 np1_0 cp1_0, Value.int IntKind.i64 t.clear.base, Value.slice Ap1_1 np1_1 cp1_1, Value.int IntKind.i64 t.raise.base, Value.slice Ap1_2 np1_2 cp1_2, Value.int IntKind.i64 t.verify.base, Value.slice Ap1_3 np1_3 cp1_3])
           refine (to_tm _ t _ (by first | exact D1.out.below (below_more bel HC.out) | exact (D1.out.below (below_more bel HC.out)).drew)).mono ?_
           rintro e wn ⟨vv, rfl, own, hb⟩
           have HC' : Hid (Below y2.heap.size y2 wn) := Lib.hid (by first | exact below_more HC.out hb | exact below_more HC.out (below_undrew hb))
           clear HC
           have HC := HC'
           clear HC'
           try clear ff0 ff1 ff2 ff3 ff4 ff5 ff6 ff7 ff8 ff9
           have ff0 : wn.cell? ⟨w.heap.size, 0, none⟩ = some (.int .i64 s.base) := (P0.out.below HC.out).cell 0 rfl
           have ff1 : wn.cell? ⟨w.heap.size, 1, none⟩ = some (.slice Ap0_ np0_ cp0_) := (P0.out.below HC.out).cell 1 rfl
           have ff2 : wn.cell? ⟨w.heap.size + 1, 0, none⟩ = some (.int .i64 t.taint.base) := (P1.out.below HC.out).cell 0 rfl
           have ff3 : wn.cell? ⟨w.heap.size + 1, 1, none⟩ = some (.slice Ap1_0 np1_0 cp1_0) := (P1.out.below HC.out).cell 1 rfl
           have ff4 : wn.cell? ⟨w.heap.size + 1, 2, none⟩ = some (.int .i64 t.clear.base) := (P1.out.below HC.out).cell 2 rfl
           have ff5 : wn.cell? ⟨w.heap.size + 1, 3, none⟩ = some (.slice Ap1_1 np1_1 cp1_1) := (P1.out.below HC.out).cell 3 rfl
           have ff6 : wn.cell? ⟨w.heap.size + 1, 4, none⟩ = some (.int .i64 t.raise.base) := (P1.out.below HC.out).cell 4 rfl
           have ff7 : wn.cell? ⟨w.heap.size + 1, 5, none⟩ = some (.slice Ap1_2 np1_2 cp1_2) := (P1.out.below HC.out).cell 5 rfl
           have ff8 : wn.cell? ⟨w.heap.size + 1, 6, none⟩ = some (.int .i64 t.verify.base) := (P1.out.below HC.out).cell 6 rfl
           have ff9 : wn.cell? ⟨w.heap.size + 1, 7, none⟩ = some (.slice Ap1_3 np1_3 cp1_3) := (P1.out.below HC.out).cell 7 rfl
           try (have R0' := Lib.hid (R0.out.below (by first | exact hb | exact below_undrew hb))
                clear R0
                have R0 := R0'
                clear R0')
           have R1 := Lib.hid own.rd
           obtain ⟨Ar1_0, nr1_0, cr1_0, Ar1_1, nr1_1, cr1_1, Ar1_2, nr1_2, cr1_2, Ar1_3, nr1_3, cr1_3, rfl, -, -, -, -, -⟩ := own
           clear hb)
        | (go_at_call 12
           refine (spec_allowed _ _ s t _ R0.out R1.out).mono ?_
           rintro e wn ⟨rfl, hb⟩
           have HC' : Hid (Below y2.heap.size y2 wn) := Lib.hid (by first | exact below_more HC.out hb | exact below_more HC.out (below_undrew hb))
           clear HC
           have HC := HC'
           clear HC'
           try clear ff0 ff1 ff2 ff3 ff4 ff5 ff6 ff7 ff8 ff9
           have ff0 : wn.cell? ⟨w.heap.size, 0, none⟩ = some (.int .i64 s.base) := (P0.out.below HC.out).cell 0 rfl
           have ff1 : wn.cell? ⟨w.heap.size, 1, none⟩ = some (.slice Ap0_ np0_ cp0_) := (P0.out.below HC.out).cell 1 rfl
           have ff2 : wn.cell? ⟨w.heap.size + 1, 0, none⟩ = some (.int .i64 t.taint.base) := (P1.out.below HC.out).cell 0 rfl
           have ff3 : wn.cell? ⟨w.heap.size + 1, 1, none⟩ = some (.slice Ap1_0 np1_0 cp1_0) := (P1.out.below HC.out).cell 1 rfl
           have ff4 : wn.cell? ⟨w.heap.size + 1, 2, none⟩ = some (.int .i64 t.clear.base) := (P1.out.below HC.out).cell 2 rfl
           have ff5 : wn.cell? ⟨w.heap.size + 1, 3, none⟩ = some (.slice Ap1_1 np1_1 cp1_1) := (P1.out.below HC.out).cell 3 rfl
           have ff6 : wn.cell? ⟨w.heap.size + 1, 4, none⟩ = some (.int .i64 t.raise.base) := (P1.out.below HC.out).cell 4 rfl
           have ff7 : wn.cell? ⟨w.heap.size + 1, 5, none⟩ = some (.slice Ap1_2 np1_2 cp1_2) := (P1.out.below HC.out).cell 5 rfl
           have ff8 : wn.cell? ⟨w.heap.size + 1, 6, none⟩ = some (.int .i64 t.verify.base) := (P1.out.below HC.out).cell 6 rfl
           have ff9 : wn.cell? ⟨w.heap.size + 1, 7, none⟩ = some (.slice Ap1_3 np1_3 cp1_3) := (P1.out.below HC.out).cell 7 rfl
           skip
           clear hb))
      obtain ⟨y3, hwn⟩ : ∃ y3, y3 = wn := ⟨_, rfl⟩
      rw [← hwn] at HC ⊢
      have hb := HC.out
      clear HC hwn ff0 ff1 ff2 ff3 ff4 ff5 ff6 ff7 ff8 ff9
      clear P0k0 P0k1 P0kz P1k0 P1k1 P1k2 P1k3 P1k4 P1k5 P1k6 P1k7 P1kz
      have P0' := Lib.hid (P0.out.below hb)
      clear P0
      have P0 := P0'
      clear P0'
      have P1' := Lib.hid (P1.out.below hb)
      clear P1
      have P1 := P1'
      clear P1'
      have bel' : Below w.heap.size w y3 := below_more bel hb
      clear bel hb
      have bel := bel'
      clear bel'
      clear R0 R1
      have P0k0 := P0.out.cell 0 rfl
      have P0k1 := P0.out.cell 1 rfl
      have P0kz := P0.out.lt
      go_wp2_with fail
      refine (to_lab _ s _ (by first | exact D0.out.below bel | exact D0.out.below (bel.alloc bel.size _))).mono ?_
      rintro e y4 ⟨vv, rfl, own, hb⟩
      clear P0k0 P0k1 P0kz
      have P0' := Lib.hid (P0.out.below hb)
      clear P0
      have P0 := P0'
      clear P0'
      have P1' := Lib.hid (P1.out.below hb)
      clear P1
      have P1 := P1'
      clear P1'
      have bel' : Below w.heap.size w y4 := below_more bel hb
      clear bel hb
      have bel := bel'
      clear bel'
      have X0 := Lib.hid own.rd
      obtain ⟨Ax0_, nx0_, cx0_, rfl, -⟩ := own
      have P1k0 := P1.out.cell 0 rfl
      have P1k1 := P1.out.cell 1 rfl
      have P1k2 := P1.out.cell 2 rfl
      have P1k3 := P1.out.cell 3 rfl
      have P1k4 := P1.out.cell 4 rfl
      have P1k5 := P1.out.cell 5 rfl
      have P1k6 := P1.out.cell 6 rfl
      have P1k7 := P1.out.cell 7 rfl
      have P1kz := P1.out.lt
      go_wp2_with fail
      generalize hW : y4.alloc (.cells #[.int .i64 s.base, .slice Ax0_ nx0_ cx0_] 26) = x5
      obtain ⟨nb0, hsz, hb⟩ := laid1 (ps := [.int .i64 s.base, .slice Ax0_ nx0_ cx0_]) hW
      have P0' := Lib.hid (P0.out.below hb)
      clear P0
      have P0 := P0'
      clear P0'
      have P1' := Lib.hid (P1.out.below hb)
      clear P1
      have P1 := P1'
      clear P1'
      have X0' := Lib.hid (X0.out.below hb)
      clear X0
      have X0 := X0'
      clear X0'
      have bel' : Below w.heap.size w x5 := below_more bel hb
      clear bel hb
      have bel := bel'
      clear bel'
      have Q0 := Lib.hid nb0
      clear hW hsz nb0
      refine (to_tm _ t _ (by first | exact D1.out.below bel | exact D1.out.below (bel.alloc bel.size _))).mono ?_
      rintro e y6 ⟨vv, rfl, own, hb⟩
      clear P1k0 P1k1 P1k2 P1k3 P1k4 P1k5 P1k6 P1k7 P1kz
      have P0' := Lib.hid (P0.out.below hb)
      clear P0
      have P0 := P0'
      clear P0'
      have P1' := Lib.hid (P1.out.below hb)
      clear P1
      have P1 := P1'
      clear P1'
      have Q0' := Lib.hid (Q0.out.below hb)
      clear Q0
      have Q0 := Q0'
      clear Q0'
      have X0' := Lib.hid (X0.out.below hb)
      clear X0
      have X0 := X0'
      clear X0'
      have bel' : Below w.heap.size w y6 := below_more bel hb
      clear bel hb
      have bel := bel'
      clear bel'
      have X1 := Lib.hid own.rd
      obtain ⟨Ax1_0, nx1_0, cx1_0, Ax1_1, nx1_1, cx1_1, Ax1_2, nx1_2, cx1_2, Ax1_3, nx1_3, cx1_3, rfl, -, -, -, -, -⟩ := own
      have Q0k0 := Q0.out.cell 0 rfl
      have Q0k1 := Q0.out.cell 1 rfl
      have Q0kz := Q0.out.lt
      go_wp2_with fail
      generalize hW : y6.alloc (.cells #[.int .i64 t.taint.base, .slice Ax1_0 nx1_0 cx1_0, .int .i64 t.clear.base, .slice Ax1_1 nx1_1 cx1_1, .int .i64 t.raise.base, .slice Ax1_2 nx1_2 cx1_2, .int .i64 t.verify.base, .slice Ax1_3 nx1_3 cx1_3] 28) = x7
      obtain ⟨nb0, hsz, hb⟩ := laid1 (ps := [.int .i64 t.taint.base, .slice Ax1_0 nx1_0 cx1_0, .int .i64 t.clear.base, .slice Ax1_1 nx1_1 cx1_1, .int .i64 t.raise.base, .slice Ax1_2 nx1_2 cx1_2, .int .i64 t.verify.base, .slice Ax1_3 nx1_3 cx1_3]) hW
      have P0' := Lib.hid (P0.out.below hb)
      clear P0
      have P0 := P0'
      clear P0'
      have P1' := Lib.hid (P1.out.below hb)
      clear P1
      have P1 := P1'
      clear P1'
      have Q0' := Lib.hid (Q0.out.below hb)
      clear Q0
      have Q0 := Q0'
      clear Q0'
      have X0' := Lib.hid (X0.out.below hb)
      clear X0
      have X0 := X0'
      clear X0'
      have X1' := Lib.hid (X1.out.below hb)
      clear X1
      have X1 := X1'
      clear X1'
      have bel' : Below w.heap.size w x7 := below_more bel hb
      clear bel hb
      have bel := bel'
      clear bel'
      have Q1 := Lib.hid nb0
      clear hW hsz nb0
      refine (impl_allowed _ _ s t _ X0.out X1.out (hs.below bel)).mono ?_
      rintro e y8 ⟨rfl, hb⟩
      clear Q0k0 Q0k1 Q0kz
      have P0' := Lib.hid (P0.out.below hb)
      clear P0
      have P0 := P0'
      clear P0'
      have P1' := Lib.hid (P1.out.below hb)
      clear P1
      have P1 := P1'
      clear P1'
      have Q0' := Lib.hid (Q0.out.below hb)
      clear Q0
      have Q0 := Q0'
      clear Q0'
      have Q1' := Lib.hid (Q1.out.below hb)
      clear Q1
      have Q1 := Q1'
      clear Q1'
      have X0' := Lib.hid (X0.out.below hb)
      clear X0
      have X0 := X0'
      clear X0'
      have X1' := Lib.hid (X1.out.below hb)
      clear X1
      have X1 := X1'
      clear X1'
      have bel' : Below w.heap.size w y8 := below_more bel hb
      clear bel hb
      have bel := bel'
      clear bel'
      have eq0 := labEq_rfl s
      have P0k0 := P0.out.cell 0 rfl
      have P0k1 := P0.out.cell 1 rfl
      have P0kz := P0.out.lt
      have Q0k0 := Q0.out.cell 0 rfl
      have Q0k1 := Q0.out.cell 1 rfl
      have Q0kz := Q0.out.lt
      have HC := Lib.hid (Below.refl y8.heap.size y8)
      go_wp2
      go_region_held3 (fun w' => w'.cell? ⟨w.heap.size, 0, none⟩ = some (.int .i64 s.base) ∧ w'.cell? ⟨w.heap.size, 1, none⟩ = some (.slice Ap0_ np0_ cp0_) ∧ w'.cell? ⟨y4.heap.size, 0, none⟩ = some (.int .i64 s.base) ∧ w'.cell? ⟨y4.heap.size, 1, none⟩ = some (.slice Ax0_ nx0_ cx0_))
        (first | exact ⟨ff0, ff1, ff2, ff3⟩ | go_keep)
        (first
        | (go_at_call 25
           refine (to_lab _ s _ (by first | exact D0.out.below (below_more bel HC.out) | exact (D0.out.below (below_more bel HC.out)).drew)).mono ?_
           rintro e wn ⟨vv, rfl, own, hb⟩
           have HC' : Hid (Below y8.heap.size y8 wn) := Lib.hid (by first | exact below_more HC.out hb | exact below_more HC.out (below_undrew hb))
           clear HC
           have HC := HC'
           clear HC'
           try clear ff0 ff1 ff2 ff3
           have ff0 : wn.cell? ⟨w.heap.size, 0, none⟩ = some (.int .i64 s.base) := (P0.out.below HC.out).cell 0 rfl
           have ff1 : wn.cell? ⟨w.heap.size, 1, none⟩ = some (.slice Ap0_ np0_ cp0_) := (P0.out.below HC.out).cell 1 rfl
           have ff2 : wn.cell? ⟨y4.heap.size, 0, none⟩ = some (.int .i64 s.base) := (Q0.out.below HC.out).cell 0 rfl
           have ff3 : wn.cell? ⟨y4.heap.size, 1, none⟩ = some (.slice Ax0_ nx0_ cx0_) := (Q0.out.below HC.out).cell 1 rfl
           have R9 := Lib.hid own.rd
           obtain ⟨As0_, ns0_, cs0_, rfl, -⟩ := own
           clear hb)
        | (go_at_call 27
           refine (eq_lab _ _ s s _ (by first | exact X0.out.below HC.out | exact (X0.out.below HC.out).drew) R9.out).mono ?_
           rintro e wn ⟨rfl, hb⟩
           have HC' : Hid (Below y8.heap.size y8 wn) := Lib.hid (by first | exact below_more HC.out hb | exact below_more HC.out (below_undrew hb))
           clear HC
           have HC := HC'
           clear HC'
           try clear ff0 ff1 ff2 ff3
           have ff0 : wn.cell? ⟨w.heap.size, 0, none⟩ = some (.int .i64 s.base) := (P0.out.below HC.out).cell 0 rfl
           have ff1 : wn.cell? ⟨w.heap.size, 1, none⟩ = some (.slice Ap0_ np0_ cp0_) := (P0.out.below HC.out).cell 1 rfl
           have ff2 : wn.cell? ⟨y4.heap.size, 0, none⟩ = some (.int .i64 s.base) := (Q0.out.below HC.out).cell 0 rfl
           have ff3 : wn.cell? ⟨y4.heap.size, 1, none⟩ = some (.slice Ax0_ nx0_ cx0_) := (Q0.out.below HC.out).cell 1 rfl
           skip
           clear hb))
      obtain ⟨y9, hwn⟩ : ∃ y9, y9 = wn := ⟨_, rfl⟩
      rw [← hwn] at HC ⊢
      have hb := HC.out
      clear HC hwn ff0 ff1 ff2 ff3
      clear P0k0 P0k1 P0kz Q0k0 Q0k1 Q0kz
      have P0' := Lib.hid (P0.out.below hb)
      clear P0
      have P0 := P0'
      clear P0'
      have P1' := Lib.hid (P1.out.below hb)
      clear P1
      have P1 := P1'
      clear P1'
      have Q0' := Lib.hid (Q0.out.below hb)
      clear Q0
      have Q0 := Q0'
      clear Q0'
      have Q1' := Lib.hid (Q1.out.below hb)
      clear Q1
      have Q1 := Q1'
      clear Q1'
      have X0' := Lib.hid (X0.out.below hb)
      clear X0
      have X0 := X0'
      clear X0'
      have X1' := Lib.hid (X1.out.below hb)
      clear X1
      have X1 := X1'
      clear X1'
      have bel' : Below w.heap.size w y9 := below_more bel hb
      clear bel hb
      have bel := bel'
      clear bel'
      clear R9
      have eq1 := tmEq_rfl t
      have P1k0 := P1.out.cell 0 rfl
      have P1k1 := P1.out.cell 1 rfl
      have P1k2 := P1.out.cell 2 rfl
      have P1k3 := P1.out.cell 3 rfl
      have P1k4 := P1.out.cell 4 rfl
      have P1k5 := P1.out.cell 5 rfl
      have P1k6 := P1.out.cell 6 rfl
      have P1k7 := P1.out.cell 7 rfl
      have P1kz := P1.out.lt
      have Q1k0 := Q1.out.cell 0 rfl
      have Q1k1 := Q1.out.cell 1 rfl
      have Q1k2 := Q1.out.cell 2 rfl
      have Q1k3 := Q1.out.cell 3 rfl
      have Q1k4 := Q1.out.cell 4 rfl
      have Q1k5 := Q1.out.cell 5 rfl
      have Q1k6 := Q1.out.cell 6 rfl
      have Q1k7 := Q1.out.cell 7 rfl
      have Q1kz := Q1.out.lt
      have HC := Lib.hid (Below.refl y9.heap.size y9)
      go_wp2
      go_region_held3 (fun w' => w'.cell? ⟨w.heap.size + 1, 0, none⟩ = some (.int .i64 t.taint.base) ∧ w'.cell? ⟨w.heap.size + 1, 1, none⟩ = some (.slice Ap1_0 np1_0 cp1_0) ∧ w'.cell? ⟨w.heap.size + 1, 2, none⟩ = some (.int .i64 t.clear.base) ∧ w'.cell? ⟨w.heap.size + 1, 3, none⟩ = some (.slice Ap1_1 np1_1 cp1_1) ∧ w'.cell? ⟨w.heap.size + 1, 4, none⟩ = some (.int .i64 t.raise.base) ∧ w'.cell? ⟨w.heap.size + 1, 5, none⟩ = some (.slice Ap1_2 np1_2 cp1_2) ∧ w'.cell? ⟨w.heap.size + 1, 6, none⟩ = some (.int .i64 t.verify.base) ∧ w'.cell? ⟨w.heap.size + 1, 7, none⟩ = some (.slice Ap1_3 np1_3 cp1_3) ∧ w'.cell? ⟨y6.heap.size, 0, none⟩ = some (.int .i64 t.taint.base) ∧ w'.cell? ⟨y6.heap.size, 1, none⟩ = some (.slice Ax1_0 nx1_0 cx1_0) ∧ w'.cell? ⟨y6.heap.size, 2, none⟩ = some (.int .i64 t.clear.base) ∧ w'.cell? ⟨y6.heap.size, 3, none⟩ = some (.slice Ax1_1 nx1_1 cx1_1) ∧ w'.cell? ⟨y6.heap.size, 4, none⟩ = some (.int .i64 t.raise.base) ∧ w'.cell? ⟨y6.heap.size, 5, none⟩ = some (.slice Ax1_2 nx1_2 cx1_2) ∧ w'.cell? ⟨y6.heap.size, 6, none⟩ = some (.int .i64 t.verify.base) ∧ w'.cell? ⟨y6.heap.size, 7, none⟩ = some (.slice Ax1_3 nx1_3 cx1_3))
        (first | exact ⟨ff0, ff1, ff2, ff3, ff4, ff5, ff6, ff7, ff8, ff9, ff10, ff11, ff12, ff13, ff14, ff15⟩ | go_keep)
        (first
        | (go_at_call 26
           refine (to_tm _ t _ (by first | exact D1.out.below (below_more bel HC.out) | exact (D1.out.below (below_more bel HC.out)).drew)).mono ?_
           rintro e wn ⟨vv, rfl, own, hb⟩
           have HC' : Hid (Below y9.heap.size y9 wn) := Lib.hid (by first | exact below_more HC.out hb | exact below_more HC.out (below_undrew hb))
           clear HC
           have HC := HC'
           clear HC'
           try clear ff0 ff1 ff2 ff3 ff4 ff5 ff6 ff7 ff8 ff9 ff10 ff11 ff12 ff13 ff14 ff15
           have ff0 : wn.cell? ⟨w.heap.size + 1, 0, none⟩ = some (.int .i64 t.taint.base) := (P1.out.below HC.out).cell 0 rfl
           have ff1 : wn.cell? ⟨w.heap.size + 1, 1, none⟩ = some (.slice Ap1_0 np1_0 cp1_0) := (P1.out.below HC.out).cell 1 rfl
           have ff2 : wn.cell? ⟨w.heap.size + 1, 2, none⟩ = some (.int .i64 t.clear.base) := (P1.out.below HC.out).cell 2 rfl
           have ff3 : wn.cell? ⟨w.heap.size + 1, 3, none⟩ = some (.slice Ap1_1 np1_1 cp1_1) := (P1.out.below HC.out).cell 3 rfl
           have ff4 : wn.cell? ⟨w.heap.size + 1, 4, none⟩ = some (.int .i64 t.raise.base) := (P1.out.below HC.out).cell 4 rfl
           have ff5 : wn.cell? ⟨w.heap.size + 1, 5, none⟩ = some (.slice Ap1_2 np1_2 cp1_2) := (P1.out.below HC.out).cell 5 rfl
           have ff6 : wn.cell? ⟨w.heap.size + 1, 6, none⟩ = some (.int .i64 t.verify.base) := (P1.out.below HC.out).cell 6 rfl
           have ff7 : wn.cell? ⟨w.heap.size + 1, 7, none⟩ = some (.slice Ap1_3 np1_3 cp1_3) := (P1.out.below HC.out).cell 7 rfl
           have ff8 : wn.cell? ⟨y6.heap.size, 0, none⟩ = some (.int .i64 t.taint.base) := (Q1.out.below HC.out).cell 0 rfl
           have ff9 : wn.cell? ⟨y6.heap.size, 1, none⟩ = some (.slice Ax1_0 nx1_0 cx1_0) := (Q1.out.below HC.out).cell 1 rfl
           have ff10 : wn.cell? ⟨y6.heap.size, 2, none⟩ = some (.int .i64 t.clear.base) := (Q1.out.below HC.out).cell 2 rfl
           have ff11 : wn.cell? ⟨y6.heap.size, 3, none⟩ = some (.slice Ax1_1 nx1_1 cx1_1) := (Q1.out.below HC.out).cell 3 rfl
           have ff12 : wn.cell? ⟨y6.heap.size, 4, none⟩ = some (.int .i64 t.raise.base) := (Q1.out.below HC.out).cell 4 rfl
           have ff13 : wn.cell? ⟨y6.heap.size, 5, none⟩ = some (.slice Ax1_2 nx1_2 cx1_2) := (Q1.out.below HC.out).cell 5 rfl
           have ff14 : wn.cell? ⟨y6.heap.size, 6, none⟩ = some (.int .i64 t.verify.base) := (Q1.out.below HC.out).cell 6 rfl
           have ff15 : wn.cell? ⟨y6.heap.size, 7, none⟩ = some (.slice Ax1_3 nx1_3 cx1_3) := (Q1.out.below HC.out).cell 7 rfl
           have R9 := Lib.hid own.rd
           obtain ⟨As1_0, ns1_0, cs1_0, As1_1, ns1_1, cs1_1, As1_2, ns1_2, cs1_2, As1_3, ns1_3, cs1_3, rfl, -, -, -, -, -⟩ := own
           clear hb)
        | (go_at_call 28
           refine (eq_tm _ _ t t _ (by first | exact X1.out.below HC.out | exact (X1.out.below HC.out).drew) R9.out).mono ?_
           rintro e wn ⟨rfl, hb⟩
           have HC' : Hid (Below y9.heap.size y9 wn) := Lib.hid (by first | exact below_more HC.out hb | exact below_more HC.out (below_undrew hb))
           clear HC
           have HC := HC'
           clear HC'
           try clear ff0 ff1 ff2 ff3 ff4 ff5 ff6 ff7 ff8 ff9 ff10 ff11 ff12 ff13 ff14 ff15
           have ff0 : wn.cell? ⟨w.heap.size + 1, 0, none⟩ = some (.int .i64 t.taint.base) := (P1.out.below HC.out).cell 0 rfl
           have ff1 : wn.cell? ⟨w.heap.size + 1, 1, none⟩ = some (.slice Ap1_0 np1_0 cp1_0) := (P1.out.below HC.out).cell 1 rfl
           have ff2 : wn.cell? ⟨w.heap.size + 1, 2, none⟩ = some (.int .i64 t.clear.base) := (P1.out.below HC.out).cell 2 rfl
           have ff3 : wn.cell? ⟨w.heap.size + 1, 3, none⟩ = some (.slice Ap1_1 np1_1 cp1_1) := (P1.out.below HC.out).cell 3 rfl
           have ff4 : wn.cell? ⟨w.heap.size + 1, 4, none⟩ = some (.int .i64 t.raise.base) := (P1.out.below HC.out).cell 4 rfl
           have ff5 : wn.cell? ⟨w.heap.size + 1, 5, none⟩ = some (.slice Ap1_2 np1_2 cp1_2) := (P1.out.below HC.out).cell 5 rfl
           have ff6 : wn.cell? ⟨w.heap.size + 1, 6, none⟩ = some (.int .i64 t.verify.base) := (P1.out.below HC.out).cell 6 rfl
           have ff7 : wn.cell? ⟨w.heap.size + 1, 7, none⟩ = some (.slice Ap1_3 np1_3 cp1_3) := (P1.out.below HC.out).cell 7 rfl
           have ff8 : wn.cell? ⟨y6.heap.size, 0, none⟩ = some (.int .i64 t.taint.base) := (Q1.out.below HC.out).cell 0 rfl
           have ff9 : wn.cell? ⟨y6.heap.size, 1, none⟩ = some (.slice Ax1_0 nx1_0 cx1_0) := (Q1.out.below HC.out).cell 1 rfl
           have ff10 : wn.cell? ⟨y6.heap.size, 2, none⟩ = some (.int .i64 t.clear.base) := (Q1.out.below HC.out).cell 2 rfl
           have ff11 : wn.cell? ⟨y6.heap.size, 3, none⟩ = some (.slice Ax1_1 nx1_1 cx1_1) := (Q1.out.below HC.out).cell 3 rfl
           have ff12 : wn.cell? ⟨y6.heap.size, 4, none⟩ = some (.int .i64 t.raise.base) := (Q1.out.below HC.out).cell 4 rfl
           have ff13 : wn.cell? ⟨y6.heap.size, 5, none⟩ = some (.slice Ax1_2 nx1_2 cx1_2) := (Q1.out.below HC.out).cell 5 rfl
           have ff14 : wn.cell? ⟨y6.heap.size, 6, none⟩ = some (.int .i64 t.verify.base) := (Q1.out.below HC.out).cell 6 rfl
           have ff15 : wn.cell? ⟨y6.heap.size, 7, none⟩ = some (.slice Ax1_3 nx1_3 cx1_3) := (Q1.out.below HC.out).cell 7 rfl
           skip
           clear hb))
      obtain ⟨y10, hwn⟩ : ∃ y10, y10 = wn := ⟨_, rfl⟩
      rw [← hwn] at HC ⊢
      have hb := HC.out
      clear HC hwn ff0 ff1 ff2 ff3 ff4 ff5 ff6 ff7 ff8 ff9 ff10 ff11 ff12 ff13 ff14 ff15
      clear P1k0 P1k1 P1k2 P1k3 P1k4 P1k5 P1k6 P1k7 P1kz Q1k0 Q1k1 Q1k2 Q1k3 Q1k4 Q1k5 Q1k6 Q1k7 Q1kz
      have P0' := Lib.hid (P0.out.below hb)
      clear P0
      have P0 := P0'
      clear P0'
      have P1' := Lib.hid (P1.out.below hb)
      clear P1
      have P1 := P1'
      clear P1'
      have Q0' := Lib.hid (Q0.out.below hb)
      clear Q0
      have Q0 := Q0'
      clear Q0'
      have Q1' := Lib.hid (Q1.out.below hb)
      clear Q1
      have Q1 := Q1'
      clear Q1'
      have X0' := Lib.hid (X0.out.below hb)
      clear X0
      have X0 := X0'
      clear X0'
      have X1' := Lib.hid (X1.out.below hb)
      clear X1
      have X1 := X1'
      clear X1'
      have bel' : Below w.heap.size w y10 := below_more bel hb
      clear bel hb
      have bel := bel'
      clear bel'
      clear R9
      go_wp2
      go_ret
      exact ⟨rfl, bel⟩
    · skip
      go_enter Tryd.func4, Tryd.ntmps4
      have u0 : ¬ (((1048576 - (s.parts.length : Nat) : Int)) < 0) := by omega
      go_wp2_with fail
      generalize hW : (w.alloc (.cells #[.int .i64 s.base, .slice Ap0_ np0_ cp0_] 45)).alloc (.cells #[.int .i64 t.taint.base, .slice Ap1_0 np1_0 cp1_0, .int .i64 t.clear.base, .slice Ap1_1 np1_1 cp1_1, .int .i64 t.raise.base, .slice Ap1_2 np1_2 cp1_2, .int .i64 t.verify.base, .slice Ap1_3 np1_3 cp1_3] 47) = x0
      obtain ⟨nb0, nb1, hsz, hb⟩ := laid2 (ps := [.int .i64 s.base, .slice Ap0_ np0_ cp0_]) (rs := [.int .i64 t.taint.base, .slice Ap1_0 np1_0 cp1_0, .int .i64 t.clear.base, .slice Ap1_1 np1_1 cp1_1, .int .i64 t.raise.base, .slice Ap1_2 np1_2 cp1_2, .int .i64 t.verify.base, .slice Ap1_3 np1_3 cp1_3]) hW
      have bel' : Below w.heap.size w x0 := hb
      clear hb
      have bel := bel'
      clear bel'
      have P0 := Lib.hid nb0
      have P1 := Lib.hid nb1
      clear hW hsz nb0 nb1
      refine (sz_labx_yes _ s (1048576) _ (by omega) (by omega) (by omega) g0.out.sh).mono ?_
      rintro e y1 ⟨rfl, hb⟩
      have P0' := Lib.hid (P0.out.below hb)
      clear P0
      have P0 := P0'
      clear P0'
      have P1' := Lib.hid (P1.out.below hb)
      clear P1
      have P1 := P1'
      clear P1'
      have bel' : Below w.heap.size w y1 := below_more bel hb
      clear bel hb
      have bel := bel'
      clear bel'
      have P1k0 := P1.out.cell 0 rfl
      have P1k1 := P1.out.cell 1 rfl
      have P1k2 := P1.out.cell 2 rfl
      have P1k3 := P1.out.cell 3 rfl
      have P1k4 := P1.out.cell 4 rfl
      have P1k5 := P1.out.cell 5 rfl
      have P1k6 := P1.out.cell 6 rfl
      have P1k7 := P1.out.cell 7 rfl
      have P1kz := P1.out.lt
      go_wp2_with fail
      refine (sz_tm_no _ t (1048576 - (s.parts.length : Nat)) _ (by omega) (by omega) (by omega) g1.out.sh).mono ?_
      rintro e y2 ⟨rfl, hb⟩
      clear P1k0 P1k1 P1k2 P1k3 P1k4 P1k5 P1k6 P1k7 P1kz
      have P0' := Lib.hid (P0.out.below hb)
      clear P0
      have P0 := P0'
      clear P0'
      have P1' := Lib.hid (P1.out.below hb)
      clear P1
      have P1 := P1'
      clear P1'
      have bel' : Below w.heap.size w y2 := below_more bel hb
      clear bel hb
      have bel := bel'
      clear bel'
      go_wp2
      go_ret
      exact ⟨rfl, bel⟩
  · skip
    go_enter Tryd.func4, Tryd.ntmps4
    go_wp2_with fail
    generalize hW : (w.alloc (.cells #[.int .i64 s.base, .slice Ap0_ np0_ cp0_] 45)).alloc (.cells #[.int .i64 t.taint.base, .slice Ap1_0 np1_0 cp1_0, .int .i64 t.clear.base, .slice Ap1_1 np1_1 cp1_1, .int .i64 t.raise.base, .slice Ap1_2 np1_2 cp1_2, .int .i64 t.verify.base, .slice Ap1_3 np1_3 cp1_3] 47) = x0
    obtain ⟨nb0, nb1, hsz, hb⟩ := laid2 (ps := [.int .i64 s.base, .slice Ap0_ np0_ cp0_]) (rs := [.int .i64 t.taint.base, .slice Ap1_0 np1_0 cp1_0, .int .i64 t.clear.base, .slice Ap1_1 np1_1 cp1_1, .int .i64 t.raise.base, .slice Ap1_2 np1_2 cp1_2, .int .i64 t.verify.base, .slice Ap1_3 np1_3 cp1_3]) hW
    have bel' : Below w.heap.size w x0 := hb
    clear hb
    have bel := bel'
    clear bel'
    have P0 := Lib.hid nb0
    have P1 := Lib.hid nb1
    clear hW hsz nb0 nb1
    refine (sz_labx_no _ s (1048576) _ (by omega) (by omega) (by omega) g0.out.sh).mono ?_
    rintro e y1 ⟨rfl, hb⟩
    have P0' := Lib.hid (P0.out.below hb)
    clear P0
    have P0 := P0'
    clear P0'
    have P1' := Lib.hid (P1.out.below hb)
    clear P1
    have P1 := P1'
    clear P1'
    have bel' : Below w.heap.size w y1 := below_more bel hb
    clear bel hb
    have bel := bel'
    clear bel'
    go_wp2
    go_ret
    exact ⟨rfl, bel⟩

set_option maxRecDepth 100000 in
theorem lifted (os : Os) (started : os.Started) (H : Type) (enc : TypeId × Value → H) :
    ReturnsInHanded {} Tryd.checked os 4 .any (fun w args => (Rows.fnExactAllowedSpec.pre enc Tryd.prog Tryd.f4 [] false w args ∧ laidMetH Tryd.prog Rows.fnExactAllowedRow.laid w) ∧ sizedMet enc Tryd.prog Tryd.f4 (OpenSpec.ofChange Rows.fnExactAllowedSpec) false w args)
      (Rows.fnExactAllowedSpec.post enc Tryd.prog Tryd.f4 false true false false) := by
  refine returnsInHanded_of_change_and (C := Tryd.checked) (X := fun w _ => laidMetH Tryd.prog Rows.fnExactAllowedRow.laid w) (fun _ _ _ hh h => h.of_heap hh) own started (by kernel_rfl) Tryd.func4
    (ChangeSpec.witness_shaped (enc := enc) (C := Tryd.checked) (os := os) (X := fun w _ => laidMetH Tryd.prog Rows.fnExactAllowedRow.laid w) false (World.doorLaid Tryd.prog 4000 os) #[.agg #[.int .i64 0, .slice none 0 0], .agg #[.int .i64 0, .slice none 0 0, .int .i64 0, .slice none 0 0, .int .i64 0, .slice none 0 0, .int .i64 0, .slice none 0 0]] 8 rfl (World.shaped_of_RefB (by kernel_rfl) (by kernel_rfl)) (by kernel_rfl) (by kernel_rfl) (by kernel_rfl) (laidMetH_of_parts3 (fuel := 8) (laidMet_of_run' 8 (by kernel_rfl) (by kernel_rfl)) (by kernel_rfl) (by kernel_rfl))) ?_
  intro W base args ds gs before hval0 hW _ _ hL _
  have hval : ∀ (j : Nat) t v, Tryd.f4.params[j]? = some t → args[j]? = some v → Value.okWide Tryd.prog W .any base t v := hval0
  have hW' := hW
  obtain ⟨p, q, hA0, hV, rfl, hfz, hnd⟩ := hW
  have hA : DataW.TrodAll enc Tryd.prog W 0 (fun _ => true) true Tryd.f4.params.toList args.toList ds p := hA0
  rw [Tryd.params4] at hA hval
  obtain ⟨v0, vs0, d0, ds0, p0, q0, hargs, rfl, rfl, h0, r0⟩ := trodAll_cons hA
  obtain ⟨v1, vs1, d1, ds1, p1, q1, rfl, rfl, rfl, h1, r1⟩ := trodAll_cons r0
  obtain ⟨rfl, rfl, rfl⟩ := trodAll_nil r1
  obtain rfl : args = #[v0, v1] := by cases args; simp_all
  obtain ⟨a9, b9, va, vb, hs⟩ := sent_owned hL
  have vr : ∀ {X : World}, X.var? Tryd.prog "loop.example/g00805/impl.errNotOwned" = some #[.iface 139 (.pointer (some b9))] → X.var? Tryd.prog "loop.example/g00805/impl.errNotRight" = some #[.iface 139 (.pointer (some a9))] → ∀ sp : Nat → Bool, DataW.TrodVars enc Tryd.prog X sp ["loop.example/g00805/impl.errNotOwned", "loop.example/g00805/impl.errNotRight"] [tok enc (.iface 139 (.pointer (some b9))), tok enc (.iface 139 (.pointer (some a9)))] [.cell 2 0, .cell 0 0] :=
    fun yvb yva sp => vars_read2 enc gn_errNotOwned gt_errNotOwned Tryd.underlying61 yvb trivial gn_errNotRight gt_errNotRight Tryd.underlying61 yva trivial sp
  have hV' : DataW.TrodVars enc Tryd.prog W (fun _ => true) ["loop.example/g00805/impl.errNotOwned", "loop.example/g00805/impl.errNotRight"] gs q := hV
  obtain ⟨rfl, rfl⟩ := hV'.unique (vr vb va _)
  have k0 := h0
  have lt0 : ∀ x ∈ p0, x.block < W.heap.size := by obtain ⟨m, hm⟩ := k0; exact DataW.trod_lt m _ _ _ hm
  have k1 := h1
  have lt1 : ∀ x ∈ p1, x.block < W.heap.size := by obtain ⟨m, hm⟩ := k1; exact DataW.trod_lt m _ _ _ hm
  obtain ⟨l0, hl0⟩ := open_lab (hval 0 45 v0 rfl rfl) h0
  obtain ⟨l1, hl1⟩ := open_tm (hval 1 47 v1 rfl rfl) h1
  clear hA0 hval0
  refine (walk v0 l0 hl0 v1 l1 hl1 hs (w := W)).mono fun e W' ⟨he, bel⟩ => ?_
  subst he
  exact ⟨_, rfl, _, _, _, [], _, _, hW', (trodAll_cons_mk (shut_bool Tryd.underlying4 _) trodAll_mk0), (trodAll_cons_mk (Below.trod laidOut (by kernel_rfl) (of_decide_eq_true (by kernel_rfl)) k0 bel lt0) (trodAll_cons_mk (Below.trod laidOut (by kernel_rfl) (of_decide_eq_true (by kernel_rfl)) k1 bel lt1) trodAll_mk0)), vr (var_below vb bel) (var_below va bel) _, bel.frame _, fun h => by cases h⟩

theorem said : Rows.FnExactAllowedSaid :=
  OpenClaim.holds_of_wide 4 Tryd.f4 rfl rfl rfl rfl rfl rfl rfl ⟨rfl, rfl, rfl, rfl, rfl⟩ rfl rfl rfl rfl rfl (by kernel_rfl) Tryd.func4 (by kernel_rfl)
    (of_decide_eq_true (by kernel_rfl)) (by unfold Func.isWrapper; first | (rw [if_pos (by decide +kernel)]; kernel_rfl) | (rw [if_neg (by decide +kernel)]; exact ⟨rfl, rfl⟩))
    (fun os started H enc _ => lifted os started H enc)

theorem plain (f : FuncId) (fn : Func) (hf : Tryd.pinned.checked.prog.funcNamed Rows.fnExactAllowedRow.func = some f) (hfn : Tryd.pinned.checked.prog.funcs[f]? = some fn) :
    true = Tryd.pinned.checked.prog.looks [] ∧ ∀ (j : Nat) t, fn.params[j]? = some t → Tryd.pinned.checked.prog.wantsStandIn t = false := by
  obtain rfl : f = 4 := Option.some.inj ((show Tryd.prog.funcNamed Rows.fnExactAllowedRow.func = some 4 by kernel_rfl).symm.trans hf) |>.symm
  obtain rfl : fn = Tryd.f4 := (Option.some.inj (Tryd.func4.symm.trans hfn)).symm
  refine ⟨by kernel_rfl, fun j t ht => ?_⟩
  rw [Tryd.params4] at ht
  have hm : t ∈ [45, 47] := by simpa using Array.mem_of_getElem? ht
  have hall : ([45, 47].all fun u => !Tryd.prog.wantsStandIn u) = true := by kernel_rfl
  exact (show Tryd.prog.wantsStandIn t = false by simpa using List.all_eq_true.1 hall t hm)

theorem proved : Rows.FnExactAllowedCardSaid :=
  Claim7.holds_tied_plain_at .later [] _ _ _ _ said (fun _ h => by cases h) (by kernel_rfl) (fun _ h => by cases h) fnExactAllowed_row_tie rfl ⟨rfl, rfl⟩ (by kernel_rfl) rfl plain (by kernel_rfl)
#print axioms proved
end Go.Proofs.YtedaknjjcdlpnaaDoor.fnExactAllowed
