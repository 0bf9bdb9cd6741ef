/-
  FnExactAccepts: whatever the input, the law returns true and its arguments read as they did; no condition but the tie of the listed variables.
-/
import Derived.Test.YtedaknjjcdlpnaaDoorBase
import Derived.Test.YtedaknjjcdlpnaaDoorCards
import Derived.Test.YtedaknjjcdlpnaaDoorTie
import Derived.SevenTiedAt
import Derived.LaidMore
import Derived.Stop.Joined
import Derived.Test.YtedaknjjcdlpnaaDoorTmOpen
import Derived.Test.YtedaknjjcdlpnaaDoorSpecAccepts
import Derived.Test.YtedaknjjcdlpnaaDoorImplTerms
import Derived.Test.YtedaknjjcdlpnaaDoorSent
namespace Go.Proofs.YtedaknjjcdlpnaaDoor.fnExactAccepts
set_option maxRecDepth 100000
open Go.ChangeShapes Go.WideShapes Go.ChangeAt Go.RowKit
open Go.ChangeMaps (open_string shut_string)
set_option linter.unusedVariables false

set_option maxHeartbeats 8000000 in
theorem walk {w : World} (v0 : Value) (e : Lab) (h0 : ArgLab w v0 e) (v1 : Value) (r : Lab) (h1 : ArgLab w v1 r) (v2 : Value) (t : Tm) (h2 : ArgTm w v2 t) (v3 : Value) (d : Lab) (h3 : ArgLab w v3 d) (hs : Sent w 1) :
    Calls Tryd.prog 5 #[v0, v1, v2, v3] w fun e w' => e = .returned (.bool true) ∧ Below w.heap.size w w' := by
  have g0 := Lib.hid h0
  obtain ⟨Ap0_, np0_, cp0_, rfl, -⟩ := h0
  have g1 := Lib.hid h1
  obtain ⟨Ap1_, np1_, cp1_, rfl, -⟩ := h1
  have g2 := Lib.hid h2
  obtain ⟨Ap2_0, np2_0, cp2_0, Ap2_1, np2_1, cp2_1, Ap2_2, np2_2, cp2_2, Ap2_3, np2_3, cp2_3, rfl, -, -, -, -⟩ := h2
  have g3 := Lib.hid h3
  obtain ⟨Ap3_, np3_, cp3_, rfl, -⟩ := h3
  by_cases z0 : (e.parts.length : Nat) ≤ (1048576 : Int)
  · skip
    by_cases z1 : (r.parts.length : Nat) ≤ (1048576 - (e.parts.length : Nat) : Int)
    · skip
      by_cases z2 : (tmLen t : Nat) ≤ (1048576 - (e.parts.length : Nat) - (r.parts.length : Nat) : Int)
      · skip
        by_cases z3 : (d.parts.length : Nat) ≤ (1048576 - (e.parts.length : Nat) - (r.parts.length : Nat) - (tmLen t : Nat) : Int)
        · skip
          go_enter Tryd.func5, Tryd.ntmps5
          have u0 : ¬ (((1048576 - (e.parts.length : Nat) : Int)) < 0) := by omega
          go_wp2_with fail
          generalize hW : (((w.alloc (.cells #[.int .i64 e.base, .slice Ap0_ np0_ cp0_] 45)).alloc (.cells #[.int .i64 r.base, .slice Ap1_ np1_ cp1_] 45)).alloc (.cells #[.int .i64 t.taint.base, .slice Ap2_0 np2_0 cp2_0, .int .i64 t.clear.base, .slice Ap2_1 np2_1 cp2_1, .int .i64 t.raise.base, .slice Ap2_2 np2_2 cp2_2, .int .i64 t.verify.base, .slice Ap2_3 np2_3 cp2_3] 47)).alloc (.cells #[.int .i64 d.base, .slice Ap3_ np3_ cp3_] 45) = x0
          obtain ⟨nb0, nb1, nb2, nb3, hsz, hb⟩ := laid4b (ps := [.int .i64 e.base, .slice Ap0_ np0_ cp0_]) (rs := [.int .i64 r.base, .slice Ap1_ np1_ cp1_]) (os := [.int .i64 t.taint.base, .slice Ap2_0 np2_0 cp2_0, .int .i64 t.clear.base, .slice Ap2_1 np2_1 cp2_1, .int .i64 t.raise.base, .slice Ap2_2 np2_2 cp2_2, .int .i64 t.verify.base, .slice Ap2_3 np2_3 cp2_3]) (qs := [.int .i64 d.base, .slice Ap3_ np3_ cp3_]) hW
          have bel' : Below w.heap.size w x0 := hb
          clear hb
          have bel := bel'
          clear bel'
          have P0 := Lib.hid nb0
          have P1 := Lib.hid nb1
          have P2 := Lib.hid nb2
          have P3 := Lib.hid nb3
          clear hW hsz nb0 nb1 nb2 nb3
          refine (sz_labx_yes _ e (1048576) _ (by omega) (by omega) (by omega) g0.out.sh).mono ?_
          rintro e y1 ⟨rfl, hb⟩
          have P0' := Lib.hid (P0.out.below hb)
          clear P0
          have P0 := P0'
          clear P0'
          have P1' := Lib.hid (P1.out.below hb)
          clear P1
          have P1 := P1'
          clear P1'
          have P2' := Lib.hid (P2.out.below hb)
          clear P2
          have P2 := P2'
          clear P2'
          have P3' := Lib.hid (P3.out.below hb)
          clear P3
          have P3 := P3'
          clear P3'
          have bel' : Below w.heap.size w y1 := below_more bel hb
          clear bel hb
          have bel := bel'
          clear bel'
          have P1k0 := P1.out.cell 0 rfl
          have P1k1 := P1.out.cell 1 rfl
          have P1kz := P1.out.lt
          have u1 : ¬ (((1048576 - (e.parts.length : Nat) - (r.parts.length : Nat) : Int)) < 0) := by omega
          go_wp2_with fail
          refine (sz_labx_yes _ r (1048576 - (e.parts.length : Nat)) _ (by omega) (by omega) (by omega) g1.out.sh).mono ?_
          rintro e y2 ⟨rfl, hb⟩
          clear P1k0 P1k1 P1kz
          have P0' := Lib.hid (P0.out.below hb)
          clear P0
          have P0 := P0'
          clear P0'
          have P1' := Lib.hid (P1.out.below hb)
          clear P1
          have P1 := P1'
          clear P1'
          have P2' := Lib.hid (P2.out.below hb)
          clear P2
          have P2 := P2'
          clear P2'
          have P3' := Lib.hid (P3.out.below hb)
          clear P3
          have P3 := P3'
          clear P3'
          have bel' : Below w.heap.size w y2 := below_more bel hb
          clear bel hb
          have bel := bel'
          clear bel'
          have P2k0 := P2.out.cell 0 rfl
          have P2k1 := P2.out.cell 1 rfl
          have P2k2 := P2.out.cell 2 rfl
          have P2k3 := P2.out.cell 3 rfl
          have P2k4 := P2.out.cell 4 rfl
          have P2k5 := P2.out.cell 5 rfl
          have P2k6 := P2.out.cell 6 rfl
          have P2k7 := P2.out.cell 7 rfl
          have P2kz := P2.out.lt
          have u2 : ¬ (((1048576 - (e.parts.length : Nat) - (r.parts.length : Nat) - (tmLen t : Nat) : Int)) < 0) := by omega
          go_wp2_with fail
          refine (sz_tm_yes _ t (1048576 - (e.parts.length : Nat) - (r.parts.length : Nat)) _ (by omega) (by omega) (by omega) g2.out.sh).mono ?_
          rintro e y3 ⟨rfl, hb⟩
          clear P2k0 P2k1 P2k2 P2k3 P2k4 P2k5 P2k6 P2k7 P2kz
          have P0' := Lib.hid (P0.out.below hb)
          clear P0
          have P0 := P0'
          clear P0'
          have P1' := Lib.hid (P1.out.below hb)
          clear P1
          have P1 := P1'
          clear P1'
          have P2' := Lib.hid (P2.out.below hb)
          clear P2
          have P2 := P2'
          clear P2'
          have P3' := Lib.hid (P3.out.below hb)
          clear P3
          have P3 := P3'
          clear P3'
          have bel' : Below w.heap.size w y3 := below_more bel hb
          clear bel hb
          have bel := bel'
          clear bel'
          have P3k0 := P3.out.cell 0 rfl
          have P3k1 := P3.out.cell 1 rfl
          have P3kz := P3.out.lt
          have u3 : ¬ (((1048576 - (e.parts.length : Nat) - (r.parts.length : Nat) - (tmLen t : Nat) - (d.parts.length : Nat) : Int)) < 0) := by omega
          go_wp2_with fail
          refine (sz_labx_yes _ d (1048576 - (e.parts.length : Nat) - (r.parts.length : Nat) - (tmLen t : Nat)) _ (by omega) (by omega) (by omega) g3.out.sh).mono ?_
          rintro e y4 ⟨rfl, hb⟩
          clear P3k0 P3k1 P3kz
          have P0' := Lib.hid (P0.out.below hb)
          clear P0
          have P0 := P0'
          clear P0'
          have P1' := Lib.hid (P1.out.below hb)
          clear P1
          have P1 := P1'
          clear P1'
          have P2' := Lib.hid (P2.out.below hb)
          clear P2
          have P2 := P2'
          clear P2'
          have P3' := Lib.hid (P3.out.below hb)
          clear P3
          have P3 := P3'
          clear P3'
          have bel' : Below w.heap.size w y4 := below_more bel hb
          clear bel hb
          have bel := bel'
          clear bel'
          have D0 := Lib.hid (g0.out.rd (by omega))
          have D1 := Lib.hid (g1.out.rd (by omega))
          have D2 := Lib.hid (g2.out.rd (by omega))
          have D3 := Lib.hid (g3.out.rd (by omega))
          have P0k0 := P0.out.cell 0 rfl
          have P0k1 := P0.out.cell 1 rfl
          have P0kz := P0.out.lt
          have P1k0 := P1.out.cell 0 rfl
          have P1k1 := P1.out.cell 1 rfl
          have P1kz := P1.out.lt
          have P2k0 := P2.out.cell 0 rfl
          have P2k1 := P2.out.cell 1 rfl
          have P2k2 := P2.out.cell 2 rfl
          have P2k3 := P2.out.cell 3 rfl
          have P2k4 := P2.out.cell 4 rfl
          have P2k5 := P2.out.cell 5 rfl
          have P2k6 := P2.out.cell 6 rfl
          have P2k7 := P2.out.cell 7 rfl
          have P2kz := P2.out.lt
          have P3k0 := P3.out.cell 0 rfl
          have P3k1 := P3.out.cell 1 rfl
          have P3kz := P3.out.lt
          clear P0k0 P0k1 P0kz P1k0 P1k1 P1kz P2k0 P2k1 P2k2 P2k3 P2k4 P2k5 P2k6 P2k7 P2kz P3k0 P3k1 P3kz
          have P0k0 := P0.out.cell 0 rfl
          have P0k1 := P0.out.cell 1 rfl
          have P0kz := P0.out.lt
          have P1k0 := P1.out.cell 0 rfl
          have P1k1 := P1.out.cell 1 rfl
          have P1kz := P1.out.lt
          have P2k0 := P2.out.cell 0 rfl
          have P2k1 := P2.out.cell 1 rfl
          have P2k2 := P2.out.cell 2 rfl
          have P2k3 := P2.out.cell 3 rfl
          have P2k4 := P2.out.cell 4 rfl
          have P2k5 := P2.out.cell 5 rfl
          have P2k6 := P2.out.cell 6 rfl
          have P2k7 := P2.out.cell 7 rfl
          have P2kz := P2.out.lt
          have P3k0 := P3.out.cell 0 rfl
          have P3k1 := P3.out.cell 1 rfl
          have P3kz := P3.out.lt
          have HC := Lib.hid (Below.refl y4.heap.size y4)
          go_wp2
          go_region_held3 (fun w' => w'.cell? ⟨w.heap.size, 0, none⟩ = some (.int .i64 e.base) ∧ w'.cell? ⟨w.heap.size, 1, none⟩ = some (.slice Ap0_ np0_ cp0_) ∧ w'.cell? ⟨w.heap.size + 1, 0, none⟩ = some (.int .i64 r.base) ∧ w'.cell? ⟨w.heap.size + 1, 1, none⟩ = some (.slice Ap1_ np1_ cp1_) ∧ w'.cell? ⟨w.heap.size + 1 + 1, 0, none⟩ = some (.int .i64 t.taint.base) ∧ w'.cell? ⟨w.heap.size + 1 + 1, 1, none⟩ = some (.slice Ap2_0 np2_0 cp2_0) ∧ w'.cell? ⟨w.heap.size + 1 + 1, 2, none⟩ = some (.int .i64 t.clear.base) ∧ w'.cell? ⟨w.heap.size + 1 + 1, 3, none⟩ = some (.slice Ap2_1 np2_1 cp2_1) ∧ w'.cell? ⟨w.heap.size + 1 + 1, 4, none⟩ = some (.int .i64 t.raise.base) ∧ w'.cell? ⟨w.heap.size + 1 + 1, 5, none⟩ = some (.slice Ap2_2 np2_2 cp2_2) ∧ w'.cell? ⟨w.heap.size + 1 + 1, 6, none⟩ = some (.int .i64 t.verify.base) ∧ w'.cell? ⟨w.heap.size + 1 + 1, 7, none⟩ = some (.slice Ap2_3 np2_3 cp2_3) ∧ w'.cell? ⟨w.heap.size + 1 + 1 + 1, 0, none⟩ = some (.int .i64 d.base) ∧ w'.cell? ⟨w.heap.size + 1 + 1 + 1, 1, none⟩ = some (.slice Ap3_ np3_ cp3_))
            (first | exact ⟨ff0, ff1, ff2, ff3, ff4, ff5, ff6, ff7, ff8, ff9, ff10, ff11, ff12, ff13⟩ | go_keep)
            (first
            | (go_at_call_of 25 (Value.agg #[Value.int IntKind.i64 e.base, Value.slice Ap0_ np0_ cp0_])
               refine (to_lab _ e _ (by first | exact D0.out.below (below_more bel HC.out) | exact (D0.out.below (below_more bel HC.out)).drew)).mono ?_
               rintro e wn ⟨vv, rfl, own, hb⟩
               have HC' : Hid (Below y4.heap.size y4 wn) := Lib.hid (by first | exact below_more HC.out hb | exact below_more HC.out (below_undrew hb))
               clear HC
               have HC := HC'
               clear HC'
               try clear ff0 ff1 ff2 ff3 ff4 ff5 ff6 ff7 ff8 ff9 ff10 ff11 ff12 ff13
               have ff0 : wn.cell? ⟨w.heap.size, 0, none⟩ = some (.int .i64 e.base) := (P0.out.below HC.out).cell 0 rfl
               have ff1 : wn.cell? ⟨w.heap.size, 1, none⟩ = some (.slice Ap0_ np0_ cp0_) := (P0.out.below HC.out).cell 1 rfl
               have ff2 : wn.cell? ⟨w.heap.size + 1, 0, none⟩ = some (.int .i64 r.base) := (P1.out.below HC.out).cell 0 rfl
               have ff3 : wn.cell? ⟨w.heap.size + 1, 1, none⟩ = some (.slice Ap1_ np1_ cp1_) := (P1.out.below HC.out).cell 1 rfl
               have ff4 : wn.cell? ⟨w.heap.size + 1 + 1, 0, none⟩ = some (.int .i64 t.taint.base) := (P2.out.below HC.out).cell 0 rfl
               have ff5 : wn.cell? ⟨w.heap.size + 1 + 1, 1, none⟩ = some (.slice Ap2_0 np2_0 cp2_0) := (P2.out.below HC.out).cell 1 rfl
               have ff6 : wn.cell? ⟨w.heap.size + 1 + 1, 2, none⟩ = some (.int .i64 t.clear.base) := (P2.out.below HC.out).cell 2 rfl
               have ff7 : wn.cell? ⟨w.heap.size + 1 + 1, 3, none⟩ = some (.slice Ap2_1 np2_1 cp2_1) := (P2.out.below HC.out).cell 3 rfl
               have ff8 : wn.cell? ⟨w.heap.size + 1 + 1, 4, none⟩ = some (.int .i64 t.raise.base) := (P2.out.below HC.out).cell 4 rfl
               have ff9 : wn.cell? ⟨w.heap.size + 1 + 1, 5, none⟩ = some (.slice Ap2_2 np2_2 cp2_2) := (P2.out.below HC.out).cell 5 rfl
               have ff10 : wn.cell? ⟨w.heap.size + 1 + 1, 6, none⟩ = some (.int .i64 t.verify.base) := (P2.out.below HC.out).cell 6 rfl
               have ff11 : wn.cell? ⟨w.heap.size + 1 + 1, 7, none⟩ = some (.slice Ap2_3 np2_3 cp2_3) := (P2.out.below HC.out).cell 7 rfl
               have ff12 : wn.cell? ⟨w.heap.size + 1 + 1 + 1, 0, none⟩ = some (.int .i64 d.base) := (P3.out.below HC.out).cell 0 rfl
               have ff13 : wn.cell? ⟨w.heap.size + 1 + 1 + 1, 1, none⟩ = some (.slice Ap3_ np3_ cp3_) := (P3.out.below HC.out).cell 1 rfl
               try (have R1' := Lib.hid (R1.out.below (by first | exact hb | exact below_undrew hb))
                    clear R1
                    have R1 := R1'
                    clear R1')
               try (have R2' := Lib.hid (R2.out.below (by first | exact hb | exact below_undrew hb))
                    clear R2
                    have R2 := R2'
                    clear R2')
               try (have R3' := Lib.hid (R3.out.below (by first | exact hb | exact below_undrew hb))
                    clear R3
                    have R3 := R3'
                    clear R3')
               have R0 := Lib.hid own.rd
               obtain ⟨Ar0_, nr0_, cr0_, rfl, -⟩ := own
               clear hb)
            | (go_at_call_of 25 (Value.agg #[Value.int IntKind.i64 r.base, Value.slice Ap1_ np1_ cp1_])
               refine (to_lab _ r _ (by first | exact D1.out.below (below_more bel HC.out) | exact (D1.out.below (below_more bel HC.out)).drew)).mono ?_
               rintro e wn ⟨vv, rfl, own, hb⟩
               have HC' : Hid (Below y4.heap.size y4 wn) := Lib.hid (by first | exact below_more HC.out hb | exact below_more HC.out (below_undrew hb))
               clear HC
               have HC := HC'
               clear HC'
               try clear ff0 ff1 ff2 ff3 ff4 ff5 ff6 ff7 ff8 ff9 ff10 ff11 ff12 ff13
               have ff0 : wn.cell? ⟨w.heap.size, 0, none⟩ = some (.int .i64 e.base) := (P0.out.below HC.out).cell 0 rfl
               have ff1 : wn.cell? ⟨w.heap.size, 1, none⟩ = some (.slice Ap0_ np0_ cp0_) := (P0.out.below HC.out).cell 1 rfl
               have ff2 : wn.cell? ⟨w.heap.size + 1, 0, none⟩ = some (.int .i64 r.base) := (P1.out.below HC.out).cell 0 rfl
               have ff3 : wn.cell? ⟨w.heap.size + 1, 1, none⟩ = some (.slice Ap1_ np1_ cp1_) := (P1.out.below HC.out).cell 1 rfl
               have ff4 : wn.cell? ⟨w.heap.size + 1 + 1, 0, none⟩ = some (.int .i64 t.taint.base) := (P2.out.below HC.out).cell 0 rfl
               have ff5 : wn.cell? ⟨w.heap.size + 1 + 1, 1, none⟩ = some (.slice Ap2_0 np2_0 cp2_0) := (P2.out.below HC.out).cell 1 rfl
               have ff6 : wn.cell? ⟨w.heap.size + 1 + 1, 2, none⟩ = some (.int .i64 t.clear.base) := (P2.out.below HC.out).cell 2 rfl
               have ff7 : wn.cell? ⟨w.heap.size + 1 + 1, 3, none⟩ = some (.slice Ap2_1 np2_1 cp2_1) := (P2.out.below HC.out).cell 3 rfl
               have ff8 : wn.cell? ⟨w.heap.size + 1 + 1, 4, none⟩ = some (.int .i64 t.raise.base) := (P2.out.below HC.out).cell 4 rfl
               have ff9 : wn.cell? ⟨w.heap.size + 1 + 1, 5, none⟩ = some (.slice Ap2_2 np2_2 cp2_2) := (P2.out.below HC.out).cell 5 rfl
               have ff10 : wn.cell? ⟨w.heap.size + 1 + 1, 6, none⟩ = some (.int .i64 t.verify.base) := (P2.out.below HC.out).cell 6 rfl
               have ff11 : wn.cell? ⟨w.heap.size + 1 + 1, 7, none⟩ = some (.slice Ap2_3 np2_3 cp2_3) := (P2.out.below HC.out).cell 7 rfl
               have ff12 : wn.cell? ⟨w.heap.size + 1 + 1 + 1, 0, none⟩ = some (.int .i64 d.base) := (P3.out.below HC.out).cell 0 rfl
               have ff13 : wn.cell? ⟨w.heap.size + 1 + 1 + 1, 1, none⟩ = some (.slice Ap3_ np3_ cp3_) := (P3.out.below HC.out).cell 1 rfl
               try (have R0' := Lib.hid (R0.out.below (by first | exact hb | exact below_undrew hb))
                    clear R0
                    have R0 := R0'
                    clear R0')
               try (have R2' := Lib.hid (R2.out.below (by first | exact hb | exact below_undrew hb))
                    clear R2
                    have R2 := R2'
                    clear R2')
               try (have R3' := Lib.hid (R3.out.below (by first | exact hb | exact below_undrew hb))
                    clear R3
                    have R3 := R3'
                    clear R3')
               have R1 := Lib.hid own.rd
               obtain ⟨Ar1_, nr1_, cr1_, rfl, -⟩ := own
               clear hb)
            | (go_at_call_of 26 (Value.agg #[Value.int IntKind.i64 t.taint.base, Value.slice Ap2_0 np2_0 cp2_0, Value.int IntKind.i64 t.clear.base, Value.slice Ap2_1 np2_1 cp2_1, Value.int IntKind.i64 t.raise.base, Value.slice Ap2_2 np2_2 cp2_2, Value.int IntKind.i64 t.verify.base, Value.slice Ap2_3 np2_3 cp2_3])
               refine (to_tm _ t _ (by first | exact D2.out.below (below_more bel HC.out) | exact (D2.out.below (below_more bel HC.out)).drew)).mono ?_
               rintro e wn ⟨vv, rfl, own, hb⟩
               have HC' : Hid (Below y4.heap.size y4 wn) := Lib.hid (by first | exact below_more HC.out hb | exact below_more HC.out (below_undrew hb))
               clear HC
               have HC := HC'
               clear HC'
               try clear ff0 ff1 ff2 ff3 ff4 ff5 ff6 ff7 ff8 ff9 ff10 ff11 ff12 ff13
               have ff0 : wn.cell? ⟨w.heap.size, 0, none⟩ = some (.int .i64 e.base) := (P0.out.below HC.out).cell 0 rfl
               have ff1 : wn.cell? ⟨w.heap.size, 1, none⟩ = some (.slice Ap0_ np0_ cp0_) := (P0.out.below HC.out).cell 1 rfl
               have ff2 : wn.cell? ⟨w.heap.size + 1, 0, none⟩ = some (.int .i64 r.base) := (P1.out.below HC.out).cell 0 rfl
               have ff3 : wn.cell? ⟨w.heap.size + 1, 1, none⟩ = some (.slice Ap1_ np1_ cp1_) := (P1.out.below HC.out).cell 1 rfl
               have ff4 : wn.cell? ⟨w.heap.size + 1 + 1, 0, none⟩ = some (.int .i64 t.taint.base) := (P2.out.below HC.out).cell 0 rfl
               have ff5 : wn.cell? ⟨w.heap.size + 1 + 1, 1, none⟩ = some (.slice Ap2_0 np2_0 cp2_0) := (P2.out.below HC.out).cell 1 rfl
               have ff6 : wn.cell? ⟨w.heap.size + 1 + 1, 2, none⟩ = some (.int .i64 t.clear.base) := (P2.out.below HC.out).cell 2 rfl
               have ff7 : wn.cell? ⟨w.heap.size + 1 + 1, 3, none⟩ = some (.slice Ap2_1 np2_1 cp2_1) := (P2.out.below HC.out).cell 3 rfl
               have ff8 : wn.cell? ⟨w.heap.size + 1 + 1, 4, none⟩ = some (.int .i64 t.raise.base) := (P2.out.below HC.out).cell 4 rfl
               have ff9 : wn.cell? ⟨w.heap.size + 1 + 1, 5, none⟩ = some (.slice Ap2_2 np2_2 cp2_2) := (P2.out.below HC.out).cell 5 rfl
               have ff10 : wn.cell? ⟨w.heap.size + 1 + 1, 6, none⟩ = some (.int .i64 t.verify.base) := (P2.out.below HC.out).cell 6 rfl
               have ff11 : wn.cell? ⟨w.heap.size + 1 + 1, 7, none⟩ = some (.slice Ap2_3 np2_3 cp2_3) := (P2.out.below HC.out).cell 7 rfl
               have ff12 : wn.cell? ⟨w.heap.size + 1 + 1 + 1, 0, none⟩ = some (.int .i64 d.base) := (P3.out.below HC.out).cell 0 rfl
               have ff13 : wn.cell? ⟨w.heap.size + 1 + 1 + 1, 1, none⟩ = some (.slice Ap3_ np3_ cp3_) := (P3.out.below HC.out).cell 1 rfl
               try (have R0' := Lib.hid (R0.out.below (by first | exact hb | exact below_undrew hb))
                    clear R0
                    have R0 := R0'
                    clear R0')
               try (have R1' := Lib.hid (R1.out.below (by first | exact hb | exact below_undrew hb))
                    clear R1
                    have R1 := R1'
                    clear R1')
               try (have R3' := Lib.hid (R3.out.below (by first | exact hb | exact below_undrew hb))
                    clear R3
                    have R3 := R3'
                    clear R3')
               have R2 := Lib.hid own.rd
               obtain ⟨Ar2_0, nr2_0, cr2_0, Ar2_1, nr2_1, cr2_1, Ar2_2, nr2_2, cr2_2, Ar2_3, nr2_3, cr2_3, rfl, -, -, -, -, -⟩ := own
               clear hb)
            | (go_at_call_of 25 (Value.agg #[Value.int IntKind.i64 d.base, Value.slice Ap3_ np3_ cp3_])
               refine (to_lab _ d _ (by first | exact D3.out.below (below_more bel HC.out) | exact (D3.out.below (below_more bel HC.out)).drew)).mono ?_
               rintro e wn ⟨vv, rfl, own, hb⟩
               have HC' : Hid (Below y4.heap.size y4 wn) := Lib.hid (by first | exact below_more HC.out hb | exact below_more HC.out (below_undrew hb))
               clear HC
               have HC := HC'
               clear HC'
               try clear ff0 ff1 ff2 ff3 ff4 ff5 ff6 ff7 ff8 ff9 ff10 ff11 ff12 ff13
               have ff0 : wn.cell? ⟨w.heap.size, 0, none⟩ = some (.int .i64 e.base) := (P0.out.below HC.out).cell 0 rfl
               have ff1 : wn.cell? ⟨w.heap.size, 1, none⟩ = some (.slice Ap0_ np0_ cp0_) := (P0.out.below HC.out).cell 1 rfl
               have ff2 : wn.cell? ⟨w.heap.size + 1, 0, none⟩ = some (.int .i64 r.base) := (P1.out.below HC.out).cell 0 rfl
               have ff3 : wn.cell? ⟨w.heap.size + 1, 1, none⟩ = some (.slice Ap1_ np1_ cp1_) := (P1.out.below HC.out).cell 1 rfl
               have ff4 : wn.cell? ⟨w.heap.size + 1 + 1, 0, none⟩ = some (.int .i64 t.taint.base) := (P2.out.below HC.out).cell 0 rfl
               have ff5 : wn.cell? ⟨w.heap.size + 1 + 1, 1, none⟩ = some (.slice Ap2_0 np2_0 cp2_0) := (P2.out.below HC.out).cell 1 rfl
               have ff6 : wn.cell? ⟨w.heap.size + 1 + 1, 2, none⟩ = some (.int .i64 t.clear.base) := (P2.out.below HC.out).cell 2 rfl
               have ff7 : wn.cell? ⟨w.heap.size + 1 + 1, 3, none⟩ = some (.slice Ap2_1 np2_1 cp2_1) := (P2.out.below HC.out).cell 3 rfl
               have ff8 : wn.cell? ⟨w.heap.size + 1 + 1, 4, none⟩ = some (.int .i64 t.raise.base) := (P2.out.below HC.out).cell 4 rfl
               have ff9 : wn.cell? ⟨w.heap.size + 1 + 1, 5, none⟩ = some (.slice Ap2_2 np2_2 cp2_2) := (P2.out.below HC.out).cell 5 rfl
               have ff10 : wn.cell? ⟨w.heap.size + 1 + 1, 6, none⟩ = some (.int .i64 t.verify.base) := (P2.out.below HC.out).cell 6 rfl
               have ff11 : wn.cell? ⟨w.heap.size + 1 + 1, 7, none⟩ = some (.slice Ap2_3 np2_3 cp2_3) := (P2.out.below HC.out).cell 7 rfl
               have ff12 : wn.cell? ⟨w.heap.size + 1 + 1 + 1, 0, none⟩ = some (.int .i64 d.base) := (P3.out.below HC.out).cell 0 rfl
               have ff13 : wn.cell? ⟨w.heap.size + 1 + 1 + 1, 1, none⟩ = some (.slice Ap3_ np3_ cp3_) := (P3.out.below HC.out).cell 1 rfl
               try (have R0' := Lib.hid (R0.out.below (by first | exact hb | exact below_undrew hb))
                    clear R0
                    have R0 := R0'
                    clear R0')
               try (have R1' := Lib.hid (R1.out.below (by first | exact hb | exact below_undrew hb))
                    clear R1
                    have R1 := R1'
                    clear R1')
               try (have R2' := Lib.hid (R2.out.below (by first | exact hb | exact below_undrew hb))
                    clear R2
                    have R2 := R2'
                    clear R2')
               have R3 := Lib.hid own.rd
               obtain ⟨Ar3_, nr3_, cr3_, rfl, -⟩ := own
               clear hb)
            | (go_at_call 13
               refine (spec_accepts _ _ _ _ e r t d _ R0.out R1.out R2.out R3.out).mono ?_
               rintro e wn ⟨rfl, hb⟩
               have HC' : Hid (Below y4.heap.size y4 wn) := Lib.hid (by first | exact below_more HC.out hb | exact below_more HC.out (below_undrew hb))
               clear HC
               have HC := HC'
               clear HC'
               try clear ff0 ff1 ff2 ff3 ff4 ff5 ff6 ff7 ff8 ff9 ff10 ff11 ff12 ff13
               have ff0 : wn.cell? ⟨w.heap.size, 0, none⟩ = some (.int .i64 e.base) := (P0.out.below HC.out).cell 0 rfl
               have ff1 : wn.cell? ⟨w.heap.size, 1, none⟩ = some (.slice Ap0_ np0_ cp0_) := (P0.out.below HC.out).cell 1 rfl
               have ff2 : wn.cell? ⟨w.heap.size + 1, 0, none⟩ = some (.int .i64 r.base) := (P1.out.below HC.out).cell 0 rfl
               have ff3 : wn.cell? ⟨w.heap.size + 1, 1, none⟩ = some (.slice Ap1_ np1_ cp1_) := (P1.out.below HC.out).cell 1 rfl
               have ff4 : wn.cell? ⟨w.heap.size + 1 + 1, 0, none⟩ = some (.int .i64 t.taint.base) := (P2.out.below HC.out).cell 0 rfl
               have ff5 : wn.cell? ⟨w.heap.size + 1 + 1, 1, none⟩ = some (.slice Ap2_0 np2_0 cp2_0) := (P2.out.below HC.out).cell 1 rfl
               have ff6 : wn.cell? ⟨w.heap.size + 1 + 1, 2, none⟩ = some (.int .i64 t.clear.base) := (P2.out.below HC.out).cell 2 rfl
               have ff7 : wn.cell? ⟨w.heap.size + 1 + 1, 3, none⟩ = some (.slice Ap2_1 np2_1 cp2_1) := (P2.out.below HC.out).cell 3 rfl
               have ff8 : wn.cell? ⟨w.heap.size + 1 + 1, 4, none⟩ = some (.int .i64 t.raise.base) := (P2.out.below HC.out).cell 4 rfl
               have ff9 : wn.cell? ⟨w.heap.size + 1 + 1, 5, none⟩ = some (.slice Ap2_2 np2_2 cp2_2) := (P2.out.below HC.out).cell 5 rfl
               have ff10 : wn.cell? ⟨w.heap.size + 1 + 1, 6, none⟩ = some (.int .i64 t.verify.base) := (P2.out.below HC.out).cell 6 rfl
               have ff11 : wn.cell? ⟨w.heap.size + 1 + 1, 7, none⟩ = some (.slice Ap2_3 np2_3 cp2_3) := (P2.out.below HC.out).cell 7 rfl
               have ff12 : wn.cell? ⟨w.heap.size + 1 + 1 + 1, 0, none⟩ = some (.int .i64 d.base) := (P3.out.below HC.out).cell 0 rfl
               have ff13 : wn.cell? ⟨w.heap.size + 1 + 1 + 1, 1, none⟩ = some (.slice Ap3_ np3_ cp3_) := (P3.out.below HC.out).cell 1 rfl
               skip
               clear hb))
          obtain ⟨y5, hwn⟩ : ∃ y5, y5 = wn := ⟨_, rfl⟩
          rw [← hwn] at HC ⊢
          have hb := HC.out
          clear HC hwn ff0 ff1 ff2 ff3 ff4 ff5 ff6 ff7 ff8 ff9 ff10 ff11 ff12 ff13
          clear P0k0 P0k1 P0kz P1k0 P1k1 P1kz P2k0 P2k1 P2k2 P2k3 P2k4 P2k5 P2k6 P2k7 P2kz P3k0 P3k1 P3kz
          have P0' := Lib.hid (P0.out.below hb)
          clear P0
          have P0 := P0'
          clear P0'
          have P1' := Lib.hid (P1.out.below hb)
          clear P1
          have P1 := P1'
          clear P1'
          have P2' := Lib.hid (P2.out.below hb)
          clear P2
          have P2 := P2'
          clear P2'
          have P3' := Lib.hid (P3.out.below hb)
          clear P3
          have P3 := P3'
          clear P3'
          have bel' : Below w.heap.size w y5 := below_more bel hb
          clear bel hb
          have bel := bel'
          clear bel'
          clear R0 R1 R2 R3
          have P0k0 := P0.out.cell 0 rfl
          have P0k1 := P0.out.cell 1 rfl
          have P0kz := P0.out.lt
          go_wp2_with fail
          refine (to_lab _ e _ (by first | exact D0.out.below bel | exact D0.out.below (bel.alloc bel.size _))).mono ?_
          rintro e y6 ⟨vv, rfl, own, hb⟩
          clear P0k0 P0k1 P0kz
          have P0' := Lib.hid (P0.out.below hb)
          clear P0
          have P0 := P0'
          clear P0'
          have P1' := Lib.hid (P1.out.below hb)
          clear P1
          have P1 := P1'
          clear P1'
          have P2' := Lib.hid (P2.out.below hb)
          clear P2
          have P2 := P2'
          clear P2'
          have P3' := Lib.hid (P3.out.below hb)
          clear P3
          have P3 := P3'
          clear P3'
          have bel' : Below w.heap.size w y6 := below_more bel hb
          clear bel hb
          have bel := bel'
          clear bel'
          have X0 := Lib.hid own.rd
          obtain ⟨Ax0_, nx0_, cx0_, rfl, -⟩ := own
          have P1k0 := P1.out.cell 0 rfl
          have P1k1 := P1.out.cell 1 rfl
          have P1kz := P1.out.lt
          go_wp2_with fail
          generalize hW : y6.alloc (.cells #[.int .i64 e.base, .slice Ax0_ nx0_ cx0_] 26) = x7
          obtain ⟨nb0, hsz, hb⟩ := laid1 (ps := [.int .i64 e.base, .slice Ax0_ nx0_ cx0_]) hW
          have P0' := Lib.hid (P0.out.below hb)
          clear P0
          have P0 := P0'
          clear P0'
          have P1' := Lib.hid (P1.out.below hb)
          clear P1
          have P1 := P1'
          clear P1'
          have P2' := Lib.hid (P2.out.below hb)
          clear P2
          have P2 := P2'
          clear P2'
          have P3' := Lib.hid (P3.out.below hb)
          clear P3
          have P3 := P3'
          clear P3'
          have X0' := Lib.hid (X0.out.below hb)
          clear X0
          have X0 := X0'
          clear X0'
          have bel' : Below w.heap.size w x7 := below_more bel hb
          clear bel hb
          have bel := bel'
          clear bel'
          have Q0 := Lib.hid nb0
          clear hW hsz nb0
          refine (to_lab _ r _ (by first | exact D1.out.below bel | exact D1.out.below (bel.alloc bel.size _))).mono ?_
          rintro e y8 ⟨vv, rfl, own, hb⟩
          clear P1k0 P1k1 P1kz
          have P0' := Lib.hid (P0.out.below hb)
          clear P0
          have P0 := P0'
          clear P0'
          have P1' := Lib.hid (P1.out.below hb)
          clear P1
          have P1 := P1'
          clear P1'
          have P2' := Lib.hid (P2.out.below hb)
          clear P2
          have P2 := P2'
          clear P2'
          have P3' := Lib.hid (P3.out.below hb)
          clear P3
          have P3 := P3'
          clear P3'
          have Q0' := Lib.hid (Q0.out.below hb)
          clear Q0
          have Q0 := Q0'
          clear Q0'
          have X0' := Lib.hid (X0.out.below hb)
          clear X0
          have X0 := X0'
          clear X0'
          have bel' : Below w.heap.size w y8 := below_more bel hb
          clear bel hb
          have bel := bel'
          clear bel'
          have X1 := Lib.hid own.rd
          obtain ⟨Ax1_, nx1_, cx1_, rfl, -⟩ := own
          have P2k0 := P2.out.cell 0 rfl
          have P2k1 := P2.out.cell 1 rfl
          have P2k2 := P2.out.cell 2 rfl
          have P2k3 := P2.out.cell 3 rfl
          have P2k4 := P2.out.cell 4 rfl
          have P2k5 := P2.out.cell 5 rfl
          have P2k6 := P2.out.cell 6 rfl
          have P2k7 := P2.out.cell 7 rfl
          have P2kz := P2.out.lt
          go_wp2_with fail
          generalize hW : y8.alloc (.cells #[.int .i64 r.base, .slice Ax1_ nx1_ cx1_] 26) = x9
          obtain ⟨nb0, hsz, hb⟩ := laid1 (ps := [.int .i64 r.base, .slice Ax1_ nx1_ cx1_]) hW
          have P0' := Lib.hid (P0.out.below hb)
          clear P0
          have P0 := P0'
          clear P0'
          have P1' := Lib.hid (P1.out.below hb)
          clear P1
          have P1 := P1'
          clear P1'
          have P2' := Lib.hid (P2.out.below hb)
          clear P2
          have P2 := P2'
          clear P2'
          have P3' := Lib.hid (P3.out.below hb)
          clear P3
          have P3 := P3'
          clear P3'
          have Q0' := Lib.hid (Q0.out.below hb)
          clear Q0
          have Q0 := Q0'
          clear Q0'
          have X0' := Lib.hid (X0.out.below hb)
          clear X0
          have X0 := X0'
          clear X0'
          have X1' := Lib.hid (X1.out.below hb)
          clear X1
          have X1 := X1'
          clear X1'
          have bel' : Below w.heap.size w x9 := below_more bel hb
          clear bel hb
          have bel := bel'
          clear bel'
          have Q1 := Lib.hid nb0
          clear hW hsz nb0
          refine (to_tm _ t _ (by first | exact D2.out.below bel | exact D2.out.below (bel.alloc bel.size _))).mono ?_
          rintro e y10 ⟨vv, rfl, own, hb⟩
          clear P2k0 P2k1 P2k2 P2k3 P2k4 P2k5 P2k6 P2k7 P2kz
          have P0' := Lib.hid (P0.out.below hb)
          clear P0
          have P0 := P0'
          clear P0'
          have P1' := Lib.hid (P1.out.below hb)
          clear P1
          have P1 := P1'
          clear P1'
          have P2' := Lib.hid (P2.out.below hb)
          clear P2
          have P2 := P2'
          clear P2'
          have P3' := Lib.hid (P3.out.below hb)
          clear P3
          have P3 := P3'
          clear P3'
          have Q0' := Lib.hid (Q0.out.below hb)
          clear Q0
          have Q0 := Q0'
          clear Q0'
          have Q1' := Lib.hid (Q1.out.below hb)
          clear Q1
          have Q1 := Q1'
          clear Q1'
          have X0' := Lib.hid (X0.out.below hb)
          clear X0
          have X0 := X0'
          clear X0'
          have X1' := Lib.hid (X1.out.below hb)
          clear X1
          have X1 := X1'
          clear X1'
          have bel' : Below w.heap.size w y10 := below_more bel hb
          clear bel hb
          have bel := bel'
          clear bel'
          have X2 := Lib.hid own.rd
          obtain ⟨Ax2_0, nx2_0, cx2_0, Ax2_1, nx2_1, cx2_1, Ax2_2, nx2_2, cx2_2, Ax2_3, nx2_3, cx2_3, rfl, -, -, -, -, -⟩ := own
          have P3k0 := P3.out.cell 0 rfl
          have P3k1 := P3.out.cell 1 rfl
          have P3kz := P3.out.lt
          go_wp2_with fail
          generalize hW : y10.alloc (.cells #[.int .i64 t.taint.base, .slice Ax2_0 nx2_0 cx2_0, .int .i64 t.clear.base, .slice Ax2_1 nx2_1 cx2_1, .int .i64 t.raise.base, .slice Ax2_2 nx2_2 cx2_2, .int .i64 t.verify.base, .slice Ax2_3 nx2_3 cx2_3] 28) = x11
          obtain ⟨nb0, hsz, hb⟩ := laid1 (ps := [.int .i64 t.taint.base, .slice Ax2_0 nx2_0 cx2_0, .int .i64 t.clear.base, .slice Ax2_1 nx2_1 cx2_1, .int .i64 t.raise.base, .slice Ax2_2 nx2_2 cx2_2, .int .i64 t.verify.base, .slice Ax2_3 nx2_3 cx2_3]) hW
          have P0' := Lib.hid (P0.out.below hb)
          clear P0
          have P0 := P0'
          clear P0'
          have P1' := Lib.hid (P1.out.below hb)
          clear P1
          have P1 := P1'
          clear P1'
          have P2' := Lib.hid (P2.out.below hb)
          clear P2
          have P2 := P2'
          clear P2'
          have P3' := Lib.hid (P3.out.below hb)
          clear P3
          have P3 := P3'
          clear P3'
          have Q0' := Lib.hid (Q0.out.below hb)
          clear Q0
          have Q0 := Q0'
          clear Q0'
          have Q1' := Lib.hid (Q1.out.below hb)
          clear Q1
          have Q1 := Q1'
          clear Q1'
          have X0' := Lib.hid (X0.out.below hb)
          clear X0
          have X0 := X0'
          clear X0'
          have X1' := Lib.hid (X1.out.below hb)
          clear X1
          have X1 := X1'
          clear X1'
          have X2' := Lib.hid (X2.out.below hb)
          clear X2
          have X2 := X2'
          clear X2'
          have bel' : Below w.heap.size w x11 := below_more bel hb
          clear bel hb
          have bel := bel'
          clear bel'
          have Q2 := Lib.hid nb0
          clear hW hsz nb0
          refine (to_lab _ d _ (by first | exact D3.out.below bel | exact D3.out.below (bel.alloc bel.size _))).mono ?_
          rintro e y12 ⟨vv, rfl, own, hb⟩
          clear P3k0 P3k1 P3kz
          have P0' := Lib.hid (P0.out.below hb)
          clear P0
          have P0 := P0'
          clear P0'
          have P1' := Lib.hid (P1.out.below hb)
          clear P1
          have P1 := P1'
          clear P1'
          have P2' := Lib.hid (P2.out.below hb)
          clear P2
          have P2 := P2'
          clear P2'
          have P3' := Lib.hid (P3.out.below hb)
          clear P3
          have P3 := P3'
          clear P3'
          have Q0' := Lib.hid (Q0.out.below hb)
          clear Q0
          have Q0 := Q0'
          clear Q0'
          have Q1' := Lib.hid (Q1.out.below hb)
          clear Q1
          have Q1 := Q1'
          clear Q1'
          have Q2' := Lib.hid (Q2.out.below hb)
          clear Q2
          have Q2 := Q2'
          clear Q2'
          have X0' := Lib.hid (X0.out.below hb)
          clear X0
          have X0 := X0'
          clear X0'
          have X1' := Lib.hid (X1.out.below hb)
          clear X1
          have X1 := X1'
          clear X1'
          have X2' := Lib.hid (X2.out.below hb)
          clear X2
          have X2 := X2'
          clear X2'
          have bel' : Below w.heap.size w y12 := below_more bel hb
          clear bel hb
          have bel := bel'
          clear bel'
          have X3 := Lib.hid own.rd
          obtain ⟨Ax3_, nx3_, cx3_, rfl, -⟩ := own
          have Q0k0 := Q0.out.cell 0 rfl
          have Q0k1 := Q0.out.cell 1 rfl
          have Q0kz := Q0.out.lt
          have Q1k0 := Q1.out.cell 0 rfl
          have Q1k1 := Q1.out.cell 1 rfl
          have Q1kz := Q1.out.lt
          have Q2k0 := Q2.out.cell 0 rfl
          have Q2k1 := Q2.out.cell 1 rfl
          have Q2k2 := Q2.out.cell 2 rfl
          have Q2k3 := Q2.out.cell 3 rfl
          have Q2k4 := Q2.out.cell 4 rfl
          have Q2k5 := Q2.out.cell 5 rfl
          have Q2k6 := Q2.out.cell 6 rfl
          have Q2k7 := Q2.out.cell 7 rfl
          have Q2kz := Q2.out.lt
          go_wp2_with fail
          generalize hW : y12.alloc (.cells #[.int .i64 d.base, .slice Ax3_ nx3_ cx3_] 26) = x13
          obtain ⟨nb0, hsz, hb⟩ := laid1 (ps := [.int .i64 d.base, .slice Ax3_ nx3_ cx3_]) hW
          have P0' := Lib.hid (P0.out.below hb)
          clear P0
          have P0 := P0'
          clear P0'
          have P1' := Lib.hid (P1.out.below hb)
          clear P1
          have P1 := P1'
          clear P1'
          have P2' := Lib.hid (P2.out.below hb)
          clear P2
          have P2 := P2'
          clear P2'
          have P3' := Lib.hid (P3.out.below hb)
          clear P3
          have P3 := P3'
          clear P3'
          have Q0' := Lib.hid (Q0.out.below hb)
          clear Q0
          have Q0 := Q0'
          clear Q0'
          have Q1' := Lib.hid (Q1.out.below hb)
          clear Q1
          have Q1 := Q1'
          clear Q1'
          have Q2' := Lib.hid (Q2.out.below hb)
          clear Q2
          have Q2 := Q2'
          clear Q2'
          have X0' := Lib.hid (X0.out.below hb)
          clear X0
          have X0 := X0'
          clear X0'
          have X1' := Lib.hid (X1.out.below hb)
          clear X1
          have X1 := X1'
          clear X1'
          have X2' := Lib.hid (X2.out.below hb)
          clear X2
          have X2 := X2'
          clear X2'
          have X3' := Lib.hid (X3.out.below hb)
          clear X3
          have X3 := X3'
          clear X3'
          have bel' : Below w.heap.size w x13 := below_more bel hb
          clear bel hb
          have bel := bel'
          clear bel'
          have Q3 := Lib.hid nb0
          clear hW hsz nb0
          refine (impl_accepts _ _ _ _ e r t d _ X0.out X1.out X2.out X3.out (hs.below bel)).mono ?_
          rintro e y14 ⟨rfl, hb⟩
          clear Q0k0 Q0k1 Q0kz Q1k0 Q1k1 Q1kz Q2k0 Q2k1 Q2k2 Q2k3 Q2k4 Q2k5 Q2k6 Q2k7 Q2kz
          have P0' := Lib.hid (P0.out.below hb)
          clear P0
          have P0 := P0'
          clear P0'
          have P1' := Lib.hid (P1.out.below hb)
          clear P1
          have P1 := P1'
          clear P1'
          have P2' := Lib.hid (P2.out.below hb)
          clear P2
          have P2 := P2'
          clear P2'
          have P3' := Lib.hid (P3.out.below hb)
          clear P3
          have P3 := P3'
          clear P3'
          have Q0' := Lib.hid (Q0.out.below hb)
          clear Q0
          have Q0 := Q0'
          clear Q0'
          have Q1' := Lib.hid (Q1.out.below hb)
          clear Q1
          have Q1 := Q1'
          clear Q1'
          have Q2' := Lib.hid (Q2.out.below hb)
          clear Q2
          have Q2 := Q2'
          clear Q2'
          have Q3' := Lib.hid (Q3.out.below hb)
          clear Q3
          have Q3 := Q3'
          clear Q3'
          have X0' := Lib.hid (X0.out.below hb)
          clear X0
          have X0 := X0'
          clear X0'
          have X1' := Lib.hid (X1.out.below hb)
          clear X1
          have X1 := X1'
          clear X1'
          have X2' := Lib.hid (X2.out.below hb)
          clear X2
          have X2 := X2'
          clear X2'
          have X3' := Lib.hid (X3.out.below hb)
          clear X3
          have X3 := X3'
          clear X3'
          have bel' : Below w.heap.size w y14 := below_more bel hb
          clear bel hb
          have bel := bel'
          clear bel'
          have eq0 := labEq_rfl e
          have P0k0 := P0.out.cell 0 rfl
          have P0k1 := P0.out.cell 1 rfl
          have P0kz := P0.out.lt
          have Q0k0 := Q0.out.cell 0 rfl
          have Q0k1 := Q0.out.cell 1 rfl
          have Q0kz := Q0.out.lt
          have HC := Lib.hid (Below.refl y14.heap.size y14)
          go_wp2
          go_region_held3 (fun w' => w'.cell? ⟨w.heap.size, 0, none⟩ = some (.int .i64 e.base) ∧ w'.cell? ⟨w.heap.size, 1, none⟩ = some (.slice Ap0_ np0_ cp0_) ∧ w'.cell? ⟨y6.heap.size, 0, none⟩ = some (.int .i64 e.base) ∧ w'.cell? ⟨y6.heap.size, 1, none⟩ = some (.slice Ax0_ nx0_ cx0_))
            (first | exact ⟨ff0, ff1, ff2, ff3⟩ | go_keep)
            (first
            | (go_at_call 25
               refine (to_lab _ e _ (by first | exact D0.out.below (below_more bel HC.out) | exact (D0.out.below (below_more bel HC.out)).drew)).mono ?_
               rintro e wn ⟨vv, rfl, own, hb⟩
               have HC' : Hid (Below y14.heap.size y14 wn) := Lib.hid (by first | exact below_more HC.out hb | exact below_more HC.out (below_undrew hb))
               clear HC
               have HC := HC'
               clear HC'
               try clear ff0 ff1 ff2 ff3
               have ff0 : wn.cell? ⟨w.heap.size, 0, none⟩ = some (.int .i64 e.base) := (P0.out.below HC.out).cell 0 rfl
               have ff1 : wn.cell? ⟨w.heap.size, 1, none⟩ = some (.slice Ap0_ np0_ cp0_) := (P0.out.below HC.out).cell 1 rfl
               have ff2 : wn.cell? ⟨y6.heap.size, 0, none⟩ = some (.int .i64 e.base) := (Q0.out.below HC.out).cell 0 rfl
               have ff3 : wn.cell? ⟨y6.heap.size, 1, none⟩ = some (.slice Ax0_ nx0_ cx0_) := (Q0.out.below HC.out).cell 1 rfl
               have R9 := Lib.hid own.rd
               obtain ⟨As0_, ns0_, cs0_, rfl, -⟩ := own
               clear hb)
            | (go_at_call 27
               refine (eq_lab _ _ e e _ (by first | exact X0.out.below HC.out | exact (X0.out.below HC.out).drew) R9.out).mono ?_
               rintro e wn ⟨rfl, hb⟩
               have HC' : Hid (Below y14.heap.size y14 wn) := Lib.hid (by first | exact below_more HC.out hb | exact below_more HC.out (below_undrew hb))
               clear HC
               have HC := HC'
               clear HC'
               try clear ff0 ff1 ff2 ff3
               have ff0 : wn.cell? ⟨w.heap.size, 0, none⟩ = some (.int .i64 e.base) := (P0.out.below HC.out).cell 0 rfl
               have ff1 : wn.cell? ⟨w.heap.size, 1, none⟩ = some (.slice Ap0_ np0_ cp0_) := (P0.out.below HC.out).cell 1 rfl
               have ff2 : wn.cell? ⟨y6.heap.size, 0, none⟩ = some (.int .i64 e.base) := (Q0.out.below HC.out).cell 0 rfl
               have ff3 : wn.cell? ⟨y6.heap.size, 1, none⟩ = some (.slice Ax0_ nx0_ cx0_) := (Q0.out.below HC.out).cell 1 rfl
               skip
               clear hb))
          obtain ⟨y15, hwn⟩ : ∃ y15, y15 = wn := ⟨_, rfl⟩
          rw [← hwn] at HC ⊢
          have hb := HC.out
          clear HC hwn ff0 ff1 ff2 ff3
          clear P0k0 P0k1 P0kz Q0k0 Q0k1 Q0kz
          have P0' := Lib.hid (P0.out.below hb)
          clear P0
          have P0 := P0'
          clear P0'
          have P1' := Lib.hid (P1.out.below hb)
          clear P1
          have P1 := P1'
          clear P1'
          have P2' := Lib.hid (P2.out.below hb)
          clear P2
          have P2 := P2'
          clear P2'
          have P3' := Lib.hid (P3.out.below hb)
          clear P3
          have P3 := P3'
          clear P3'
          have Q0' := Lib.hid (Q0.out.below hb)
          clear Q0
          have Q0 := Q0'
          clear Q0'
          have Q1' := Lib.hid (Q1.out.below hb)
          clear Q1
          have Q1 := Q1'
          clear Q1'
          have Q2' := Lib.hid (Q2.out.below hb)
          clear Q2
          have Q2 := Q2'
          clear Q2'
          have Q3' := Lib.hid (Q3.out.below hb)
          clear Q3
          have Q3 := Q3'
          clear Q3'
          have X0' := Lib.hid (X0.out.below hb)
          clear X0
          have X0 := X0'
          clear X0'
          have X1' := Lib.hid (X1.out.below hb)
          clear X1
          have X1 := X1'
          clear X1'
          have X2' := Lib.hid (X2.out.below hb)
          clear X2
          have X2 := X2'
          clear X2'
          have X3' := Lib.hid (X3.out.below hb)
          clear X3
          have X3 := X3'
          clear X3'
          have bel' : Below w.heap.size w y15 := below_more bel hb
          clear bel hb
          have bel := bel'
          clear bel'
          clear R9
          have eq1 := labEq_rfl r
          have P1k0 := P1.out.cell 0 rfl
          have P1k1 := P1.out.cell 1 rfl
          have P1kz := P1.out.lt
          have Q1k0 := Q1.out.cell 0 rfl
          have Q1k1 := Q1.out.cell 1 rfl
          have Q1kz := Q1.out.lt
          have HC := Lib.hid (Below.refl y15.heap.size y15)
          go_wp2
          go_region_held3 (fun w' => w'.cell? ⟨w.heap.size + 1, 0, none⟩ = some (.int .i64 r.base) ∧ w'.cell? ⟨w.heap.size + 1, 1, none⟩ = some (.slice Ap1_ np1_ cp1_) ∧ w'.cell? ⟨y8.heap.size, 0, none⟩ = some (.int .i64 r.base) ∧ w'.cell? ⟨y8.heap.size, 1, none⟩ = some (.slice Ax1_ nx1_ cx1_))
            (first | exact ⟨ff0, ff1, ff2, ff3⟩ | go_keep)
            (first
            | (go_at_call 25
               refine (to_lab _ r _ (by first | exact D1.out.below (below_more bel HC.out) | exact (D1.out.below (below_more bel HC.out)).drew)).mono ?_
               rintro e wn ⟨vv, rfl, own, hb⟩
               have HC' : Hid (Below y15.heap.size y15 wn) := Lib.hid (by first | exact below_more HC.out hb | exact below_more HC.out (below_undrew hb))
               clear HC
               have HC := HC'
               clear HC'
               try clear ff0 ff1 ff2 ff3
               have ff0 : wn.cell? ⟨w.heap.size + 1, 0, none⟩ = some (.int .i64 r.base) := (P1.out.below HC.out).cell 0 rfl
               have ff1 : wn.cell? ⟨w.heap.size + 1, 1, none⟩ = some (.slice Ap1_ np1_ cp1_) := (P1.out.below HC.out).cell 1 rfl
               have ff2 : wn.cell? ⟨y8.heap.size, 0, none⟩ = some (.int .i64 r.base) := (Q1.out.below HC.out).cell 0 rfl
               have ff3 : wn.cell? ⟨y8.heap.size, 1, none⟩ = some (.slice Ax1_ nx1_ cx1_) := (Q1.out.below HC.out).cell 1 rfl
               have R9 := Lib.hid own.rd
               obtain ⟨As1_, ns1_, cs1_, rfl, -⟩ := own
               clear hb)
            | (go_at_call 27
               refine (eq_lab _ _ r r _ (by first | exact X1.out.below HC.out | exact (X1.out.below HC.out).drew) R9.out).mono ?_
               rintro e wn ⟨rfl, hb⟩
               have HC' : Hid (Below y15.heap.size y15 wn) := Lib.hid (by first | exact below_more HC.out hb | exact below_more HC.out (below_undrew hb))
               clear HC
               have HC := HC'
               clear HC'
               try clear ff0 ff1 ff2 ff3
               have ff0 : wn.cell? ⟨w.heap.size + 1, 0, none⟩ = some (.int .i64 r.base) := (P1.out.below HC.out).cell 0 rfl
               have ff1 : wn.cell? ⟨w.heap.size + 1, 1, none⟩ = some (.slice Ap1_ np1_ cp1_) := (P1.out.below HC.out).cell 1 rfl
               have ff2 : wn.cell? ⟨y8.heap.size, 0, none⟩ = some (.int .i64 r.base) := (Q1.out.below HC.out).cell 0 rfl
               have ff3 : wn.cell? ⟨y8.heap.size, 1, none⟩ = some (.slice Ax1_ nx1_ cx1_) := (Q1.out.below HC.out).cell 1 rfl
               skip
               clear hb))
          obtain ⟨y16, hwn⟩ : ∃ y16, y16 = wn := ⟨_, rfl⟩
          rw [← hwn] at HC ⊢
          have hb := HC.out
          clear HC hwn ff0 ff1 ff2 ff3
          clear P1k0 P1k1 P1kz Q1k0 Q1k1 Q1kz
          have P0' := Lib.hid (P0.out.below hb)
          clear P0
          have P0 := P0'
          clear P0'
          have P1' := Lib.hid (P1.out.below hb)
          clear P1
          have P1 := P1'
          clear P1'
          have P2' := Lib.hid (P2.out.below hb)
          clear P2
          have P2 := P2'
          clear P2'
          have P3' := Lib.hid (P3.out.below hb)
          clear P3
          have P3 := P3'
          clear P3'
          have Q0' := Lib.hid (Q0.out.below hb)
          clear Q0
          have Q0 := Q0'
          clear Q0'
          have Q1' := Lib.hid (Q1.out.below hb)
          clear Q1
          have Q1 := Q1'
          clear Q1'
          have Q2' := Lib.hid (Q2.out.below hb)
          clear Q2
          have Q2 := Q2'
          clear Q2'
          have Q3' := Lib.hid (Q3.out.below hb)
          clear Q3
          have Q3 := Q3'
          clear Q3'
          have X0' := Lib.hid (X0.out.below hb)
          clear X0
          have X0 := X0'
          clear X0'
          have X1' := Lib.hid (X1.out.below hb)
          clear X1
          have X1 := X1'
          clear X1'
          have X2' := Lib.hid (X2.out.below hb)
          clear X2
          have X2 := X2'
          clear X2'
          have X3' := Lib.hid (X3.out.below hb)
          clear X3
          have X3 := X3'
          clear X3'
          have bel' : Below w.heap.size w y16 := below_more bel hb
          clear bel hb
          have bel := bel'
          clear bel'
          clear R9
          have eq2 := tmEq_rfl t
          have P2k0 := P2.out.cell 0 rfl
          have P2k1 := P2.out.cell 1 rfl
          have P2k2 := P2.out.cell 2 rfl
          have P2k3 := P2.out.cell 3 rfl
          have P2k4 := P2.out.cell 4 rfl
          have P2k5 := P2.out.cell 5 rfl
          have P2k6 := P2.out.cell 6 rfl
          have P2k7 := P2.out.cell 7 rfl
          have P2kz := P2.out.lt
          have Q2k0 := Q2.out.cell 0 rfl
          have Q2k1 := Q2.out.cell 1 rfl
          have Q2k2 := Q2.out.cell 2 rfl
          have Q2k3 := Q2.out.cell 3 rfl
          have Q2k4 := Q2.out.cell 4 rfl
          have Q2k5 := Q2.out.cell 5 rfl
          have Q2k6 := Q2.out.cell 6 rfl
          have Q2k7 := Q2.out.cell 7 rfl
          have Q2kz := Q2.out.lt
          have HC := Lib.hid (Below.refl y16.heap.size y16)
          go_wp2
          go_region_held3 (fun w' => w'.cell? ⟨w.heap.size + 1 + 1, 0, none⟩ = some (.int .i64 t.taint.base) ∧ w'.cell? ⟨w.heap.size + 1 + 1, 1, none⟩ = some (.slice Ap2_0 np2_0 cp2_0) ∧ w'.cell? ⟨w.heap.size + 1 + 1, 2, none⟩ = some (.int .i64 t.clear.base) ∧ w'.cell? ⟨w.heap.size + 1 + 1, 3, none⟩ = some (.slice Ap2_1 np2_1 cp2_1) ∧ w'.cell? ⟨w.heap.size + 1 + 1, 4, none⟩ = some (.int .i64 t.raise.base) ∧ w'.cell? ⟨w.heap.size + 1 + 1, 5, none⟩ = some (.slice Ap2_2 np2_2 cp2_2) ∧ w'.cell? ⟨w.heap.size + 1 + 1, 6, none⟩ = some (.int .i64 t.verify.base) ∧ w'.cell? ⟨w.heap.size + 1 + 1, 7, none⟩ = some (.slice Ap2_3 np2_3 cp2_3) ∧ w'.cell? ⟨y10.heap.size, 0, none⟩ = some (.int .i64 t.taint.base) ∧ w'.cell? ⟨y10.heap.size, 1, none⟩ = some (.slice Ax2_0 nx2_0 cx2_0) ∧ w'.cell? ⟨y10.heap.size, 2, none⟩ = some (.int .i64 t.clear.base) ∧ w'.cell? ⟨y10.heap.size, 3, none⟩ = some (.slice Ax2_1 nx2_1 cx2_1) ∧ w'.cell? ⟨y10.heap.size, 4, none⟩ = some (.int .i64 t.raise.base) ∧ w'.cell? ⟨y10.heap.size, 5, none⟩ = some (.slice Ax2_2 nx2_2 cx2_2) ∧ w'.cell? ⟨y10.heap.size, 6, none⟩ = some (.int .i64 t.verify.base) ∧ w'.cell? ⟨y10.heap.size, 7, none⟩ = some (.slice Ax2_3 nx2_3 cx2_3))
            (first | exact ⟨ff0, ff1, ff2, ff3, ff4, ff5, ff6, ff7, ff8, ff9, ff10, ff11, ff12, ff13, ff14, ff15⟩ | go_keep)
            (first
            | (go_at_call 26
               refine (to_tm _ t _ (by first | exact D2.out.below (below_more bel HC.out) | exact (D2.out.below (below_more bel HC.out)).drew)).mono ?_
               rintro e wn ⟨vv, rfl, own, hb⟩
               have HC' : Hid (Below y16.heap.size y16 wn) := Lib.hid (by first | exact below_more HC.out hb | exact below_more HC.out (below_undrew hb))
               clear HC
               have HC := HC'
               clear HC'
               try clear ff0 ff1 ff2 ff3 ff4 ff5 ff6 ff7 ff8 ff9 ff10 ff11 ff12 ff13 ff14 ff15
               have ff0 : wn.cell? ⟨w.heap.size + 1 + 1, 0, none⟩ = some (.int .i64 t.taint.base) := (P2.out.below HC.out).cell 0 rfl
               have ff1 : wn.cell? ⟨w.heap.size + 1 + 1, 1, none⟩ = some (.slice Ap2_0 np2_0 cp2_0) := (P2.out.below HC.out).cell 1 rfl
               have ff2 : wn.cell? ⟨w.heap.size + 1 + 1, 2, none⟩ = some (.int .i64 t.clear.base) := (P2.out.below HC.out).cell 2 rfl
               have ff3 : wn.cell? ⟨w.heap.size + 1 + 1, 3, none⟩ = some (.slice Ap2_1 np2_1 cp2_1) := (P2.out.below HC.out).cell 3 rfl
               have ff4 : wn.cell? ⟨w.heap.size + 1 + 1, 4, none⟩ = some (.int .i64 t.raise.base) := (P2.out.below HC.out).cell 4 rfl
               have ff5 : wn.cell? ⟨w.heap.size + 1 + 1, 5, none⟩ = some (.slice Ap2_2 np2_2 cp2_2) := (P2.out.below HC.out).cell 5 rfl
               have ff6 : wn.cell? ⟨w.heap.size + 1 + 1, 6, none⟩ = some (.int .i64 t.verify.base) := (P2.out.below HC.out).cell 6 rfl
               have ff7 : wn.cell? ⟨w.heap.size + 1 + 1, 7, none⟩ = some (.slice Ap2_3 np2_3 cp2_3) := (P2.out.below HC.out).cell 7 rfl
               have ff8 : wn.cell? ⟨y10.heap.size, 0, none⟩ = some (.int .i64 t.taint.base) := (Q2.out.below HC.out).cell 0 rfl
               have ff9 : wn.cell? ⟨y10.heap.size, 1, none⟩ = some (.slice Ax2_0 nx2_0 cx2_0) := (Q2.out.below HC.out).cell 1 rfl
               have ff10 : wn.cell? ⟨y10.heap.size, 2, none⟩ = some (.int .i64 t.clear.base) := (Q2.out.below HC.out).cell 2 rfl
               have ff11 : wn.cell? ⟨y10.heap.size, 3, none⟩ = some (.slice Ax2_1 nx2_1 cx2_1) := (Q2.out.below HC.out).cell 3 rfl
               have ff12 : wn.cell? ⟨y10.heap.size, 4, none⟩ = some (.int .i64 t.raise.base) := (Q2.out.below HC.out).cell 4 rfl
               have ff13 : wn.cell? ⟨y10.heap.size, 5, none⟩ = some (.slice Ax2_2 nx2_2 cx2_2) := (Q2.out.below HC.out).cell 5 rfl
               have ff14 : wn.cell? ⟨y10.heap.size, 6, none⟩ = some (.int .i64 t.verify.base) := (Q2.out.below HC.out).cell 6 rfl
               have ff15 : wn.cell? ⟨y10.heap.size, 7, none⟩ = some (.slice Ax2_3 nx2_3 cx2_3) := (Q2.out.below HC.out).cell 7 rfl
               have R9 := Lib.hid own.rd
               obtain ⟨As2_0, ns2_0, cs2_0, As2_1, ns2_1, cs2_1, As2_2, ns2_2, cs2_2, As2_3, ns2_3, cs2_3, rfl, -, -, -, -, -⟩ := own
               clear hb)
            | (go_at_call 28
               refine (eq_tm _ _ t t _ (by first | exact X2.out.below HC.out | exact (X2.out.below HC.out).drew) R9.out).mono ?_
               rintro e wn ⟨rfl, hb⟩
               have HC' : Hid (Below y16.heap.size y16 wn) := Lib.hid (by first | exact below_more HC.out hb | exact below_more HC.out (below_undrew hb))
               clear HC
               have HC := HC'
               clear HC'
               try clear ff0 ff1 ff2 ff3 ff4 ff5 ff6 ff7 ff8 ff9 ff10 ff11 ff12 ff13 ff14 ff15
               have ff0 : wn.cell? ⟨w.heap.size + 1 + 1, 0, none⟩ = some (.int .i64 t.taint.base) := (P2.out.below HC.out).cell 0 rfl
               have ff1 : wn.cell? ⟨w.heap.size + 1 + 1, 1, none⟩ = some (.slice Ap2_0 np2_0 cp2_0) := (P2.out.below HC.out).cell 1 rfl
               have ff2 : wn.cell? ⟨w.heap.size + 1 + 1, 2, none⟩ = some (.int .i64 t.clear.base) := (P2.out.below HC.out).cell 2 rfl
               have ff3 : wn.cell? ⟨w.heap.size + 1 + 1, 3, none⟩ = some (.slice Ap2_1 np2_1 cp2_1) := (P2.out.below HC.out).cell 3 rfl
               have ff4 : wn.cell? ⟨w.heap.size + 1 + 1, 4, none⟩ = some (.int .i64 t.raise.base) := (P2.out.below HC.out).cell 4 rfl
               have ff5 : wn.cell? ⟨w.heap.size + 1 + 1, 5, none⟩ = some (.slice Ap2_2 np2_2 cp2_2) := (P2.out.below HC.out).cell 5 rfl
               have ff6 : wn.cell? ⟨w.heap.size + 1 + 1, 6, none⟩ = some (.int .i64 t.verify.base) := (P2.out.below HC.out).cell 6 rfl
               have ff7 : wn.cell? ⟨w.heap.size + 1 + 1, 7, none⟩ = some (.slice Ap2_3 np2_3 cp2_3) := (P2.out.below HC.out).cell 7 rfl
               have ff8 : wn.cell? ⟨y10.heap.size, 0, none⟩ = some (.int .i64 t.taint.base) := (Q2.out.below HC.out).cell 0 rfl
               have ff9 : wn.cell? ⟨y10.heap.size, 1, none⟩ = some (.slice Ax2_0 nx2_0 cx2_0) := (Q2.out.below HC.out).cell 1 rfl
               have ff10 : wn.cell? ⟨y10.heap.size, 2, none⟩ = some (.int .i64 t.clear.base) := (Q2.out.below HC.out).cell 2 rfl
               have ff11 : wn.cell? ⟨y10.heap.size, 3, none⟩ = some (.slice Ax2_1 nx2_1 cx2_1) := (Q2.out.below HC.out).cell 3 rfl
               have ff12 : wn.cell? ⟨y10.heap.size, 4, none⟩ = some (.int .i64 t.raise.base) := (Q2.out.below HC.out).cell 4 rfl
               have ff13 : wn.cell? ⟨y10.heap.size, 5, none⟩ = some (.slice Ax2_2 nx2_2 cx2_2) := (Q2.out.below HC.out).cell 5 rfl
               have ff14 : wn.cell? ⟨y10.heap.size, 6, none⟩ = some (.int .i64 t.verify.base) := (Q2.out.below HC.out).cell 6 rfl
               have ff15 : wn.cell? ⟨y10.heap.size, 7, none⟩ = some (.slice Ax2_3 nx2_3 cx2_3) := (Q2.out.below HC.out).cell 7 rfl
               skip
               clear hb))
          obtain ⟨y17, hwn⟩ : ∃ y17, y17 = wn := ⟨_, rfl⟩
          rw [← hwn] at HC ⊢
          have hb := HC.out
          clear HC hwn ff0 ff1 ff2 ff3 ff4 ff5 ff6 ff7 ff8 ff9 ff10 ff11 ff12 ff13 ff14 ff15
          clear P2k0 P2k1 P2k2 P2k3 P2k4 P2k5 P2k6 P2k7 P2kz Q2k0 Q2k1 Q2k2 Q2k3 Q2k4 Q2k5 Q2k6 Q2k7 Q2kz
          have P0' := Lib.hid (P0.out.below hb)
          clear P0
          have P0 := P0'
          clear P0'
          have P1' := Lib.hid (P1.out.below hb)
          clear P1
          have P1 := P1'
          clear P1'
          have P2' := Lib.hid (P2.out.below hb)
          clear P2
          have P2 := P2'
          clear P2'
          have P3' := Lib.hid (P3.out.below hb)
          clear P3
          have P3 := P3'
          clear P3'
          have Q0' := Lib.hid (Q0.out.below hb)
          clear Q0
          have Q0 := Q0'
          clear Q0'
          have Q1' := Lib.hid (Q1.out.below hb)
          clear Q1
          have Q1 := Q1'
          clear Q1'
          have Q2' := Lib.hid (Q2.out.below hb)
          clear Q2
          have Q2 := Q2'
          clear Q2'
          have Q3' := Lib.hid (Q3.out.below hb)
          clear Q3
          have Q3 := Q3'
          clear Q3'
          have X0' := Lib.hid (X0.out.below hb)
          clear X0
          have X0 := X0'
          clear X0'
          have X1' := Lib.hid (X1.out.below hb)
          clear X1
          have X1 := X1'
          clear X1'
          have X2' := Lib.hid (X2.out.below hb)
          clear X2
          have X2 := X2'
          clear X2'
          have X3' := Lib.hid (X3.out.below hb)
          clear X3
          have X3 := X3'
          clear X3'
          have bel' : Below w.heap.size w y17 := below_more bel hb
          clear bel hb
          have bel := bel'
          clear bel'
          clear R9
          have eq3 := labEq_rfl d
          have P3k0 := P3.out.cell 0 rfl
          have P3k1 := P3.out.cell 1 rfl
          have P3kz := P3.out.lt
          have Q3k0 := Q3.out.cell 0 rfl
          have Q3k1 := Q3.out.cell 1 rfl
          have Q3kz := Q3.out.lt
          have HC := Lib.hid (Below.refl y17.heap.size y17)
          go_wp2
          go_region_held3 (fun w' => w'.cell? ⟨w.heap.size + 1 + 1 + 1, 0, none⟩ = some (.int .i64 d.base) ∧ w'.cell? ⟨w.heap.size + 1 + 1 + 1, 1, none⟩ = some (.slice Ap3_ np3_ cp3_) ∧ w'.cell? ⟨y12.heap.size, 0, none⟩ = some (.int .i64 d.base) ∧ w'.cell? ⟨y12.heap.size, 1, none⟩ = some (.slice Ax3_ nx3_ cx3_))
            (first | exact ⟨ff0, ff1, ff2, ff3⟩ | go_keep)
            (first
            | (go_at_call 25
               refine (to_lab _ d _ (by first | exact D3.out.below (below_more bel HC.out) | exact (D3.out.below (below_more bel HC.out)).drew)).mono ?_
               rintro e wn ⟨vv, rfl, own, hb⟩
               have HC' : Hid (Below y17.heap.size y17 wn) := Lib.hid (by first | exact below_more HC.out hb | exact below_more HC.out (below_undrew hb))
               clear HC
               have HC := HC'
               clear HC'
               try clear ff0 ff1 ff2 ff3
               have ff0 : wn.cell? ⟨w.heap.size + 1 + 1 + 1, 0, none⟩ = some (.int .i64 d.base) := (P3.out.below HC.out).cell 0 rfl
               have ff1 : wn.cell? ⟨w.heap.size + 1 + 1 + 1, 1, none⟩ = some (.slice Ap3_ np3_ cp3_) := (P3.out.below HC.out).cell 1 rfl
               have ff2 : wn.cell? ⟨y12.heap.size, 0, none⟩ = some (.int .i64 d.base) := (Q3.out.below HC.out).cell 0 rfl
               have ff3 : wn.cell? ⟨y12.heap.size, 1, none⟩ = some (.slice Ax3_ nx3_ cx3_) := (Q3.out.below HC.out).cell 1 rfl
               have R9 := Lib.hid own.rd
               obtain ⟨As3_, ns3_, cs3_, rfl, -⟩ := own
               clear hb)
            | (go_at_call 27
               refine (eq_lab _ _ d d _ (by first | exact X3.out.below HC.out | exact (X3.out.below HC.out).drew) R9.out).mono ?_
               rintro e wn ⟨rfl, hb⟩
               have HC' : Hid (Below y17.heap.size y17 wn) := Lib.hid (by first | exact below_more HC.out hb | exact below_more HC.out (below_undrew hb))
               clear HC
               have HC := HC'
               clear HC'
               try clear ff0 ff1 ff2 ff3
               have ff0 : wn.cell? ⟨w.heap.size + 1 + 1 + 1, 0, none⟩ = some (.int .i64 d.base) := (P3.out.below HC.out).cell 0 rfl
               have ff1 : wn.cell? ⟨w.heap.size + 1 + 1 + 1, 1, none⟩ = some (.slice Ap3_ np3_ cp3_) := (P3.out.below HC.out).cell 1 rfl
               have ff2 : wn.cell? ⟨y12.heap.size, 0, none⟩ = some (.int .i64 d.base) := (Q3.out.below HC.out).cell 0 rfl
               have ff3 : wn.cell? ⟨y12.heap.size, 1, none⟩ = some (.slice Ax3_ nx3_ cx3_) := (Q3.out.below HC.out).cell 1 rfl
               skip
               clear hb))
          obtain ⟨y18, hwn⟩ : ∃ y18, y18 = wn := ⟨_, rfl⟩
          rw [← hwn] at HC ⊢
          have hb := HC.out
          clear HC hwn ff0 ff1 ff2 ff3
          clear P3k0 P3k1 P3kz Q3k0 Q3k1 Q3kz
          have P0' := Lib.hid (P0.out.below hb)
          clear P0
          have P0 := P0'
          clear P0'
          have P1' := Lib.hid (P1.out.below hb)
          clear P1
          have P1 := P1'
          clear P1'
          have P2' := Lib.hid (P2.out.below hb)
          clear P2
          have P2 := P2'
          clear P2'
          have P3' := Lib.hid (P3.out.below hb)
          clear P3
          have P3 := P3'
          clear P3'
          have Q0' := Lib.hid (Q0.out.below hb)
          clear Q0
          have Q0 := Q0'
          clear Q0'
          have Q1' := Lib.hid (Q1.out.below hb)
          clear Q1
          have Q1 := Q1'
          clear Q1'
          have Q2' := Lib.hid (Q2.out.below hb)
          clear Q2
          have Q2 := Q2'
          clear Q2'
          have Q3' := Lib.hid (Q3.out.below hb)
          clear Q3
          have Q3 := Q3'
          clear Q3'
          have X0' := Lib.hid (X0.out.below hb)
          clear X0
          have X0 := X0'
          clear X0'
          have X1' := Lib.hid (X1.out.below hb)
          clear X1
          have X1 := X1'
          clear X1'
          have X2' := Lib.hid (X2.out.below hb)
          clear X2
          have X2 := X2'
          clear X2'
          have X3' := Lib.hid (X3.out.below hb)
          clear X3
          have X3 := X3'
          clear X3'
          have bel' : Below w.heap.size w y18 := below_more bel hb
          clear bel hb
          have bel := bel'
          clear bel'
          clear R9
          go_wp2
          go_ret
          exact ⟨rfl, bel⟩
        · skip
          go_enter Tryd.func5, Tryd.ntmps5
          have u0 : ¬ (((1048576 - (e.parts.length : Nat) : Int)) < 0) := by omega
          go_wp2_with fail
          generalize hW : (((w.alloc (.cells #[.int .i64 e.base, .slice Ap0_ np0_ cp0_] 45)).alloc (.cells #[.int .i64 r.base, .slice Ap1_ np1_ cp1_] 45)).alloc (.cells #[.int .i64 t.taint.base, .slice Ap2_0 np2_0 cp2_0, .int .i64 t.clear.base, .slice Ap2_1 np2_1 cp2_1, .int .i64 t.raise.base, .slice Ap2_2 np2_2 cp2_2, .int .i64 t.verify.base, .slice Ap2_3 np2_3 cp2_3] 47)).alloc (.cells #[.int .i64 d.base, .slice Ap3_ np3_ cp3_] 45) = x0
          obtain ⟨nb0, nb1, nb2, nb3, hsz, hb⟩ := laid4b (ps := [.int .i64 e.base, .slice Ap0_ np0_ cp0_]) (rs := [.int .i64 r.base, .slice Ap1_ np1_ cp1_]) (os := [.int .i64 t.taint.base, .slice Ap2_0 np2_0 cp2_0, .int .i64 t.clear.base, .slice Ap2_1 np2_1 cp2_1, .int .i64 t.raise.base, .slice Ap2_2 np2_2 cp2_2, .int .i64 t.verify.base, .slice Ap2_3 np2_3 cp2_3]) (qs := [.int .i64 d.base, .slice Ap3_ np3_ cp3_]) hW
          have bel' : Below w.heap.size w x0 := hb
          clear hb
          have bel := bel'
          clear bel'
          have P0 := Lib.hid nb0
          have P1 := Lib.hid nb1
          have P2 := Lib.hid nb2
          have P3 := Lib.hid nb3
          clear hW hsz nb0 nb1 nb2 nb3
          refine (sz_labx_yes _ e (1048576) _ (by omega) (by omega) (by omega) g0.out.sh).mono ?_
          rintro e y1 ⟨rfl, hb⟩
          have P0' := Lib.hid (P0.out.below hb)
          clear P0
          have P0 := P0'
          clear P0'
          have P1' := Lib.hid (P1.out.below hb)
          clear P1
          have P1 := P1'
          clear P1'
          have P2' := Lib.hid (P2.out.below hb)
          clear P2
          have P2 := P2'
          clear P2'
          have P3' := Lib.hid (P3.out.below hb)
          clear P3
          have P3 := P3'
          clear P3'
          have bel' : Below w.heap.size w y1 := below_more bel hb
          clear bel hb
          have bel := bel'
          clear bel'
          have P1k0 := P1.out.cell 0 rfl
          have P1k1 := P1.out.cell 1 rfl
          have P1kz := P1.out.lt
          have u1 : ¬ (((1048576 - (e.parts.length : Nat) - (r.parts.length : Nat) : Int)) < 0) := by omega
          go_wp2_with fail
          refine (sz_labx_yes _ r (1048576 - (e.parts.length : Nat)) _ (by omega) (by omega) (by omega) g1.out.sh).mono ?_
          rintro e y2 ⟨rfl, hb⟩
          clear P1k0 P1k1 P1kz
          have P0' := Lib.hid (P0.out.below hb)
          clear P0
          have P0 := P0'
          clear P0'
          have P1' := Lib.hid (P1.out.below hb)
          clear P1
          have P1 := P1'
          clear P1'
          have P2' := Lib.hid (P2.out.below hb)
          clear P2
          have P2 := P2'
          clear P2'
          have P3' := Lib.hid (P3.out.below hb)
          clear P3
          have P3 := P3'
          clear P3'
          have bel' : Below w.heap.size w y2 := below_more bel hb
          clear bel hb
          have bel := bel'
          clear bel'
          have P2k0 := P2.out.cell 0 rfl
          have P2k1 := P2.out.cell 1 rfl
          have P2k2 := P2.out.cell 2 rfl
          have P2k3 := P2.out.cell 3 rfl
          have P2k4 := P2.out.cell 4 rfl
          have P2k5 := P2.out.cell 5 rfl
          have P2k6 := P2.out.cell 6 rfl
          have P2k7 := P2.out.cell 7 rfl
          have P2kz := P2.out.lt
          have u2 : ¬ (((1048576 - (e.parts.length : Nat) - (r.parts.length : Nat) - (tmLen t : Nat) : Int)) < 0) := by omega
          go_wp2_with fail
          refine (sz_tm_yes _ t (1048576 - (e.parts.length : Nat) - (r.parts.length : Nat)) _ (by omega) (by omega) (by omega) g2.out.sh).mono ?_
          rintro e y3 ⟨rfl, hb⟩
          clear P2k0 P2k1 P2k2 P2k3 P2k4 P2k5 P2k6 P2k7 P2kz
          have P0' := Lib.hid (P0.out.below hb)
          clear P0
          have P0 := P0'
          clear P0'
          have P1' := Lib.hid (P1.out.below hb)
          clear P1
          have P1 := P1'
          clear P1'
          have P2' := Lib.hid (P2.out.below hb)
          clear P2
          have P2 := P2'
          clear P2'
          have P3' := Lib.hid (P3.out.below hb)
          clear P3
          have P3 := P3'
          clear P3'
          have bel' : Below w.heap.size w y3 := below_more bel hb
          clear bel hb
          have bel := bel'
          clear bel'
          have P3k0 := P3.out.cell 0 rfl
          have P3k1 := P3.out.cell 1 rfl
          have P3kz := P3.out.lt
          go_wp2_with fail
          refine (sz_labx_no _ d (1048576 - (e.parts.length : Nat) - (r.parts.length : Nat) - (tmLen t : Nat)) _ (by omega) (by omega) (by omega) g3.out.sh).mono ?_
          rintro e y4 ⟨rfl, hb⟩
          clear P3k0 P3k1 P3kz
          have P0' := Lib.hid (P0.out.below hb)
          clear P0
          have P0 := P0'
          clear P0'
          have P1' := Lib.hid (P1.out.below hb)
          clear P1
          have P1 := P1'
          clear P1'
          have P2' := Lib.hid (P2.out.below hb)
          clear P2
          have P2 := P2'
          clear P2'
          have P3' := Lib.hid (P3.out.below hb)
          clear P3
          have P3 := P3'
          clear P3'
          have bel' : Below w.heap.size w y4 := below_more bel hb
          clear bel hb
          have bel := bel'
          clear bel'
          go_wp2
          go_ret
          exact ⟨rfl, bel⟩
      · skip
        go_enter Tryd.func5, Tryd.ntmps5
        have u0 : ¬ (((1048576 - (e.parts.length : Nat) : Int)) < 0) := by omega
        go_wp2_with fail
        generalize hW : (((w.alloc (.cells #[.int .i64 e.base, .slice Ap0_ np0_ cp0_] 45)).alloc (.cells #[.int .i64 r.base, .slice Ap1_ np1_ cp1_] 45)).alloc (.cells #[.int .i64 t.taint.base, .slice Ap2_0 np2_0 cp2_0, .int .i64 t.clear.base, .slice Ap2_1 np2_1 cp2_1, .int .i64 t.raise.base, .slice Ap2_2 np2_2 cp2_2, .int .i64 t.verify.base, .slice Ap2_3 np2_3 cp2_3] 47)).alloc (.cells #[.int .i64 d.base, .slice Ap3_ np3_ cp3_] 45) = x0
        obtain ⟨nb0, nb1, nb2, nb3, hsz, hb⟩ := laid4b (ps := [.int .i64 e.base, .slice Ap0_ np0_ cp0_]) (rs := [.int .i64 r.base, .slice Ap1_ np1_ cp1_]) (os := [.int .i64 t.taint.base, .slice Ap2_0 np2_0 cp2_0, .int .i64 t.clear.base, .slice Ap2_1 np2_1 cp2_1, .int .i64 t.raise.base, .slice Ap2_2 np2_2 cp2_2, .int .i64 t.verify.base, .slice Ap2_3 np2_3 cp2_3]) (qs := [.int .i64 d.base, .slice Ap3_ np3_ cp3_]) hW
        have bel' : Below w.heap.size w x0 := hb
        clear hb
        have bel := bel'
        clear bel'
        have P0 := Lib.hid nb0
        have P1 := Lib.hid nb1
        have P2 := Lib.hid nb2
        have P3 := Lib.hid nb3
        clear hW hsz nb0 nb1 nb2 nb3
        refine (sz_labx_yes _ e (1048576) _ (by omega) (by omega) (by omega) g0.out.sh).mono ?_
        rintro e y1 ⟨rfl, hb⟩
        have P0' := Lib.hid (P0.out.below hb)
        clear P0
        have P0 := P0'
        clear P0'
        have P1' := Lib.hid (P1.out.below hb)
        clear P1
        have P1 := P1'
        clear P1'
        have P2' := Lib.hid (P2.out.below hb)
        clear P2
        have P2 := P2'
        clear P2'
        have P3' := Lib.hid (P3.out.below hb)
        clear P3
        have P3 := P3'
        clear P3'
        have bel' : Below w.heap.size w y1 := below_more bel hb
        clear bel hb
        have bel := bel'
        clear bel'
        have P1k0 := P1.out.cell 0 rfl
        have P1k1 := P1.out.cell 1 rfl
        have P1kz := P1.out.lt
        have u1 : ¬ (((1048576 - (e.parts.length : Nat) - (r.parts.length : Nat) : Int)) < 0) := by omega
        go_wp2_with fail
        refine (sz_labx_yes _ r (1048576 - (e.parts.length : Nat)) _ (by omega) (by omega) (by omega) g1.out.sh).mono ?_
        rintro e y2 ⟨rfl, hb⟩
        clear P1k0 P1k1 P1kz
        have P0' := Lib.hid (P0.out.below hb)
        clear P0
        have P0 := P0'
        clear P0'
        have P1' := Lib.hid (P1.out.below hb)
        clear P1
        have P1 := P1'
        clear P1'
        have P2' := Lib.hid (P2.out.below hb)
        clear P2
        have P2 := P2'
        clear P2'
        have P3' := Lib.hid (P3.out.below hb)
        clear P3
        have P3 := P3'
        clear P3'
        have bel' : Below w.heap.size w y2 := below_more bel hb
        clear bel hb
        have bel := bel'
        clear bel'
        have P2k0 := P2.out.cell 0 rfl
        have P2k1 := P2.out.cell 1 rfl
        have P2k2 := P2.out.cell 2 rfl
        have P2k3 := P2.out.cell 3 rfl
        have P2k4 := P2.out.cell 4 rfl
        have P2k5 := P2.out.cell 5 rfl
        have P2k6 := P2.out.cell 6 rfl
        have P2k7 := P2.out.cell 7 rfl
        have P2kz := P2.out.lt
        go_wp2_with fail
        refine (sz_tm_no _ t (1048576 - (e.parts.length : Nat) - (r.parts.length : Nat)) _ (by omega) (by omega) (by omega) g2.out.sh).mono ?_
        rintro e y3 ⟨rfl, hb⟩
        clear P2k0 P2k1 P2k2 P2k3 P2k4 P2k5 P2k6 P2k7 P2kz
        have P0' := Lib.hid (P0.out.below hb)
        clear P0
        have P0 := P0'
        clear P0'
        have P1' := Lib.hid (P1.out.below hb)
        clear P1
        have P1 := P1'
        clear P1'
        have P2' := Lib.hid (P2.out.below hb)
        clear P2
        have P2 := P2'
        clear P2'
        have P3' := Lib.hid (P3.out.below hb)
        clear P3
        have P3 := P3'
        clear P3'
        have bel' : Below w.heap.size w y3 := below_more bel hb
        clear bel hb
        have bel := bel'
        clear bel'
        go_wp2
        go_ret
        exact ⟨rfl, bel⟩
    · skip
      go_enter Tryd.func5, Tryd.ntmps5
      have u0 : ¬ (((1048576 - (e.parts.length : Nat) : Int)) < 0) := by omega
      go_wp2_with fail
      generalize hW : (((w.alloc (.cells #[.int .i64 e.base, .slice Ap0_ np0_ cp0_] 45)).alloc (.cells #[.int .i64 r.base, .slice Ap1_ np1_ cp1_] 45)).alloc (.cells #[.int .i64 t.taint.base, .slice Ap2_0 np2_0 cp2_0, .int .i64 t.clear.base, .slice Ap2_1 np2_1 cp2_1, .int .i64 t.raise.base, .slice Ap2_2 np2_2 cp2_2, .int .i64 t.verify.base, .slice Ap2_3 np2_3 cp2_3] 47)).alloc (.cells #[.int .i64 d.base, .slice Ap3_ np3_ cp3_] 45) = x0
      obtain ⟨nb0, nb1, nb2, nb3, hsz, hb⟩ := laid4b (ps := [.int .i64 e.base, .slice Ap0_ np0_ cp0_]) (rs := [.int .i64 r.base, .slice Ap1_ np1_ cp1_]) (os := [.int .i64 t.taint.base, .slice Ap2_0 np2_0 cp2_0, .int .i64 t.clear.base, .slice Ap2_1 np2_1 cp2_1, .int .i64 t.raise.base, .slice Ap2_2 np2_2 cp2_2, .int .i64 t.verify.base, .slice Ap2_3 np2_3 cp2_3]) (qs := [.int .i64 d.base, .slice Ap3_ np3_ cp3_]) hW
      have bel' : Below w.heap.size w x0 := hb
      clear hb
      have bel := bel'
      clear bel'
      have P0 := Lib.hid nb0
      have P1 := Lib.hid nb1
      have P2 := Lib.hid nb2
      have P3 := Lib.hid nb3
      clear hW hsz nb0 nb1 nb2 nb3
      refine (sz_labx_yes _ e (1048576) _ (by omega) (by omega) (by omega) g0.out.sh).mono ?_
      rintro e y1 ⟨rfl, hb⟩
      have P0' := Lib.hid (P0.out.below hb)
      clear P0
      have P0 := P0'
      clear P0'
      have P1' := Lib.hid (P1.out.below hb)
      clear P1
      have P1 := P1'
      clear P1'
      have P2' := Lib.hid (P2.out.below hb)
      clear P2
      have P2 := P2'
      clear P2'
      have P3' := Lib.hid (P3.out.below hb)
      clear P3
      have P3 := P3'
      clear P3'
      have bel' : Below w.heap.size w y1 := below_more bel hb
      clear bel hb
      have bel := bel'
      clear bel'
      have P1k0 := P1.out.cell 0 rfl
      have P1k1 := P1.out.cell 1 rfl
      have P1kz := P1.out.lt
      go_wp2_with fail
      refine (sz_labx_no _ r (1048576 - (e.parts.length : Nat)) _ (by omega) (by omega) (by omega) g1.out.sh).mono ?_
      rintro e y2 ⟨rfl, hb⟩
      clear P1k0 P1k1 P1kz
      have P0' := Lib.hid (P0.out.below hb)
      clear P0
      have P0 := P0'
      clear P0'
      have P1' := Lib.hid (P1.out.below hb)
      clear P1
      have P1 := P1'
      clear P1'
      have P2' := Lib.hid (P2.out.below hb)
      clear P2
      have P2 := P2'
      clear P2'
      have P3' := Lib.hid (P3.out.below hb)
      clear P3
      have P3 := P3'
      clear P3'
      have bel' : Below w.heap.size w y2 := below_more bel hb
      clear bel hb
      have bel := bel'
      clear bel'
      go_wp2
      go_ret
      exact ⟨rfl, bel⟩
  · skip
    go_enter Tryd.func5, Tryd.ntmps5
    go_wp2_with fail
    generalize hW : (((w.alloc (.cells #[.int .i64 e.base, .slice Ap0_ np0_ cp0_] 45)).alloc (.cells #[.int .i64 r.base, .slice Ap1_ np1_ cp1_] 45)).alloc (.cells #[.int .i64 t.taint.base, .slice Ap2_0 np2_0 cp2_0, .int .i64 t.clear.base, .slice Ap2_1 np2_1 cp2_1, .int .i64 t.raise.base, .slice Ap2_2 np2_2 cp2_2, .int .i64 t.verify.base, .slice Ap2_3 np2_3 cp2_3] 47)).alloc (.cells #[.int .i64 d.base, .slice Ap3_ np3_ cp3_] 45) = x0
    obtain ⟨nb0, nb1, nb2, nb3, hsz, hb⟩ := laid4b (ps := [.int .i64 e.base, .slice Ap0_ np0_ cp0_]) (rs := [.int .i64 r.base, .slice Ap1_ np1_ cp1_]) (os := [.int .i64 t.taint.base, .slice Ap2_0 np2_0 cp2_0, .int .i64 t.clear.base, .slice Ap2_1 np2_1 cp2_1, .int .i64 t.raise.base, .slice Ap2_2 np2_2 cp2_2, .int .i64 t.verify.base, .slice Ap2_3 np2_3 cp2_3]) (qs := [.int .i64 d.base, .slice Ap3_ np3_ cp3_]) hW
    have bel' : Below w.heap.size w x0 := hb
    clear hb
    have bel := bel'
    clear bel'
    have P0 := Lib.hid nb0
    have P1 := Lib.hid nb1
    have P2 := Lib.hid nb2
    have P3 := Lib.hid nb3
    clear hW hsz nb0 nb1 nb2 nb3
    refine (sz_labx_no _ e (1048576) _ (by omega) (by omega) (by omega) g0.out.sh).mono ?_
    rintro e y1 ⟨rfl, hb⟩
    have P0' := Lib.hid (P0.out.below hb)
    clear P0
    have P0 := P0'
    clear P0'
    have P1' := Lib.hid (P1.out.below hb)
    clear P1
    have P1 := P1'
    clear P1'
    have P2' := Lib.hid (P2.out.below hb)
    clear P2
    have P2 := P2'
    clear P2'
    have P3' := Lib.hid (P3.out.below hb)
    clear P3
    have P3 := P3'
    clear P3'
    have bel' : Below w.heap.size w y1 := below_more bel hb
    clear bel hb
    have bel := bel'
    clear bel'
    go_wp2
    go_ret
    exact ⟨rfl, bel⟩

set_option maxRecDepth 100000 in
theorem lifted (os : Os) (started : os.Started) (H : Type) (enc : TypeId × Value → H) :
    ReturnsInHanded {} Tryd.checked os 5 .any (fun w args => (Rows.fnExactAcceptsSpec.pre enc Tryd.prog Tryd.f5 [] false w args ∧ laidMetH Tryd.prog Rows.fnExactAcceptsRow.laid w) ∧ sizedMet enc Tryd.prog Tryd.f5 (OpenSpec.ofChange Rows.fnExactAcceptsSpec) false w args)
      (Rows.fnExactAcceptsSpec.post enc Tryd.prog Tryd.f5 false true false false) := by
  refine returnsInHanded_of_change_and (C := Tryd.checked) (X := fun w _ => laidMetH Tryd.prog Rows.fnExactAcceptsRow.laid w) (fun _ _ _ hh h => h.of_heap hh) own started (by kernel_rfl) Tryd.func5
    (ChangeSpec.witness_shaped (enc := enc) (C := Tryd.checked) (os := os) (X := fun w _ => laidMetH Tryd.prog Rows.fnExactAcceptsRow.laid w) false (World.doorLaid Tryd.prog 4000 os) #[.agg #[.int .i64 0, .slice none 0 0], .agg #[.int .i64 0, .slice none 0 0], .agg #[.int .i64 0, .slice none 0 0, .int .i64 0, .slice none 0 0, .int .i64 0, .slice none 0 0, .int .i64 0, .slice none 0 0], .agg #[.int .i64 0, .slice none 0 0]] 8 rfl (World.shaped_of_RefB (by kernel_rfl) (by kernel_rfl)) (by kernel_rfl) (by kernel_rfl) (by kernel_rfl) (laidMetH_of_parts3 (fuel := 8) (laidMet_of_run' 8 (by kernel_rfl) (by kernel_rfl)) (by kernel_rfl) (by kernel_rfl))) ?_
  intro W base args ds gs before hval0 hW _ _ hL _
  have hval : ∀ (j : Nat) t v, Tryd.f5.params[j]? = some t → args[j]? = some v → Value.okWide Tryd.prog W .any base t v := hval0
  have hW' := hW
  obtain ⟨p, q, hA0, hV, rfl, hfz, hnd⟩ := hW
  have hA : DataW.TrodAll enc Tryd.prog W 0 (fun _ => true) true Tryd.f5.params.toList args.toList ds p := hA0
  rw [Tryd.params5] at hA hval
  obtain ⟨v0, vs0, d0, ds0, p0, q0, hargs, rfl, rfl, h0, r0⟩ := trodAll_cons hA
  obtain ⟨v1, vs1, d1, ds1, p1, q1, rfl, rfl, rfl, h1, r1⟩ := trodAll_cons r0
  obtain ⟨v2, vs2, d2, ds2, p2, q2, rfl, rfl, rfl, h2, r2⟩ := trodAll_cons r1
  obtain ⟨v3, vs3, d3, ds3, p3, q3, rfl, rfl, rfl, h3, r3⟩ := trodAll_cons r2
  obtain ⟨rfl, rfl, rfl⟩ := trodAll_nil r3
  obtain rfl : args = #[v0, v1, v2, v3] := by cases args; simp_all
  obtain ⟨a9, c9, va, vc, hs⟩ := sent_high hL
  have vr : ∀ {X : World}, X.var? Tryd.prog "loop.example/g00805/impl.errTooHigh" = some #[.iface 139 (.pointer (some c9))] → X.var? Tryd.prog "loop.example/g00805/impl.errNotRight" = some #[.iface 139 (.pointer (some a9))] → ∀ sp : Nat → Bool, DataW.TrodVars enc Tryd.prog X sp ["loop.example/g00805/impl.errTooHigh", "loop.example/g00805/impl.errNotRight"] [tok enc (.iface 139 (.pointer (some c9))), tok enc (.iface 139 (.pointer (some a9)))] [.cell 1 0, .cell 0 0] :=
    fun yvc yva sp => vars_read2 enc gn_errTooHigh gt_errTooHigh Tryd.underlying61 yvc trivial gn_errNotRight gt_errNotRight Tryd.underlying61 yva trivial sp
  have hV' : DataW.TrodVars enc Tryd.prog W (fun _ => true) ["loop.example/g00805/impl.errTooHigh", "loop.example/g00805/impl.errNotRight"] gs q := hV
  obtain ⟨rfl, rfl⟩ := hV'.unique (vr vc va _)
  have k0 := h0
  have lt0 : ∀ x ∈ p0, x.block < W.heap.size := by obtain ⟨m, hm⟩ := k0; exact DataW.trod_lt m _ _ _ hm
  have k1 := h1
  have lt1 : ∀ x ∈ p1, x.block < W.heap.size := by obtain ⟨m, hm⟩ := k1; exact DataW.trod_lt m _ _ _ hm
  have k2 := h2
  have lt2 : ∀ x ∈ p2, x.block < W.heap.size := by obtain ⟨m, hm⟩ := k2; exact DataW.trod_lt m _ _ _ hm
  have k3 := h3
  have lt3 : ∀ x ∈ p3, x.block < W.heap.size := by obtain ⟨m, hm⟩ := k3; exact DataW.trod_lt m _ _ _ hm
  obtain ⟨l0, hl0⟩ := open_lab (hval 0 45 v0 rfl rfl) h0
  obtain ⟨l1, hl1⟩ := open_lab (hval 1 45 v1 rfl rfl) h1
  obtain ⟨l2, hl2⟩ := open_tm (hval 2 47 v2 rfl rfl) h2
  obtain ⟨l3, hl3⟩ := open_lab (hval 3 45 v3 rfl rfl) h3
  clear hA0 hval0
  refine (walk v0 l0 hl0 v1 l1 hl1 v2 l2 hl2 v3 l3 hl3 hs (w := W)).mono fun e W' ⟨he, bel⟩ => ?_
  subst he
  exact ⟨_, rfl, _, _, _, [], _, _, hW', (trodAll_cons_mk (shut_bool Tryd.underlying4 _) trodAll_mk0), (trodAll_cons_mk (Below.trod laidOut (by kernel_rfl) (of_decide_eq_true (by kernel_rfl)) k0 bel lt0) (trodAll_cons_mk (Below.trod laidOut (by kernel_rfl) (of_decide_eq_true (by kernel_rfl)) k1 bel lt1) (trodAll_cons_mk (Below.trod laidOut (by kernel_rfl) (of_decide_eq_true (by kernel_rfl)) k2 bel lt2) (trodAll_cons_mk (Below.trod laidOut (by kernel_rfl) (of_decide_eq_true (by kernel_rfl)) k3 bel lt3) trodAll_mk0)))), vr (var_below vc bel) (var_below va bel) _, bel.frame _, fun h => by cases h⟩

theorem said : Rows.FnExactAcceptsSaid :=
  OpenClaim.holds_of_wide 5 Tryd.f5 rfl rfl rfl rfl rfl rfl rfl ⟨rfl, rfl, rfl, rfl, rfl⟩ rfl rfl rfl rfl rfl (by kernel_rfl) Tryd.func5 (by kernel_rfl)
    (of_decide_eq_true (by kernel_rfl)) (by unfold Func.isWrapper; first | (rw [if_pos (by decide +kernel)]; kernel_rfl) | (rw [if_neg (by decide +kernel)]; exact ⟨rfl, rfl⟩))
    (fun os started H enc _ => lifted os started H enc)

theorem plain (f : FuncId) (fn : Func) (hf : Tryd.pinned.checked.prog.funcNamed Rows.fnExactAcceptsRow.func = some f) (hfn : Tryd.pinned.checked.prog.funcs[f]? = some fn) :
    true = Tryd.pinned.checked.prog.looks [] ∧ ∀ (j : Nat) t, fn.params[j]? = some t → Tryd.pinned.checked.prog.wantsStandIn t = false := by
  obtain rfl : f = 5 := Option.some.inj ((show Tryd.prog.funcNamed Rows.fnExactAcceptsRow.func = some 5 by kernel_rfl).symm.trans hf) |>.symm
  obtain rfl : fn = Tryd.f5 := (Option.some.inj (Tryd.func5.symm.trans hfn)).symm
  refine ⟨by kernel_rfl, fun j t ht => ?_⟩
  rw [Tryd.params5] at ht
  have hm : t ∈ [45, 45, 47, 45] := by simpa using Array.mem_of_getElem? ht
  have hall : ([45, 45, 47, 45].all fun u => !Tryd.prog.wantsStandIn u) = true := by kernel_rfl
  exact (show Tryd.prog.wantsStandIn t = false by simpa using List.all_eq_true.1 hall t hm)

theorem proved : Rows.FnExactAcceptsCardSaid :=
  Claim7.holds_tied_plain_at .later [] _ _ _ _ said (fun _ h => by cases h) (by kernel_rfl) (fun _ h => by cases h) fnExactAccepts_row_tie rfl ⟨rfl, rfl⟩ (by kernel_rfl) rfl plain (by kernel_rfl)
#print axioms proved
end Go.Proofs.YtedaknjjcdlpnaaDoor.fnExactAccepts
