/-
  Chapter 3 of the program: AtMost: every handle is asked, by a function value that is handed down.
-/
import Derived.Test.YtoaglephpkmaeaaImplHand
import Derived.Test.YtoaglephpkmaeaaSpecMinMax
namespace Go.Proofs.Ytoaglephpkmaeaa
set_option maxRecDepth 100000
open Go.RowKit

/-- At most, of two levels. -/
def leB (x y : Int) : Bool := decide (x ≤ y)
theorem leB_yes {x y : Int} (h : x ≤ y) : leB x y = true := by simp [leB, h]
theorem leB_no {x y : Int} (h : ¬ x ≤ y) : leB x y = false := by simp [leB]; omega
theorem impl_nomore (x y : Int) (w : World) : Calls Try.prog 30 #[.int .i64 x, .int .i64 y] w (RetS (.bool (leB x y)) w) := by
  by_cases h : x ≤ y
  · have HE := Lib.hid (leB_yes h)
    go_enter Try.func30, Try.ntmps30
    go_wp2
    go_ret
    exact .mk (by rw [HE.out]; rfl)
  · have HE := Lib.hid (leB_no h)
    go_enter Try.func30, Try.ntmps30
    go_wp2
    go_ret
    exact .mk (by rw [HE.out]; rfl)
theorem atMost_base {l m : Lab} (h : ¬ l.base ≤ m.base) : atMost l m = false := by simp [atMost, atMost0, h]
/-- Two boxed labels and a result's block, kept. -/
theorem boxes3 {w w1 : World} {a b c d : Value} {t s r : TypeId} (hb : Below (((w.alloc (.cells #[a, b] t)).alloc (.cells #[c, d] s)).alloc (.cells #[.int .i64 0, .slice none 0 0] r)).heap.size (((w.alloc (.cells #[a, b] t)).alloc (.cells #[c, d] s)).alloc (.cells #[.int .i64 0, .slice none 0 0] r)) w1) :
    Has w1 w.heap.size [a, b] ∧ Has w1 (w.heap.size + 1) [c, d] ∧ Fresh w1 (w.heap.size + 1 + 1) ∧ w.heap.size + 1 + 1 < w1.heap.size ∧ Below w.heap.size w w1 := by
  have hf := Fresh.new hb
  simp only [World.size_alloc] at hf
  exact ⟨Has.new2 (over_alloc hb), Has.new3 (over_alloc hb), hf, (box6 hb).2.2.2.1, (box6 hb).2.2.2.2⟩
theorem Has.cells2 {w : World} {g : Nat} {a b : Value} (h : Has w g [a, b]) : w.cell? ⟨g, 0, none⟩ = some a ∧ w.cell? ⟨g, 1, none⟩ = some b := ⟨h 0 _ rfl, h 1 _ rfl⟩

set_option maxHeartbeats 4000000 in
theorem impl_everywhere (v u : Value) (l m : Lab) (w : World) (hr : RdLab w v l) (hq : RdLab w u m) :
    Calls Try.prog 29 #[v, u, .func (.func 30) #[] #[]] w (RetV (.bool (atMost l m)) w) := by
  have RL0 := Lib.hid hr
  have RM0 := Lib.hid hq
  obtain ⟨A, n, c, rfl, -⟩ := hr
  obtain ⟨B, n', d, rfl, -⟩ := hq
  cases hl : labOk l
  · have HR := Lib.hid (atMost_no (m := m) (.inl hl))
    go_enter Try.func29, Try.ntmps29
    go_wp2_with fail
    refine (impl_labok0 _ l _ ((RL0.out.alloc _).alloc _)).mono ?_
    rintro e w1 ⟨rfl, hb1⟩
    obtain ⟨-, -, -, hbel⟩ := boxes2 hb1
    go_wp2
    go_ret
    exact .mk (by rw [HR.out]; rfl) hbel
  · cases hm : labOk m
    · have HR := Lib.hid (atMost_no (l := l) (.inr hm))
      go_enter Try.func29, Try.ntmps29
      go_wp2_with fail
      refine (impl_labok0 _ l _ ((RL0.out.alloc _).alloc _)).mono ?_
      rintro e w1 ⟨rfl, hb1⟩
      obtain ⟨bl, bm, hz, hbel⟩ := boxes2 hb1
      obtain ⟨c2, c3⟩ := bm.cells2
      clear hb1
      go_wp2_with fail
      refine (impl_labok0 _ m _ (RM0.out.below hbel)).mono ?_
      rintro e w2 ⟨rfl, hb2⟩
      go_wp2
      go_ret
      exact .mk (by rw [HR.out]; rfl) (below_more hbel hb2)
    · by_cases hbb : l.base ≤ m.base
      · have hd := leB_yes hbb
        have HY := Lib.hid (atMost_yes hl hm)
        have RIL := Lib.hid (labOk_rises hl)
        have RIM := Lib.hid (labOk_rises hm)
        have HH : Hid (handlesOf l m = hs2 l m) := Lib.hid (handlesOf_yes hl hm)
        have HBB := Lib.hid hbb
        have s1 := labOk_short hl
        have s2 := labOk_short hm
        have s3 := hs2_length l m
        clear hbb
        go_enter Try.func29, Try.ntmps29
        go_wp2_with fail
        refine (impl_labok0 _ l _ ((RL0.out.alloc _).alloc _)).mono ?_
        rintro e w1 ⟨rfl, hb1⟩
        obtain ⟨bl, bm, hz, hbel⟩ := boxes2 hb1
        obtain ⟨c2, c3⟩ := bm.cells2
        have BL := Lib.hid bl
        have BM := Lib.hid bm
        clear hb1 bl bm
        go_wp2_with fail
        refine (impl_labok0 _ m _ (RM0.out.below hbel)).mono ?_
        rintro e w2 ⟨rfl, hb2⟩
        have hbel2 := below_more hbel hb2
        have BL2 := Lib.hid (BL.out.below hb2)
        have BM2 := Lib.hid (BM.out.below hb2)
        obtain ⟨e0, e1⟩ := BL2.out.cells2
        obtain ⟨e2, e3⟩ := BM2.out.cells2
        clear hb2 c2 c3 hbel hz BL BM
        go_wp2_with (go_at_call 30; refine (impl_nomore _ _ _).mono ?_; rintro e w' ⟨rfl, rfl⟩)
        refine (impl_handlesof _ _ l m _ (RL0.out.below hbel2) (RM0.out.below hbel2)).mono ?_
        rintro e w1z ⟨v3, rfl, hown, hb3⟩
        have HBEL := Lib.hid (below_more hbel2 hb3)
        have BLz := Lib.hid (BL2.out.below hb3)
        have BMz := Lib.hid (BM2.out.below hb3)
        rw [HH.out] at hown
        obtain ⟨N, hNe⟩ : ∃ N, N = (hs2 l m).length := ⟨_, rfl⟩
        rw [← hNe] at hown
        have hN1 : N ≤ 1000 := by omega
        have HN : Hid ((hs2 l m).length = N) := Lib.hid hNe.symm
        obtain ⟨A3, c3, rfl, -, -, -⟩ := own_at hown
        have HA := Lib.hid (own_read hown)
        clear hown hb3 hNe s1 s2 s3 e0 e1 e2 e3 hbel2 BL2 BM2
        go_wp2
        go_loopw [30] (fun i wr => ∃ k : Nat, k ≤ N ∧ i = .int .i64 k ∧ Hid (AmLeft l m (hs2 l m) k) ∧ Hid (Below w1z.heap.size w1z wr)) (fun i _ => N - (intOf i).toNat)
        case atStart => exact ⟨0, by omega, rfl, Lib.hid (.zero _ _ _), Lib.hid (.refl _ _)⟩
        case round =>
          obtain ⟨k, hk, rfl, HS, HR⟩ := hrel
          by_cases hlt : k < N
          · obtain ⟨b9, o9, x, rfl, hx, cx⟩ := nmat (HA.out.below HR.out) (k := k) (by have := HN.out; omega)
            have BLr := Lib.hid (BLz.out.below HR.out)
            have BMr := Lib.hid (BMz.out.below HR.out)
            have RLr := Lib.hid (RL0.out.below (below_more HBEL.out HR.out))
            have RMr := Lib.hid (RM0.out.below (below_more HBEL.out HR.out))
            have HB0 := Lib.hid (Below.refl wr.heap.size wr)
            obtain ⟨c0a, c0b⟩ := BLr.out.cells2
            obtain ⟨c1a, c1b⟩ := BMr.out.cells2
            have hkn : (k : Int) < (N : Int) := by omega
            by_cases hle : lev l x ≤ lev m x
            · have hd2 := leB_yes hle
              have HS1 := Lib.hid (HS.out.succ hx hle)
              clear hle hx HS
              have HC := Lib.hid (Below.refl wr.heap.size wr)
              go_wp2
              go_region_held3 (fun w' => w'.cell? ⟨w.heap.size, 0, none⟩ = some (.int .i64 l.base) ∧ w'.cell? ⟨w.heap.size, 1, none⟩ = some (.slice A n c) ∧ w'.cell? ⟨w.heap.size + 1, 0, none⟩ = some (.int .i64 m.base) ∧ w'.cell? ⟨w.heap.size + 1, 1, none⟩ = some (.slice B n' d))
                (first | exact ⟨f0a, f0b, f1a, f1b⟩ | go_keep)
                (first
                | (go_at_call_of 41 (Value.agg #[Value.int IntKind.i64 l.base, Value.slice A n c])
                   refine (impl_lev _ l x _ (by first | exact RLr.out.below (below_more HB0.out HC.out) | exact (RLr.out.below (below_more HB0.out HC.out)).drew) RIL.out).mono ?_
                   rintro e wn ⟨rfl, hb⟩
                   have HC' : Hid (Below wr.heap.size wr wn) := Lib.hid (by first | exact below_more HC.out hb | exact below_more HC.out (below_undrew hb))
                   clear HC
                   have HC := HC'
                   clear HC'
                   try clear f0a f0b f1a f1b
                   have f0a : wn.cell? ⟨w.heap.size, 0, none⟩ = some (.int .i64 l.base) := BLr.out.below (below_more HB0.out HC.out) 0 _ rfl
                   have f0b : wn.cell? ⟨w.heap.size, 1, none⟩ = some (.slice A n c) := BLr.out.below (below_more HB0.out HC.out) 1 _ rfl
                   have f1a : wn.cell? ⟨w.heap.size + 1, 0, none⟩ = some (.int .i64 m.base) := BMr.out.below (below_more HB0.out HC.out) 0 _ rfl
                   have f1b : wn.cell? ⟨w.heap.size + 1, 1, none⟩ = some (.slice B n' d) := BMr.out.below (below_more HB0.out HC.out) 1 _ rfl
                   clear hb)
                | (go_at_call_of 41 (Value.agg #[Value.int IntKind.i64 m.base, Value.slice B n' d])
                   refine (impl_lev _ m x _ (by first | exact RMr.out.below (below_more HB0.out HC.out) | exact (RMr.out.below (below_more HB0.out HC.out)).drew) RIM.out).mono ?_
                   rintro e wn ⟨rfl, hb⟩
                   have HC' : Hid (Below wr.heap.size wr wn) := Lib.hid (by first | exact below_more HC.out hb | exact below_more HC.out (below_undrew hb))
                   clear HC
                   have HC := HC'
                   clear HC'
                   try clear f0a f0b f1a f1b
                   have f0a : wn.cell? ⟨w.heap.size, 0, none⟩ = some (.int .i64 l.base) := BLr.out.below (below_more HB0.out HC.out) 0 _ rfl
                   have f0b : wn.cell? ⟨w.heap.size, 1, none⟩ = some (.slice A n c) := BLr.out.below (below_more HB0.out HC.out) 1 _ rfl
                   have f1a : wn.cell? ⟨w.heap.size + 1, 0, none⟩ = some (.int .i64 m.base) := BMr.out.below (below_more HB0.out HC.out) 0 _ rfl
                   have f1b : wn.cell? ⟨w.heap.size + 1, 1, none⟩ = some (.slice B n' d) := BMr.out.below (below_more HB0.out HC.out) 1 _ rfl
                   clear hb)
                | (go_at_call 30
                   refine (impl_nomore _ _ _).mono ?_
                   rintro e w8 ⟨rfl, rfl⟩))
              go_wp2
              go_roundw
              case rel => exact ⟨k + 1, by omega, by go_num, HS1, Lib.hid (below_more HR.out HC.out)⟩
              case measure => simp [intOf]; omega
            · have hd2 := leB_no hle
              have HR1 : Hid (atMost l m = false) := Lib.hid (by rw [HY.out]; unfold atMost0; rw [HS.out.bad hx hle]; rfl)
              clear hle hx HS
              have HC := Lib.hid (Below.refl wr.heap.size wr)
              go_wp2
              go_region_held3 (fun w' => w'.cell? ⟨w.heap.size, 0, none⟩ = some (.int .i64 l.base) ∧ w'.cell? ⟨w.heap.size, 1, none⟩ = some (.slice A n c) ∧ w'.cell? ⟨w.heap.size + 1, 0, none⟩ = some (.int .i64 m.base) ∧ w'.cell? ⟨w.heap.size + 1, 1, none⟩ = some (.slice B n' d))
                (first | exact ⟨f0a, f0b, f1a, f1b⟩ | go_keep)
                (first
                | (go_at_call_of 41 (Value.agg #[Value.int IntKind.i64 l.base, Value.slice A n c])
                   refine (impl_lev _ l x _ (by first | exact RLr.out.below (below_more HB0.out HC.out) | exact (RLr.out.below (below_more HB0.out HC.out)).drew) RIL.out).mono ?_
                   rintro e wn ⟨rfl, hb⟩
                   have HC' : Hid (Below wr.heap.size wr wn) := Lib.hid (by first | exact below_more HC.out hb | exact below_more HC.out (below_undrew hb))
                   clear HC
                   have HC := HC'
                   clear HC'
                   try clear f0a f0b f1a f1b
                   have f0a : wn.cell? ⟨w.heap.size, 0, none⟩ = some (.int .i64 l.base) := BLr.out.below (below_more HB0.out HC.out) 0 _ rfl
                   have f0b : wn.cell? ⟨w.heap.size, 1, none⟩ = some (.slice A n c) := BLr.out.below (below_more HB0.out HC.out) 1 _ rfl
                   have f1a : wn.cell? ⟨w.heap.size + 1, 0, none⟩ = some (.int .i64 m.base) := BMr.out.below (below_more HB0.out HC.out) 0 _ rfl
                   have f1b : wn.cell? ⟨w.heap.size + 1, 1, none⟩ = some (.slice B n' d) := BMr.out.below (below_more HB0.out HC.out) 1 _ rfl
                   clear hb)
                | (go_at_call_of 41 (Value.agg #[Value.int IntKind.i64 m.base, Value.slice B n' d])
                   refine (impl_lev _ m x _ (by first | exact RMr.out.below (below_more HB0.out HC.out) | exact (RMr.out.below (below_more HB0.out HC.out)).drew) RIM.out).mono ?_
                   rintro e wn ⟨rfl, hb⟩
                   have HC' : Hid (Below wr.heap.size wr wn) := Lib.hid (by first | exact below_more HC.out hb | exact below_more HC.out (below_undrew hb))
                   clear HC
                   have HC := HC'
                   clear HC'
                   try clear f0a f0b f1a f1b
                   have f0a : wn.cell? ⟨w.heap.size, 0, none⟩ = some (.int .i64 l.base) := BLr.out.below (below_more HB0.out HC.out) 0 _ rfl
                   have f0b : wn.cell? ⟨w.heap.size, 1, none⟩ = some (.slice A n c) := BLr.out.below (below_more HB0.out HC.out) 1 _ rfl
                   have f1a : wn.cell? ⟨w.heap.size + 1, 0, none⟩ = some (.int .i64 m.base) := BMr.out.below (below_more HB0.out HC.out) 0 _ rfl
                   have f1b : wn.cell? ⟨w.heap.size + 1, 1, none⟩ = some (.slice B n' d) := BMr.out.below (below_more HB0.out HC.out) 1 _ rfl
                   clear hb)
                | (go_at_call 30
                   refine (impl_nomore _ _ _).mono ?_
                   rintro e w8 ⟨rfl, rfl⟩))
              go_wp2
              go_ret
              exact .mk (by rw [HR1.out]; rfl) (below_more (below_more HBEL.out HR.out) HC.out)
          · have HE : Hid (atMost l m = true) := Lib.hid (by rw [HY.out]; unfold atMost0; rw [HS.out.done (by have := HN.out; omega)]; simp [HBB.out])
            clear HS
            go_wp2
            go_ret
            exact .mk (by rw [HE.out]; rfl) (below_more HBEL.out HR.out)
      · have hd := leB_no hbb
        have HR := Lib.hid (atMost_base hbb)
        clear hbb
        go_enter Try.func29, Try.ntmps29
        go_wp2_with fail
        refine (impl_labok0 _ l _ ((RL0.out.alloc _).alloc _)).mono ?_
        rintro e w1 ⟨rfl, hb1⟩
        obtain ⟨bl, bm, hz, hbel⟩ := boxes2 hb1
        obtain ⟨c2, c3⟩ := bm.cells2
        have BL := Lib.hid bl
        have BM := Lib.hid bm
        clear hb1 bl bm
        go_wp2_with fail
        refine (impl_labok0 _ m _ (RM0.out.below hbel)).mono ?_
        rintro e w2 ⟨rfl, hb2⟩
        obtain ⟨e0, e1⟩ := (BL.out.below hb2).cells2
        obtain ⟨e2, e3⟩ := (BM.out.below hb2).cells2
        clear c2 c3
        go_wp2_with (go_at_call 30; refine (impl_nomore _ _ _).mono ?_; rintro e w' ⟨rfl, rfl⟩)
        go_ret
        exact .mk (by rw [HR.out]; rfl) (below_more hbel hb2)

set_option maxHeartbeats 1000000 in
theorem impl_atmost (v u : Value) (l m : Lab) (w : World) (hr : RdLab w v l) (hq : RdLab w u m) : Calls Try.prog 15 #[v, u] w (RetV (.bool (atMost l m)) w) := by
  have RL0 := Lib.hid hr
  have RM0 := Lib.hid hq
  obtain ⟨A, n, c, rfl, -⟩ := hr
  obtain ⟨B, n', d, rfl, -⟩ := hq
  go_enter Try.func15, Try.ntmps15
  go_wp2_with fail
  refine (impl_everywhere _ _ l m _ ((RL0.out.alloc _).alloc _) ((RM0.out.alloc _).alloc _)).mono ?_
  rintro e w1 ⟨rfl, hb1⟩
  obtain ⟨-, -, -, hbel⟩ := boxes2 hb1
  go_wp2
  go_ret
  exact .mk rfl hbel
end Go.Proofs.Ytoaglephpkmaeaa
