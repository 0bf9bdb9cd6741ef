/-
  Texts put together: SpecOrd, SpecMinMax. What each proves stands ahead of it.
-/
import Derived.Test.YtedaknjjcdlpnaaDoorSpecLab
import Derived.Test.YtedaknjjcdlpnaaDoorPure
import Derived.Test.YtedaknjjcdlpnaaDoorHas
import Derived.Deep.RegionLaw
/-
  Chapter 3 of the model: AtMost.
-/
namespace Go.Proofs.YtedaknjjcdlpnaaDoor
set_option maxRecDepth 100000
open Go.RowKit

/-- Two boxed labels, kept. -/
theorem boxes2 {w w1 : World} {a b c d : Value} {t s : TypeId} (hb : Below ((w.alloc (.cells #[a, b] t)).alloc (.cells #[c, d] s)).heap.size ((w.alloc (.cells #[a, b] t)).alloc (.cells #[c, d] s)) w1) :
    Has w1 w.heap.size [a, b] ∧ Has w1 (w.heap.size + 1) [c, d] ∧ w.heap.size + 1 < w1.heap.size ∧ Below w.heap.size w w1 := ⟨Has.new2 hb, Has.new3 hb, (box4 hb).2.2.1, (box4 hb).2.2.2⟩
def AmLeft (l m : Lab) (hs : List Int) (k : Nat) : Prop := atMostIn l m hs = atMostIn l m (hs.drop k)
theorem AmLeft.zero (l m : Lab) (hs : List Int) : AmLeft l m hs 0 := rfl
theorem AmLeft.succ {l m : Lab} {hs : List Int} {k : Nat} {x : Int} (h : AmLeft l m hs k) (hx : hs[k]? = some x) (hl : lev l x ≤ lev m x) : AmLeft l m hs (k + 1) := by
  unfold AmLeft at h ⊢; rw [h, drop_at hx]; simp [atMostIn, hl]
theorem AmLeft.bad {l m : Lab} {hs : List Int} {k : Nat} {x : Int} (h : AmLeft l m hs k) (hx : hs[k]? = some x) (hl : ¬ lev l x ≤ lev m x) : atMostIn l m hs = false := by
  unfold AmLeft at h; rw [h, drop_at hx]; simp [atMostIn, hl]
theorem AmLeft.done {l m : Lab} {hs : List Int} {k : Nat} (h : AmLeft l m hs k) (hk : hs.length ≤ k) : atMostIn l m hs = true := by
  unfold AmLeft at h; rw [h, List.drop_eq_nil_of_le hk]; rfl

set_option maxHeartbeats 2000000 in
theorem spec_atmost0 (v u : Value) (l m : Lab) (w : World) (hr : RdLab w v l) (hq : RdLab w u m) (h8 : l.parts.length + m.parts.length ≤ 1000) :
    Calls Tryd.prog 47 #[v, u] w (RetV (.bool (atMost0 l m)) w) := by
  have hr0 := hr
  have hq0 := hq
  obtain ⟨A, n, c, rfl, -⟩ := hr
  obtain ⟨B, n', d, rfl, -⟩ := hq
  have hb0 : 0 + l.parts.length ≤ 1048575 := by omega
  have hb1 : (handlesIn [] l.parts).length + m.parts.length ≤ 1048575 := by have := handlesIn_length [] l.parts; simp at this; omega
  have hN : (handlesIn (handlesIn [] l.parts) m.parts).length ≤ 1000 := by have := hs2_length l m; unfold hs2 at this; omega
  go_enter Tryd.func47, Tryd.ntmps47
  have hbw : Below ((w.alloc (.cells #[.int .i64 l.base, .slice A n c] 26)).alloc (.cells #[.int .i64 m.base, .slice B n' d] 26)).heap.size ((w.alloc (.cells #[.int .i64 l.base, .slice A n c] 26)).alloc (.cells #[.int .i64 m.base, .slice B n' d] 26)) ((w.alloc (.cells #[.int .i64 l.base, .slice A n c] 26)).alloc (.cells #[.int .i64 m.base, .slice B n' d] 26)) := .refl _ _
  go_wp2
  generalize hW : ((w.alloc (.cells #[.int .i64 l.base, .slice A n c] 26)).alloc (.cells #[.int .i64 m.base, .slice B n' d] 26)) = w1
  have hbw1 : Below ((w.alloc (.cells #[.int .i64 l.base, .slice A n c] 26)).alloc (.cells #[.int .i64 m.base, .slice B n' d] 26)).heap.size ((w.alloc (.cells #[.int .i64 l.base, .slice A n c] 26)).alloc (.cells #[.int .i64 m.base, .slice B n' d] 26)) w1 := by rw [← hW]; exact .refl _ _
  obtain ⟨bl, bm, hz, bel⟩ := boxes2 hbw1
  clear hbw hbw1 hW
  have BL := Lib.hid bl
  have BM := Lib.hid bm
  have RL := Lib.hid (hr0.below bel)
  have RM := Lib.hid (hq0.below bel)
  have e0 := bl 0 _ rfl
  have e1 := bl 1 _ rfl
  have e2 := bm 0 _ rfl
  have e3 := bm 1 _ rfl
  clear hr0 hq0 bl bm
  have HC := Lib.hid (Below.refl w1.heap.size w1)
  go_wp2
  go_region_held3 (fun w' => w'.cell? ⟨w.heap.size, 0, none⟩ = some (.int .i64 l.base) ∧ w'.cell? ⟨w.heap.size, 1, none⟩ = some (.slice A n c) ∧ w'.cell? ⟨w.heap.size + 1, 0, none⟩ = some (.int .i64 m.base) ∧ w'.cell? ⟨w.heap.size + 1, 1, none⟩ = some (.slice B n' d))
    (first | exact ⟨f0a, f0b, f1a, f1b⟩ | go_keep)
    (first
    | (go_at_call_of 40 (Value.agg #[Value.int IntKind.i64 l.base, Value.slice A n c])
       refine (spec_handles (some ⟨w1.heap.size, 0, none⟩) 0 0 w.heap.size [] _ l _ (by exact World.ownsRow_lit w1 #[] 0 bel.size (by simp [maxLen]) rfl) rfl (RL.out.below (by go_grown)) (by have := hb0; omega) (by have := bel.size; simp; omega)).mono ?_
       rintro e w0z ⟨v0z, rfl, own, hb⟩
       have HC0 : Hid (Below w1.heap.size w1 w0z) := Lib.hid (by first | exact Below.trans (by go_grown) (hb.mono (by simp; omega)) | exact Below.trans (by go_grown) (hb.mono (by simp)))
       have f0a : w0z.cell? ⟨w.heap.size, 0, none⟩ = some (.int .i64 l.base) := BL.out.below HC0.out 0 _ rfl
       have f0b : w0z.cell? ⟨w.heap.size, 1, none⟩ = some (.slice A n c) := BL.out.below HC0.out 1 _ rfl
       have f1a : w0z.cell? ⟨w.heap.size + 1, 0, none⟩ = some (.int .i64 m.base) := BM.out.below HC0.out 0 _ rfl
       have f1b : w0z.cell? ⟨w.heap.size + 1, 1, none⟩ = some (.slice B n' d) := BM.out.below HC0.out 1 _ rfl
       obtain ⟨A0z, c0z, rfl, -, -, -⟩ := own_at own
       have HO0 := Lib.hid own
       clear hb own)
    | (go_at_call_of 40 (Value.agg #[Value.int IntKind.i64 m.base, Value.slice B n' d])
       refine (spec_handles A0z _ c0z w.heap.size (handlesIn [] l.parts) _ m _ HO0.out rfl (RM.out.below (by exact HC0.out)) hb1 (by have := bel.size; have := HC0.out.size; omega)).mono ?_
       rintro e w1z ⟨v1z, rfl, own, hb⟩
       have HC1 : Hid (Below w1.heap.size w1 w1z) := Lib.hid (below_more HC0.out hb)
       have f0a : w1z.cell? ⟨w.heap.size, 0, none⟩ = some (.int .i64 l.base) := BL.out.below HC1.out 0 _ rfl
       have f0b : w1z.cell? ⟨w.heap.size, 1, none⟩ = some (.slice A n c) := BL.out.below HC1.out 1 _ rfl
       have f1a : w1z.cell? ⟨w.heap.size + 1, 0, none⟩ = some (.int .i64 m.base) := BM.out.below HC1.out 0 _ rfl
       have f1b : w1z.cell? ⟨w.heap.size + 1, 1, none⟩ = some (.slice B n' d) := BM.out.below HC1.out 1 _ rfl
       obtain ⟨A1z, c1z, rfl, -, -, -⟩ := own_at own
       have HO1 := Lib.hid own
       clear hb own))
  have HC' := HC1
  have HOW := HO1
  clear HC HC0 HO0 HC1 HO1 f0a f0b f1a f1b
  have HC := HC'
  clear HC'
  clear e0 e1 e2 e3
  go_wp2
  obtain ⟨N, hNe⟩ : ∃ N, N = (handlesIn (handlesIn [] l.parts) m.parts).length := ⟨_, rfl⟩
  have ho := HOW.out
  clear HOW
  rw [← hNe] at ho ⊢
  have hN1 : N ≤ 1000 := by omega
  have HN : Hid ((handlesIn (handlesIn [] l.parts) m.parts).length = N) := Lib.hid hNe.symm
  have HA := Lib.hid (own_read ho)
  clear ho hNe hN hb0 hb1
  go_loopw [6] (fun i wr => ∃ k : Nat, k ≤ N ∧ i = .int .i64 k ∧ Hid (AmLeft l m (handlesIn (handlesIn [] l.parts) m.parts) k) ∧ Hid (Below w1z.heap.size w1z wr)) (fun i _ => N - (intOf i).toNat)
  case atStart => exact ⟨0, by omega, rfl, Lib.hid (.zero _ _ _), Lib.hid (.refl _ _)⟩
  case round =>
    obtain ⟨k, hk, rfl, HS, HR⟩ := hrel
    have HB := Lib.hid (below_more HC.out HR.out)
    have BEL := Lib.hid (below_more bel HB.out)
    have c0a := BL.out.below HB.out 0 _ rfl
    have c0b := BL.out.below HB.out 1 _ rfl
    have c1a := BM.out.below HB.out 0 _ rfl
    have c1b := BM.out.below HB.out 1 _ rfl
    by_cases hlt : k < N
    · obtain ⟨b9, o9, x, rfl, hx, cx⟩ := nmat (HA.out.below HR.out) (k := k) (by have := HN.out; omega)
      clear HC
      by_cases hle : lev l x ≤ lev m x
      · have hd : decide (lev m x < lev l x) = false := by simpa using hle
        have HS1 := Lib.hid (HS.out.succ hx hle)
        clear hle hx HS
        have HC := Lib.hid (Below.refl wr.heap.size wr)
        go_wp2
        go_region_held3 (fun w' => w'.cell? ⟨w.heap.size, 0, none⟩ = some (.int .i64 l.base) ∧ w'.cell? ⟨w.heap.size, 1, none⟩ = some (.slice A n c) ∧ w'.cell? ⟨w.heap.size + 1, 0, none⟩ = some (.int .i64 m.base) ∧ w'.cell? ⟨w.heap.size + 1, 1, none⟩ = some (.slice B n' d) ∧ w'.cell? ⟨b9, o9 + k, none⟩ = some (.int .i64 x))
          (first | exact ⟨f0a, f0b, f1a, f1b, f9⟩ | go_keep)
          (first
          | (go_at_call_of 41 (Value.agg #[Value.int IntKind.i64 l.base, Value.slice A n c])
             refine (spec_lev _ l x _ (by first | exact RL.out.below (below_more HB.out HC.out) | exact (RL.out.below (below_more HB.out HC.out)).drew)).mono ?_
             rintro e wn ⟨rfl, hb⟩
             have HC' : Hid (Below wr.heap.size wr wn) := Lib.hid (by first | exact below_more HC.out hb | exact below_more HC.out (below_undrew hb))
             clear HC
             have HC := HC'
             clear HC'
             try clear f0a f0b f1a f1b f9
             have f0a : wn.cell? ⟨w.heap.size, 0, none⟩ = some (.int .i64 l.base) := BL.out.below (below_more HB.out HC.out) 0 _ rfl
             have f0b : wn.cell? ⟨w.heap.size, 1, none⟩ = some (.slice A n c) := BL.out.below (below_more HB.out HC.out) 1 _ rfl
             have f1a : wn.cell? ⟨w.heap.size + 1, 0, none⟩ = some (.int .i64 m.base) := BM.out.below (below_more HB.out HC.out) 0 _ rfl
             have f1b : wn.cell? ⟨w.heap.size + 1, 1, none⟩ = some (.slice B n' d) := BM.out.below (below_more HB.out HC.out) 1 _ rfl
             have f9 : wn.cell? ⟨b9, o9 + k, none⟩ = some (.int .i64 x) := (HC.out.cell (block_lt_of_cell cx)).trans cx
             clear hb)
          | (go_at_call_of 41 (Value.agg #[Value.int IntKind.i64 m.base, Value.slice B n' d])
             refine (spec_lev _ m x _ (by first | exact RM.out.below (below_more HB.out HC.out) | exact (RM.out.below (below_more HB.out HC.out)).drew)).mono ?_
             rintro e wn ⟨rfl, hb⟩
             have HC' : Hid (Below wr.heap.size wr wn) := Lib.hid (by first | exact below_more HC.out hb | exact below_more HC.out (below_undrew hb))
             clear HC
             have HC := HC'
             clear HC'
             try clear f0a f0b f1a f1b f9
             have f0a : wn.cell? ⟨w.heap.size, 0, none⟩ = some (.int .i64 l.base) := BL.out.below (below_more HB.out HC.out) 0 _ rfl
             have f0b : wn.cell? ⟨w.heap.size, 1, none⟩ = some (.slice A n c) := BL.out.below (below_more HB.out HC.out) 1 _ rfl
             have f1a : wn.cell? ⟨w.heap.size + 1, 0, none⟩ = some (.int .i64 m.base) := BM.out.below (below_more HB.out HC.out) 0 _ rfl
             have f1b : wn.cell? ⟨w.heap.size + 1, 1, none⟩ = some (.slice B n' d) := BM.out.below (below_more HB.out HC.out) 1 _ rfl
             have f9 : wn.cell? ⟨b9, o9 + k, none⟩ = some (.int .i64 x) := (HC.out.cell (block_lt_of_cell cx)).trans cx
             clear hb))
        go_wp2
        go_roundw
        case rel => exact ⟨k + 1, by omega, by go_num, HS1, Lib.hid (below_more HR.out HC.out)⟩
        case measure => simp [intOf]; omega
      · have hd : decide (lev m x < lev l x) = true := by simpa using hle
        have HR1 : Hid (atMost0 l m = false) := Lib.hid (by unfold atMost0 hs2; rw [HS.out.bad hx hle]; rfl)
        clear hle hx HS
        have HC := Lib.hid (Below.refl wr.heap.size wr)
        go_wp2
        go_region_held3 (fun w' => w'.cell? ⟨w.heap.size, 0, none⟩ = some (.int .i64 l.base) ∧ w'.cell? ⟨w.heap.size, 1, none⟩ = some (.slice A n c) ∧ w'.cell? ⟨w.heap.size + 1, 0, none⟩ = some (.int .i64 m.base) ∧ w'.cell? ⟨w.heap.size + 1, 1, none⟩ = some (.slice B n' d) ∧ w'.cell? ⟨b9, o9 + k, none⟩ = some (.int .i64 x))
          (first | exact ⟨f0a, f0b, f1a, f1b, f9⟩ | go_keep)
          (first
          | (go_at_call_of 41 (Value.agg #[Value.int IntKind.i64 l.base, Value.slice A n c])
             refine (spec_lev _ l x _ (by first | exact RL.out.below (below_more HB.out HC.out) | exact (RL.out.below (below_more HB.out HC.out)).drew)).mono ?_
             rintro e wn ⟨rfl, hb⟩
             have HC' : Hid (Below wr.heap.size wr wn) := Lib.hid (by first | exact below_more HC.out hb | exact below_more HC.out (below_undrew hb))
             clear HC
             have HC := HC'
             clear HC'
             try clear f0a f0b f1a f1b f9
             have f0a : wn.cell? ⟨w.heap.size, 0, none⟩ = some (.int .i64 l.base) := BL.out.below (below_more HB.out HC.out) 0 _ rfl
             have f0b : wn.cell? ⟨w.heap.size, 1, none⟩ = some (.slice A n c) := BL.out.below (below_more HB.out HC.out) 1 _ rfl
             have f1a : wn.cell? ⟨w.heap.size + 1, 0, none⟩ = some (.int .i64 m.base) := BM.out.below (below_more HB.out HC.out) 0 _ rfl
             have f1b : wn.cell? ⟨w.heap.size + 1, 1, none⟩ = some (.slice B n' d) := BM.out.below (below_more HB.out HC.out) 1 _ rfl
             have f9 : wn.cell? ⟨b9, o9 + k, none⟩ = some (.int .i64 x) := (HC.out.cell (block_lt_of_cell cx)).trans cx
             clear hb)
          | (go_at_call_of 41 (Value.agg #[Value.int IntKind.i64 m.base, Value.slice B n' d])
             refine (spec_lev _ m x _ (by first | exact RM.out.below (below_more HB.out HC.out) | exact (RM.out.below (below_more HB.out HC.out)).drew)).mono ?_
             rintro e wn ⟨rfl, hb⟩
             have HC' : Hid (Below wr.heap.size wr wn) := Lib.hid (by first | exact below_more HC.out hb | exact below_more HC.out (below_undrew hb))
             clear HC
             have HC := HC'
             clear HC'
             try clear f0a f0b f1a f1b f9
             have f0a : wn.cell? ⟨w.heap.size, 0, none⟩ = some (.int .i64 l.base) := BL.out.below (below_more HB.out HC.out) 0 _ rfl
             have f0b : wn.cell? ⟨w.heap.size, 1, none⟩ = some (.slice A n c) := BL.out.below (below_more HB.out HC.out) 1 _ rfl
             have f1a : wn.cell? ⟨w.heap.size + 1, 0, none⟩ = some (.int .i64 m.base) := BM.out.below (below_more HB.out HC.out) 0 _ rfl
             have f1b : wn.cell? ⟨w.heap.size + 1, 1, none⟩ = some (.slice B n' d) := BM.out.below (below_more HB.out HC.out) 1 _ rfl
             have f9 : wn.cell? ⟨b9, o9 + k, none⟩ = some (.int .i64 x) := (HC.out.cell (block_lt_of_cell cx)).trans cx
             clear hb))
        go_wp2
        go_ret
        exact .mk (by rw [HR1.out]; rfl) (below_more BEL.out HC.out)
    · have HE : Hid (atMost0 l m = decide (l.base ≤ m.base)) := Lib.hid (by unfold atMost0 hs2; rw [HS.out.done (by have := HN.out; omega)]; rfl)
      clear HS
      go_wp2
      go_ret
      exact .mk (by rw [HE.out]; rfl) BEL.out
set_option maxHeartbeats 1000000 in
theorem spec_atmost (v u : Value) (l m : Lab) (w : World) (hr : RdLab w v l) (hq : RdLab w u m) :
    Calls Tryd.prog 20 #[v, u] w (RetV (.bool (atMost l m)) w) := by
  have hr0 := hr
  have hq0 := hq
  obtain ⟨A, n, c, rfl, -⟩ := hr
  obtain ⟨B, n', d, rfl, -⟩ := hq
  cases hl : labOk l
  · have HR := Lib.hid (atMost_no (m := m) (.inl hl))
    go_enter Tryd.func20, Tryd.ntmps20
    go_wp2_with fail
    refine (spec_labok _ l _ ((hr0.alloc _).alloc _)).mono ?_
    rintro e w1 ⟨rfl, hb1⟩
    obtain ⟨-, -, -, hbel⟩ := box4 hb1
    go_wp2
    go_ret
    exact .mk (by rw [HR.out]; rfl) hbel
  · cases hm : labOk m
    · have HR := Lib.hid (atMost_no (l := l) (.inr hm))
      go_enter Tryd.func20, Tryd.ntmps20
      go_wp2_with fail
      refine (spec_labok _ l _ ((hr0.alloc _).alloc _)).mono ?_
      rintro e w1 ⟨rfl, hb1⟩
      obtain ⟨⟨c0, c1⟩, ⟨c2, c3⟩, hz, hbel⟩ := box4 hb1
      have hq1 := hq0.below hbel
      clear hb1
      go_wp2_with fail
      refine (spec_labok _ m _ hq1).mono ?_
      rintro e w2 ⟨rfl, hb2⟩
      go_wp2
      go_ret
      exact .mk (by rw [HR.out]; rfl) (below_more hbel hb2)
    · have HR := Lib.hid (atMost_yes hl hm)
      have s1 := labOk_short hl
      have s2 := labOk_short hm
      go_enter Tryd.func20, Tryd.ntmps20
      go_wp2_with fail
      refine (spec_labok _ l _ ((hr0.alloc _).alloc _)).mono ?_
      rintro e w1 ⟨rfl, hb1⟩
      obtain ⟨⟨c0, c1⟩, ⟨c2, c3⟩, hz, hbel⟩ := box4 hb1
      have hq1 := hq0.below hbel
      clear hb1
      go_wp2_with fail
      refine (spec_labok _ m _ hq1).mono ?_
      rintro e w2 ⟨rfl, hb2⟩
      have e0 := (hb2.cell (p := ⟨w.heap.size, 0, none⟩) (by simp only []; omega)).trans c0
      have e1 := (hb2.cell (p := ⟨w.heap.size, 1, none⟩) (by simp only []; omega)).trans c1
      have e2 := (hb2.cell (p := ⟨w.heap.size + 1, 0, none⟩) (by simp only []; omega)).trans c2
      have e3 := (hb2.cell (p := ⟨w.heap.size + 1, 1, none⟩) (by simp only []; omega)).trans c3
      have hbel2 := below_more hbel hb2
      clear hb2 c0 c1 c2 c3
      go_wp2_with fail
      refine (spec_atmost0 _ _ l m _ (hr0.below hbel2) (hq0.below hbel2) (by omega)).mono ?_
      rintro e w3 ⟨rfl, hb3⟩
      go_wp2
      go_ret
      exact .mk (by rw [HR.out]; rfl) (below_more hbel2 hb3)
end Go.Proofs.YtedaknjjcdlpnaaDoor

/-
  Chapter 1 of the model: the lesser, the greater of two numbers.
-/
namespace Go.Proofs.YtedaknjjcdlpnaaDoor
set_option maxRecDepth 100000
open Go.RowKit

theorem spec_min (x y : Int) (w : World) : Calls Tryd.prog 71 #[.int .i64 x, .int .i64 y] w (RetS (.int .i64 (min x y)) w) := by
  by_cases h : x < y
  · have e : min x y = x := by omega
    have HE := Lib.hid e
    clear e
    go_enter Tryd.func71, Tryd.ntmps71
    go_wp2
    go_ret
    exact .mk (by rw [HE.out]; rfl)
  · have e : min x y = y := by omega
    have HE := Lib.hid e
    clear e
    go_enter Tryd.func71, Tryd.ntmps71
    go_wp2
    go_ret
    exact .mk (by rw [HE.out]; rfl)
theorem spec_max (x y : Int) (w : World) : Calls Tryd.prog 68 #[.int .i64 x, .int .i64 y] w (RetS (.int .i64 (max x y)) w) := by
  by_cases h : y < x
  · have e : max x y = x := by omega
    have HE := Lib.hid e
    clear e
    go_enter Tryd.func68, Tryd.ntmps68
    go_wp2
    go_ret
    exact .mk (by rw [HE.out]; rfl)
  · have e : max x y = y := by omega
    have HE := Lib.hid e
    clear e
    go_enter Tryd.func68, Tryd.ntmps68
    go_wp2
    go_ret
    exact .mk (by rw [HE.out]; rfl)
end Go.Proofs.YtedaknjjcdlpnaaDoor
