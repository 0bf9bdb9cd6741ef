/-
  Chapter 2 of the program: the handles of two labels: the keys of both, sorted, each once.
-/
import Derived.Test.YtjdnobihhkmmpaaImplLab1
import Derived.Test.YtjdnobihhkmmpaaPure
import Derived.Test.YtjdnobihhkmmpaaSpecLab
import Derived.Test.YtjdnobihhkmmpaaShelf
import Derived.Test.YtjdnobihhkmmpaaMem
import Derived.Shelf.SortM.SortNone
import Derived.Sort.OwnSortedInts
import Derived.Lib.OwnBridge
import Derived.OwnWalk
import Derived.Deep.RegionHeld3
namespace Go.Proofs.Ytjdnobihhkmmpaa
set_option maxRecDepth 100000
open Go.RowKit Go.Sort Go.Lib

theorem nmcells_map (xs : List Int) : nmcells xs = xs.map (Value.int .i64) := by
  unfold nmcells flat
  induction xs with
  | nil => rfl
  | cons x xs ih => simp [ih, encInt64]

/-- The call writes a row of the caller's anew, and returns nothing. -/
def RetRowSet (t : TypeId) (base n : Nat) (v : Value) (xs : List Value) (w : World) (e : Ending) (w' : World) : Prop :=
  e = .returned (.tuple #[]) ∧ w'.ownsRow base t 1 v n xs ∧ w.grownBy w' v.ownBlock
theorem own_nonnil {w : World} {base : Nat} {e : TypeId} {n c : Nat} {A : Option Addr} {xs : List Value} (h : w.ownsRow base e 1 (.slice A n c) n xs) : (.slice A n c = Value.slice none 0 0) ∨ ∃ g, A = some ⟨g, 0, none⟩ := by
  rcases h.2 with ⟨e0, _⟩ | ⟨g, cap, cur, hv, _⟩
  · exact .inl e0
  · simp only [Value.slice.injEq] at hv; exact .inr ⟨g, hv.1⟩

theorem impl_sort (A : Option Addr) (n c base : Nat) (xs : List Int) (w : World) (hown : w.ownsRow base 2 1 (.slice A n c) n (nmcells xs)) (hn : xs.length = n) (hl : n ≤ 1048576) :
    Calls Try.prog 56 #[.slice A n c] w (RetRowSet 2 base n (.slice A n c) (nmcells (srt xs)) w) := by
  rcases own_nonnil hown with e0 | ⟨g, rfl⟩
  · simp only [Value.slice.injEq] at e0
    obtain ⟨rfl, rfl, rfl⟩ := e0
    refine (AnyM.slices_Sort_int_none Try.laysSlM5_f56 none 0 w).mono ?_
    rintro e w1 ⟨rfl, rfl⟩
    obtain rfl : xs = [] := List.eq_nil_of_length_eq_zero hn
    exact ⟨rfl, by simpa [srt] using hown, World.grownBy.refl _ _⟩
  · have ho := hown
    rw [nmcells_map] at ho
    rcases ho.2 with ⟨e0, _⟩ | ⟨g', cap, cur, hv, hbase, hg, hnc, hm, hs, ht⟩
    · simp at e0
    simp only [Value.slice.injEq, Option.some.injEq, Addr.mk.injEq, and_true, true_and] at hv
    obtain ⟨rfl, rfl⟩ := hv
    subst hn
    refine (Try.slices_Sort_int g 0 c xs w (holds_of_blockI hg (by rw [Nat.mul_one] at ht; exact ht)) (Array.getElem?_eq_some_iff.1 hg).1 (by omega)).mono ?_
    rintro e w1 ⟨rfl, k, os, rfl⟩
    refine ⟨rfl, ?_, grownBy_sortedI _⟩
    rw [nmcells_map]
    exact ownsRow_sortedI (ts := srt xs) (srt_length xs) hbase hg hnc hm hs

theorem impl_compact0 (p : Option Addr) (c : Nat) (w : World) : Calls Try.prog 57 #[.slice p 0 c] w fun e w' => e = .returned (.slice p 0 c) ∧ w = w' := by
  go_enter Try.func57, Try.ntmps57
  go_wp2
  go_ret
  exact ⟨rfl, rfl⟩

/-- The call cuts a row of the caller's, and returns it. -/
def RetRowCut (t : TypeId) (base n : Nat) (v : Value) (xs : List Value) (w : World) (e : Ending) (w' : World) : Prop :=
  ∃ u, e = .returned u ∧ w'.ownsRow base t 1 u n xs ∧ w.grownBy w' v.ownBlock
theorem impl_compact (A : Option Addr) (n c base : Nat) (xs : List Int) (w : World) (hown : w.ownsRow base 2 1 (.slice A n c) n (nmcells xs)) (hn : xs.length = n) (hl : n ≤ 1048576) :
    Calls Try.prog 57 #[.slice A n c] w (RetRowCut 2 base (cpt xs).length (.slice A n c) (nmcells (cpt xs)) w) := by
  rcases own_nonnil hown with e0 | ⟨g, rfl⟩
  · simp only [Value.slice.injEq] at e0
    obtain ⟨rfl, rfl, rfl⟩ := e0
    refine (impl_compact0 none 0 w).mono ?_
    rintro e w1 ⟨rfl, rfl⟩
    obtain rfl : xs = [] := List.eq_nil_of_length_eq_zero hn
    exact ⟨_, rfl, by simpa [cpt, compactUpTo] using hown, World.grownBy.refl _ _⟩
  · have ho := hown
    rw [nmcells_map] at ho
    rcases ho.2 with ⟨e0, _⟩ | ⟨g', cap, cur, hv, hbase, hg, hnc, hm, hs, ht⟩
    · simp at e0
    simp only [Value.slice.injEq, Option.some.injEq, Addr.mk.injEq, and_true, true_and] at hv
    obtain ⟨rfl, rfl⟩ := hv
    subst hn
    have hlen := cpt_length xs
    refine (Try.slices_Compact (Value.int .i64) (fun _ => rfl) (EqlAt.intD _ _ _) (NeqAt.intD _ _ _) 0 (fun w => by kernel_rfl) g 0 c xs.toArray w (holds_of_blockI hg (by rw [Nat.mul_one] at ht; exact ht)) (by simp; omega) (by simpa using hnc)).mono ?_
    rintro e w1 ⟨rfl, q, rfl⟩
    have e1 : compactUpTo xs.toArray xs.toArray.size = cpt xs := by simp [cpt]
    rw [e1]
    refine ⟨_, rfl, ?_, ?_⟩
    · rw [nmcells_map]
      have h := ownsRow_putRow (q := q) (k := (cpt xs).length) (ys := cpt xs ++ List.replicate (xs.length - (cpt xs).length) 0) ho (by simp; omega) hlen
      simpa using h
    · have h := grownBy_sortedI (w := w) (g := g) (n := q) (os := #[]) (cpt xs ++ List.replicate (xs.toArray.size - (cpt xs).length) 0).toArray
      simpa [Value.ownBlock] using h

set_option maxHeartbeats 1000000 in
theorem impl_keys (A : Option Addr) (n c : Nat) (ps : List (Int × Int)) (w : World) (ha : At w A (ptcells ps)) (hn : ps.length = n) (hl : n ≤ 1048576) :
    Calls Try.prog 29 #[.slice A n c] w (RetOwn 2 1 n (nmcells (ps.map (·.1))) w) := by
  have HN := Lib.hid hn
  clear hn
  obtain ⟨i0, hi, hz0, hz1, hz2⟩ := info_parts nminfo
  go_enter Try.func29, Try.ntmps29
  go_wp2_with (at_make; refine wpList_make_own _ rfl _ _ 34 rfl w.heap.size 2 i0 _ 1 Try.underlying34 hi hz0 hz1 .i64 .i64 _ n rfl rfl rfl (by rw [hz2]; omega) (by unfold maxLen; omega) (Nat.le_refl _) ?_; intro w1 hown hg)
  have HB1 : Below w.heap.size w w1 := (Below.refl _ _).grown hg (Nat.le_refl _) (fun k hk => by cases hk)
  clear hg
  go_loopw [3, 11] (fun s i wr => ∃ k : Nat, k ≤ n ∧ i = .int .i64 k ∧ wr.ownsRow w.heap.size 2 1 s k (nmcells ((ps.take k).map (·.1))) ∧ Below w.heap.size w wr) (fun _ i _ => n - (intOf i).toNat)
  case atStart => exact ⟨0, by omega, rfl, by simpa [nmcells, flat] using hown, HB1⟩
  case round =>
    clear hown HB1
    obtain ⟨k, hk, rfl, hown, hbel⟩ := hrel
    have HO := Lib.hid hown
    clear hown
    by_cases hlt : k < n
    · obtain ⟨b, o, x, y, rfl, hx, cx, cy⟩ := ptat (ha.below hbel) (k := k) (by have := HN.out; omega)
      have HX : Hid (nmcells ((ps.take (k + 1)).map (·.1)) = nmcells ((ps.take k).map (·.1)) ++ nmcells [x]) := Lib.hid (by rw [take_at hx, List.map_append, nmcells_append]; rfl)
      clear hx
      go_wp2_with (first
        | (go_at_call 119
           refine (impl_key _ _ _).mono ?_
           rintro e w2 ⟨rfl, hb0⟩
           have HB0 : Hid (Below wr.heap.size wr w2) := Lib.hid (over_alloc hb0)
           have hB : Hid (Below w.heap.size w w2) := Lib.hid (below_more hbel HB0.out)
           have HO2 := Lib.hid (own_below HO.out HB0.out)
           clear hb0)
        | (at_builtin
           refine wpList_app elemInt rfl (.tmp 15) (.tmp 19) rfl w.heap.size _ k _ rfl (HO2.out.alloc _) (some ⟨w2.heap.size, 0, none⟩) 1 1 (nmcells [x]) rfl (At.one fun j u hj => by rw [World.cell?_alloc_new]; simpa [nmcells, flat, encInt64] using hj) rfl (nmcells_one [x]) (by omega) (by omega) (by have := hB.out.size; simp; omega) ?_
           intro v3 w3 hap
           have HP := Lib.hid hap
           have HB3 : Hid (Below w.heap.size w w3) := Lib.hid ((hB.out.alloc hB.out.size _).grown hap.grown (by have := hB.out.size; simp; omega) (fun j hj => (HO2.out.lt j hj).1))
           clear hap))
      go_roundw
      case rel => exact ⟨k + 1, by omega, by go_num, by rw [HX.out]; exact HP.out.own, HB3.out⟩
      case measure => simp [intOf]; omega
    · obtain rfl : k = n := by omega
      go_wp2
      go_ret
      exact ⟨_, rfl, by have h := HO.out; rwa [List.take_of_length_le (by have := HN.out; omega)] at h, hbel⟩

set_option maxHeartbeats 2000000 in
theorem impl_handlesof (v u : Value) (l m : Lab) (w : World) (hr : RdLab w v l) (hq : RdLab w u m) :
    Calls Try.prog 27 #[v, u] w (RetRow w.heap.size 2 1 (nmcells (handlesOf l m)) (handlesOf l m).length w) := by
  have hr0 := hr
  have hq0 := hq
  obtain ⟨A, n, c, rfl, hn, hnl, hnc, hcm, ha⟩ := hr
  obtain ⟨B, n', d, rfl, hn', hnl', hnd, hdm, hb⟩ := hq
  have HN := Lib.hid hn
  have HN' := Lib.hid hn'
  clear hn hn' hnc hcm hnd hdm
  cases hl : labOk l
  · have HR := Lib.hid (handlesOf_no (m := m) (.inl hl))
    go_enter Try.func27, Try.ntmps27
    go_wp2_with fail
    refine (impl_labok0 _ l _ ((hr0.alloc _).alloc _)).mono ?_
    rintro e w1 ⟨rfl, hb1⟩
    obtain ⟨-, -, -, hbel⟩ := box4 hb1
    go_wp2
    go_ret
    exact ⟨_, rfl, by rw [HR.out]; exact World.ownsRow_nil _ _ _ _, hbel⟩
  · cases hm : labOk m
    · have HR := Lib.hid (handlesOf_no (l := l) (.inr hm))
      go_enter Try.func27, Try.ntmps27
      go_wp2_with fail
      refine (impl_labok0 _ l _ ((hr0.alloc _).alloc _)).mono ?_
      rintro e w1 ⟨rfl, hb1⟩
      obtain ⟨⟨c0, c1⟩, ⟨c2, c3⟩, hz, hbel⟩ := box4 hb1
      have hq1 := hq0.below hbel
      clear hb1
      go_wp2_with fail
      refine (impl_labok0 _ m _ hq1).mono ?_
      rintro e w2 ⟨rfl, hb2⟩
      have hbel2 := below_more hbel hb2
      go_wp2
      go_ret
      exact ⟨_, rfl, by rw [HR.out]; exact World.ownsRow_nil _ _ _ _, hbel2⟩
    · have HR : Hid (handlesOf l m = cpt (srt (l.parts.map (·.1) ++ m.parts.map (·.1)))) := Lib.hid ((handlesOf_yes hl hm).trans (handles_sorted _ _).symm)
      have s1 : n ≤ 8 := by have := labOk_short hl; have := HN.out; omega
      have s2 : n' ≤ 8 := by have := labOk_short hm; have := HN'.out; omega
      go_enter Try.func27, Try.ntmps27
      go_wp2_with fail
      refine (impl_labok0 _ l _ ((hr0.alloc _).alloc _)).mono ?_
      rintro e w1 ⟨rfl, hb1⟩
      obtain ⟨⟨c0, c1⟩, ⟨c2, c3⟩, hz, hbel⟩ := box4 hb1
      have hq1 := hq0.below hbel
      clear hb1
      go_wp2_with fail
      refine (impl_labok0 _ m _ hq1).mono ?_
      rintro e w2 ⟨rfl, hb2⟩
      have hbel2 := below_more hbel hb2
      have e0 := (hb2.cell (p := ⟨w.heap.size, 0, none⟩) (by simp only []; omega)).trans c0
      have e1 := (hb2.cell (p := ⟨w.heap.size, 1, none⟩) (by simp only []; omega)).trans c1
      have e2 := (hb2.cell (p := ⟨w.heap.size + 1, 0, none⟩) (by simp only []; omega)).trans c2
      have e3 := (hb2.cell (p := ⟨w.heap.size + 1, 1, none⟩) (by simp only []; omega)).trans c3
      have hz2 : w.heap.size + 1 < w2.heap.size := by have := hb2.size; omega
      have ha2 := Lib.hid (ha.below hbel2)
      have hb2' := Lib.hid (hb.below hbel2)
      clear hb2 c0 c1 c2 c3 hz hbel hq1 ha hb hr0 hq0
      go_wp2
      have HC : Hid (Below w2.heap.size w2 w2) := Lib.hid (.refl _ _)
      have hsz2 := hbel2.size
      go_region_held3 (fun w' => w'.cell? ⟨w.heap.size, 0, none⟩ = some (.int .i64 l.base) ∧ w'.cell? ⟨w.heap.size, 1, none⟩ = some (.slice A n c) ∧ w'.cell? ⟨w.heap.size + 1, 0, none⟩ = some (.int .i64 m.base) ∧ w'.cell? ⟨w.heap.size + 1, 1, none⟩ = some (.slice B n' d))
        (first | exact ⟨f0, f1, f2, f3⟩ | go_keep)
        (first
          | (go_at_call 28
             refine (impl_parts _ _ _ _ _).mono ?_
             rintro e w3 ⟨rfl, hb3⟩
             have HC : Hid (Below w2.heap.size w2 w3) := Lib.hid (by first | exact below_more HC.out hb3 | exact below_more HC.out (below_undrew hb3))
             have f0 : w3.cell? ⟨w.heap.size, 0, none⟩ = some (.int .i64 l.base) := (HC.out.cell (by simp only []; omega)).trans e0
             have f1 : w3.cell? ⟨w.heap.size, 1, none⟩ = some (.slice A n c) := (HC.out.cell (by simp only []; omega)).trans e1
             have f2 : w3.cell? ⟨w.heap.size + 1, 0, none⟩ = some (.int .i64 m.base) := (HC.out.cell (by simp only []; omega)).trans e2
             have f3 : w3.cell? ⟨w.heap.size + 1, 1, none⟩ = some (.slice B n' d) := (HC.out.cell (by simp only []; omega)).trans e3
             try (have HOl := Lib.hid (own_below HOl.out (by first | exact hb3 | exact below_undrew hb3)))
             try (have HOm := Lib.hid (own_below HOm.out (by first | exact hb3 | exact below_undrew hb3)))
             clear hb3)
          | (go_at_call_of 29 (Value.slice A n c)
             refine (impl_keys A n c l.parts _ (by first | exact ha2.out.below HC.out | exact (ha2.out.below HC.out).drew) HN.out (by omega)).mono ?_
             rintro e w3 ⟨vl, rfl, hownl, hb3⟩
             have hlo := HC.out.size
             try (have HOl := Lib.hid (own_below HOl.out (by first | exact hb3 | exact below_undrew hb3)))
             try (have HOm := Lib.hid (own_below HOm.out (by first | exact hb3 | exact below_undrew hb3)))
             have HC : Hid (Below w2.heap.size w2 w3) := Lib.hid (by first | exact below_more HC.out hb3 | exact below_more HC.out (below_undrew hb3))
             have f0 : w3.cell? ⟨w.heap.size, 0, none⟩ = some (.int .i64 l.base) := (HC.out.cell (by simp only []; omega)).trans e0
             have f1 : w3.cell? ⟨w.heap.size, 1, none⟩ = some (.slice A n c) := (HC.out.cell (by simp only []; omega)).trans e1
             have f2 : w3.cell? ⟨w.heap.size + 1, 0, none⟩ = some (.int .i64 m.base) := (HC.out.cell (by simp only []; omega)).trans e2
             have f3 : w3.cell? ⟨w.heap.size + 1, 1, none⟩ = some (.slice B n' d) := (HC.out.cell (by simp only []; omega)).trans e3
             obtain ⟨Al, kl, rfl, -, -, -⟩ := own_at hownl
             have HOl := Lib.hid (own_lower hownl (show w2.heap.size ≤ _ from hlo))
             clear hb3 hownl hlo)
          | (go_at_call_of 29 (Value.slice B n' d)
             refine (impl_keys B n' d m.parts _ (by first | exact hb2'.out.below HC.out | exact (hb2'.out.below HC.out).drew) HN'.out (by omega)).mono ?_
             rintro e w3 ⟨vm, rfl, hownm, hb3⟩
             have hlo := HC.out.size
             try (have HOl := Lib.hid (own_below HOl.out (by first | exact hb3 | exact below_undrew hb3)))
             try (have HOm := Lib.hid (own_below HOm.out (by first | exact hb3 | exact below_undrew hb3)))
             have HC : Hid (Below w2.heap.size w2 w3) := Lib.hid (by first | exact below_more HC.out hb3 | exact below_more HC.out (below_undrew hb3))
             have f0 : w3.cell? ⟨w.heap.size, 0, none⟩ = some (.int .i64 l.base) := (HC.out.cell (by simp only []; omega)).trans e0
             have f1 : w3.cell? ⟨w.heap.size, 1, none⟩ = some (.slice A n c) := (HC.out.cell (by simp only []; omega)).trans e1
             have f2 : w3.cell? ⟨w.heap.size + 1, 0, none⟩ = some (.int .i64 m.base) := (HC.out.cell (by simp only []; omega)).trans e2
             have f3 : w3.cell? ⟨w.heap.size + 1, 1, none⟩ = some (.slice B n' d) := (HC.out.cell (by simp only []; omega)).trans e3
             obtain ⟨Am, km, rfl, -, -, -⟩ := own_at hownm
             have HOm := Lib.hid (own_lower hownm (show w2.heap.size ≤ _ from hlo))
             clear hb3 hownm hlo)
          | (refine step_app elemInt rfl (.tmp 16) (.tmp 19) rfl w2.heap.size (.slice Al n kl) n (nmcells (l.parts.map (·.1))) rfl HOl.out Am n' km (nmcells (m.parts.map (·.1))) rfl (own_read HOm.out) (by have := HN'.out; rw [nmcells_length, List.length_map]; omega) (nmcells_one _) (by omega) (by omega) (by exact HC.out.size) ?_
             intro v4 w4 hap
             have HP4 := Lib.hid hap
             have HC4 : Hid (Below w2.heap.size w2 w4) := Lib.hid (HC.out.grown hap.grown HC.out.size (fun j hj => (HOl.out.lt j hj).1))
             have f0 : w4.cell? ⟨w.heap.size, 0, none⟩ = some (.int .i64 l.base) := (HC4.out.cell (by simp only []; omega)).trans e0
             have f1 : w4.cell? ⟨w.heap.size, 1, none⟩ = some (.slice A n c) := (HC4.out.cell (by simp only []; omega)).trans e1
             have f2 : w4.cell? ⟨w.heap.size + 1, 0, none⟩ = some (.int .i64 m.base) := (HC4.out.cell (by simp only []; omega)).trans e2
             have f3 : w4.cell? ⟨w.heap.size + 1, 1, none⟩ = some (.slice B n' d) := (HC4.out.cell (by simp only []; omega)).trans e3
             clear hap))
      obtain ⟨A4, k4, rfl, -, -, -⟩ := own_at HP4.out.own
      have HB4 := Lib.hid (below_more hbel2 HC4.out)
      have HL : Hid ((l.parts.map (·.1) ++ m.parts.map (·.1)).length = n + n') := Lib.hid (by have := HN.out; have := HN'.out; simp; omega)
      have HO4 : Hid (w4.ownsRow w2.heap.size 2 1 (.slice A4 (n + n') k4) (n + n') (nmcells (l.parts.map (·.1) ++ m.parts.map (·.1)))) := Lib.hid (by rw [nmcells_append]; exact HP4.out.own)
      clear HP4 HC4 f0 f1 f2 f3 e0 e1 e2 e3
      go_wp2_with fail
      refine (impl_sort A4 (n + n') k4 w2.heap.size _ _ HO4.out HL.out (by omega)).mono ?_
      rintro e w5 ⟨rfl, hown5, hg5⟩
      have HB5 := Lib.hid (HB4.out.grown hg5 HB4.out.size (fun k hk => by have := (HO4.out.lt k hk).1; omega))
      have HO5 := Lib.hid hown5
      have HL5 : Hid ((srt (l.parts.map (·.1) ++ m.parts.map (·.1))).length = n + n') := Lib.hid (by rw [srt_length]; exact HL.out)
      clear hown5 hg5
      go_wp2_with fail
      refine (impl_compact A4 (n + n') k4 w2.heap.size _ _ HO5.out HL5.out (by omega)).mono ?_
      rintro e w6 ⟨v6, rfl, hown6, hg6⟩
      have HB6 := Lib.hid (HB5.out.grown hg6 HB5.out.size (fun k hk => by have := (HO5.out.lt k hk).1; omega))
      have HO6 := Lib.hid hown6
      clear hown6 hg6
      go_wp2
      go_ret
      rw [HR.out]
      exact ⟨_, rfl, own_lower HO6.out hsz2, HB6.out⟩
end Go.Proofs.Ytjdnobihhkmmpaa
