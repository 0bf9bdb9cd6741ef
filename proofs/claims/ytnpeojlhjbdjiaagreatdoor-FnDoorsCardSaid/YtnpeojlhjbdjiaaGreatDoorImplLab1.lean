/-
  Texts put together: ImplLab1, ImplLab2. What each proves stands ahead of it.
-/
import Derived.Test.YtnpeojlhjbdjiaaGreatDoorPure
import Derived.Test.YtnpeojlhjbdjiaaGreatDoorSpecLab
import Derived.Deep.RegionHeld3
import Derived.Deep.RegionWith
import Derived.WalkSpells
/-
  Chapter 2 of the program: a part's key, a label's parts, whether they rise, the place of a key.
-/
namespace Go.Proofs.YtnpeojlhjbdjiaaGreatDoor
set_option maxRecDepth 100000
open Go.RowKit

theorem impl_hrange (h : Int) (w : World) : Calls Tryz.prog 83 #[.int .i64 h] w (RetS (.bool (hOk h)) w) := by
  by_cases h0 : 0 ≤ h
  · by_cases h1 : h ≤ 999
    · have HR := Lib.hid (hOk_yes h0 h1)
      go_enter Tryz.func83, Tryz.ntmps83
      go_wp2
      go_ret
      exact .mk (by rw [HR.out]; rfl)
    · have HR := Lib.hid (hOk_no (h := h) (by omega))
      go_enter Tryz.func83, Tryz.ntmps83
      go_wp2
      go_ret
      exact .mk (by rw [HR.out]; rfl)
  · have HR := Lib.hid (hOk_no (h := h) (by omega))
    go_enter Tryz.func83, Tryz.ntmps83
    go_wp2
    go_ret
    exact .mk (by rw [HR.out]; rfl)

theorem impl_parts (b : Int) (A : Option Addr) (n c : Nat) (w : World) : Calls Tryz.prog 80 #[.agg #[.int .i64 b, .slice A n c]] w (RetV (.slice A n c) w) := by
  go_enter Tryz.func80, Tryz.ntmps80
  go_wp2
  go_ret
  exact .mk rfl (by go_grown)

theorem impl_key (x y : Int) (w : World) : Calls Tryz.prog 127 #[.agg #[.int .i64 x, .int .i64 y]] w (RetV (.int .i64 x) w) := by
  go_enter Tryz.func127, Tryz.ntmps127
  go_wp2
  go_ret
  exact .mk rfl (by go_grown)

set_option maxHeartbeats 1000000 in
theorem impl_place (A : Option Addr) (n c : Nat) (ps : List (Int × Int)) (h : Int) (w : World) (ha : At w A (ptcells ps)) (hn : ps.length = n) (hl : n ≤ 1048576) :
    Calls Tryz.prog 93 #[.slice A n c, .int .i64 h] w (RetV (.tuple #[.int .i64 (placeK h ps), .bool (placeHit h ps)]) w) := by
  have HN := Lib.hid hn
  clear hn
  go_enter Tryz.func93, Tryz.ntmps93
  go_wp2
  go_loopw [10] (fun i wr => ∃ k : Nat, k ≤ n ∧ i = .int .i64 k ∧ PlLeft h ps k ∧ Below w.heap.size w wr) (fun i _ => n - (intOf i).toNat)
  case atStart => exact ⟨0, by omega, rfl, .zero _ _, by go_grown⟩
  case round =>
    obtain ⟨k, hk, rfl, hs, hbel⟩ := hrel
    by_cases hlt : k < n
    · obtain ⟨b, o, x, y, rfl, hx, cx, cy⟩ := ptat (ha.below hbel) (k := k) (by have := HN.out; omega)
      by_cases he : h ≤ x
      · have HR := Lib.hid (hs.here hx he)
        cases hb : decide (x = h)
        · have hb1 : (x == h) = false := by simpa using hb
          have HB := Lib.hid hb
          clear hx hs ha hb
          go_wp2
          go_ret2
          exact .mk (by rw [HR.out.1, HR.out.2, HB.out]; rfl) (((hbel.alloc hbel.size _).alloc (by have := hbel.size; simp; omega) _).alloc (by have := hbel.size; simp; omega) _)
        · have hb1 : (x == h) = true := by simpa using hb
          have HB := Lib.hid hb
          clear hx hs ha hb
          go_wp2
          go_ret2
          exact .mk (by rw [HR.out.1, HR.out.2, HB.out]; rfl) (((hbel.alloc hbel.size _).alloc (by have := hbel.size; simp; omega) _).alloc (by have := hbel.size; simp; omega) _)
      · have HS := Lib.hid (hs.succ hx (by omega))
        clear hx hs ha
        have he' : x < h := by omega
        go_wp2
        go_roundw
        case rel => exact ⟨k + 1, by omega, by go_num, HS.out, (hbel.alloc hbel.size _).alloc (by have := hbel.size; simp; omega) _⟩
        case measure => simp [intOf]; omega
    · obtain rfl : k = n := by omega
      have HR := Lib.hid (hs.done HN.out)
      clear hs ha
      go_wp2
      go_ret2
      exact .mk (by rw [HR.out.1, HR.out.2]; rfl) hbel
theorem drop_rd {w : World} {b o k : Nat} {ps : List (Int × Int)} (ha : At w (some ⟨b, o, none⟩) (ptcells ps)) : At w (some ⟨b, o + k * 2, none⟩) (ptcells (ps.drop k)) := by
  unfold ptcells
  rw [flat_drop encPart_length]
  exact ha.drop _
theorem take_rd {w : World} {A : Option Addr} {k : Nat} {ps : List (Int × Int)} (ha : At w A (ptcells ps)) : At w A (ptcells (ps.take k)) := by
  unfold ptcells
  rw [flat_take encPart_length]
  exact ha.take _

/-- A slice that reads as these parts. -/
def RdRow (w : World) (v : Value) (ps : List (Int × Int)) : Prop := ∃ A n c, v = .slice A n c ∧ ps.length = n ∧ n ≤ c ∧ c ≤ maxLen ∧ At w A (ptcells ps)
theorem RdRow.below {w w' : World} {v : Value} {ps : List (Int × Int)} (h : RdRow w v ps) (hb : Below w.heap.size w w') : RdRow w' v ps := by
  obtain ⟨A, n, c, rfl, hn, hc, hm, ha⟩ := h
  exact ⟨A, n, c, rfl, hn, hc, hm, ha.below hb⟩
/-- The call returns two slices that read so. -/
def RetRd2 (ps qs : List (Int × Int)) (w : World) (e : Ending) (w' : World) : Prop := ∃ v u, e = .returned (.tuple #[v, u]) ∧ RdRow w' v ps ∧ RdRow w' u qs ∧ Below w.heap.size w w'

set_option maxHeartbeats 1000000 in
theorem impl_rises (A : Option Addr) (n c : Nat) (ps : List (Int × Int)) (w : World) (ha : At w A (ptcells ps)) (hn : ps.length = n) (hl : n ≤ 1048576) :
    Calls Tryz.prog 84 #[.slice A n c] w (RetV (.bool (risesB ps)) w) := by
  have HN := Lib.hid hn
  clear hn
  go_enter Tryz.func84, Tryz.ntmps84
  go_wp2
  go_loopw [3] (fun i wr => ∃ k : Nat, 1 ≤ k ∧ (k ≤ n ∨ k = 1) ∧ i = .int .i64 k ∧ RiLeft ps k ∧ Below w.heap.size w wr) (fun i _ => n - (intOf i).toNat)
  case atStart => exact ⟨1, by omega, by omega, rfl, .one _, by go_grown⟩
  case round =>
    obtain ⟨k, hk1, hk, rfl, hs, hbel⟩ := hrel
    by_cases hlt : k < n
    · obtain ⟨m, rfl⟩ : ∃ m, k = m + 1 := ⟨k - 1, by omega⟩
      obtain ⟨b, o, x, y, rfl, hx, cx, cy⟩ := ptat (ha.below hbel) (k := m + 1) (by have := HN.out; omega)
      obtain ⟨b', o', x', y', he, hx', cx', cy'⟩ := ptat (ha.below hbel) (k := m) (by have := HN.out; omega)
      cases he
      have hbw : b < wr.heap.size := block_lt_of_cell cx
      have e1 : IntKind.i64.wrap (m : Int) = m := IntWalk.i64_in _ (by omega)
      have e4 : m < n := by omega
      have e5 : (0 : Int) ≤ (m : Int) + 1 := by omega
      have e6 : (m : Int) + 1 < (n : Int) := by omega
      by_cases h4 : x ≤ x'
      · have h4' : decide (x ≤ x') = true := by simpa using h4
        have HR := Lib.hid (hs.bad hx' hx h4)
        clear hs hx hx' h4 ha
        go_wp2
        go_region_held3 (fun w' => w'.cell? ⟨b, o + m * 2, none⟩ = some (.int .i64 x') ∧ w'.cell? ⟨b, o + m * 2 + 1, none⟩ = some (.int .i64 y') ∧ w'.cell? ⟨b, o + (m + 1) * 2, none⟩ = some (.int .i64 x) ∧ w'.cell? ⟨b, o + (m + 1) * 2 + 1, none⟩ = some (.int .i64 y))
          (first | exact ⟨f0, f1, f2, f3⟩ | go_keep)
          (first
            | (go_at_call 127
               refine (impl_key _ _ _).mono ?_
               rintro e w3 ⟨rfl, hb3⟩
               have f0 : w3.cell? ⟨b, o + m * 2, none⟩ = some (.int .i64 x') := (hb3.cell (by first | exact hbw | exact hbw3)).trans (by first | exact f0 | exact cx')
               have f1 : w3.cell? ⟨b, o + m * 2 + 1, none⟩ = some (.int .i64 y') := (hb3.cell (by first | exact hbw | exact hbw3)).trans (by first | exact f1 | exact cy')
               have f2 : w3.cell? ⟨b, o + (m + 1) * 2, none⟩ = some (.int .i64 x) := (hb3.cell (by first | exact hbw | exact hbw3)).trans (by first | exact f2 | exact cx)
               have f3 : w3.cell? ⟨b, o + (m + 1) * 2 + 1, none⟩ = some (.int .i64 y) := (hb3.cell (by first | exact hbw | exact hbw3)).trans (by first | exact f3 | exact cy)
               have hbw3 : b < w3.heap.size := block_lt_of_cell f0
               have HB3 : Hid (Below w.heap.size w w3) := by first | exact below_more HB3.out (below_undrew hb3) | exact below_more HB3.out hb3 | exact below_more hbel (below_undrew hb3) | exact below_more hbel hb3
               clear hb3))
        go_wp2
        go_ret
        exact .mk (by rw [HR.out]; rfl) HB3.out
      · have h4' : decide (x ≤ x') = false := by simpa using h4
        have HS := Lib.hid (hs.succ hx' hx (by omega))
        clear hs hx hx' h4 ha
        go_wp2
        go_region_held3 (fun w' => w'.cell? ⟨b, o + m * 2, none⟩ = some (.int .i64 x') ∧ w'.cell? ⟨b, o + m * 2 + 1, none⟩ = some (.int .i64 y') ∧ w'.cell? ⟨b, o + (m + 1) * 2, none⟩ = some (.int .i64 x) ∧ w'.cell? ⟨b, o + (m + 1) * 2 + 1, none⟩ = some (.int .i64 y))
          (first | exact ⟨f0, f1, f2, f3⟩ | go_keep)
          (first
            | (go_at_call 127
               refine (impl_key _ _ _).mono ?_
               rintro e w3 ⟨rfl, hb3⟩
               have f0 : w3.cell? ⟨b, o + m * 2, none⟩ = some (.int .i64 x') := (hb3.cell (by first | exact hbw | exact hbw3)).trans (by first | exact f0 | exact cx')
               have f1 : w3.cell? ⟨b, o + m * 2 + 1, none⟩ = some (.int .i64 y') := (hb3.cell (by first | exact hbw | exact hbw3)).trans (by first | exact f1 | exact cy')
               have f2 : w3.cell? ⟨b, o + (m + 1) * 2, none⟩ = some (.int .i64 x) := (hb3.cell (by first | exact hbw | exact hbw3)).trans (by first | exact f2 | exact cx)
               have f3 : w3.cell? ⟨b, o + (m + 1) * 2 + 1, none⟩ = some (.int .i64 y) := (hb3.cell (by first | exact hbw | exact hbw3)).trans (by first | exact f3 | exact cy)
               have hbw3 : b < w3.heap.size := block_lt_of_cell f0
               have HB3 : Hid (Below w.heap.size w w3) := by first | exact below_more HB3.out (below_undrew hb3) | exact below_more HB3.out hb3 | exact below_more hbel (below_undrew hb3) | exact below_more hbel hb3
               clear hb3))
        go_wp2
        go_roundw
        case rel => exact ⟨m + 1 + 1, by omega, by omega, by go_num, HS.out, HB3.out⟩
        case measure => simp [intOf]; omega
    · have HR := Lib.hid (hs.done (by have := HN.out; omega))
      clear hs ha
      go_wp2
      go_ret
      exact .mk (by rw [HR.out]; rfl) hbel
end Go.Proofs.YtnpeojlhjbdjiaaGreatDoor

/-
  Chapter 2 of the program: whether a label is right; Plain; the level of a handle.
-/
namespace Go.Proofs.YtnpeojlhjbdjiaaGreatDoor
set_option maxRecDepth 100000
open Go.RowKit

set_option maxHeartbeats 1000000 in
theorem impl_labok0 (v : Value) (l : Lab) (w : World) (h : RdLab w v l) : Calls Tryz.prog 58 #[v] w (RetV (.bool (labOk l)) w) := by
  obtain ⟨A, n, c, rfl, hn, hl, hc, hm, ha⟩ := h
  have HN := Lib.hid hn
  clear hn hc hm
  cases hb : lvOk l.base
  · have HR := Lib.hid (labOk_base hb)
    go_enter Tryz.func58, Tryz.ntmps58
    go_wp2_with (go_at_call 72; refine (impl_ok _ _).mono ?_; rintro e w1 ⟨rfl, rfl⟩)
    go_ret
    exact .mk (by rw [HR.out]; rfl) (by go_grown)
  · by_cases h8 : n ≤ 8
    · have h8' : (n : Int) ≤ 8 := by omega
      go_enter Tryz.func58, Tryz.ntmps58
      go_wp2_with (go_at_call 72; refine (impl_ok _ _).mono ?_; rintro e w1 ⟨rfl, rfl⟩)
      go_loopw [18] (fun i wr => ∃ k : Nat, k ≤ n ∧ i = .int .i64 k ∧ EachOk l.base l.parts k ∧ Below w.heap.size w wr ∧ w.heap.size < wr.heap.size ∧ wr.cell? ⟨w.heap.size, 0, none⟩ = some (.int .i64 l.base) ∧ wr.cell? ⟨w.heap.size, 1, none⟩ = some (.slice A n c)) (fun i _ => n - (intOf i).toNat)
      case atStart => exact ⟨0, by omega, rfl, .zero _ _, by go_grown, by simp, by simp, by simp⟩
      case round =>
        obtain ⟨k, hk, rfl, hs, hbel, hsz, cb, cs⟩ := hrel
        by_cases hlt : k < n
        · obtain ⟨b, o, x, y, rfl, hx, cx, cy⟩ := ptat (ha.below hbel) (k := k) (by have := HN.out; omega)
          have HX := Lib.hid hx
          clear hx
          cases h1 : hOk x
          · -- no handle
            have HR := Lib.hid (labOk_parts hb (by have := HN.out; omega) (partsOk_bad (p := -1) HX.out (.inl h1)))
            clear hs ha
            go_wp2_with (first | (go_at_call 83; refine (impl_hrange _ _).mono ?_; rintro e w1 ⟨rfl, rfl⟩) | (go_at_call 72; refine (impl_ok _ _).mono ?_; rintro e w1 ⟨rfl, rfl⟩))
            go_ret
            exact .mk (by rw [HR.out]; rfl) (hbel.alloc hbel.size _)
          cases h2 : lvOk y
          · -- no level
            have HR := Lib.hid (labOk_parts hb (by have := HN.out; omega) (partsOk_bad (p := -1) HX.out (.inr (.inl h2))))
            clear hs ha
            go_wp2_with (first | (go_at_call 83; refine (impl_hrange _ _).mono ?_; rintro e w1 ⟨rfl, rfl⟩) | (go_at_call 72; refine (impl_ok _ _).mono ?_; rintro e w1 ⟨rfl, rfl⟩))
            go_ret
            exact .mk (by rw [HR.out]; rfl) (hbel.alloc hbel.size _)
          by_cases h3 : y = l.base
          · -- the base
            have h3' : (y == l.base) = true := by simpa using h3
            have HR := Lib.hid (labOk_parts hb (by have := HN.out; omega) (partsOk_bad (p := -1) HX.out (.inr (.inr h3))))
            clear h3 hs ha
            go_wp2_with (first | (go_at_call 83; refine (impl_hrange _ _).mono ?_; rintro e w1 ⟨rfl, rfl⟩) | (go_at_call 72; refine (impl_ok _ _).mono ?_; rintro e w1 ⟨rfl, rfl⟩))
            go_ret
            exact .mk (by rw [HR.out]; rfl) (hbel.alloc hbel.size _)
          have h3' : (y == l.base) = false := by simpa using h3
          have HS := Lib.hid (hs.succ HX.out h1 h2 h3)
          clear h3 hs ha
          go_wp2_with (first | (go_at_call 83; refine (impl_hrange _ _).mono ?_; rintro e w1 ⟨rfl, rfl⟩) | (go_at_call 72; refine (impl_ok _ _).mono ?_; rintro e w1 ⟨rfl, rfl⟩))
          go_roundw
          case rel => exact ⟨k + 1, by omega, by go_num, HS.out, hbel.alloc hbel.size _, by simp; omega, by simp [go_sem, hsz, cb], by simp [go_sem, hsz, cs]⟩
          case measure => simp [intOf]; omega
        · have HR := Lib.hid (labOk_parts hb (by have := HN.out; omega) (hs.done (by have := HN.out; omega)))
          have ha1 := ha.below hbel
          clear hs ha
          go_wp2_with fail
          refine (impl_parts _ _ _ _ _).mono ?_
          rintro e w2 ⟨rfl, hb2⟩
          go_wp2_with fail
          refine (impl_rises A n c l.parts _ (ha1.below hb2) HN.out hl).mono ?_
          rintro e w3 ⟨rfl, hb3⟩
          go_wp2
          go_ret
          exact .mk (by rw [HR.out]; rfl) (below_more (below_more hbel hb2) hb3)
    · have HR := Lib.hid (labOk_long (l := l) (by have := HN.out; omega))
      have h8' : (8 : Int) < n := by omega
      go_enter Tryz.func58, Tryz.ntmps58
      go_wp2_with (go_at_call 72; refine (impl_ok _ _).mono ?_; rintro e w1 ⟨rfl, rfl⟩)
      go_ret
      exact .mk (by rw [HR.out]; rfl) (by go_grown)

theorem impl_plain (b : Int) (w : World) : Calls Tryz.prog 45 #[.int .i64 b] w (RetLab (plainL b) w) := by
  cases hb : lvOk b
  · have HR := Lib.hid (plainL_no hb)
    go_enter Tryz.func45, Tryz.ntmps45
    go_wp2_with (go_at_call 72; refine (impl_ok _ _).mono ?_; rintro e w1 ⟨rfl, rfl⟩)
    go_returns
    rw [HR.out]
    exact ⟨_, rfl, own_nil _ _ _, by go_grown⟩
  · have HR := Lib.hid (plainL_yes hb)
    go_enter Tryz.func45, Tryz.ntmps45
    go_wp2_with (go_at_call 72; refine (impl_ok _ _).mono ?_; rintro e w1 ⟨rfl, rfl⟩)
    go_returns
    rw [HR.out]
    exact ⟨_, rfl, own_nil _ _ _, by go_grown⟩
theorem impl_lev (v : Value) (l : Lab) (h : Int) (w : World) (hr : RdLab w v l) (hri : Rises (-1) l.parts) : Calls Tryz.prog 70 #[v, .int .i64 h] w (RetV (.int .i64 (lev l h)) w) := by
  have hr0 := hr
  have HV := Lib.hid (lev_place (h := h) hri)
  obtain ⟨A, n, c, rfl, hn, hl, hc, hm, ha⟩ := hr
  have hk := placeK_le h l.parts
  clear hri
  cases hh : placeHit h l.parts
  · have HR : Hid (lev l h = l.base) := by have := HV.out; rw [this, hh]; rfl
    have HN := Lib.hid hn
    clear hn
    go_enter Tryz.func70, Tryz.ntmps70
    go_wp2_with fail
    refine (impl_parts _ _ _ _ _).mono ?_
    rintro e w1 ⟨rfl, hb1⟩
    obtain ⟨c0, c1, hz, hbel⟩ := box2 hb1
    clear hb1
    go_wp2_with fail
    refine (impl_place A n c l.parts h _ (ha.below hbel) HN.out hl).mono ?_
    rintro e w2 ⟨rfl, hb2⟩
    have c0' := (hb2.cell (p := ⟨w.heap.size, 0, none⟩) hz).trans c0
    have hbel2 := below_more hbel hb2
    clear hb2 c0 c1
    go_wp2
    go_ret
    exact .mk (by rw [HR.out]; rfl) hbel2
  · obtain ⟨y, hy⟩ := placeHit_lt hh
    have HR : Hid (lev l h = y) := Lib.hid (by have := HV.out; rw [this, if_pos hh]; simp [List.getD, hy])
    have hlt : placeK h l.parts < n := by
      rcases Nat.lt_or_ge (placeK h l.parts) l.parts.length with q | q
      · omega
      · rw [List.getElem?_eq_none q] at hy; cases hy
    obtain ⟨k, hkk⟩ : ∃ k, k = placeK h l.parts := ⟨_, rfl⟩
    have HK := Lib.hid hkk
    rw [← hkk] at hlt hy
    have HN := Lib.hid hn
    have HY := Lib.hid hy
    clear hn hy hkk hk
    obtain ⟨b, o, x, y', rfl, hx, -, -⟩ := ptat ha (k := k) (by have := HN.out; omega)
    obtain ⟨rfl, rfl⟩ : x = h ∧ y' = y := by have := HY.out; rw [hx] at this; simpa using this
    clear hx
    go_enter Tryz.func70, Tryz.ntmps70
    go_wp2_with fail
    refine (impl_parts _ _ _ _ _).mono ?_
    rintro e w1 ⟨rfl, hb1⟩
    obtain ⟨c0, c1, hz, hbel⟩ := box2 hb1
    clear hb1
    go_wp2_with fail
    refine (impl_place _ n c l.parts x _ (ha.below hbel) HN.out hl).mono ?_
    rintro e w2 ⟨rfl, hb2⟩
    have c1' := (hb2.cell (p := ⟨w.heap.size, 1, none⟩) hz).trans c1
    have hbel2 := below_more hbel hb2
    obtain ⟨b', o', x2, y2, he, hx2, cx, cy⟩ := ptat (ha.below hbel2) (k := k) (by have := HN.out; omega)
    cases he
    obtain ⟨rfl, rfl⟩ : x2 = x ∧ y2 = y' := by have := HY.out; rw [hx2] at this; simpa using this
    have h2 : (0 : Int) ≤ (k : Int) := by omega
    rw [← HK.out]
    clear hb2 c0 c1 hx2
    go_wp2
    go_ret
    exact .mk (by rw [HR.out]; rfl) hbel2
end Go.Proofs.YtnpeojlhjbdjiaaGreatDoor
