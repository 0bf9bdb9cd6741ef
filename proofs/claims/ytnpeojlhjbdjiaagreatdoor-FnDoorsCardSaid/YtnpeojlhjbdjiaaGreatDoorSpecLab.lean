/-
  Texts put together: SpecLab, SpecLab2, SpecLab3. What each proves stands ahead of it.
-/
import Derived.Test.YtnpeojlhjbdjiaaGreatDoorPure
import Derived.Test.YtnpeojlhjbdjiaaGreatDoorMem
import Derived.Deep.QuietTactic
import Derived.BigQuiet
import Derived.IntWalk
import Derived.Test.YtnpeojlhjbdjiaaGreatDoorSpecInts
import Derived.Test.YtnpeojlhjbdjiaaGreatDoorFlInt64
import Derived.WalkSpells
import Derived.Deep.RegionHeld3
/-
  Chapter 2 of the model: what its functions on labels answer.
-/
namespace Go.Proofs.YtnpeojlhjbdjiaaGreatDoor
set_option maxRecDepth 100000
open Go.RowKit

theorem quiet_of_s {P : Program} {f : FuncId} {args : Array Value} {w : World} {n : Nat} {v : Value} (h : Calls P f args (w.drewN n) (RetS v (w.drewN n))) :
    Calls P f args (w.drewN n) fun e w'' => e = .returned v ∧ ∃ m, w'' = w.drewN m := h.mono fun _ _ ⟨he, hm⟩ => ⟨he, n, hm.symm⟩

set_option maxHeartbeats 1000000 in
theorem spec_labok (v : Value) (l : Lab) (w : World) (h : RdLab w v l) : Calls Tryz.prog 32 #[v] w (RetV (.bool (labOk l)) w) := by
  obtain ⟨A, n, c, rfl, hn, hl, hc, hm, ha⟩ := h
  have HN := Lib.hid hn
  clear hn hc hm
  cases hb : lvOk l.base
  · have HR := Lib.hid (labOk_base hb)
    go_enter Tryz.func32, Tryz.ntmps32
    go_wp2_with (go_at_call 42; refine (spec_ok _ _).mono ?_; rintro e w1 ⟨rfl, rfl⟩)
    go_ret
    exact .mk (by rw [HR.out]; rfl) (by go_grown)
  · by_cases h8 : n ≤ 8
    · have h8' : (n : Int) ≤ 8 := by omega
      go_enter Tryz.func32, Tryz.ntmps32
      go_wp2_with (go_at_call 42; refine (spec_ok _ _).mono ?_; rintro e w1 ⟨rfl, rfl⟩)
      go_loopw [3] (fun i wr => ∃ k : Nat, k ≤ n ∧ i = .int .i64 k ∧ OkLeft l.base l.parts k ∧ Below w.heap.size w wr ∧ w.heap.size < wr.heap.size ∧ wr.cell? ⟨w.heap.size, 0, none⟩ = some (.int .i64 l.base) ∧ wr.cell? ⟨w.heap.size, 1, none⟩ = some (.slice A n c)) (fun i _ => n - (intOf i).toNat)
      case atStart => exact ⟨0, by omega, rfl, .zero _ _, by go_grown, by simp, by simp, by simp⟩
      case round =>
        obtain ⟨k, hk, rfl, hs, hbel, hsz, cb, cs⟩ := hrel
        by_cases hlt : k < n
        · obtain ⟨b, o, x, y, rfl, hx, cx, cy⟩ := ptat (ha.below hbel) (k := k) (by have := HN.out; omega)
          have HX := Lib.hid hx
          clear hx
          cases h1 : hOk x
          · -- no handle
            have HR := Lib.hid (labOk_parts hb (by have := HN.out; omega) (hs.bad HX.out (.inl h1)))
            go_wp2
            go_quiet (first | (go_at_call 41; exact quiet_of_s (spec_handle _ _)) | (go_at_call 42; exact quiet_of_s (spec_ok _ _)))
            go_wp2
            go_ret
            exact .mk (by rw [HR.out]; rfl) (below_drewN (hbel.alloc hbel.size _) _)
          cases h2 : lvOk y
          · -- no level
            have HR := Lib.hid (labOk_parts hb (by have := HN.out; omega) (hs.bad HX.out (.inr (.inl h2))))
            go_wp2
            go_quiet (first | (go_at_call 41; exact quiet_of_s (spec_handle _ _)) | (go_at_call 42; exact quiet_of_s (spec_ok _ _)))
            go_wp2
            go_ret
            exact .mk (by rw [HR.out]; rfl) (below_drewN (hbel.alloc hbel.size _) _)
          by_cases h3 : y = l.base
          · -- the base
            have h3' : (y == l.base) = true := by simpa using h3
            have HR := Lib.hid (labOk_parts hb (by have := HN.out; omega) (hs.bad HX.out (.inr (.inr (.inl h3)))))
            clear h3
            go_wp2
            go_quiet (first | (go_at_call 41; exact quiet_of_s (spec_handle _ _)) | (go_at_call 42; exact quiet_of_s (spec_ok _ _)))
            go_wp2
            go_ret
            exact .mk (by rw [HR.out]; rfl) (below_drewN (hbel.alloc hbel.size _) _)
          have h3' : (y == l.base) = false := by simpa using h3
          by_cases hk0 : 0 < k
          · obtain ⟨m, rfl⟩ : ∃ m, k = m + 1 := ⟨k - 1, by omega⟩
            obtain ⟨b', o', x', y', he, hx', cx', cy'⟩ := ptat (ha.below hbel) (k := m) (by have := HN.out; omega)
            cases he
            have HP := Lib.hid (prevH_succ hx')
            clear hx' cy' hk0
            have e1 : IntKind.i64.wrap (m : Int) = m := IntWalk.i64_in _ (by omega)
            have e4 : m < n := by omega
            have hbw : b < wr.heap.size := block_lt_of_cell cx
            by_cases h4 : x ≤ x'
            · have h4' : decide (x ≤ x') = true := by simpa using h4
              have HR := Lib.hid (labOk_parts hb (by have := HN.out; omega) (hs.bad HX.out (.inr (.inr (.inr (by rw [HP.out]; exact h4))))))
              go_wp2
              go_quiet (first | (go_at_call 41; exact quiet_of_s (spec_handle _ _)) | (go_at_call 42; exact quiet_of_s (spec_ok _ _)))
              go_wp2
              go_ret
              exact .mk (by rw [HR.out]; rfl) (below_drewN (hbel.alloc hbel.size _) _)
            · have h4' : decide (x ≤ x') = false := by simpa using h4
              have HS := Lib.hid (hs.succ HX.out h1 h2 h3 (by rw [HP.out]; omega))
              clear h3
              go_wp2
              go_quiet (first | (go_at_call 41; exact quiet_of_s (spec_handle _ _)) | (go_at_call 42; exact quiet_of_s (spec_ok _ _)))
              go_wp2
              go_roundw
              case rel => exact ⟨m + 1 + 1, by omega, by go_num, HS.out, (below_drewN (hbel.alloc hbel.size _) _), by simp [World.drewN]; omega, by simp [go_sem, hsz, cb], by simp [go_sem, hsz, cs]⟩
              case measure => simp [intOf]; omega
          · have hk0' : decide (0 < k) = false := by simp at hk0 ⊢; omega
            clear hk0
            have HS := Lib.hid (hs.succ HX.out h1 h2 h3 (by obtain rfl : k = 0 := (by simp at hk0'; omega); have := of_hOk h1; simp only [prevH]; omega))
            clear h3
            go_wp2
            go_quiet (first | (go_at_call 41; exact quiet_of_s (spec_handle _ _)) | (go_at_call 42; exact quiet_of_s (spec_ok _ _)))
            go_wp2
            go_roundw
            case rel => exact ⟨k + 1, by omega, by go_num, HS.out, (below_drewN (hbel.alloc hbel.size _) _), by simp [World.drewN]; omega, by simp [go_sem, hsz, cb], by simp [go_sem, hsz, cs]⟩
            case measure => simp [intOf]; omega
        · have HR := Lib.hid (labOk_parts hb (by have := HN.out; omega) (hs.done (by have := HN.out; omega)))
          go_wp2
          go_ret
          exact .mk (by rw [HR.out]; rfl) hbel
    · have HR := Lib.hid (labOk_long (l := l) (by have := HN.out; omega))
      have h8' : (8 : Int) < n := by omega
      go_enter Tryz.func32, Tryz.ntmps32
      go_wp2_with (go_at_call 42; refine (spec_ok _ _).mono ?_; rintro e w1 ⟨rfl, rfl⟩)
      go_ret
      exact .mk (by rw [HR.out]; rfl) (by go_grown)
end Go.Proofs.YtnpeojlhjbdjiaaGreatDoor

/-
  Chapter 2 of the model, more: Plain, LevelOf, HandlesOf.
-/
namespace Go.Proofs.YtnpeojlhjbdjiaaGreatDoor
set_option maxRecDepth 100000
open Go.RowKit

theorem spec_plain (b : Int) (w : World) : Calls Tryz.prog 19 #[.int .i64 b] w (RetLab (plainL b) w) := by
  cases hb : lvOk b
  · have HR := Lib.hid (plainL_no hb)
    go_enter Tryz.func19, Tryz.ntmps19
    go_wp2_with (go_at_call 42; refine (spec_ok _ _).mono ?_; rintro e w1 ⟨rfl, rfl⟩)
    go_returns
    rw [HR.out]
    exact ⟨_, rfl, own_nil _ _ _, by go_grown⟩
  · have HR := Lib.hid (plainL_yes hb)
    go_enter Tryz.func19, Tryz.ntmps19
    go_wp2_with (go_at_call 42; refine (spec_ok _ _).mono ?_; rintro e w1 ⟨rfl, rfl⟩)
    go_returns
    rw [HR.out]
    exact ⟨_, rfl, own_nil _ _ _, by go_grown⟩
theorem spec_lev (v : Value) (l : Lab) (h : Int) (w : World) (hr : RdLab w v l) : Calls Tryz.prog 106 #[v, .int .i64 h] w (RetV (.int .i64 (lev l h)) w) := by
  obtain ⟨A, n, c, rfl, hn, hl, hc, hm, ha⟩ := hr
  have HN := Lib.hid hn
  clear hn hc hm
  go_enter Tryz.func106, Tryz.ntmps106
  go_wp2
  go_loopw [5] (fun i wr => ∃ k : Nat, k ≤ n ∧ i = .int .i64 k ∧ LevLeft l.base h l.parts k ∧ Below w.heap.size w wr ∧ wr.cell? ⟨w.heap.size, 0, none⟩ = some (.int .i64 l.base) ∧ wr.cell? ⟨w.heap.size, 1, none⟩ = some (.slice A n c)) (fun i _ => n - (intOf i).toNat)
  case atStart => exact ⟨0, by omega, rfl, .zero _ _ _, by go_grown, by simp, by simp⟩
  case round =>
    obtain ⟨k, hk, rfl, hs, hbel, cb, cs⟩ := hrel
    by_cases hlt : k < n
    · obtain ⟨b, o, x, y, rfl, hx, cx, cy⟩ := ptat (ha.below hbel) (k := k) (by have := HN.out; omega)
      by_cases he : x = h
      · subst he
        have HR := Lib.hid (show lev l x = y from hs.hit hx)
        clear hx hs ha
        go_wp2
        all_goals (try (go_region; go_wp2))
        go_ret
        exact .mk (by rw [HR.out]; rfl) (by repeat (first | exact hbel | apply Below.drew))
      · have HS := Lib.hid (hs.succ hx he)
        have he' : (x == h) = false := by simpa using he
        clear hx hs ha he
        go_wp2
        all_goals (try (go_region; go_wp2))
        go_roundw
        case rel => exact ⟨k + 1, by omega, by go_num, HS.out, by repeat (first | exact hbel | apply Below.drew), by simpa using cb, by simpa using cs⟩
        case measure => simp [intOf]; omega
    · have HR := Lib.hid (show lev l h = l.base from hs.done (by have := HN.out; omega))
      go_wp2
      go_ret
      exact .mk (by rw [HR.out]; rfl) hbel
end Go.Proofs.YtnpeojlhjbdjiaaGreatDoor

/-
  Chapter 2 of the model, more: a handle comes to others; HandlesOf.
-/
namespace Go.Proofs.YtnpeojlhjbdjiaaGreatDoor
set_option maxRecDepth 100000
open Go.RowKit

/-- The call returns a row that is owned from base on. -/
def RetRow (base : Nat) (t : TypeId) (size : Nat) (xs : List Value) (n : Nat) (w : World) (e : Ending) (w' : World) : Prop :=
  ∃ v, e = .returned v ∧ w'.ownsRow base t size v n xs ∧ Below w.heap.size w w'

theorem spec_into (A : Option Addr) (n c base : Nat) (xs : List Int) (hd : Int) (w : World) (hown : w.ownsRow base 2 1 (.slice A n c) n (nmcells xs)) (hn : xs.length = n) (hl : n ≤ 1048575) (hbase : base ≤ w.heap.size) :
    Calls Tryz.prog 107 #[.slice A n c, .int .i64 hd] w (RetRow base 2 1 (nmcells (into xs hd)) (into xs hd).length w) := by
  have HN := Lib.hid hn
  obtain ⟨A', c', he, hc, hm, ha⟩ := own_at hown
  simp only [Value.slice.injEq, true_and] at he
  obtain ⟨rfl, rfl⟩ := he
  have HO := Lib.hid hown
  clear hn hown
  go_enter Tryz.func107, Tryz.ntmps107
  go_wp2
  go_loop [5] (fun i => ∃ k : Nat, k ≤ n ∧ i = .int .i64 k ∧ LtTo xs hd k) (fun i => n - (intOf i).toNat)
  case atStart => exact ⟨0, by omega, rfl, .zero _ _⟩
  case round =>
    obtain ⟨k, hk, rfl, hs⟩ := hrel
    by_cases hlt : k < n
    · obtain ⟨b, o, x, rfl, hx, cx⟩ := nmat ha (k := k) (by have := HN.out; omega)
      have hkc : k ≤ c := by omega
      by_cases hxh : x < hd
      · have HS := Lib.hid (hs.succ hx hxh)
        clear hs hx
        go_wp2
        go_round
        case rel => exact ⟨k + 1, by omega, by go_num, HS.out⟩
        case measure => simp [intOf]; omega
      · by_cases hxe : x = hd
        · subst hxe
          have HR := Lib.hid (hs.here hx)
          clear hs hx hxh
          go_wp2
          go_ret
          exact ⟨_, rfl, by rw [HR.out, HN.out]; exact HO.out, Below.refl _ _⟩
        · have HR := Lib.hid (hs.more hx (by omega))
          have hxe' : (x == hd) = false := by simpa using hxe
          clear hs hx
          have hat1 : At w (some ⟨b, o, none⟩) (nmcells (xs.take k)) := by rw [nmcells_take]; exact ha.take k
          have hat2 : At w (some ⟨b, o + k, none⟩) (nmcells (xs.drop k)) := by rw [nmcells_drop]; exact ha.drop k
          have hl1 : (xs.take k).length = k := by rw [List.length_take, HN.out]; omega
          have hl2 : (xs.drop k).length = n - k := by rw [List.length_drop, HN.out]
          have H1 := Lib.hid hat1
          have H2 := Lib.hid hat2
          have HL1 := Lib.hid hl1
          have HL2 := Lib.hid hl2
          have hkc' : k < c := by omega
          clear hat1 hat2 hl1 hl2 ha
          go_wp2_with fail
          refine (spec_copy (some ⟨b, o, none⟩) k c (xs.take k) _ H1.out HL1.out (by omega)).mono ?_
          rintro e w1 ⟨v1, rfl, hown1, hb1⟩
          have HB1 := Lib.hid hb1
          have HO1 := Lib.hid hown1
          clear hb1 hown1
          go_wp2_with (first | (at_builtin; refine wpList_app elemInt rfl (.tmp 37) (.tmp 39) rfl w.heap.size v1 k (nmcells (xs.take k)) rfl (HO1.out.alloc _) (some ⟨w1.heap.size, 0, none⟩) 1 1 (nmcells [hd]) rfl (At.one fun j u hj => by rw [World.cell?_alloc_new]; simpa [nmcells, flat, encInt64] using hj) rfl (nmcells_one [hd]) (by omega) (by omega) (by have := HB1.out.size; simp; omega) ?_; intro v2 w2 hap2; have HP2 := Lib.hid hap2; have HB2 : Hid (Below w.heap.size w w2) := (HB1.out.alloc HB1.out.size _).grown hap2.grown (by have := HB1.out.size; simp; omega) (fun j hj => (HO1.out.lt j hj).1); clear hap2) | (at_builtin; go_must (refine wpList_app elemInt rfl (.tmp 41) (.tmp 44) rfl w.heap.size v2 (k + 1) (nmcells (xs.take k) ++ nmcells [hd]) rfl HP2.out.own (some ⟨b, o + k, none⟩) (n - k) (c - k) (nmcells (xs.drop k)) rfl (H2.out.below HB2.out) (by rw [nmcells_length, HL2.out]) (nmcells_one _) (by omega) (by omega) HB2.out.size ?_); intro v3 w3 hap3; have HP3 := Lib.hid hap3; clear hap3))
          go_ret
          refine ⟨v3, rfl, ?_, HB2.out.grown HP3.out.grown HB2.out.size (fun j hj => (HP2.out.own.lt j hj).1)⟩
          have hl := HL1.out
          have hl' := HL2.out
          have e : (xs.take k ++ [hd] ++ xs.drop k).length = k + 1 + (n - k) := by rw [List.length_append, List.length_append, hl, hl']; rfl
          rw [HR.out, e, nmcells_append, nmcells_append]
          exact own_lower HP3.out.own hbase
    · obtain rfl : k = n := by omega
      have HR := Lib.hid (hs.done (by have := HN.out; omega))
      clear hs hlt
      rcases HO.out.2 with ⟨hv, h0⟩ | ⟨g, cap, cur, hv, -, -, -⟩
      · simp only [Value.slice.injEq] at hv
        obtain ⟨rfl, rfl, rfl⟩ := hv
        go_wp2_with fail
        refine (spec_copy _ 0 0 xs _ (ha) HN.out (by omega)).mono ?_
        rintro e w1 ⟨v1, rfl, hown1, hb1⟩
        have HB1 := Lib.hid hb1
        have HO1 := Lib.hid hown1
        clear hb1 hown1
        go_wp2_with (first | (at_builtin; refine wpList_app elemInt rfl (.tmp 37) (.tmp 39) rfl w.heap.size v1 0 (nmcells xs) rfl (HO1.out.alloc _) (some ⟨w1.heap.size, 0, none⟩) 1 1 (nmcells [hd]) rfl (At.one fun j u hj => by rw [World.cell?_alloc_new]; simpa [nmcells, flat, encInt64] using hj) rfl (nmcells_one [hd]) (by omega) (by omega) (by have := HB1.out.size; simp; omega) ?_; intro v2 w2 hap2; have HP2 := Lib.hid hap2; have HB2 : Hid (Below w.heap.size w w2) := (HB1.out.alloc HB1.out.size _).grown hap2.grown (by have := HB1.out.size; simp; omega) (fun j hj => (HO1.out.lt j hj).1); clear hap2) | (at_builtin; go_must (refine wpList_app elemInt rfl (.tmp 41) (.tmp 44) rfl w.heap.size v2 (0 + 1) (nmcells xs ++ nmcells [hd]) rfl HP2.out.own none 0 0 [] rfl (.nil _ _) rfl (fun _ h => by cases h) (by omega) (by omega) HB2.out.size ?_); intro v3 w3 hap3; have HP3 := Lib.hid hap3; clear hap3))
        go_ret
        refine ⟨v3, rfl, ?_, HB2.out.grown HP3.out.grown HB2.out.size (fun j hj => (HP2.out.own.lt j hj).1)⟩
        have hl := HN.out
        have e : (xs ++ [hd]).length = 0 + 1 + 0 := by rw [List.length_append, hl]; rfl
        rw [HR.out, e, nmcells_append]
        have ho := own_lower HP3.out.own hbase
        rwa [List.append_nil] at ho
      · simp only [Value.slice.injEq, true_and] at hv
        obtain ⟨rfl, rfl⟩ := hv
        by_cases hcn : c = k
        · subst hcn
          go_wp2_with fail
          refine (spec_copy _ c c xs _ (ha) HN.out (by omega)).mono ?_
          rintro e w1 ⟨v1, rfl, hown1, hb1⟩
          have HB1 := Lib.hid hb1
          have HO1 := Lib.hid hown1
          clear hb1 hown1
          go_wp2_with (first | (at_builtin; refine wpList_app elemInt rfl (.tmp 37) (.tmp 39) rfl w.heap.size v1 c (nmcells xs) rfl (HO1.out.alloc _) (some ⟨w1.heap.size, 0, none⟩) 1 1 (nmcells [hd]) rfl (At.one fun j u hj => by rw [World.cell?_alloc_new]; simpa [nmcells, flat, encInt64] using hj) rfl (nmcells_one [hd]) (by omega) (by omega) (by have := HB1.out.size; simp; omega) ?_; intro v2 w2 hap2; have HP2 := Lib.hid hap2; have HB2 : Hid (Below w.heap.size w w2) := (HB1.out.alloc HB1.out.size _).grown hap2.grown (by have := HB1.out.size; simp; omega) (fun j hj => (HO1.out.lt j hj).1); clear hap2) | (at_builtin; go_must (refine wpList_app elemInt rfl (.tmp 41) (.tmp 44) rfl w.heap.size v2 (c + 1) (nmcells xs ++ nmcells [hd]) rfl HP2.out.own _ 0 _ [] rfl (.nil _ _) rfl (fun _ h => by cases h) (by omega) (by omega) HB2.out.size ?_); intro v3 w3 hap3; have HP3 := Lib.hid hap3; clear hap3))
          go_ret
          refine ⟨v3, rfl, ?_, HB2.out.grown HP3.out.grown HB2.out.size (fun j hj => (HP2.out.own.lt j hj).1)⟩
          have hl := HN.out
          have e : (xs ++ [hd]).length = c + 1 + 0 := by rw [List.length_append, hl]; rfl
          rw [HR.out, e, nmcells_append]
          have ho := own_lower HP3.out.own hbase
          rwa [List.append_nil] at ho
        · have hkc : k < c := by omega
          clear hcn
          go_wp2_with fail
          refine (spec_copy _ k c xs _ (ha) HN.out (by omega)).mono ?_
          rintro e w1 ⟨v1, rfl, hown1, hb1⟩
          have HB1 := Lib.hid hb1
          have HO1 := Lib.hid hown1
          clear hb1 hown1
          go_wp2_with (first | (at_builtin; refine wpList_app elemInt rfl (.tmp 37) (.tmp 39) rfl w.heap.size v1 k (nmcells xs) rfl (HO1.out.alloc _) (some ⟨w1.heap.size, 0, none⟩) 1 1 (nmcells [hd]) rfl (At.one fun j u hj => by rw [World.cell?_alloc_new]; simpa [nmcells, flat, encInt64] using hj) rfl (nmcells_one [hd]) (by omega) (by omega) (by have := HB1.out.size; simp; omega) ?_; intro v2 w2 hap2; have HP2 := Lib.hid hap2; have HB2 : Hid (Below w.heap.size w w2) := (HB1.out.alloc HB1.out.size _).grown hap2.grown (by have := HB1.out.size; simp; omega) (fun j hj => (HO1.out.lt j hj).1); clear hap2) | (at_builtin; go_must (refine wpList_app elemInt rfl (.tmp 41) (.tmp 44) rfl w.heap.size v2 (k + 1) (nmcells xs ++ nmcells [hd]) rfl HP2.out.own _ 0 _ [] rfl (.nil _ _) rfl (fun _ h => by cases h) (by omega) (by omega) HB2.out.size ?_); intro v3 w3 hap3; have HP3 := Lib.hid hap3; clear hap3))
          go_ret
          refine ⟨v3, rfl, ?_, HB2.out.grown HP3.out.grown HB2.out.size (fun j hj => (HP2.out.own.lt j hj).1)⟩
          have hl := HN.out
          have e : (xs ++ [hd]).length = k + 1 + 0 := by rw [List.length_append, hl]; rfl
          rw [HR.out, e, nmcells_append]
          have ho := own_lower HP3.out.own hbase
          rwa [List.append_nil] at ho

theorem spec_handles (A : Option Addr) (n c base : Nat) (xs : List Int) (v : Value) (l : Lab) (w : World) (hown : w.ownsRow base 2 1 (.slice A n c) n (nmcells xs)) (hn : xs.length = n) (hr : RdLab w v l) (hl : n + l.parts.length ≤ 1048575) (hbase : base ≤ w.heap.size) :
    Calls Tryz.prog 105 #[.slice A n c, v] w (RetRow base 2 1 (nmcells (handlesIn xs l.parts)) (handlesIn xs l.parts).length w) := by
  obtain ⟨B, m, d, rfl, hm, hml, hd, hdm, ha⟩ := hr
  have HM := Lib.hid hm
  have HN := Lib.hid hn
  have hl' : n + m ≤ 1048575 := by omega
  clear hm hn hd hdm hl
  go_enter Tryz.func105, Tryz.ntmps105
  go_wp2
  go_loopw [0, 5] (fun s i wr => ∃ (k n' : Nat) (A' : Option Addr) (c' : Nat), k ≤ m ∧ n' ≤ n + k ∧ i = .int .i64 k ∧ s = .slice A' n' c' ∧ wr.ownsRow base 2 1 (.slice A' n' c') n' (nmcells (handlesIn xs (l.parts.take k))) ∧ Hid ((handlesIn xs (l.parts.take k)).length = n') ∧ Below w.heap.size w wr ∧ wr.cell? ⟨w.heap.size, 1, none⟩ = some (.slice B m d)) (fun _ i _ => m - (intOf i).toNat)
  case atStart => exact ⟨0, n, A, c, by omega, by omega, rfl, rfl, hown.alloc _, HN, by go_grown, by simp⟩
  case round =>
    clear hown
    obtain ⟨k, n', A', c', hk, hn', rfl, rfl, hown, HL, hbel, cs⟩ := hrel
    by_cases hlt : k < m
    · obtain ⟨b, o, x, y, rfl, hx, cx, cy⟩ := ptat (ha.below hbel) (k := k) (by have := HM.out; omega)
      have HX := Lib.hid (handlesIn_snoc (xs := xs) hx)
      have HO := Lib.hid hown
      have hblt := block_lt_of_cell cs
      clear hx cy hown
      go_wp2_with fail
      refine (spec_into A' n' c' base _ x _ HO.out HL.out (by omega) (by have := hbel.size; omega)).mono ?_
      rintro e w1 ⟨v1, rfl, hown1, hb1⟩
      obtain ⟨A1, c1, rfl, -, -, -⟩ := own_at hown1
      have cs1 := (hb1.cell hblt).trans cs
      have HO1 := Lib.hid hown1
      have hin := into_length (handlesIn xs (l.parts.take k)) x
      rw [HL.out] at hin
      clear hown1 cs cx
      go_wp2
      go_roundw
      case rel => exact ⟨k + 1, (into (handlesIn xs (l.parts.take k)) x).length, A1, c1, by omega, by omega, by go_num, rfl, by rw [HX.out]; exact HO1.out, by rw [HX.out]; exact rfl, below_more hbel hb1, cs1⟩
      case measure => simp [intOf]; omega
    · obtain rfl : k = m := by omega
      have HE : Hid (l.parts.take k = l.parts) := List.take_of_length_le (by have := HM.out; omega)
      go_wp2
      go_ret
      rw [HE.out] at hown HL
      exact ⟨_, rfl, by rw [HL.out]; exact hown, hbel⟩

end Go.Proofs.YtnpeojlhjbdjiaaGreatDoor
