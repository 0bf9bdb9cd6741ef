/-
  Levels as texts (chapter 1): what ShowLevel and ReadLevel answer at every number and text.
-/
import Derived.Test.YtlihpaenckflhaaDoorLevel
namespace Go.Proofs.YtlihpaenckflhaaDoor
open Go.RowKit

/-- The text of a level: an asterisk, a digit, or nothing. -/
def lvText (n : Int) : ByteArray := if n = 0 then ⟨#[42]⟩ else if n = 1 then ⟨#[48]⟩ else if n = 2 then ⟨#[49]⟩ else if n = 3 then ⟨#[50]⟩ else if n = 4 then ⟨#[51]⟩ else ⟨#[]⟩

theorem lvText_out {n : Int} (h : n < 0 ∨ 4 < n) : lvText n = ⟨#[]⟩ := by
  unfold lvText; repeat (rw [if_neg (by omega)])

theorem level_text (n : Int) (w : World) :
    Calls Tryd.prog 27 #[.int .i64 n] w fun e w' => e = .returned (.string (lvText n)) ∧ w = w' := by
  rcases lv_cases n with rfl | rfl | rfl | rfl | rfl | h
  case inr.inr.inr.inr.inr =>
    have ho := lvOk_no h
    rw [lvText_out h]
    clear h
    go_enter Tryd.func27, Tryd.ntmps27
    go_wp2_with (go_at_call 29; refine (level_ok _ _).mono ?_; rintro e w' ⟨rfl, rfl⟩)
    go_ret
    exact ⟨rfl, rfl⟩
  all_goals
    go_enter Tryd.func27, Tryd.ntmps27
    go_wp2
    go_ret
    exact ⟨rfl, rfl⟩

theorem impl_show (n : Int) (w : World) :
    Calls Tryd.prog 14 #[.int .i64 n] w fun e w' => e = .returned (.string (lvText n)) ∧ w = w' := by
  go_enter Tryd.func14, Tryd.ntmps14
  go_wp2_with (go_at_call 27; refine (level_text _ _).mono ?_; rintro e w' ⟨rfl, rfl⟩)
  go_ret
  exact ⟨rfl, rfl⟩

theorem loadCells_one {P : Program} (w : World) (b o : Nat) (v : Value) (h : w.cell? ⟨b, o, none⟩ = some v) : (loadCells ⟨b, o, none⟩ 1).run P w = .ok #[v] w := by
  refine run_loadCells_list w _ [v] (fun j x hj => ?_)
  match j, hj with
  | 0, hj => simp at hj; subst hj; simpa [Addr.add] using h

/-- A slice of one byte, as a text. -/
theorem one_byte (w : World) (b : Nat) (c : Int) (h : w.cell? ⟨b, 0, none⟩ = some (.int .u8 c)) :
    (convert 22 9 (.slice (some ⟨b, 0, none⟩) 1 1)).run Tryd.prog w = .ok (.string ⟨#[UInt8.ofNat c.toNat]⟩) w := by
  rw [run_convert_bytes_string w 22 9 5 _ _ _ Tryd.underlying22 Tryd.underlying5 Tryd.underlying9, run_bytesToString w _ 1 1 [c] (loadCells_one w b 0 _ h)]
  rfl

theorem cat_nil (x : UInt8) : (⟨#[x]⟩ : ByteArray) ++ ⟨#[]⟩ = ⟨#[x]⟩ := rfl

theorem spec_show (n : Int) (w : World) :
    Calls Tryd.prog 15 #[.int .i64 n] w fun e w' => e = .returned (.string (lvText n)) ∧ Below w.heap.size w w' := by
  rcases lv_cases n with rfl | rfl | rfl | rfl | rfl | h
  case inr.inr.inr.inr.inr =>
    have ho := lvOk_no h
    rw [lvText_out h]
    clear h
    go_enter Tryd.func15, Tryd.ntmps15
    go_wp2_with (go_at_call 19; refine (spec_ok _ _).mono ?_; rintro e w' ⟨rfl, rfl⟩)
    go_ret
    exact ⟨rfl, by go_grown⟩
  case inl =>
    go_enter Tryd.func15, Tryd.ntmps15
    go_wp2
    go_ret
    exact ⟨rfl, by go_grown⟩
  all_goals
    have hb := one_byte
    have hn := cat_nil
    go_enter Tryd.func15, Tryd.ntmps15
    go_wp2
    go_rounds 3
    go_ret
    exact ⟨rfl, by go_grown⟩

/-- The level that a text shows; -1 when there is none. -/
def readLv (s : ByteArray) : Int := if lvText 0 = s then 0 else if lvText 1 = s then 1 else if lvText 2 = s then 2 else if lvText 3 = s then 3 else if lvText 4 = s then 4 else -1

/-- No level below k shows this text. -/
def NoneBelow (s : ByteArray) (k : Nat) : Prop := ∀ j : Nat, j < k → lvText j ≠ s
theorem NoneBelow.zero (s : ByteArray) : NoneBelow s 0 := fun j hj => absurd hj (by omega)
theorem eq_of_lists {a b : ByteArray} (h : (a.toList == b.toList) = true) : a = b := by
  rw [beq_iff_eq, ByteArray.toList_eq, ByteArray.toList_eq] at h
  obtain ⟨⟨x⟩⟩ := a
  obtain ⟨⟨y⟩⟩ := b
  simpa using h
theorem NoneBelow.succ {s : ByteArray} {k : Nat} (h : NoneBelow s k) (hk : ((lvText k).toList == s.toList) = false) : NoneBelow s (k + 1) := fun j hj => by
  by_cases e : j = k
  · subst e; rintro rfl; simp at hk
  · exact h j (by omega)
theorem readLv_at {s : ByteArray} {k : Nat} (h4 : k ≤ 4) (h : NoneBelow s k) (hk : ((lvText k).toList == s.toList) = true) : readLv s = k := by
  have e := eq_of_lists hk
  unfold readLv
  have n0 : 0 < k → lvText 0 ≠ s := h 0
  have n1 : 1 < k → lvText 1 ≠ s := h 1
  have n2 : 2 < k → lvText 2 ≠ s := h 2
  have n3 : 3 < k → lvText 3 ≠ s := h 3
  match k, h4 with
  | 0, _ => rw [if_pos (show lvText 0 = s from e)]; rfl
  | 1, _ => rw [if_neg (n0 (by omega)), if_pos (show lvText 1 = s from e)]; rfl
  | 2, _ => rw [if_neg (n0 (by omega)), if_neg (n1 (by omega)), if_pos (show lvText 2 = s from e)]; rfl
  | 3, _ => rw [if_neg (n0 (by omega)), if_neg (n1 (by omega)), if_neg (n2 (by omega)), if_pos (show lvText 3 = s from e)]; rfl
  | 4, _ => rw [if_neg (n0 (by omega)), if_neg (n1 (by omega)), if_neg (n2 (by omega)), if_neg (n3 (by omega)), if_pos (show lvText 4 = s from e)]; rfl
theorem readLv_none {s : ByteArray} {k : Nat} (h4 : 4 < k) (h : NoneBelow s k) : readLv s = -1 := by
  unfold readLv
  rw [if_neg (show lvText 0 ≠ s from h 0 (by omega)), if_neg (show lvText 1 ≠ s from h 1 (by omega)), if_neg (show lvText 2 ≠ s from h 2 (by omega)), if_neg (show lvText 3 ≠ s from h 3 (by omega)), if_neg (show lvText 4 ≠ s from h 4 (by omega))]
theorem spec_read (s : ByteArray) (w : World) :
    Calls Tryd.prog 17 #[.string s] w fun e w' => e = .returned (.int .i64 (readLv s)) ∧ Below w.heap.size w w' := by
  go_enter Tryd.func17, Tryd.ntmps17
  go_wp2
  go_loopw [3] (fun l wr => ∃ k : Nat, k ≤ 5 ∧ l = .int .i64 k ∧ NoneBelow s k ∧ Below w.heap.size w wr) (fun l _ => 5 - (intOf l).toNat)
  case atStart => exact ⟨0, by omega, rfl, NoneBelow.zero s, Below.refl _ _⟩
  case round =>
    obtain ⟨k, hk, rfl, hs, hb⟩ := hrel
    by_cases h4 : k ≤ 4
    · by_cases he : ((lvText k).toList == s.toList) = true
      · have HR : Hid (readLv s = k) := readLv_at h4 hs he
        go_wp2_with (go_at_call 15; refine (spec_show _ _).mono ?_; rintro e w1 ⟨rfl, hb1⟩)
        go_ret
        exact ⟨ret_int HR.out.symm, by first | exact hb | exact hb.trans (hb1.mono hb.size)⟩
      · have he' : ((lvText k).toList == s.toList) = false := by simpa using he
        clear he
        have HS : Hid (NoneBelow s (k + 1)) := hs.succ he'
        go_wp2_with (go_at_call 15; refine (spec_show _ _).mono ?_; rintro e w1 ⟨rfl, hb1⟩)
        go_roundw
        case rel => exact ⟨k + 1, by omega, by go_num, HS.out, by first | exact hb | exact hb.trans (hb1.mono hb.size)⟩
        case measure => simp [intOf]; omega
    · have HR : Hid (readLv s = -1) := readLv_none (by omega) hs
      go_wp2
      go_ret
      exact ⟨ret_int HR.out.symm, hb⟩

theorem impl_read (s : ByteArray) (w : World) :
    Calls Tryd.prog 16 #[.string s] w fun e w' => e = .returned (.int .i64 (readLv s)) ∧ Below w.heap.size w w' := by
  go_enter Tryd.func16, Tryd.ntmps16
  go_wp2
  go_loopw [3] (fun l wr => ∃ k : Nat, k ≤ 5 ∧ l = .int .i64 k ∧ NoneBelow s k ∧ Below w.heap.size w wr) (fun l _ => 5 - (intOf l).toNat)
  case atStart => exact ⟨0, by omega, rfl, NoneBelow.zero s, Below.refl _ _⟩
  case round =>
    obtain ⟨k, hk, rfl, hs, hb⟩ := hrel
    by_cases h4 : k ≤ 4
    · have ho : lvOk k = true := lvOk_yes (by omega) (by omega)
      by_cases he : ((lvText k).toList == s.toList) = true
      · have HR : Hid (readLv s = k) := readLv_at h4 hs he
        go_wp2_with (first | (go_at_call 29; refine (level_ok _ _).mono ?_; rintro e w' ⟨rfl, rfl⟩) | (go_at_call 27; refine (level_text _ _).mono ?_; rintro e w' ⟨rfl, rfl⟩))
        go_ret
        exact ⟨ret_int HR.out.symm, by first | exact hb | exact hb.trans (hb1.mono hb.size)⟩
      · have he' : ((lvText k).toList == s.toList) = false := by simpa using he
        clear he
        have HS : Hid (NoneBelow s (k + 1)) := hs.succ he'
        go_wp2_with (first | (go_at_call 29; refine (level_ok _ _).mono ?_; rintro e w' ⟨rfl, rfl⟩) | (go_at_call 27; refine (level_text _ _).mono ?_; rintro e w' ⟨rfl, rfl⟩))
        go_roundw
        case rel => exact ⟨k + 1, by omega, by go_num, HS.out, by first | exact hb | exact hb.trans (hb1.mono hb.size)⟩
        case measure => simp [intOf]; omega
    · have HR : Hid (readLv s = -1) := readLv_none (by omega) hs
      have ho : lvOk k = false := lvOk_no (by omega)
      go_wp2_with (first | (go_at_call 29; refine (level_ok _ _).mono ?_; rintro e w' ⟨rfl, rfl⟩) | (go_at_call 27; refine (level_text _ _).mono ?_; rintro e w' ⟨rfl, rfl⟩))
      go_ret
      exact ⟨ret_int HR.out.symm, hb⟩

theorem readLv_text {n : Int} (h : lvOk n = true) : readLv (lvText n) = n := by
  have := of_lvOk h
  have hc : n = 0 ∨ n = 1 ∨ n = 2 ∨ n = 3 ∨ n = 4 := by omega
  rcases hc with rfl | rfl | rfl | rfl | rfl <;> decide +kernel

end Go.Proofs.YtlihpaenckflhaaDoor
