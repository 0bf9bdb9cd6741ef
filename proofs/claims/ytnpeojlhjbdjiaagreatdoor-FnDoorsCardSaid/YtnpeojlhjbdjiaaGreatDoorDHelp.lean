/-
  Texts put together: DTm, DMs, DMss, DDoor. What each proves stands ahead of it.
-/
import Derived.Test.YtnpeojlhjbdjiaaGreatDoorDat
import Derived.StillTailTactics
/-
  Terms as data, and the laws' helpers on it.
-/
namespace Go.Proofs.YtnpeojlhjbdjiaaGreatDoor
set_option maxRecDepth 100000
open Go.RowKit

def tmSz (x : Tm) : Nat := x.taint.parts.length + x.clear.parts.length + x.raise.parts.length + x.verify.parts.length
theorem shp_tm {w : World} {us : List Value} {x : Tm} (h : Rds w (dtTm x) us) : ∃ (A0 : Option Addr) (n0 c0 : Nat) (A1 : Option Addr) (n1 c1 : Nat) (A2 : Option Addr) (n2 c2 : Nat) (A3 : Option Addr) (n3 c3 : Nat), us = [.int .i64 x.taint.base, .slice A0 n0 c0, .int .i64 x.clear.base, .slice A1 n1 c1, .int .i64 x.raise.base, .slice A2 n2 c2, .int .i64 x.verify.base, .slice A3 n3 c3] := by
  simp only [dtTm, dtLab, List.cons_append, List.nil_append] at h
  obtain ⟨us, rfl, h1⟩ := h.num
  obtain ⟨A0, n0, c0, us, rfl, -, h2⟩ := h1.row
  obtain ⟨us, rfl, h3⟩ := h2.num
  obtain ⟨A1, n1, c1, us, rfl, -, h4⟩ := h3.row
  obtain ⟨us, rfl, h5⟩ := h4.num
  obtain ⟨A2, n2, c2, us, rfl, -, h6⟩ := h5.row
  obtain ⟨us, rfl, h7⟩ := h6.num
  obtain ⟨A3, n3, c3, us, rfl, -, h8⟩ := h7.row
  obtain rfl := h8.nil
  exact ⟨A0, n0, c0, A1, n1, c1, A2, n2, c2, A3, n3, c3, rfl⟩
theorem shpm_tm {w : World} {us : List Value} {x : Tm} {k : Int} (h : Rds w (mkt k (dtTm x)) us) : ∃ (A0 : Option Addr) (n0 c0 : Nat) (A1 : Option Addr) (n1 c1 : Nat) (A2 : Option Addr) (n2 c2 : Nat) (A3 : Option Addr) (n3 c3 : Nat), us = [.int .i64 x.taint.base, .slice A0 n0 c0, .int .i64 x.clear.base, .slice A1 n1 c1, .int .i64 x.raise.base, .slice A2 n2 c2, .int .i64 x.verify.base, .slice A3 n3 c3] := by
  simp only [dtTm, dtLab, List.cons_append, mkt, List.nil_append] at h
  obtain ⟨us, rfl, h1⟩ := h.num
  obtain ⟨A0, n0, c0, us, rfl, -, h2⟩ := h1.row
  obtain ⟨us, rfl, h3⟩ := h2.num
  obtain ⟨A1, n1, c1, us, rfl, -, h4⟩ := h3.row
  obtain ⟨us, rfl, h5⟩ := h4.num
  obtain ⟨A2, n2, c2, us, rfl, -, h6⟩ := h5.row
  obtain ⟨us, rfl, h7⟩ := h6.num
  obtain ⟨A3, n3, c3, us, rfl, -, h8⟩ := h7.row
  obtain rfl := h8.nil
  exact ⟨A0, n0, c0, A1, n1, c1, A2, n2, c2, A3, n3, c3, rfl⟩
theorem cntt_le_tm (x : Tm) : cntt (dtTm x) ≤ 40 * tmSz x := by
  have b0 : cntt (dtLab x.taint) ≤ 40 * (x.taint.parts.length) := cntt_lab_le _
  have b1 : cntt (dtLab x.clear) ≤ 40 * (x.clear.parts.length) := cntt_lab_le _
  have b2 : cntt (dtLab x.raise) ≤ 40 * (x.raise.parts.length) := cntt_lab_le _
  have b3 : cntt (dtLab x.verify) ≤ 40 * (x.verify.parts.length) := cntt_lab_le _
  unfold dtTm tmSz
  simp only [cntt_append]
  omega
end Go.Proofs.YtnpeojlhjbdjiaaGreatDoor

/-
  Msg as data, and the laws' helpers on it.
-/
namespace Go.Proofs.YtnpeojlhjbdjiaaGreatDoor
set_option maxRecDepth 100000
open Go.RowKit

/-- Msg. -/
structure Ms where
  frm : Int
  value : Int
  eff : Lab
  terms : Tm
def dtMs (x : Ms) : List Dt := .num x.frm :: (.num x.value :: (dtLab x.eff ++ (dtTm x.terms)))
theorem dtMs_len (x : Ms) : (dtMs x).length = 12 := rfl
def msSz (x : Ms) : Nat := x.eff.parts.length + tmSz x.terms
theorem shp_ms {w : World} {us : List Value} {x : Ms} (h : Rds w (dtMs x) us) : ∃ (A0 : Option Addr) (n0 c0 : Nat) (A1 : Option Addr) (n1 c1 : Nat) (A2 : Option Addr) (n2 c2 : Nat) (A3 : Option Addr) (n3 c3 : Nat) (A4 : Option Addr) (n4 c4 : Nat), us = [.int .i64 x.frm, .int .i64 x.value, .int .i64 x.eff.base, .slice A0 n0 c0, .int .i64 x.terms.taint.base, .slice A1 n1 c1, .int .i64 x.terms.clear.base, .slice A2 n2 c2, .int .i64 x.terms.raise.base, .slice A3 n3 c3, .int .i64 x.terms.verify.base, .slice A4 n4 c4] := by
  simp only [dtMs, dtTm, dtLab, List.cons_append, List.nil_append] at h
  obtain ⟨us, rfl, h1⟩ := h.num
  obtain ⟨us, rfl, h2⟩ := h1.num
  obtain ⟨us, rfl, h3⟩ := h2.num
  obtain ⟨A0, n0, c0, us, rfl, -, h4⟩ := h3.row
  obtain ⟨us, rfl, h5⟩ := h4.num
  obtain ⟨A1, n1, c1, us, rfl, -, h6⟩ := h5.row
  obtain ⟨us, rfl, h7⟩ := h6.num
  obtain ⟨A2, n2, c2, us, rfl, -, h8⟩ := h7.row
  obtain ⟨us, rfl, h9⟩ := h8.num
  obtain ⟨A3, n3, c3, us, rfl, -, h10⟩ := h9.row
  obtain ⟨us, rfl, h11⟩ := h10.num
  obtain ⟨A4, n4, c4, us, rfl, -, h12⟩ := h11.row
  obtain rfl := h12.nil
  exact ⟨A0, n0, c0, A1, n1, c1, A2, n2, c2, A3, n3, c3, A4, n4, c4, rfl⟩
theorem shpm_ms {w : World} {us : List Value} {x : Ms} {k : Int} (h : Rds w (mkt k (dtMs x)) us) : ∃ (A0 : Option Addr) (n0 c0 : Nat) (A1 : Option Addr) (n1 c1 : Nat) (A2 : Option Addr) (n2 c2 : Nat) (A3 : Option Addr) (n3 c3 : Nat) (A4 : Option Addr) (n4 c4 : Nat), us = [.int .i64 x.frm, .int .i64 x.value, .int .i64 x.eff.base, .slice A0 n0 c0, .int .i64 x.terms.taint.base, .slice A1 n1 c1, .int .i64 x.terms.clear.base, .slice A2 n2 c2, .int .i64 x.terms.raise.base, .slice A3 n3 c3, .int .i64 x.terms.verify.base, .slice A4 n4 c4] := by
  simp only [dtMs, dtTm, dtLab, List.cons_append, mkt, List.nil_append] at h
  obtain ⟨us, rfl, h1⟩ := h.num
  obtain ⟨us, rfl, h2⟩ := h1.num
  obtain ⟨us, rfl, h3⟩ := h2.num
  obtain ⟨A0, n0, c0, us, rfl, -, h4⟩ := h3.row
  obtain ⟨us, rfl, h5⟩ := h4.num
  obtain ⟨A1, n1, c1, us, rfl, -, h6⟩ := h5.row
  obtain ⟨us, rfl, h7⟩ := h6.num
  obtain ⟨A2, n2, c2, us, rfl, -, h8⟩ := h7.row
  obtain ⟨us, rfl, h9⟩ := h8.num
  obtain ⟨A3, n3, c3, us, rfl, -, h10⟩ := h9.row
  obtain ⟨us, rfl, h11⟩ := h10.num
  obtain ⟨A4, n4, c4, us, rfl, -, h12⟩ := h11.row
  obtain rfl := h12.nil
  exact ⟨A0, n0, c0, A1, n1, c1, A2, n2, c2, A3, n3, c3, A4, n4, c4, rfl⟩
theorem cntt_le_ms (x : Ms) : cntt (dtMs x) ≤ 40 * msSz x := by
  have b2 : cntt (dtLab x.eff) ≤ 40 * (x.eff.parts.length) := cntt_lab_le _
  have b3 : cntt (dtTm x.terms) ≤ 40 * (tmSz x.terms) := cntt_le_tm _
  unfold dtMs msSz
  simp only [cntt_num, cntt_append]
  omega
end Go.Proofs.YtnpeojlhjbdjiaaGreatDoor

/-
  MsgS as data, and the laws' helpers on it.
-/
namespace Go.Proofs.YtnpeojlhjbdjiaaGreatDoor
set_option maxRecDepth 100000
open Go.RowKit

def mssSum (xs : List Ms) : Nat := (xs.map msSz).sum
def mssSz (xs : List Ms) : Nat := xs.length + mssSum xs
theorem mssSum_take {xs : List Ms} {k : Nat} {x : Ms} (hx : xs[k]? = some x) : mssSum (xs.take (k + 1)) = mssSum (xs.take k) + msSz x := by rw [take_at hx]; simp [mssSum]
theorem mssSum_le (xs : List Ms) (k : Nat) : mssSum (xs.take k) ≤ mssSum xs := by
  have h : mssSum xs = mssSum (xs.take k) + mssSum (xs.drop k) := by
    unfold mssSum
    rw [← List.sum_append, ← List.map_append, List.take_append_drop]
  omega
theorem mssSum_at {xs : List Ms} {k : Nat} {x : Ms} (hx : xs[k]? = some x) : msSz x ≤ mssSum xs := by
  have h1 := mssSum_take hx
  have h2 := mssSum_le xs (k + 1)
  omega
theorem mssinfo : (Tryz.prog.info? 35).map (fun i => (i.zero, i.size, i.bytes)) = some (some (.agg #[.int .i64 0, .int .i64 0, .int .i64 0, .slice none 0 0, .int .i64 0, .slice none 0 0, .int .i64 0, .slice none 0 0, .int .i64 0, .slice none 0 0, .int .i64 0, .slice none 0 0]), 12, 176) := by kernel_rfl
theorem at_mss {w : World} {t : TypeId} {xs : List Ms} {A : Option Addr} {n c : Nat} (h : Rd w (.row 12 t (xs.flatMap dtMs)) (.slice A n c)) {k : Nat} {x : Ms} (hx : xs[k]? = some x) :
    ∃ (b o : Nat) (A0 : Option Addr) (n0 c0 : Nat) (A1 : Option Addr) (n1 c1 : Nat) (A2 : Option Addr) (n2 c2 : Nat) (A3 : Option Addr) (n3 c3 : Nat) (A4 : Option Addr) (n4 c4 : Nat), A = some ⟨b, o, none⟩ ∧ w.cell? ⟨b, o + k * 12, none⟩ = some (.int .i64 x.frm) ∧ w.cell? ⟨b, o + k * 12 + 1, none⟩ = some (.int .i64 x.value) ∧ w.cell? ⟨b, o + k * 12 + 2, none⟩ = some (.int .i64 x.eff.base) ∧ w.cell? ⟨b, o + k * 12 + 3, none⟩ = some (.slice A0 n0 c0) ∧ w.cell? ⟨b, o + k * 12 + 4, none⟩ = some (.int .i64 x.terms.taint.base) ∧ w.cell? ⟨b, o + k * 12 + 5, none⟩ = some (.slice A1 n1 c1) ∧ w.cell? ⟨b, o + k * 12 + 6, none⟩ = some (.int .i64 x.terms.clear.base) ∧ w.cell? ⟨b, o + k * 12 + 7, none⟩ = some (.slice A2 n2 c2) ∧ w.cell? ⟨b, o + k * 12 + 8, none⟩ = some (.int .i64 x.terms.raise.base) ∧ w.cell? ⟨b, o + k * 12 + 9, none⟩ = some (.slice A3 n3 c3) ∧ w.cell? ⟨b, o + k * 12 + 10, none⟩ = some (.int .i64 x.terms.verify.base) ∧ w.cell? ⟨b, o + k * 12 + 11, none⟩ = some (.slice A4 n4 c4) ∧ Rds w (dtMs x) [.int .i64 x.frm, .int .i64 x.value, .int .i64 x.eff.base, .slice A0 n0 c0, .int .i64 x.terms.taint.base, .slice A1 n1 c1, .int .i64 x.terms.clear.base, .slice A2 n2 c2, .int .i64 x.terms.raise.base, .slice A3 n3 c3, .int .i64 x.terms.verify.base, .slice A4 n4 c4] := by
  obtain ⟨b, o, us, rfl, hc, hr⟩ := h.elem dtMs_len (by omega) hx
  obtain ⟨A0, n0, c0, A1, n1, c1, A2, n2, c2, A3, n3, c3, A4, n4, c4, rfl⟩ := shp_ms hr
  exact ⟨b, o, A0, n0, c0, A1, n1, c1, A2, n2, c2, A3, n3, c3, A4, n4, c4, rfl, hc 0 _ rfl, hc 1 _ rfl, hc 2 _ rfl, hc 3 _ rfl, hc 4 _ rfl, hc 5 _ rfl, hc 6 _ rfl, hc 7 _ rfl, hc 8 _ rfl, hc 9 _ rfl, hc 10 _ rfl, hc 11 _ rfl, hr⟩
theorem cnts_ms (x : Ms) : cnts (dtMs x) = 1 + 1 + 1 + 2 * x.eff.parts.length + 1 + 2 * x.terms.taint.parts.length + 1 + 2 * x.terms.clear.parts.length + 1 + 2 * x.terms.raise.parts.length + 1 + 2 * x.terms.verify.parts.length := by
  simp only [dtMs, dtTm, dtLab, List.cons_append, List.nil_append, cnts, cnt, cnts_parts]
  omega
theorem cnts1_ms (x : Ms) : cnts (dtMs x) ≤ 40 * msSz x + 40 := by
  have h1 := cnts_ms x
  unfold msSz tmSz
  omega
theorem cnts_le_mss (xs : List Ms) : cnts (xs.flatMap dtMs) ≤ 40 * mssSz xs := by
  induction xs with
  | nil => simp [cnts]
  | cons x xs ih =>
    have h1 := cnts1_ms x
    unfold mssSz mssSum at ih ⊢
    simp only [List.flatMap_cons, cnts_append, List.length_cons, List.map_cons, List.sum_cons]
    omega
end Go.Proofs.YtnpeojlhjbdjiaaGreatDoor

/-
  Door as data, and the laws' helpers on it.
-/
namespace Go.Proofs.YtnpeojlhjbdjiaaGreatDoor
set_option maxRecDepth 100000
open Go.RowKit

/-- Door. -/
structure Door where
  handle : Int
  label : Lab
  queue : List Ms
def dtDoor (x : Door) : List Dt := .num x.handle :: (dtLab x.label ++ ([(.row 12 35 (x.queue.flatMap dtMs))]))
theorem dtDoor_len (x : Door) : (dtDoor x).length = 4 := rfl
/-- What such a one that came in has besides. -/
def WfDoor (x : Door) : Prop := InI64 x.handle
def doorSz (x : Door) : Nat := x.label.parts.length + mssSz x.queue
theorem shp_door {w : World} {us : List Value} {x : Door} (h : Rds w (dtDoor x) us) : ∃ (A0 : Option Addr) (n0 c0 : Nat) (A1 : Option Addr) (n1 c1 : Nat), us = [.int .i64 x.handle, .int .i64 x.label.base, .slice A0 n0 c0, .slice A1 n1 c1] := by
  simp only [dtDoor, dtLab, List.cons_append, List.nil_append] at h
  obtain ⟨us, rfl, h1⟩ := h.num
  obtain ⟨us, rfl, h2⟩ := h1.num
  obtain ⟨A0, n0, c0, us, rfl, -, h3⟩ := h2.row
  obtain ⟨A1, n1, c1, us, rfl, -, h4⟩ := h3.row
  obtain rfl := h4.nil
  exact ⟨A0, n0, c0, A1, n1, c1, rfl⟩
theorem shpm_door {w : World} {us : List Value} {x : Door} {k : Int} (h : Rds w (mkt k (dtDoor x)) us) : ∃ (A0 : Option Addr) (n0 c0 : Nat) (A1 : Option Addr) (n1 c1 : Nat), us = [.int .i64 x.handle, .int .i64 x.label.base, .slice A0 n0 c0, .slice A1 n1 c1] := by
  simp only [dtDoor, dtLab, List.cons_append, mkt, List.nil_append] at h
  obtain ⟨us, rfl, h1⟩ := h.num
  obtain ⟨us, rfl, h2⟩ := h1.num
  obtain ⟨A0, n0, c0, us, rfl, -, h3⟩ := h2.row
  obtain ⟨A1, n1, c1, us, rfl, -, h4⟩ := h3.row
  obtain rfl := h4.nil
  exact ⟨A0, n0, c0, A1, n1, c1, rfl⟩
theorem cntt_le_door (x : Door) : cntt (dtDoor x) ≤ 40 * doorSz x := by
  have b1 : cntt (dtLab x.label) ≤ 40 * (x.label.parts.length) := cntt_lab_le _
  have b2 : cntt ([(.row 12 35 (x.queue.flatMap dtMs))]) ≤ 40 * (mssSz x.queue) := by rw [cntt_row]; exact cnts_le_mss _
  unfold dtDoor doorSz
  simp only [cntt_num, cntt_append]
  omega
end Go.Proofs.YtnpeojlhjbdjiaaGreatDoor
