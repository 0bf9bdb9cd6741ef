/-
  Chapter 7 of the program: MsgOk, whether shares are kept, DoorOk.
-/
import Derived.Test.YtnpeojlhjbdjiaaDHelp
import Derived.Test.YtnpeojlhjbdjiaaDoorPure
import Derived.Test.YtnpeojlhjbdjiaaSpecDoor
import Derived.Test.YtnpeojlhjbdjiaaImplLab1
import Derived.Test.YtnpeojlhjbdjiaaImplTerms0
import Derived.Deep.RegionHeld3
import Derived.WalkSpells
namespace Go.Proofs.Ytnpeojlhjbdjiaa
set_option maxRecDepth 100000
open Go.RowKit

theorem impl_who (x : Int) (w : World) : Calls Try.prog 56 #[.int .i64 x] w (RetS (.bool (inR x 0 3)) w) := by
  by_cases h0 : 0 ≤ x
  · by_cases h1 : x ≤ 3
    · have HR := Lib.hid (show inR x 0 3 = true by simp [inR, h0, h1])
      have h2 : x < 4 := by omega
      go_enter Try.func56, Try.ntmps56
      go_wp2
      go_ret
      exact .mk (by rw [HR.out]; rfl)
    · have HR := Lib.hid (show inR x 0 3 = false by simp [inR, h1])
      have h2 : ¬ x < 4 := by omega
      go_enter Try.func56, Try.ntmps56
      go_wp2
      go_ret
      exact .mk (by rw [HR.out]; rfl)
  · have HR := Lib.hid (show inR x 0 3 = false by simp [inR, h0])
    go_enter Try.func56, Try.ntmps56
    go_wp2
    go_ret
    exact .mk (by rw [HR.out]; rfl)
theorem impl_valueinr (x : Int) (w : World) : Calls Try.prog 57 #[.int .i64 x] w (RetS (.bool (inR x 0 999999)) w) := by
  by_cases h0 : 0 ≤ x
  · by_cases h1 : x ≤ 999999
    · have HR := Lib.hid (show inR x 0 999999 = true by simp [inR, h0, h1])
      have h2 : x < 1000000 := by omega
      go_enter Try.func57, Try.ntmps57
      go_wp2
      go_ret
      exact .mk (by rw [HR.out]; rfl)
    · have HR := Lib.hid (show inR x 0 999999 = false by simp [inR, h1])
      have h2 : ¬ x < 1000000 := by omega
      go_enter Try.func57, Try.ntmps57
      go_wp2
      go_ret
      exact .mk (by rw [HR.out]; rfl)
  · have HR := Lib.hid (show inR x 0 999999 = false by simp [inR, h0])
    go_enter Try.func57, Try.ntmps57
    go_wp2
    go_ret
    exact .mk (by rw [HR.out]; rfl)
theorem implD_labok0 {us : List Value} {l : Lab} {w : World} (h : Rds w (dtLab l) us) (hf : l.parts.length ≤ 1048576) : Calls Try.prog 58 #[.agg us.toArray] w (RetV (.bool (labOk l)) w) := impl_labok0 _ l w (h.lab hf)
theorem implD_termsok {us : List Value} {t : Tm} {w : World} (h : Rds w (dtTm t) us) (hf : tmSz t ≤ 1048576) : Calls Try.prog 59 #[.agg us.toArray] w (RetV (.bool (termsOk t)) w) := impl_termsok _ t w (h.tm hf)
set_option maxHeartbeats 4000000 in
theorem implD_msgok1 {us : List Value} {x : Ms} {w : World} (h : Rds w (dtMs x) us) (hf : msSz x ≤ 1048576) : Calls Try.prog 31 #[.agg us.toArray] w (RetV (.bool (msgOk x)) w) := by
  unfold dtMs at h
  obtain ⟨us, rfl, hg1⟩ := h.num
  clear h
  obtain ⟨us, rfl, hg2⟩ := hg1.num
  clear hg1
  obtain ⟨uf, us, rfl, hf2, hg3⟩ := hg2.split
  clear hg2
  obtain ⟨A0, n0, c0, rfl⟩ := shp_lab hf2
  have H2 := Lib.hid hf2
  clear hf2
  obtain ⟨A1, n1, c1, A2, n2, c2, A3, n3, c3, A4, n4, c4, rfl⟩ := shp_tm hg3
  have H3 := Lib.hid hg3
  clear hg3
  simp only [List.cons_append, List.nil_append]
  unfold msSz at hf
  have S2 : x.eff.parts.length ≤ 1048576 := by omega
  have S3 : tmSz x.terms ≤ 1048576 := by omega
  cases e0 : inR x.frm 0 3
  · skip
    have HR : Hid (msgOk x = false) := Lib.hid (by simp [msgOk, e0])
    go_enter Try.func31, Try.ntmps31
    go_wp2_with fail
    generalize hW : w.alloc (.cells #[.int .i64 x.frm, .int .i64 x.value, .int .i64 x.eff.base, .slice A0 n0 c0, .int .i64 x.terms.taint.base, .slice A1 n1 c1, .int .i64 x.terms.clear.base, .slice A2 n2 c2, .int .i64 x.terms.raise.base, .slice A3 n3 c3, .int .i64 x.terms.verify.base, .slice A4 n4 c4] 37) = x0
    obtain ⟨pb, hsz, bel⟩ := laid1 (ps := [.int .i64 x.frm, .int .i64 x.value, .int .i64 x.eff.base, .slice A0 n0 c0, .int .i64 x.terms.taint.base, .slice A1 n1 c1, .int .i64 x.terms.clear.base, .slice A2 n2 c2, .int .i64 x.terms.raise.base, .slice A3 n3 c3, .int .i64 x.terms.verify.base, .slice A4 n4 c4]) hW
    have PB := Lib.hid pb
    clear hW pb hsz
    refine (impl_who x.frm _).mono ?_
    rintro e y0 ⟨rfl, rfl⟩
    go_wp2
    go_ret
    exact .mk (by rw [HR.out]; rfl) bel
  cases e1 : inR x.value 0 999999
  · skip
    have HR : Hid (msgOk x = false) := Lib.hid (by simp [msgOk, e0, e1])
    go_enter Try.func31, Try.ntmps31
    go_wp2_with fail
    generalize hW : w.alloc (.cells #[.int .i64 x.frm, .int .i64 x.value, .int .i64 x.eff.base, .slice A0 n0 c0, .int .i64 x.terms.taint.base, .slice A1 n1 c1, .int .i64 x.terms.clear.base, .slice A2 n2 c2, .int .i64 x.terms.raise.base, .slice A3 n3 c3, .int .i64 x.terms.verify.base, .slice A4 n4 c4] 37) = x0
    obtain ⟨pb, hsz, bel⟩ := laid1 (ps := [.int .i64 x.frm, .int .i64 x.value, .int .i64 x.eff.base, .slice A0 n0 c0, .int .i64 x.terms.taint.base, .slice A1 n1 c1, .int .i64 x.terms.clear.base, .slice A2 n2 c2, .int .i64 x.terms.raise.base, .slice A3 n3 c3, .int .i64 x.terms.verify.base, .slice A4 n4 c4]) hW
    have PB := Lib.hid pb
    clear hW pb hsz
    refine (impl_who x.frm _).mono ?_
    rintro e y0 ⟨rfl, rfl⟩
    have pc1 := PB.out.cell 1 rfl
    go_wp2_with fail
    refine (impl_valueinr x.value _).mono ?_
    rintro e y1 ⟨rfl, rfl⟩
    clear pc1
    go_wp2
    go_ret
    exact .mk (by rw [HR.out]; rfl) bel
  cases e2 : labOk x.eff
  · skip
    have HR : Hid (msgOk x = false) := Lib.hid (by simp [msgOk, e0, e1, e2])
    go_enter Try.func31, Try.ntmps31
    go_wp2_with fail
    generalize hW : w.alloc (.cells #[.int .i64 x.frm, .int .i64 x.value, .int .i64 x.eff.base, .slice A0 n0 c0, .int .i64 x.terms.taint.base, .slice A1 n1 c1, .int .i64 x.terms.clear.base, .slice A2 n2 c2, .int .i64 x.terms.raise.base, .slice A3 n3 c3, .int .i64 x.terms.verify.base, .slice A4 n4 c4] 37) = x0
    obtain ⟨pb, hsz, bel⟩ := laid1 (ps := [.int .i64 x.frm, .int .i64 x.value, .int .i64 x.eff.base, .slice A0 n0 c0, .int .i64 x.terms.taint.base, .slice A1 n1 c1, .int .i64 x.terms.clear.base, .slice A2 n2 c2, .int .i64 x.terms.raise.base, .slice A3 n3 c3, .int .i64 x.terms.verify.base, .slice A4 n4 c4]) hW
    have PB := Lib.hid pb
    clear hW pb hsz
    refine (impl_who x.frm _).mono ?_
    rintro e y0 ⟨rfl, rfl⟩
    have pc1 := PB.out.cell 1 rfl
    go_wp2_with fail
    refine (impl_valueinr x.value _).mono ?_
    rintro e y1 ⟨rfl, rfl⟩
    clear pc1
    have pc2 := PB.out.cell 2 rfl
    have pc3 := PB.out.cell 3 rfl
    go_wp2_with fail
    refine (implD_labok0 (H2.out.below bel) S2).mono ?_
    rintro e y2 ⟨rfl, hb⟩
    have PB' := Lib.hid (PB.out.below hb)
    have bel' := below_more bel hb
    clear PB bel hb
    have PB := PB'
    have bel := bel'
    clear PB' bel'
    clear pc2 pc3
    go_wp2
    go_ret
    exact .mk (by rw [HR.out]; rfl) bel
  cases e3 : termsOk x.terms
  · skip
    have HR : Hid (msgOk x = false) := Lib.hid (by simp [msgOk, e0, e1, e2, e3])
    go_enter Try.func31, Try.ntmps31
    go_wp2_with fail
    generalize hW : w.alloc (.cells #[.int .i64 x.frm, .int .i64 x.value, .int .i64 x.eff.base, .slice A0 n0 c0, .int .i64 x.terms.taint.base, .slice A1 n1 c1, .int .i64 x.terms.clear.base, .slice A2 n2 c2, .int .i64 x.terms.raise.base, .slice A3 n3 c3, .int .i64 x.terms.verify.base, .slice A4 n4 c4] 37) = x0
    obtain ⟨pb, hsz, bel⟩ := laid1 (ps := [.int .i64 x.frm, .int .i64 x.value, .int .i64 x.eff.base, .slice A0 n0 c0, .int .i64 x.terms.taint.base, .slice A1 n1 c1, .int .i64 x.terms.clear.base, .slice A2 n2 c2, .int .i64 x.terms.raise.base, .slice A3 n3 c3, .int .i64 x.terms.verify.base, .slice A4 n4 c4]) hW
    have PB := Lib.hid pb
    clear hW pb hsz
    refine (impl_who x.frm _).mono ?_
    rintro e y0 ⟨rfl, rfl⟩
    have pc1 := PB.out.cell 1 rfl
    go_wp2_with fail
    refine (impl_valueinr x.value _).mono ?_
    rintro e y1 ⟨rfl, rfl⟩
    clear pc1
    have pc2 := PB.out.cell 2 rfl
    have pc3 := PB.out.cell 3 rfl
    go_wp2_with fail
    refine (implD_labok0 (H2.out.below bel) S2).mono ?_
    rintro e y2 ⟨rfl, hb⟩
    have PB' := Lib.hid (PB.out.below hb)
    have bel' := below_more bel hb
    clear PB bel hb
    have PB := PB'
    have bel := bel'
    clear PB' bel'
    clear pc2 pc3
    have pc4 := PB.out.cell 4 rfl
    have pc5 := PB.out.cell 5 rfl
    have pc6 := PB.out.cell 6 rfl
    have pc7 := PB.out.cell 7 rfl
    have pc8 := PB.out.cell 8 rfl
    have pc9 := PB.out.cell 9 rfl
    have pc10 := PB.out.cell 10 rfl
    have pc11 := PB.out.cell 11 rfl
    go_wp2_with fail
    refine (implD_termsok (H3.out.below bel) S3).mono ?_
    rintro e y3 ⟨rfl, hb⟩
    have PB' := Lib.hid (PB.out.below hb)
    have bel' := below_more bel hb
    clear PB bel hb
    have PB := PB'
    have bel := bel'
    clear PB' bel'
    clear pc4 pc5 pc6 pc7 pc8 pc9 pc10 pc11
    go_wp2
    go_ret
    exact .mk (by rw [HR.out]; rfl) bel
  have HR : Hid (msgOk x = true) := Lib.hid (by simp [msgOk, e0, e1, e2, e3])
  go_enter Try.func31, Try.ntmps31
  go_wp2_with fail
  generalize hW : w.alloc (.cells #[.int .i64 x.frm, .int .i64 x.value, .int .i64 x.eff.base, .slice A0 n0 c0, .int .i64 x.terms.taint.base, .slice A1 n1 c1, .int .i64 x.terms.clear.base, .slice A2 n2 c2, .int .i64 x.terms.raise.base, .slice A3 n3 c3, .int .i64 x.terms.verify.base, .slice A4 n4 c4] 37) = x0
  obtain ⟨pb, hsz, bel⟩ := laid1 (ps := [.int .i64 x.frm, .int .i64 x.value, .int .i64 x.eff.base, .slice A0 n0 c0, .int .i64 x.terms.taint.base, .slice A1 n1 c1, .int .i64 x.terms.clear.base, .slice A2 n2 c2, .int .i64 x.terms.raise.base, .slice A3 n3 c3, .int .i64 x.terms.verify.base, .slice A4 n4 c4]) hW
  have PB := Lib.hid pb
  clear hW pb hsz
  refine (impl_who x.frm _).mono ?_
  rintro e y0 ⟨rfl, rfl⟩
  have pc1 := PB.out.cell 1 rfl
  go_wp2_with fail
  refine (impl_valueinr x.value _).mono ?_
  rintro e y1 ⟨rfl, rfl⟩
  clear pc1
  have pc2 := PB.out.cell 2 rfl
  have pc3 := PB.out.cell 3 rfl
  go_wp2_with fail
  refine (implD_labok0 (H2.out.below bel) S2).mono ?_
  rintro e y2 ⟨rfl, hb⟩
  have PB' := Lib.hid (PB.out.below hb)
  have bel' := below_more bel hb
  clear PB bel hb
  have PB := PB'
  have bel := bel'
  clear PB' bel'
  clear pc2 pc3
  have pc4 := PB.out.cell 4 rfl
  have pc5 := PB.out.cell 5 rfl
  have pc6 := PB.out.cell 6 rfl
  have pc7 := PB.out.cell 7 rfl
  have pc8 := PB.out.cell 8 rfl
  have pc9 := PB.out.cell 9 rfl
  have pc10 := PB.out.cell 10 rfl
  have pc11 := PB.out.cell 11 rfl
  go_wp2_with fail
  refine (implD_termsok (H3.out.below bel) S3).mono ?_
  rintro e y3 ⟨rfl, hb⟩
  have PB' := Lib.hid (PB.out.below hb)
  have bel' := below_more bel hb
  clear PB bel hb
  have PB := PB'
  have bel := bel'
  clear PB' bel'
  clear pc4 pc5 pc6 pc7 pc8 pc9 pc10 pc11
  go_wp2
  go_ret
  exact .mk (by rw [HR.out]; rfl) bel
set_option maxHeartbeats 4000000 in
theorem implD_msgok {us : List Value} {x : Ms} {w : World} (h : Rds w (dtMs x) us) (hf : msSz x ≤ 1048576) : Calls Try.prog 10 #[.agg us.toArray] w (RetV (.bool (msgOk x)) w) := by
  have HH := Lib.hid h
  obtain ⟨A0, n0, c0, A1, n1, c1, A2, n2, c2, A3, n3, c3, A4, n4, c4, rfl⟩ := shp_ms h
  clear h
  go_enter Try.func10, Try.ntmps10
  go_wp2_with fail
  generalize hW : w.alloc (.cells #[.int .i64 x.frm, .int .i64 x.value, .int .i64 x.eff.base, .slice A0 n0 c0, .int .i64 x.terms.taint.base, .slice A1 n1 c1, .int .i64 x.terms.clear.base, .slice A2 n2 c2, .int .i64 x.terms.raise.base, .slice A3 n3 c3, .int .i64 x.terms.verify.base, .slice A4 n4 c4] 37) = x0
  obtain ⟨pb, hsz, bel⟩ := laid1 (ps := [.int .i64 x.frm, .int .i64 x.value, .int .i64 x.eff.base, .slice A0 n0 c0, .int .i64 x.terms.taint.base, .slice A1 n1 c1, .int .i64 x.terms.clear.base, .slice A2 n2 c2, .int .i64 x.terms.raise.base, .slice A3 n3 c3, .int .i64 x.terms.verify.base, .slice A4 n4 c4]) hW
  have PB := Lib.hid pb
  clear hW pb hsz
  refine (implD_msgok1 (HH.out.below bel) hf).mono ?_
  rintro e y0 ⟨rfl, hb⟩
  go_wp2
  go_ret
  exact .mk rfl (below_more bel hb)
/-- How many of each sender so far. -/
def shs (q : List Ms) (k : Nat) : List Value := [.int .i64 (share (q.take k) 0), .int .i64 (share (q.take k) 1), .int .i64 (share (q.take k) 2), .int .i64 (share (q.take k) 3)]
theorem shs_at (q : List Ms) (k : Nat) {f : Nat} (h : f < 4) : (shs q k)[f]? = some (.int .i64 (share (q.take k) f)) := by
  match f, h with
  | 0, _ => rfl
  | 1, _ => rfl
  | 2, _ => rfl
  | 3, _ => rfl
theorem shs_set {q : List Ms} {k f : Nat} {x : Ms} (hx : q[k]? = some x) (hf : x.frm = f) (h : f < 4) : (shs q k).set f (.int .i64 (share (q.take k) f + 1)) = shs q (k + 1) := by
  have hy := share_yes hx hf
  have hn := fun g (hg : x.frm ≠ g) => share_no hx hg
  match f, h with
  | 0, _ =>
    have hy' : share (q.take (k + 1)) 0 = share (q.take k) 0 + 1 := hy
    unfold shs; rw [hn 1 (by omega), hn 2 (by omega), hn 3 (by omega), hy']; rfl
  | 1, _ =>
    have hy' : share (q.take (k + 1)) 1 = share (q.take k) 1 + 1 := hy
    unfold shs; rw [hn 0 (by omega), hn 2 (by omega), hn 3 (by omega), hy']; rfl
  | 2, _ =>
    have hy' : share (q.take (k + 1)) 2 = share (q.take k) 2 + 1 := hy
    unfold shs; rw [hn 0 (by omega), hn 1 (by omega), hn 3 (by omega), hy']; rfl
  | 3, _ =>
    have hy' : share (q.take (k + 1)) 3 = share (q.take k) 3 + 1 := hy
    unfold shs; rw [hn 0 (by omega), hn 1 (by omega), hn 2 (by omega), hy']; rfl
theorem share_cons (m : Ms) (q : List Ms) (g : Int) : share (m :: q) g = share q g + (if m.frm = g then 1 else 0) := by
  unfold share
  by_cases h : m.frm = g <;> simp [h]
theorem share_take_le (q : List Ms) (k : Nat) (g : Int) : share (q.take k) g ≤ share q g := by
  have e : q = q.take k ++ q.drop k := (List.take_append_drop k q).symm
  have : share q g = share (q.take k) g + share (q.drop k) g := by
    conv => lhs; rw [e]
    unfold share; rw [List.filter_append, List.length_append]; omega
  have := share_pos (q.drop k) g
  omega
theorem frm_of_ok {m : Ms} (h : msgOk m = true) : 0 ≤ m.frm ∧ m.frm ≤ 3 := by
  unfold msgOk inR at h
  simp only [Bool.and_eq_true, decide_eq_true_eq] at h
  exact h.1
theorem len_shares : ∀ {q : List Ms}, (∀ m ∈ q, msgOk m = true) → (q.length : Int) = share q 0 + share q 1 + share q 2 + share q 3
  | [], _ => by simp [share]
  | m :: q, h => by
    have ih := len_shares (q := q) (fun x hx => h x (List.mem_cons_of_mem _ hx))
    have hm := frm_of_ok (h m (List.mem_cons_self ..))
    simp only [share_cons, List.length_cons]
    have : m.frm = 0 ∨ m.frm = 1 ∨ m.frm = 2 ∨ m.frm = 3 := by omega
    rcases this with e | e | e | e <;> simp [e] <;> omega
def kept (q : List Ms) : Bool := decide (q.length ≤ 12) && q.all (eachOk q)
theorem kept_m {q : List Ms} {k : Nat} {m : Ms} (hx : q[k]? = some m) (h : msgOk m = false) : kept q = false := by
  have : q.all (eachOk q) = false := by rw [List.all_eq_false]; exact ⟨m, List.mem_of_getElem? hx, by simp [eachOk, h]⟩
  simp [kept, this]
theorem kept_s {q : List Ms} {k : Nat} {m : Ms} (hx : q[k]? = some m) (h : share (q.take k) m.frm = 3) : kept q = false := by
  have h1 := share_yes hx rfl
  have h2 := share_take_le q (k + 1) m.frm
  have h3 : ¬ share q m.frm ≤ 3 := by omega
  have : q.all (eachOk q) = false := by rw [List.all_eq_false]; exact ⟨m, List.mem_of_getElem? hx, by simp [eachOk, h3]⟩
  simp [kept, this]
/-- So far all right, and no share passed. -/
def SoFar (q : List Ms) (k : Nat) : Prop := (∀ m ∈ q.take k, msgOk m = true) ∧ ∀ g : Int, 0 ≤ g → g ≤ 3 → share (q.take k) g ≤ 3
theorem SoFar.zero (q : List Ms) : SoFar q 0 := ⟨fun m h => by simp at h, fun g _ _ => by simp [share]⟩
theorem SoFar.succ {q : List Ms} {k : Nat} {m : Ms} (h : SoFar q k) (hx : q[k]? = some m) (ho : msgOk m = true) (hs : share (q.take k) m.frm ≠ 3) : SoFar q (k + 1) := by
  refine ⟨fun x hm => ?_, fun g g0 g1 => ?_⟩
  · rw [take_at hx] at hm
    rcases List.mem_append.1 hm with q1 | q1
    · exact h.1 x q1
    · rw [List.mem_singleton.1 q1]; exact ho
  · have hf := frm_of_ok ho
    by_cases e : m.frm = g
    · rw [share_yes hx e]
      have := h.2 g g0 g1
      rw [e] at hs
      omega
    · rw [share_no hx e]; exact h.2 g g0 g1
theorem SoFar.done {q : List Ms} {k : Nat} (h : SoFar q k) (hk : q.length ≤ k) : kept q = true := by
  obtain ⟨h1, h2⟩ := h
  rw [List.take_of_length_le hk] at h1 h2
  have h3 := len_shares h1
  have a0 := h2 0 (by omega) (by omega)
  have a1 := h2 1 (by omega) (by omega)
  have a2 := h2 2 (by omega) (by omega)
  have a3 := h2 3 (by omega) (by omega)
  have h4 : q.length ≤ 12 := by omega
  have h5 : q.all (eachOk q) = true := by
    rw [List.all_eq_true]
    intro m hm
    have ho := h1 m hm
    have hf := frm_of_ok ho
    have := h2 m.frm hf.1 hf.2
    simp [eachOk, ho, this]
  simp [kept, h4, h5]
theorem doorOk_kept (x : Door) : doorOk x = (decide (0 ≤ makerOf x.handle) && (labOk x.label && kept x.queue)) := rfl

set_option maxHeartbeats 8000000 in
theorem implD_shareskept {A : Option Addr} {n c : Nat} {t : TypeId} {q : List Ms} {w : World} (h : Rd w (.row 12 t (q.flatMap dtMs)) (.slice A n c)) (hf : mssSz q ≤ 1048576) : Calls Try.prog 61 #[.slice A n c] w (RetV (.bool (kept q)) w) := by
  unfold mssSz at hf
  obtain ⟨HN, -, -⟩ := h.len dtMs_len (by omega)
  have HNX := Lib.hid HN
  have HQ := Lib.hid h
  have HSZ := Lib.hid hf
  have hnl : n ≤ 1048576 := by omega
  clear HN h hf
  go_enter Try.func61, Try.ntmps61
  go_wp2_with fail
  generalize hW : w.alloc (.cells #[.int .i64 0, .int .i64 0, .int .i64 0, .int .i64 0] 99) = x0
  obtain ⟨pb, hsz, bel0⟩ := laid1 (ps := [.int .i64 0, .int .i64 0, .int .i64 0, .int .i64 0]) hW
  have PB0 : Hid (Box x0 w.heap.size (shs q 0)) := Lib.hid pb
  have HBE := Lib.hid bel0
  clear hW pb hsz bel0
  go_wp2
  go_loopw [8] (fun i wr => ∃ k : Nat, k ≤ n ∧ i = .int .i64 k ∧ Hid (SoFar q k) ∧ Hid (Box wr w.heap.size (shs q k)) ∧ Hid (Below w.heap.size w wr)) (fun i _ => n - (intOf i).toNat)
  case atStart => exact ⟨0, by omega, rfl, Lib.hid (.zero _), PB0, HBE⟩
  case round =>
    clear PB0 HBE
    obtain ⟨k, hk, rfl, HS, PB, HB⟩ := hrel
    have bel := HB.out
    clear HB
    by_cases hlt : k < n
    · obtain ⟨m, hm⟩ : ∃ m, q[k]? = some m := ⟨q[k]'(by have := HNX.out; omega), List.getElem?_eq_getElem _⟩
      obtain ⟨b, o, B0, m0, d0, B1, m1, d1, B2, m2, d2, B3, m3, d3, B4, m4, d4, rfl, cx0, cx1, cx2, cx3, cx4, cx5, cx6, cx7, cx8, cx9, cx10, cx11, hr⟩ := at_mss (HQ.out.below bel) hm
      have FM : msSz m ≤ 1048576 := by have := mssSum_at hm; have := HSZ.out; omega
      have HE := Lib.hid hr
      have HM := Lib.hid hm
      clear hr hm
      go_wp2_with fail
      generalize hW : wr.alloc (.cells #[.int .i64 m.frm, .int .i64 m.value, .int .i64 m.eff.base, .slice B0 m0 d0, .int .i64 m.terms.taint.base, .slice B1 m1 d1, .int .i64 m.terms.clear.base, .slice B2 m2 d2, .int .i64 m.terms.raise.base, .slice B3 m3 d3, .int .i64 m.terms.verify.base, .slice B4 m4 d4] 37) = x1
      obtain ⟨nb, hsz, hb⟩ := laid1 (ps := [.int .i64 m.frm, .int .i64 m.value, .int .i64 m.eff.base, .slice B0 m0 d0, .int .i64 m.terms.taint.base, .slice B1 m1 d1, .int .i64 m.terms.clear.base, .slice B2 m2 d2, .int .i64 m.terms.raise.base, .slice B3 m3 d3, .int .i64 m.terms.verify.base, .slice B4 m4 d4]) hW
      have MB := Lib.hid nb
      have PB1 := Lib.hid (PB.out.below hb)
      have HE1 := Lib.hid (HE.out.below hb)
      have hz := Lib.hid bel.size
      have bel1 := below_more bel hb
      clear hW nb hsz hb bel PB HE cx0 cx1 cx2 cx3 cx4 cx5 cx6 cx7 cx8 cx9 cx10 cx11
      refine (implD_msgok1 HE1.out FM).mono ?_
      rintro e y0 ⟨rfl, hb⟩
      have MB1 := Lib.hid (MB.out.below hb)
      have PB2 := Lib.hid (PB1.out.below hb)
      have bel := below_more bel1 hb
      clear hb bel1 PB1 MB HE1
      cases e3 : msgOk m
      · have HR := Lib.hid (kept_m HM.out e3)
        go_wp2
        go_ret
        exact .mk (by rw [HR.out]; rfl) bel
      · have hfr := frm_of_ok e3
        obtain ⟨fn, hfn⟩ : ∃ fn : Nat, m.frm = (fn : Int) := ⟨m.frm.toNat, by omega⟩
        have hf4 : fn < 4 := by omega
        have mc0 : y0.cell? ⟨wr.heap.size, 0, none⟩ = some (.int .i64 (fn : Int)) := by rw [← hfn]; exact MB1.out.cell 0 rfl
        have sc := PB2.out.cell fn (shs_at q k hf4)
        have sf := PB2.out.free fn
        have mlt := MB1.out.lt
        have plt := PB2.out.lt
        have HF := Lib.hid hfn
        have hs0 := share_pos (q.take k) fn
        have hs1 := share_le (q.take k) fn
        have hs2 : (q.take k).length ≤ k := List.length_take_le _ _
        by_cases e4 : share (q.take k) fn = 3
        · have HR := Lib.hid (kept_s HM.out (by rw [hfn]; exact e4))
          have e4' : (share (q.take k) fn == 3) = true := by simpa using e4
          clear hfn hfr e4
          go_wp2
          go_ret
          exact .mk (by rw [HR.out]; rfl) bel
        · have HS1 := Lib.hid (HS.out.succ HM.out e3 (by rw [hfn]; exact e4))
          have HT := Lib.hid (shs_set HM.out hfn hf4)
          have e4' : (share (q.take k) fn == 3) = false := by simpa using e4
          clear hfn hfr e4 HS
          go_wp2
          go_roundw
          case rel => exact ⟨k + 1, by omega, by go_num, HS1, Lib.hid (by rw [← HT.out]; exact PB2.out.set (by simpa [shs] using hf4)), Lib.hid (bel.setCell (by simp only []; omega) _)⟩
          case measure => simp [intOf]; omega
    · obtain rfl : k = n := by omega
      have HR := Lib.hid (HS.out.done (by have := HNX.out; omega))
      go_wp2
      go_ret
      exact .mk (by rw [HR.out]; rfl) bel
end Go.Proofs.Ytnpeojlhjbdjiaa
