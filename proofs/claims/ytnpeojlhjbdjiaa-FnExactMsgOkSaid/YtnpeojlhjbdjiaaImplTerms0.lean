/-
  Texts put together: Lbs, ImplTerms0. What each proves stands ahead of it.
-/
import Derived.Test.YtnpeojlhjbdjiaaLab
import Derived.Test.YtnpeojlhjbdjiaaMem
import Derived.Test.YtnpeojlhjbdjiaaPure
import Derived.Test.YtnpeojlhjbdjiaaImplLab1
import Derived.Test.YtnpeojlhjbdjiaaTermsPure
import Derived.Test.YtnpeojlhjbdjiaaHas
/-
  Rows of labels in memory, each read.
-/
namespace Go.Proofs.Ytnpeojlhjbdjiaa
set_option maxRecDepth 100000
open Go.RowKit

/-- A label as it stands in a row. -/
structure LB where
  l : Lab
  A : Option Addr
  n : Nat
  c : Nat
def encLB (x : LB) : List Value := [.int .i64 x.l.base, .slice x.A x.n x.c]
theorem encLB_length (x : LB) : (encLB x).length = 2 := rfl
def lbcells (xs : List LB) : List Value := flat encLB xs
theorem lbcells_length (xs : List LB) : (lbcells xs).length = xs.length * 2 := flat_length encLB_length xs
theorem lbcells_append (xs ys : List LB) : lbcells (xs ++ ys) = lbcells xs ++ lbcells ys := flat_append xs ys
theorem lbcells_one (xs : List LB) : ∀ u ∈ lbcells xs, u.oneCell' = true := flat_one (fun _ u hu => by simp [encLB] at hu; rcases hu with rfl | rfl <;> rfl) xs
theorem lbinfo : (Try.prog.info? 33).map (fun i => (i.zero, i.size, i.bytes)) = some (some (.agg #[.int .i64 0, .slice none 0 0]), 2, 32) := by kernel_rfl
theorem elemLab : Elem Try.prog 96 33 2 32 := .of_info lbinfo Try.underlying96 rfl (by omega)
theorem lbat {w : World} {A : Option Addr} {xs : List LB} (h : At w A (lbcells xs)) {k : Nat} (hk : k < xs.length) :
    ∃ b o x, A = some ⟨b, o, none⟩ ∧ xs[k]? = some x ∧ w.cell? ⟨b, o + k * 2, none⟩ = some (.int .i64 x.l.base) ∧ w.cell? ⟨b, o + k * 2 + 1, none⟩ = some (.slice x.A x.n x.c) := by
  obtain ⟨b, o, rfl, hc⟩ := h (by rw [lbcells_length]; omega)
  have hx : xs[k]? = some xs[k] := List.getElem?_eq_getElem hk
  exact ⟨b, o, xs[k], rfl, hx, hc _ _ (flat_at encLB_length xs hx (i := 0) (by omega)), by rw [Nat.add_assoc]; exact hc _ _ (flat_at encLB_length xs hx (i := 1) (by omega))⟩
/-- Each of them can be read. -/
def LBs (w : World) (xs : List LB) : Prop := ∀ x ∈ xs, RdLab w (.agg #[.int .i64 x.l.base, .slice x.A x.n x.c]) x.l
theorem LBs.below {w w' : World} {xs : List LB} (h : LBs w xs) (hb : Below w.heap.size w w') : LBs w' xs := fun x hx => (h x hx).below hb
theorem LBs.at {w : World} {xs : List LB} (h : LBs w xs) {k : Nat} {x : LB} (hx : xs[k]? = some x) : RdLab w (.agg #[.int .i64 x.l.base, .slice x.A x.n x.c]) x.l := h x (List.mem_of_getElem? hx)
theorem LBs.append {w : World} {xs ys : List LB} (h : LBs w xs) (k : LBs w ys) : LBs w (xs ++ ys) := fun x hx => by
  rcases List.mem_append.1 hx with q | q
  · exact h x q
  · exact k x q
theorem LBs.nil (w : World) : LBs w [] := fun _ h => by cases h
theorem LBs.cons {w : World} {x : LB} {xs : List LB} (h : RdLab w (.agg #[.int .i64 x.l.base, .slice x.A x.n x.c]) x.l) (k : LBs w xs) : LBs w (x :: xs) := fun y hy => by
  rcases List.mem_cons.1 hy with q | q
  · subst q; exact h
  · exact k y q
/-- All of a list, from a place on. -/
def AllL {α : Type} (p : α → Bool) (xs : List α) (k : Nat) : Prop := xs.all p = (xs.drop k).all p
section
variable {α : Type} {p : α → Bool} {xs : List α} {k : Nat} {x : α}
theorem AllL.zero (p : α → Bool) (xs : List α) : AllL p xs 0 := rfl
theorem AllL.succ (h : AllL p xs k) (hx : xs[k]? = some x) (hp : p x = true) : AllL p xs (k + 1) := by
  unfold AllL at h ⊢; rw [h, drop_at hx]; simp [hp]
theorem AllL.bad (h : AllL p xs k) (hx : xs[k]? = some x) (hp : p x = false) : xs.all p = false := by
  unfold AllL at h; rw [h, drop_at hx]; simp [hp]
theorem AllL.done (h : AllL p xs k) (hk : xs.length ≤ k) : xs.all p = true := by
  unfold AllL at h; rw [h, List.drop_eq_nil_of_le hk]; rfl
end
end Go.Proofs.Ytnpeojlhjbdjiaa

/-
  Chapter 5 of the program: the labels of terms as a row, all of them right, TermsOk, NoTerms.
-/
namespace Go.Proofs.Ytnpeojlhjbdjiaa
set_option maxRecDepth 100000
open Go.RowKit

def allOk (xs : List LB) : Bool := xs.all fun x => labOk x.l
set_option maxHeartbeats 1000000 in
theorem impl_allright (A : Option Addr) (n c : Nat) (xs : List LB) (w : World) (ha : At w A (lbcells xs)) (hn : xs.length = n) (hl : n ≤ 1000) (hx : LBs w xs) :
    Calls Try.prog 73 #[.slice A n c] w (RetV (.bool (allOk xs)) w) := by
  have HN := Lib.hid hn
  have HA := Lib.hid ha
  have HX := Lib.hid hx
  clear hn ha hx
  go_enter Try.func73, Try.ntmps73
  go_wp2
  go_loopw [7] (fun i wr => ∃ k : Nat, k ≤ n ∧ i = .int .i64 k ∧ Hid (AllL (fun x : LB => labOk x.l) xs k) ∧ Hid (Below w.heap.size w wr)) (fun i _ => n - (intOf i).toNat)
  case atStart => exact ⟨0, by omega, rfl, Lib.hid (.zero _ _), Lib.hid (.refl _ _)⟩
  case round =>
    obtain ⟨k, hk, rfl, HS, HB⟩ := hrel
    by_cases hlt : k < n
    · obtain ⟨b, o, x, rfl, hx, cx, cy⟩ := lbat (HA.out.below HB.out) (k := k) (by have := HN.out; omega)
      have HR := Lib.hid ((HX.out.below HB.out).at hx)
      cases ho : labOk x.l
      · have HF : Hid (allOk xs = false) := Lib.hid (HS.out.bad hx ho)
        clear hx HS
        go_wp2_with fail
        refine (impl_labok0 _ x.l _ (HR.out.alloc _)).mono ?_
        rintro e w1 ⟨rfl, hb⟩
        have HB1 := Lib.hid (below_more HB.out (over_alloc hb))
        clear hb
        go_wp2
        go_ret
        exact .mk (by rw [HF.out]; rfl) HB1.out
      · have HS1 := Lib.hid (HS.out.succ hx ho)
        clear hx HS
        go_wp2_with fail
        refine (impl_labok0 _ x.l _ (HR.out.alloc _)).mono ?_
        rintro e w1 ⟨rfl, hb⟩
        have HB1 := Lib.hid (below_more HB.out (over_alloc hb))
        clear hb
        go_wp2
        go_roundw
        case rel => exact ⟨k + 1, by omega, by go_num, HS1, HB1⟩
        case measure => simp [intOf]; omega
    · obtain rfl : k = n := by omega
      have HT : Hid (allOk xs = true) := Lib.hid (HS.out.done (by have := HN.out; omega))
      clear HS
      go_wp2
      go_ret
      exact .mk (by rw [HT.out]; rfl) HB.out

/-- The labels of terms, as they stand there. -/
def lbsOf (t : Tm) (A0 : Option Addr) (n0 c0 : Nat) (A1 : Option Addr) (n1 c1 : Nat) (A2 : Option Addr) (n2 c2 : Nat) (A3 : Option Addr) (n3 c3 : Nat) : List LB := [⟨t.taint, A0, n0, c0⟩, ⟨t.clear, A1, n1, c1⟩, ⟨t.raise, A2, n2, c2⟩, ⟨t.verify, A3, n3, c3⟩]
theorem lbs_read {w : World} {t : Tm} {A0 A1 A2 A3 : Option Addr} {n0 c0 n1 c1 n2 c2 n3 c3 : Nat} (h : RdTm w (.agg #[.int .i64 t.taint.base, .slice A0 n0 c0, .int .i64 t.clear.base, .slice A1 n1 c1, .int .i64 t.raise.base, .slice A2 n2 c2, .int .i64 t.verify.base, .slice A3 n3 c3]) t) : LBs w (lbsOf t A0 n0 c0 A1 n1 c1 A2 n2 c2 A3 n3 c3) := by
  obtain ⟨_, _, _, _, _, _, _, _, _, _, _, _, ek, q0, q1, q2, q3⟩ := h
  cases ek
  exact .cons q0 (.cons q1 (.cons q2 (.cons q3 (.nil _))))
set_option maxHeartbeats 1000000 in
theorem impl_labels (t : Tm) (A0 : Option Addr) (n0 c0 : Nat) (A1 : Option Addr) (n1 c1 : Nat) (A2 : Option Addr) (n2 c2 : Nat) (A3 : Option Addr) (n3 c3 : Nat) (w : World) :
    Calls Try.prog 74 #[.agg #[.int .i64 t.taint.base, .slice A0 n0 c0, .int .i64 t.clear.base, .slice A1 n1 c1, .int .i64 t.raise.base, .slice A2 n2 c2, .int .i64 t.verify.base, .slice A3 n3 c3]] w (RetOwn 33 2 4 (lbcells (lbsOf t A0 n0 c0 A1 n1 c1 A2 n2 c2 A3 n3 c3)) w) := by
  go_enter Try.func74, Try.ntmps74
  go_wp2
  go_ret
  have hB : Below w.heap.size w (w.alloc (.cells #[.int .i64 t.taint.base, .slice A0 n0 c0, .int .i64 t.clear.base, .slice A1 n1 c1, .int .i64 t.raise.base, .slice A2 n2 c2, .int .i64 t.verify.base, .slice A3 n3 c3] 35)) := (Below.refl _ _).alloc (Nat.le_refl _) _
  have q := World.ownsRow_lit (e := 33) (size := 2) (base := w.heap.size) (w.alloc (.cells #[.int .i64 t.taint.base, .slice A0 n0 c0, .int .i64 t.clear.base, .slice A1 n1 c1, .int .i64 t.raise.base, .slice A2 n2 c2, .int .i64 t.verify.base, .slice A3 n3 c3] 35)) #[.int .i64 t.taint.base, .slice A0 n0 c0, .int .i64 t.clear.base, .slice A1 n1 c1, .int .i64 t.raise.base, .slice A2 n2 c2, .int .i64 t.verify.base, .slice A3 n3 c3] 4 hB.size (by unfold maxLen; omega) rfl
  rw [World.size_alloc] at q
  exact ⟨_, rfl, q, hB.alloc hB.size (.cells #[.int .i64 t.taint.base, .slice A0 n0 c0, .int .i64 t.clear.base, .slice A1 n1 c1, .int .i64 t.raise.base, .slice A2 n2 c2, .int .i64 t.verify.base, .slice A3 n3 c3] 33)⟩

theorem termsOk_all (t : Tm) (A0 : Option Addr) (n0 c0 : Nat) (A1 : Option Addr) (n1 c1 : Nat) (A2 : Option Addr) (n2 c2 : Nat) (A3 : Option Addr) (n3 c3 : Nat) : allOk (lbsOf t A0 n0 c0 A1 n1 c1 A2 n2 c2 A3 n3 c3) = termsOk t := by
  simp [allOk, lbsOf, termsOk]
set_option maxHeartbeats 1000000 in
theorem impl_termsok (v : Value) (t : Tm) (w : World) (hr : RdTm w v t) : Calls Try.prog 59 #[v] w (RetV (.bool (termsOk t)) w) := by
  have HR := Lib.hid hr
  obtain ⟨A0, n0, c0, A1, n1, c1, A2, n2, c2, A3, n3, c3, rfl, -, -, -, -⟩ := hr
  go_enter Try.func59, Try.ntmps59
  go_wp2_with fail
  refine (impl_labels t A0 n0 c0 A1 n1 c1 A2 n2 c2 A3 n3 c3 _).mono ?_
  rintro e w1 ⟨v1, rfl, hown, hb⟩
  obtain ⟨A, c, rfl, -, -, ha⟩ := own_at hown
  have HA := Lib.hid ha
  have HB := Lib.hid (over_alloc hb)
  clear hown hb ha
  go_wp2_with fail
  refine (impl_allright A 4 c _ _ HA.out rfl (by omega) (lbs_read (HR.out.below HB.out))).mono ?_
  rintro e w2 ⟨rfl, hb⟩
  go_wp2
  go_ret
  exact .mk (by rw [termsOk_all]; rfl) (below_more HB.out hb)
end Go.Proofs.Ytnpeojlhjbdjiaa
