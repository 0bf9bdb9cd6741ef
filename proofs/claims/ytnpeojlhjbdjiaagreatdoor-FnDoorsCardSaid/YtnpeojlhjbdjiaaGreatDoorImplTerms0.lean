/-
  Texts put together: Lbs, ImplTerms0. What each proves stands ahead of it.
-/
import Derived.Test.YtnpeojlhjbdjiaaGreatDoorLab
import Derived.Test.YtnpeojlhjbdjiaaGreatDoorMem
import Derived.Test.YtnpeojlhjbdjiaaGreatDoorPure
import Derived.Test.YtnpeojlhjbdjiaaGreatDoorImplLab1
import Derived.Test.YtnpeojlhjbdjiaaGreatDoorTermsPure
import Derived.Test.YtnpeojlhjbdjiaaGreatDoorHas
/-
  Rows of labels in memory, each read.
-/
namespace Go.Proofs.YtnpeojlhjbdjiaaGreatDoor
set_option maxRecDepth 100000
open Go.RowKit

/-- A label as it stands in a row. -/
structure LB where
  l : Lab
  A : Option Addr
  n : Nat
  c : Nat
def encLB (x : LB) : List Value := [.int .i64 x.l.base, .slice x.A x.n x.c]
theorem encLB_length (x : LB) : (encLB x).length = 2 := rfl
def lbcells (xs : List LB) : List Value := flat encLB xs
theorem lbcells_length (xs : List LB) : (lbcells xs).length = xs.length * 2 := flat_length encLB_length xs
theorem lbcells_append (xs ys : List LB) : lbcells (xs ++ ys) = lbcells xs ++ lbcells ys := flat_append xs ys
theorem lbcells_one (xs : List LB) : ∀ u ∈ lbcells xs, u.oneCell' = true := flat_one (fun _ u hu => by simp [encLB] at hu; rcases hu with rfl | rfl <;> rfl) xs
theorem lbinfo : (Tryz.prog.info? 26).map (fun i => (i.zero, i.size, i.bytes)) = some (some (.agg #[.int .i64 0, .slice none 0 0]), 2, 32) := by kernel_rfl
theorem elemLab : Elem Tryz.prog 89 26 2 32 := .of_info lbinfo Tryz.underlying89 rfl (by omega)
theorem lbat {w : World} {A : Option Addr} {xs : List LB} (h : At w A (lbcells xs)) {k : Nat} (hk : k < xs.length) :
    ∃ b o x, A = some ⟨b, o, none⟩ ∧ xs[k]? = some x ∧ w.cell? ⟨b, o + k * 2, none⟩ = some (.int .i64 x.l.base) ∧ w.cell? ⟨b, o + k * 2 + 1, none⟩ = some (.slice x.A x.n x.c) := by
  obtain ⟨b, o, rfl, hc⟩ := h (by rw [lbcells_length]; omega)
  have hx : xs[k]? = some xs[k] := List.getElem?_eq_getElem hk
  exact ⟨b, o, xs[k], rfl, hx, hc _ _ (flat_at encLB_length xs hx (i := 0) (by omega)), by rw [Nat.add_assoc]; exact hc _ _ (flat_at encLB_length xs hx (i := 1) (by omega))⟩
/-- Each of them can be read. -/
def LBs (w : World) (xs : List LB) : Prop := ∀ x ∈ xs, RdLab w (.agg #[.int .i64 x.l.base, .slice x.A x.n x.c]) x.l
theorem LBs.below {w w' : World} {xs : List LB} (h : LBs w xs) (hb : Below w.heap.size w w') : LBs w' xs := fun x hx => (h x hx).below hb
theorem LBs.at {w : World} {xs : List LB} (h : LBs w xs) {k : Nat} {x : LB} (hx : xs[k]? = some x) : RdLab w (.agg #[.int .i64 x.l.base, .slice x.A x.n x.c]) x.l := h x (List.mem_of_getElem? hx)
theorem LBs.append {w : World} {xs ys : List LB} (h : LBs w xs) (k : LBs w ys) : LBs w (xs ++ ys) := fun x hx => by
  rcases List.mem_append.1 hx with q | q
  · exact h x q
  · exact k x q
theorem LBs.nil (w : World) : LBs w [] := fun _ h => by cases h
theorem LBs.cons {w : World} {x : LB} {xs : List LB} (h : RdLab w (.agg #[.int .i64 x.l.base, .slice x.A x.n x.c]) x.l) (k : LBs w xs) : LBs w (x :: xs) := fun y hy => by
  rcases List.mem_cons.1 hy with q | q
  · subst q; exact h
  · exact k y q
/-- All of a list, from a place on. -/
def AllL {α : Type} (p : α → Bool) (xs : List α) (k : Nat) : Prop := xs.all p = (xs.drop k).all p
section
variable {α : Type} {p : α → Bool} {xs : List α} {k : Nat} {x : α}
theorem AllL.zero (p : α → Bool) (xs : List α) : AllL p xs 0 := rfl
theorem AllL.succ (h : AllL p xs k) (hx : xs[k]? = some x) (hp : p x = true) : AllL p xs (k + 1) := by
  unfold AllL at h ⊢; rw [h, drop_at hx]; simp [hp]
theorem AllL.bad (h : AllL p xs k) (hx : xs[k]? = some x) (hp : p x = false) : xs.all p = false := by
  unfold AllL at h; rw [h, drop_at hx]; simp [hp]
theorem AllL.done (h : AllL p xs k) (hk : xs.length ≤ k) : xs.all p = true := by
  unfold AllL at h; rw [h, List.drop_eq_nil_of_le hk]; rfl
end
end Go.Proofs.YtnpeojlhjbdjiaaGreatDoor

/-
  Chapter 5 of the program: the labels of terms as a row, all of them right, TermsOk, NoTerms.
-/
namespace Go.Proofs.YtnpeojlhjbdjiaaGreatDoor
set_option maxRecDepth 100000
open Go.RowKit

def allOk (xs : List LB) : Bool := xs.all fun x => labOk x.l
set_option maxHeartbeats 1000000 in
theorem impl_allright (A : Option Addr) (n c : Nat) (xs : List LB) (w : World) (ha : At w A (lbcells xs)) (hn : xs.length = n) (hl : n ≤ 1000) (hx : LBs w xs) :
    Calls Tryz.prog 85 #[.slice A n c] w (RetV (.bool (allOk xs)) w) := by
  have HN := Lib.hid hn
  have HA := Lib.hid ha
  have HX := Lib.hid hx
  clear hn ha hx
  go_enter Tryz.func85, Tryz.ntmps85
  go_wp2
  go_loopw [7] (fun i wr => ∃ k : Nat, k ≤ n ∧ i = .int .i64 k ∧ Hid (AllL (fun x : LB => labOk x.l) xs k) ∧ Hid (Below w.heap.size w wr)) (fun i _ => n - (intOf i).toNat)
  case atStart => exact ⟨0, by omega, rfl, Lib.hid (.zero _ _), Lib.hid (.refl _ _)⟩
  case round =>
    obtain ⟨k, hk, rfl, HS, HB⟩ := hrel
    by_cases hlt : k < n
    · obtain ⟨b, o, x, rfl, hx, cx, cy⟩ := lbat (HA.out.below HB.out) (k := k) (by have := HN.out; omega)
      have HR := Lib.hid ((HX.out.below HB.out).at hx)
      cases ho : labOk x.l
      · have HF : Hid (allOk xs = false) := Lib.hid (HS.out.bad hx ho)
        clear hx HS
        go_wp2_with fail
        refine (impl_labok0 _ x.l _ (HR.out.alloc _)).mono ?_
        rintro e w1 ⟨rfl, hb⟩
        have HB1 := Lib.hid (below_more HB.out (over_alloc hb))
        clear hb
        go_wp2
        go_ret
        exact .mk (by rw [HF.out]; rfl) HB1.out
      · have HS1 := Lib.hid (HS.out.succ hx ho)
        clear hx HS
        go_wp2_with fail
        refine (impl_labok0 _ x.l _ (HR.out.alloc _)).mono ?_
        rintro e w1 ⟨rfl, hb⟩
        have HB1 := Lib.hid (below_more HB.out (over_alloc hb))
        clear hb
        go_wp2
        go_roundw
        case rel => exact ⟨k + 1, by omega, by go_num, HS1, HB1⟩
        case measure => simp [intOf]; omega
    · obtain rfl : k = n := by omega
      have HT : Hid (allOk xs = true) := Lib.hid (HS.out.done (by have := HN.out; omega))
      clear HS
      go_wp2
      go_ret
      exact .mk (by rw [HT.out]; rfl) HB.out

/-- The labels of terms, as they stand there. -/
def lbsOf (t : Tm) (A0 : Option Addr) (n0 c0 : Nat) (A1 : Option Addr) (n1 c1 : Nat) (A2 : Option Addr) (n2 c2 : Nat) (A3 : Option Addr) (n3 c3 : Nat) : List LB := [⟨t.taint, A0, n0, c0⟩, ⟨t.clear, A1, n1, c1⟩, ⟨t.raise, A2, n2, c2⟩, ⟨t.verify, A3, n3, c3⟩]
theorem lbs_read {w : World} {t : Tm} {A0 A1 A2 A3 : Option Addr} {n0 c0 n1 c1 n2 c2 n3 c3 : Nat} (h : RdTm w (.agg #[.int .i64 t.taint.base, .slice A0 n0 c0, .int .i64 t.clear.base, .slice A1 n1 c1, .int .i64 t.raise.base, .slice A2 n2 c2, .int .i64 t.verify.base, .slice A3 n3 c3]) t) : LBs w (lbsOf t A0 n0 c0 A1 n1 c1 A2 n2 c2 A3 n3 c3) := by
  obtain ⟨_, _, _, _, _, _, _, _, _, _, _, _, ek, q0, q1, q2, q3⟩ := h
  cases ek
  exact .cons q0 (.cons q1 (.cons q2 (.cons q3 (.nil _))))
set_option maxHeartbeats 1000000 in
theorem impl_labels (t : Tm) (A0 : Option Addr) (n0 c0 : Nat) (A1 : Option Addr) (n1 c1 : Nat) (A2 : Option Addr) (n2 c2 : Nat) (A3 : Option Addr) (n3 c3 : Nat) (w : World) :
    Calls Tryz.prog 68 #[.agg #[.int .i64 t.taint.base, .slice A0 n0 c0, .int .i64 t.clear.base, .slice A1 n1 c1, .int .i64 t.raise.base, .slice A2 n2 c2, .int .i64 t.verify.base, .slice A3 n3 c3]] w (RetOwn 26 2 4 (lbcells (lbsOf t A0 n0 c0 A1 n1 c1 A2 n2 c2 A3 n3 c3)) w) := by
  go_enter Tryz.func68, Tryz.ntmps68
  go_wp2
  go_ret
  have hB : Below w.heap.size w (w.alloc (.cells #[.int .i64 t.taint.base, .slice A0 n0 c0, .int .i64 t.clear.base, .slice A1 n1 c1, .int .i64 t.raise.base, .slice A2 n2 c2, .int .i64 t.verify.base, .slice A3 n3 c3] 33)) := (Below.refl _ _).alloc (Nat.le_refl _) _
  have q := World.ownsRow_lit (e := 26) (size := 2) (base := w.heap.size) (w.alloc (.cells #[.int .i64 t.taint.base, .slice A0 n0 c0, .int .i64 t.clear.base, .slice A1 n1 c1, .int .i64 t.raise.base, .slice A2 n2 c2, .int .i64 t.verify.base, .slice A3 n3 c3] 33)) #[.int .i64 t.taint.base, .slice A0 n0 c0, .int .i64 t.clear.base, .slice A1 n1 c1, .int .i64 t.raise.base, .slice A2 n2 c2, .int .i64 t.verify.base, .slice A3 n3 c3] 4 hB.size (by unfold maxLen; omega) rfl
  rw [World.size_alloc] at q
  exact ⟨_, rfl, q, hB.alloc hB.size (.cells #[.int .i64 t.taint.base, .slice A0 n0 c0, .int .i64 t.clear.base, .slice A1 n1 c1, .int .i64 t.raise.base, .slice A2 n2 c2, .int .i64 t.verify.base, .slice A3 n3 c3] 26)⟩

theorem termsOk_all (t : Tm) (A0 : Option Addr) (n0 c0 : Nat) (A1 : Option Addr) (n1 c1 : Nat) (A2 : Option Addr) (n2 c2 : Nat) (A3 : Option Addr) (n3 c3 : Nat) : allOk (lbsOf t A0 n0 c0 A1 n1 c1 A2 n2 c2 A3 n3 c3) = termsOk t := by
  simp [allOk, lbsOf, termsOk]
set_option maxHeartbeats 1000000 in
theorem impl_termsok (v : Value) (t : Tm) (w : World) (hr : RdTm w v t) : Calls Tryz.prog 63 #[v] w (RetV (.bool (termsOk t)) w) := by
  have HR := Lib.hid hr
  obtain ⟨A0, n0, c0, A1, n1, c1, A2, n2, c2, A3, n3, c3, rfl, -, -, -, -⟩ := hr
  go_enter Tryz.func63, Tryz.ntmps63
  go_wp2_with fail
  refine (impl_labels t A0 n0 c0 A1 n1 c1 A2 n2 c2 A3 n3 c3 _).mono ?_
  rintro e w1 ⟨v1, rfl, hown, hb⟩
  obtain ⟨A, c, rfl, -, -, ha⟩ := own_at hown
  have HA := Lib.hid ha
  have HB := Lib.hid (over_alloc hb)
  clear hown hb ha
  go_wp2_with fail
  refine (impl_allright A 4 c _ _ HA.out rfl (by omega) (lbs_read (HR.out.below HB.out))).mono ?_
  rintro e w2 ⟨rfl, hb⟩
  go_wp2
  go_ret
  exact .mk (by rw [termsOk_all]; rfl) (below_more HB.out hb)
set_option maxHeartbeats 2000000 in
theorem impl_noterms (w : World) : Calls Tryz.prog 21 #[] w (RetTm noTm w) := by
  go_enter Tryz.func21, Tryz.ntmps21
  go_wp2_with fail
  generalize hW : w.alloc (.cells #[.int .i64 0, .slice none 0 0, .int .i64 0, .slice none 0 0, .int .i64 0, .slice none 0 0, .int .i64 0, .slice none 0 0] 33) = x0
  obtain ⟨pb, hsz, bel⟩ := laid1 (ps := [.int .i64 0, .slice none 0 0, .int .i64 0, .slice none 0 0, .int .i64 0, .slice none 0 0, .int .i64 0, .slice none 0 0]) hW
  have RB := Lib.hid pb
  clear hW pb
  have hlo : w.heap.size + 1 ≤ x0.heap.size := by omega
  clear hsz
  refine (impl_plain 0 _).mono ?_
  rintro e y0 ⟨v0, rfl, own, hb⟩
  have eb : plainL 0 = ⟨0, []⟩ := rfl
  rw [eb] at own
  clear eb
  obtain ⟨B0, m0, d0, rfl, hm0, -, -⟩ := id own
  have V0 : Hid (∀ k, (Value.slice B0 m0 d0).ownBlock = some k → x0.heap.size ≤ k ∧ k < y0.heap.size) := Lib.hid (fun k hk => own.row k hk)
  have W0 := Lib.hid (own.lower (base' := w.heap.size + 1) (by have := hb.size; omega))
  have RB' := Lib.hid (RB.out.below hb)
  have bel' := below_more bel hb
  have s0 : x0.heap.size ≤ y0.heap.size := hb.size
  clear RB bel hb own
  have RB := RB'
  have bel := bel'
  clear RB' bel'
  go_wp2_with fail
  refine (impl_plain 4 _).mono ?_
  rintro e y1 ⟨v1, rfl, own, hb⟩
  have eb : plainL 4 = ⟨4, []⟩ := rfl
  rw [eb] at own
  clear eb
  obtain ⟨B1, m1, d1, rfl, hm1, -, -⟩ := id own
  have V1 : Hid (∀ k, (Value.slice B1 m1 d1).ownBlock = some k → y0.heap.size ≤ k ∧ k < y1.heap.size) := Lib.hid (fun k hk => own.row k hk)
  have W0' := Lib.hid (W0.out.below hb)
  clear W0
  have W0 := W0'
  clear W0'
  have W1 := Lib.hid (own.lower (base' := w.heap.size + 1) (by have := hb.size; omega))
  have RB' := Lib.hid (RB.out.below hb)
  have bel' := below_more bel hb
  have s1 : y0.heap.size ≤ y1.heap.size := hb.size
  clear RB bel hb own
  have RB := RB'
  have bel := bel'
  clear RB' bel'
  go_wp2_with fail
  refine (impl_plain 0 _).mono ?_
  rintro e y2 ⟨v2, rfl, own, hb⟩
  have eb : plainL 0 = ⟨0, []⟩ := rfl
  rw [eb] at own
  clear eb
  obtain ⟨B2, m2, d2, rfl, hm2, -, -⟩ := id own
  have V2 : Hid (∀ k, (Value.slice B2 m2 d2).ownBlock = some k → y1.heap.size ≤ k ∧ k < y2.heap.size) := Lib.hid (fun k hk => own.row k hk)
  have W0' := Lib.hid (W0.out.below hb)
  clear W0
  have W0 := W0'
  clear W0'
  have W1' := Lib.hid (W1.out.below hb)
  clear W1
  have W1 := W1'
  clear W1'
  have W2 := Lib.hid (own.lower (base' := w.heap.size + 1) (by have := hb.size; omega))
  have RB' := Lib.hid (RB.out.below hb)
  have bel' := below_more bel hb
  have s2 : y1.heap.size ≤ y2.heap.size := hb.size
  clear RB bel hb own
  have RB := RB'
  have bel := bel'
  clear RB' bel'
  go_wp2_with fail
  refine (impl_plain 4 _).mono ?_
  rintro e y3 ⟨v3, rfl, own, hb⟩
  have eb : plainL 4 = ⟨4, []⟩ := rfl
  rw [eb] at own
  clear eb
  obtain ⟨B3, m3, d3, rfl, hm3, -, -⟩ := id own
  have V3 : Hid (∀ k, (Value.slice B3 m3 d3).ownBlock = some k → y2.heap.size ≤ k ∧ k < y3.heap.size) := Lib.hid (fun k hk => own.row k hk)
  have W0' := Lib.hid (W0.out.below hb)
  clear W0
  have W0 := W0'
  clear W0'
  have W1' := Lib.hid (W1.out.below hb)
  clear W1
  have W1 := W1'
  clear W1'
  have W2' := Lib.hid (W2.out.below hb)
  clear W2
  have W2 := W2'
  clear W2'
  have W3 := Lib.hid (own.lower (base' := w.heap.size + 1) (by have := hb.size; omega))
  have RB' := Lib.hid (RB.out.below hb)
  have bel' := below_more bel hb
  have s3 : y2.heap.size ≤ y3.heap.size := hb.size
  clear RB bel hb own
  have RB := RB'
  have bel := bel'
  clear RB' bel'
  have rc0 := RB.out.cell 0 rfl
  have rf0 := RB.out.free 0
  have rc1 := RB.out.cell 1 rfl
  have rf1 := RB.out.free 1
  have rc2 := RB.out.cell 2 rfl
  have rf2 := RB.out.free 2
  have rc3 := RB.out.cell 3 rfl
  have rf3 := RB.out.free 3
  have rc4 := RB.out.cell 4 rfl
  have rf4 := RB.out.free 4
  have rc5 := RB.out.cell 5 rfl
  have rf5 := RB.out.free 5
  have rc6 := RB.out.cell 6 rfl
  have rf6 := RB.out.free 6
  have rc7 := RB.out.cell 7 rfl
  have rf7 := RB.out.free 7
  go_wp2
  refine bodyPost_ret (v := .agg #[.int .i64 0, .slice B0 m0 d0, .int .i64 4, .slice B1 m1 d1, .int .i64 0, .slice B2 m2 d2, .int .i64 4, .slice B3 m3 d3]) (by simp [results, Tryz.results21, go_sem, rc0, rc1, rc2, rc3, rc4, rc5, rc6, rc7]) rfl ?_
  refine ⟨_, rfl, ⟨B0, m0, d0, B1, m1, d1, B2, m2, d2, B3, m3, d3, rfl, (((((((((W0.out.past (by omega)).past (by omega)).past (by omega)).past (by omega)).past (by omega)).past (by omega)).past (by omega)).past (by omega))).lower (by omega), (((((((((W1.out.past (by omega)).past (by omega)).past (by omega)).past (by omega)).past (by omega)).past (by omega)).past (by omega)).past (by omega))).lower (by omega), (((((((((W2.out.past (by omega)).past (by omega)).past (by omega)).past (by omega)).past (by omega)).past (by omega)).past (by omega)).past (by omega))).lower (by omega), (((((((((W3.out.past (by omega)).past (by omega)).past (by omega)).past (by omega)).past (by omega)).past (by omega)).past (by omega)).past (by omega))).lower (by omega), ?_⟩, ((((((((bel.setCell (by simp only []; omega) _).setCell (by simp only []; omega) _).setCell (by simp only []; omega) _).setCell (by simp only []; omega) _).setCell (by simp only []; omega) _).setCell (by simp only []; omega) _).setCell (by simp only []; omega) _).setCell (by simp only []; omega) _)⟩
  have ap4 : Apart [] := .nil
  have ap3 : Apart [.int .i64 4, .slice B3 m3 d3] := .int (.cons ap4 (fun k _ hk => by simp [fpOf] at hk)) _
  have ap2 : Apart [.int .i64 0, .slice B2 m2 d2, .int .i64 4, .slice B3 m3 d3] := .int (.cons ap3 (fun k hk hm => by
      have a := V2.out k hk
      simp only [own_int, Option.toList_none, List.nil_append, fpOf_cons, fpOf_nil, List.append_nil, mem_fp] at hm
      rcases hm with hm
      · have b := V3.out k hm; omega)) _
  have ap1 : Apart [.int .i64 4, .slice B1 m1 d1, .int .i64 0, .slice B2 m2 d2, .int .i64 4, .slice B3 m3 d3] := .int (.cons ap2 (fun k hk hm => by
      have a := V1.out k hk
      simp only [own_int, Option.toList_none, List.nil_append, fpOf_cons, fpOf_nil, List.mem_append, List.append_nil, mem_fp] at hm
      rcases hm with hm | hm
      · have b := V2.out k hm; omega
      · have b := V3.out k hm; omega)) _
  have ap0 : Apart [.int .i64 0, .slice B0 m0 d0, .int .i64 4, .slice B1 m1 d1, .int .i64 0, .slice B2 m2 d2, .int .i64 4, .slice B3 m3 d3] := .int (.cons ap1 (fun k hk hm => by
      have a := V0.out k hk
      simp only [own_int, Option.toList_none, List.nil_append, fpOf_cons, fpOf_nil, List.mem_append, List.append_nil, mem_fp] at hm
      rcases hm with hm | hm | hm
      · have b := V1.out k hm; omega
      · have b := V2.out k hm; omega
      · have b := V3.out k hm; omega)) _
  exact ap0
end Go.Proofs.YtnpeojlhjbdjiaaGreatDoor
