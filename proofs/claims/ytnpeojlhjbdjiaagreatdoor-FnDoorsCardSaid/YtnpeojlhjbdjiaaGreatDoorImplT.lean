/-
  Texts put together: ImplClo, ImplClo2, ImplFirst, ImplCover, ImplTold, ImplTerms. What each proves stands ahead of it.
-/
import Derived.Test.YtnpeojlhjbdjiaaGreatDoorImplTerms0
import Derived.Test.YtnpeojlhjbdjiaaGreatDoorImplHand
import Derived.Test.YtnpeojlhjbdjiaaGreatDoorPure
import Derived.Laws.Cover1
import Derived.Test.YtnpeojlhjbdjiaaGreatDoorErrs
import Derived.Test.YtnpeojlhjbdjiaaGreatDoorTermsPure
import Derived.Test.YtnpeojlhjbdjiaaGreatDoorLate2
import Derived.Test.YtnpeojlhjbdjiaaGreatDoorMem
/-
  Chapter 5 of the program: what is asked of one handle: needStar, and the two function values.
-/
namespace Go.Proofs.YtnpeojlhjbdjiaaGreatDoor
set_option maxRecDepth 100000
open Go.RowKit

def starB (c r : Int) : Bool := decide (c < 4) || decide (0 < r)
theorem may_star {s c r : Int} (hc : lvOk c = true) (hr : lvOk r = true) : mayB s c r = (!(starB c r) || decide (s = 0)) := by
  obtain ⟨c1, c2⟩ := of_lvOk hc
  obtain ⟨r1, r2⟩ := of_lvOk hr
  by_cases a : c < 4
  · have : ¬ c = 4 := by omega
    simp [mayB, starB, a, this]
  · have a' : c = 4 := by omega
    by_cases b : 0 < r
    · have : ¬ r = 0 := by omega
      simp [mayB, starB, b, this]
    · have b' : r = 0 := by omega
      simp [mayB, starB, a', b']

/-- What a function value of a term's handles has boxed: terms at p, and labels. -/
structure BoxTm (w : World) (p : Nat) (t : Tm) : Prop where
  ok : termsOk t = true
  rd : ∃ (A0 : Option Addr) (n0 c0 : Nat) (A1 : Option Addr) (n1 c1 : Nat) (A2 : Option Addr) (n2 c2 : Nat) (A3 : Option Addr) (n3 c3 : Nat), Has w p [.int .i64 t.taint.base, .slice A0 n0 c0, .int .i64 t.clear.base, .slice A1 n1 c1, .int .i64 t.raise.base, .slice A2 n2 c2, .int .i64 t.verify.base, .slice A3 n3 c3] ∧ RdTm w (.agg #[.int .i64 t.taint.base, .slice A0 n0 c0, .int .i64 t.clear.base, .slice A1 n1 c1, .int .i64 t.raise.base, .slice A2 n2 c2, .int .i64 t.verify.base, .slice A3 n3 c3]) t
structure BoxLab (w : World) (p : Nat) (l : Lab) : Prop where
  ok : labOk l = true
  rd : ∃ (A : Option Addr) (n c : Nat), Has w p [.int .i64 l.base, .slice A n c] ∧ RdLab w (.agg #[.int .i64 l.base, .slice A n c]) l
theorem BoxTm.below {w w' : World} {p : Nat} {t : Tm} (h : BoxTm w p t) (hb : Below w.heap.size w w') : BoxTm w' p t := by
  obtain ⟨A0, n0, c0, A1, n1, c1, A2, n2, c2, A3, n3, c3, h1, h2⟩ := h.rd
  exact ⟨h.ok, A0, n0, c0, A1, n1, c1, A2, n2, c2, A3, n3, c3, h1.below hb, h2.below hb⟩
theorem BoxLab.below {w w' : World} {p : Nat} {l : Lab} (h : BoxLab w p l) (hb : Below w.heap.size w w') : BoxLab w' p l := by
  obtain ⟨A, n, c, h1, h2⟩ := h.rd
  exact ⟨h.ok, A, n, c, h1.below hb, h2.below hb⟩

end Go.Proofs.YtnpeojlhjbdjiaaGreatDoor

/-
  Chapter 5 of the program: what Accepts asks of one handle.
-/
namespace Go.Proofs.YtnpeojlhjbdjiaaGreatDoor
set_option maxRecDepth 100000
open Go.RowKit

theorem in_min {e r u v d m : Int} (hr : lvOk r = true) (hu : lvOk u = true) (hm : m = if d < (if v < lvMax r u then v else lvMax r u) then d else (if v < lvMax r u then v else lvMax r u)) : inB e r u v d = (decide (e ≤ m) && decide (u ≤ d)) := by
  have h1 : lvMax r u = max r u := by simp [lvMax, hr, hu]
  rw [h1] at hm
  have h2 : (e ≤ m) ↔ (e ≤ max r u ∧ e ≤ v ∧ e ≤ d) := by
    subst hm
    repeat' split
    all_goals omega
  unfold inB
  by_cases a : e ≤ m
  · obtain ⟨b1, b2, b3⟩ := h2.1 a
    simp [a, b1, b2, b3]
  · have : ¬ (e ≤ max r u ∧ e ≤ v ∧ e ≤ d) := fun h => a (h2.2 h)
    by_cases c1 : e ≤ max r u
    · by_cases c2 : e ≤ v
      · by_cases c3 : e ≤ d
        · exact absurd ⟨c1, c2, c3⟩ this
        · simp [a, c3]
      · simp [a, c2]
    · simp [a, c1]

set_option maxHeartbeats 4000000 in
theorem clo_accepts (x : Int) (pT pD pR pE : Nat) (t : Tm) (d r e : Lab) (w : World) (b1 : BoxTm w pT t) (b2 : BoxLab w pD d) (b3 : BoxLab w pR r) (b4 : BoxLab w pE e) :
    Calls Tryz.prog 69 #[.int .i64 x, .pointer (some ⟨pT, 0, none⟩), .pointer (some ⟨pD, 0, none⟩), .pointer (some ⟨pR, 0, none⟩), .pointer (some ⟨pE, 0, none⟩)] w (RetV (.bool (inL e r t d x)) w) := by
  obtain ⟨A0, n0, c0, A1, n1, c1, A2, n2, c2, A3, n3, c3, gt, r1⟩ := b1.rd
  obtain ⟨Ad, nd, cd, gd, rd⟩ := b2.rd
  obtain ⟨Ar, nr, cr, gr, rr⟩ := b3.rd
  obtain ⟨Ae, ne, ce, ge, re⟩ := b4.rd
  obtain ⟨-, -, o2, o3⟩ := termsOk_of b1.ok
  obtain ⟨_, _, _, _, _, _, _, _, _, _, _, _, ek, -, -, q2, q3⟩ := r1
  cases ek
  have RU := Lib.hid q2
  have RV := Lib.hid q3
  have RD := Lib.hid rd
  have RR := Lib.hid rr
  have RE := Lib.hid re
  have KU := Lib.hid (labOk_rises o2)
  have KV := Lib.hid (labOk_rises o3)
  have KD := Lib.hid (labOk_rises b2.ok)
  have KR := Lib.hid (labOk_rises b3.ok)
  have KE := Lib.hid (labOk_rises b4.ok)
  have GT := Lib.hid gt
  have GD := Lib.hid gd
  have GR := Lib.hid gr
  have GE := Lib.hid ge
  obtain ⟨m, hm⟩ : ∃ m, m = if lev d x < (if lev t.verify x < lvMax (lev r x) (lev t.raise x) then lev t.verify x else lvMax (lev r x) (lev t.raise x)) then lev d x else (if lev t.verify x < lvMax (lev r x) (lev t.raise x) then lev t.verify x else lvMax (lev r x) (lev t.raise x)) := ⟨_, rfl⟩
  have HM : Hid (inL e r t d x = (decide (lev e x ≤ m) && decide (lev t.raise x ≤ lev d x))) := Lib.hid (in_min (lev_lv b3.ok x) (lev_lv o2 x) hm)
  have hmin : ∀ (ts : Array TypeId) (ty : TypeId) (w' : World), (Builtin.min_ ts ty #[.int .i64 (lvMax (lev r x) (lev t.raise x)), .int .i64 (lev t.verify x), .int .i64 (lev d x)]).run Tryz.prog w' = .ok (.int .i64 m) w' := fun ts ty w' => by rw [run_min_int3, hm]
  clear gt gd gr ge rd rr re q2 q3 o2 o3 hm
  have HC : Hid (Below w.heap.size w w) := Lib.hid (.refl _ _)
  go_enter Tryz.func69, Tryz.ntmps69
  have f0 := (GT.out.below HC.out) 4 _ rfl
  have f1 := (GT.out.below HC.out) 5 _ rfl
  have f2 := (GD.out.below HC.out) 0 _ rfl
  have f3 := (GD.out.below HC.out) 1 _ rfl
  have zpT := block_lt_of_cell f0
  simp only [] at zpT
  have zpD := block_lt_of_cell f2
  simp only [] at zpD
  go_wp2
  go_region_held3 (fun w' => w'.cell? ⟨pT, 4, none⟩ = some (.int .i64 t.raise.base) ∧ w'.cell? ⟨pT, 5, none⟩ = some (.slice A2 n2 c2) ∧ w'.cell? ⟨pD, 0, none⟩ = some (.int .i64 d.base) ∧ w'.cell? ⟨pD, 1, none⟩ = some (.slice Ad nd cd))
    (first | exact ⟨f0, f1, f2, f3⟩ | go_keep)
    (first
    | (go_at_call_of 70 (Value.agg #[Value.int IntKind.i64 t.raise.base, Value.slice A2 n2 c2])
       refine (impl_lev _ t.raise x _ (by first | exact RU.out.below HC.out | exact (RU.out.below HC.out).drew) KU.out).mono ?_
       rintro e wn ⟨rfl, hb⟩
       have HC' : Hid (Below w.heap.size w wn) := Lib.hid (by first | exact below_more HC.out hb | exact below_more HC.out (below_undrew hb))
       clear HC
       have HC := HC'
       clear HC'
       try clear f0 f1 f2 f3
       have f0 : wn.cell? ⟨pT, 4, none⟩ = some (.int .i64 t.raise.base) := (GT.out.below HC.out) 4 _ rfl
       have f1 : wn.cell? ⟨pT, 5, none⟩ = some (.slice A2 n2 c2) := (GT.out.below HC.out) 5 _ rfl
       have f2 : wn.cell? ⟨pD, 0, none⟩ = some (.int .i64 d.base) := (GD.out.below HC.out) 0 _ rfl
       have f3 : wn.cell? ⟨pD, 1, none⟩ = some (.slice Ad nd cd) := (GD.out.below HC.out) 1 _ rfl
       clear hb)
    | (go_at_call_of 70 (Value.agg #[Value.int IntKind.i64 d.base, Value.slice Ad nd cd])
       refine (impl_lev _ d x _ (by first | exact RD.out.below HC.out | exact (RD.out.below HC.out).drew) KD.out).mono ?_
       rintro e wn ⟨rfl, hb⟩
       have HC' : Hid (Below w.heap.size w wn) := Lib.hid (by first | exact below_more HC.out hb | exact below_more HC.out (below_undrew hb))
       clear HC
       have HC := HC'
       clear HC'
       try clear f0 f1 f2 f3
       have f0 : wn.cell? ⟨pT, 4, none⟩ = some (.int .i64 t.raise.base) := (GT.out.below HC.out) 4 _ rfl
       have f1 : wn.cell? ⟨pT, 5, none⟩ = some (.slice A2 n2 c2) := (GT.out.below HC.out) 5 _ rfl
       have f2 : wn.cell? ⟨pD, 0, none⟩ = some (.int .i64 d.base) := (GD.out.below HC.out) 0 _ rfl
       have f3 : wn.cell? ⟨pD, 1, none⟩ = some (.slice Ad nd cd) := (GD.out.below HC.out) 1 _ rfl
       clear hb))
  clear f0 f1 f2 f3 zpT zpD
  have f0 := (GT.out.below HC.out) 6 _ rfl
  have f1 := (GT.out.below HC.out) 7 _ rfl
  have f2 := (GR.out.below HC.out) 0 _ rfl
  have f3 := (GR.out.below HC.out) 1 _ rfl
  have zpT := block_lt_of_cell f0
  simp only [] at zpT
  have zpR := block_lt_of_cell f2
  simp only [] at zpR
  go_wp2
  go_region_held3 (fun w' => w'.cell? ⟨pT, 6, none⟩ = some (.int .i64 t.verify.base) ∧ w'.cell? ⟨pT, 7, none⟩ = some (.slice A3 n3 c3) ∧ w'.cell? ⟨pR, 0, none⟩ = some (.int .i64 r.base) ∧ w'.cell? ⟨pR, 1, none⟩ = some (.slice Ar nr cr))
    (first | exact ⟨f0, f1, f2, f3⟩ | go_keep)
    (first
    | (go_at_call_of 70 (Value.agg #[Value.int IntKind.i64 t.verify.base, Value.slice A3 n3 c3])
       refine (impl_lev _ t.verify x _ (by first | exact RV.out.below HC.out | exact (RV.out.below HC.out).drew) KV.out).mono ?_
       rintro e wn ⟨rfl, hb⟩
       have HC' : Hid (Below w.heap.size w wn) := Lib.hid (by first | exact below_more HC.out hb | exact below_more HC.out (below_undrew hb))
       clear HC
       have HC := HC'
       clear HC'
       try clear f0 f1 f2 f3
       have f0 : wn.cell? ⟨pT, 6, none⟩ = some (.int .i64 t.verify.base) := (GT.out.below HC.out) 6 _ rfl
       have f1 : wn.cell? ⟨pT, 7, none⟩ = some (.slice A3 n3 c3) := (GT.out.below HC.out) 7 _ rfl
       have f2 : wn.cell? ⟨pR, 0, none⟩ = some (.int .i64 r.base) := (GR.out.below HC.out) 0 _ rfl
       have f3 : wn.cell? ⟨pR, 1, none⟩ = some (.slice Ar nr cr) := (GR.out.below HC.out) 1 _ rfl
       clear hb)
    | (go_at_call_of 70 (Value.agg #[Value.int IntKind.i64 r.base, Value.slice Ar nr cr])
       refine (impl_lev _ r x _ (by first | exact RR.out.below HC.out | exact (RR.out.below HC.out).drew) KR.out).mono ?_
       rintro e wn ⟨rfl, hb⟩
       have HC' : Hid (Below w.heap.size w wn) := Lib.hid (by first | exact below_more HC.out hb | exact below_more HC.out (below_undrew hb))
       clear HC
       have HC := HC'
       clear HC'
       try clear f0 f1 f2 f3
       have f0 : wn.cell? ⟨pT, 6, none⟩ = some (.int .i64 t.verify.base) := (GT.out.below HC.out) 6 _ rfl
       have f1 : wn.cell? ⟨pT, 7, none⟩ = some (.slice A3 n3 c3) := (GT.out.below HC.out) 7 _ rfl
       have f2 : wn.cell? ⟨pR, 0, none⟩ = some (.int .i64 r.base) := (GR.out.below HC.out) 0 _ rfl
       have f3 : wn.cell? ⟨pR, 1, none⟩ = some (.slice Ar nr cr) := (GR.out.below HC.out) 1 _ rfl
       clear hb)
    | (go_at_call 71
       refine (impl_higher (lev r x) (lev t.raise x) _).mono ?_
       rintro e w' ⟨rfl, rfl⟩))
  clear f0 f1 f2 f3 zpT zpR hmin
  have e0 := (GE.out.below HC.out) 0 _ rfl
  have e1 := (GE.out.below HC.out) 1 _ rfl
  have ze := block_lt_of_cell e0
  simp only [] at ze
  go_wp2_with fail
  refine (impl_lev _ e x _ (by first | exact RE.out.below HC.out | exact (RE.out.below HC.out).drew) KE.out).mono ?_
  rintro e' w9 ⟨rfl, hb⟩
  by_cases q1 : lev e x ≤ m
  · go_wp2
    go_ret
    exact .mk (by rw [HM.out]; simp [q1]) (below_more HC.out hb)
  · go_wp2
    go_ret
    exact .mk (by rw [HM.out]; simp; omega) (below_more HC.out hb)
end Go.Proofs.YtnpeojlhjbdjiaaGreatDoor

/-
  Chapter 5 of the program: the first handle that is refused, asked by each of the two function values.
-/
namespace Go.Proofs.YtnpeojlhjbdjiaaGreatDoor
set_option maxRecDepth 100000
open Go.RowKit

/-- The handles that are asked: one that no label names, and those of the labels. -/
def keysOf (xs : List LB) : List Int := xs.flatMap fun x => x.l.parts.map (·.1)
def hsOf (xs : List LB) : List Int := -1 :: keysOf xs
theorem keys_step {xs : List LB} {k : Nat} {x : LB} (hx : xs[k]? = some x) : hsOf (xs.take (k + 1)) = hsOf (xs.take k) ++ x.l.parts.map (·.1) := by
  simp only [hsOf, keysOf, take_at hx, List.flatMap_append, List.flatMap_cons, List.flatMap_nil, List.append_nil, List.cons_append]
theorem allOk_at {xs : List LB} (h : allOk xs = true) {k : Nat} {x : LB} (hx : xs[k]? = some x) : labOk x.l = true := List.all_eq_true.1 h x (List.mem_of_getElem? hx)
/-- The call returns what tells so. -/
def RetErr (g : Nat) (ok right : Bool) (w : World) (e : Ending) (w' : World) : Prop := ∃ v, e = .returned v ∧ IsErr w' g ok right v ∧ Below w.heap.size w w'

set_option maxHeartbeats 4000000 in
theorem first_accepts (A : Option Addr) (n c : Nat) (xs : List LB) (g : Nat) (b : Addr) (p : Int → Bool) (p1 p2 p3 p4 : Nat) (w : World) (ha : At w A (lbcells xs)) (hn : xs.length = n) (hl : n ≤ 100) (hx : LBs w xs) (hs : Sent w g) (hw : w.cell? ⟨g, 0, none⟩ = some (.iface 149 (.pointer (some b))))
    (hp : allOk xs = true → ∀ (x : Int) (w1 : World), Below w.heap.size w w1 → Calls Tryz.prog 69 #[.int .i64 x, .pointer (some ⟨p1, 0, none⟩), .pointer (some ⟨p2, 0, none⟩), .pointer (some ⟨p3, 0, none⟩), .pointer (some ⟨p4, 0, none⟩)] w1 (RetV (.bool (p x)) w1)) :
    Calls Tryz.prog 67 #[.slice A n c, .iface 149 (.pointer (some b)), .func (.func 69) #[] #[.pointer (some ⟨p1, 0, none⟩), .pointer (some ⟨p2, 0, none⟩), .pointer (some ⟨p3, 0, none⟩), .pointer (some ⟨p4, 0, none⟩)]] w (RetErr g (allOk xs && (hsOf xs).all p) (allOk xs) w) := by
  have HN := Lib.hid hn
  have HA := Lib.hid ha
  have HX := Lib.hid hx
  have HS := Lib.hid hs
  have HW := Lib.hid hw
  have HP := Lib.hid hp
  clear hn ha hx hs hw hp
  cases hok : allOk xs
  · obtain ⟨a, -, -, -, -, -, h1, -⟩ := HS.out.s
    have HG := Lib.hid h1
    have hgz := block_lt_of_cell h1
    simp only [] at hgz
    go_enter Tryz.func67, Tryz.ntmps67
    go_wp2_with fail
    refine (impl_allright A n c xs _ HA.out HN.out (by omega) HX.out).mono ?_
    rintro e w1 ⟨rfl, hb⟩
    rw [hok]
    have h1' := (hb.cell (p := ⟨0, 0, none⟩) hgz).trans h1
    have HB := Lib.hid hb
    clear hb h1
    go_wp2
    go_ret
    exact ⟨_, rfl, .inr (.inl ⟨rfl, rfl, h1'⟩), HB.out⟩
  · have HOK := Lib.hid hok
    go_enter Tryz.func67, Tryz.ntmps67
    go_wp2_with fail
    refine (impl_allright A n c xs _ HA.out HN.out (by omega) HX.out).mono ?_
    rintro e w1 ⟨rfl, hb⟩
    rw [hok]
    have HB := Lib.hid hb
    clear hb
    go_wp2
    have HO0 : Hid ((w1.alloc (.cells #[.int .i64 (-1)] 2)).ownsRow w1.heap.size 2 1 (.slice (some ⟨w1.heap.size, 0, none⟩) 1 1) 1 (nmcells (-1 :: keysOf (xs.take 0)))) := Lib.hid (World.ownsRow_lit (e := 2) (size := 1) (base := w1.heap.size) w1 #[.int .i64 (-1)] 1 (Nat.le_refl _) (by unfold maxLen; omega) rfl)
    have HB0 : Hid (Below w1.heap.size w1 (w1.alloc (.cells #[.int .i64 (-1)] 2))) := Lib.hid (by go_grown)
    go_loopw [7, 19] (fun s i wr => ∃ (k m : Nat), k ≤ n ∧ m ≤ 8 * k + 1 ∧ i = .int .i64 k ∧ Hid ((hsOf (xs.take k)).length = m) ∧ Hid (wr.ownsRow w1.heap.size 2 1 s m (nmcells (hsOf (xs.take k)))) ∧ Hid (Below w1.heap.size w1 wr)) (fun _ i _ => n - (intOf i).toNat)
    case atStart => exact ⟨0, 1, by omega, by omega, rfl, Lib.hid rfl, HO0, HB0⟩
    case round =>
      clear HO0 HB0
      obtain ⟨k, m, hk, hm, rfl, HM, HO, HBr⟩ := hrel
      have HBw := Lib.hid (below_more HB.out HBr.out)
      by_cases hlt : k < n
      · obtain ⟨b1, o1, x, rfl, hx, cx, cy⟩ := lbat (HA.out.below HBw.out) (k := k) (by have := HN.out; omega)
        have HR := Lib.hid ((HX.out.below HBw.out).at hx)
        have HLX : Hid (x.l.parts.length ≤ 8) := Lib.hid (labOk_short (allOk_at HOK.out hx))
        have HT := Lib.hid (keys_step hx)
        clear hx
        go_wp2_with (first
          | (go_at_call 80
             refine (impl_parts _ _ _ _ _).mono ?_
             rintro e w2 ⟨rfl, hb⟩
             have HB2 : Hid (Below wr.heap.size wr w2) := Lib.hid (over_alloc hb)
             clear hb)
          | (go_at_call 92
             obtain ⟨A7, n7, c7, e7, hn7, hl7, hc7, hm7, ha7⟩ := HR.out.below HB2.out
             cases e7
             refine (impl_keys _ x.n x.c x.l.parts _ ha7 hn7 hl7).mono ?_
             rintro e w3 ⟨v3, rfl, ho3, hb⟩
             have HB3 : Hid (Below wr.heap.size wr w3) := Lib.hid (below_more HB2.out hb)
             have HO3 := Lib.hid (own_below HO.out HB3.out)
             have HN3 := Lib.hid hn7
             obtain ⟨A8, c8, rfl, -, -, ha8⟩ := own_at ho3
             have HA8 := Lib.hid ha8
             clear ha7 hn7 hl7 hc7 hm7 ha8 ho3 hb)
          | (at_builtin
             refine wpList_app elemInt rfl (.tmp 23) (.tmp 26) rfl w1.heap.size _ m _ rfl HO3.out A8 x.n c8 (nmcells (x.l.parts.map (·.1))) rfl HA8.out (by rw [nmcells_length, List.length_map, HN3.out]) (nmcells_one _) (by have := HLX.out; have := HN3.out; omega) (by have := HLX.out; have := HN3.out; omega) (Nat.le_trans HBr.out.size HB3.out.size) ?_
             intro v4 w4 hap
             have HP4 := Lib.hid hap
             have HB4 : Hid (Below w1.heap.size w1 w4) := Lib.hid ((below_more HBr.out HB3.out).grown hap.grown (Nat.le_trans HBr.out.size HB3.out.size) (fun j hj => (HO3.out.lt j hj).1))
             clear hap))
        go_roundw
        case rel => exact ⟨k + 1, m + x.n, by omega, by have := HLX.out; have := HN3.out; omega, by go_num, Lib.hid (by rw [HT.out, List.length_append, HM.out, List.length_map, HN3.out]), Lib.hid (by rw [HT.out, nmcells_append]; exact HP4.out.own), HB4⟩
        case measure => simp [intOf]; omega
      · obtain rfl : k = n := by omega
        have HOZ : Hid (wr.ownsRow w1.heap.size 2 1 u7 m (nmcells (hsOf xs))) := Lib.hid (by have h := HO.out; rwa [List.take_of_length_le (by have := HN.out; omega)] at h)
        have HMZ : Hid ((hsOf xs).length = m) := Lib.hid (by have h := HM.out; rwa [List.take_of_length_le (by have := HN.out; omega)] at h)
        obtain ⟨A9, c9, rfl, -, -, ha9⟩ := own_at HOZ.out
        have HA9 := Lib.hid ha9
        clear ha9 HO HM
        go_wp2
        go_loopw [31] (fun i wz => ∃ k2 : Nat, k2 ≤ m ∧ i = .int .i64 k2 ∧ Hid (AllL p (hsOf xs) k2) ∧ Hid (Below wr.heap.size wr wz)) (fun i _ => m - (intOf i).toNat)
        case atStart => exact ⟨0, by omega, rfl, Lib.hid (.zero _ _), Lib.hid (.refl _ _)⟩
        case round =>
          obtain ⟨k2, hk2, rfl, HS2, HBz⟩ := hrel
          have HBzw := Lib.hid (below_more HBw.out HBz.out)
          by_cases hlt2 : k2 < m
          · obtain ⟨b9, o9, x, rfl, hx, cx⟩ := nmat (HA9.out.below HBz.out) (k := k2) (by have := HMZ.out; omega)
            cases hpx : p x
            · have HF : Hid ((true && (hsOf xs).all p) = false) := Lib.hid (by rw [HS2.out.bad hx hpx]; rfl)
              clear hx HS2
              go_wp2_with (go_at_call 69; refine (HP.out HOK.out x _ HBzw.out).mono ?_; rintro e w5 ⟨rfl, hb⟩; rw [hpx]; have HB5 := Lib.hid (below_more HBzw.out hb); clear hb)
              go_ret
              exact ⟨_, rfl, .inr (.inr ⟨HF.out, rfl, x, b, (HB5.out.cell (block_lt_of_cell HW.out)).trans HW.out, rfl⟩), HB5.out⟩
            · have HS3 := Lib.hid (HS2.out.succ hx hpx)
              clear hx HS2
              go_wp2_with (go_at_call 69; refine (HP.out HOK.out x _ HBzw.out).mono ?_; rintro e w5 ⟨rfl, hb⟩; rw [hpx]; have HB5 := Lib.hid (below_more HBz.out hb); clear hb)
              go_roundw
              case rel => exact ⟨k2 + 1, by omega, by go_num, HS3, HB5⟩
              case measure => simp [intOf]; omega
          · obtain rfl : k2 = m := by omega
            have HT : Hid ((true && (hsOf xs).all p) = true) := Lib.hid (by rw [HS2.out.done (by have := HMZ.out; omega)]; rfl)
            clear HS2
            go_wp2
            go_ret
            exact ⟨_, rfl, .inl ⟨HT.out, rfl⟩, HBzw.out⟩

end Go.Proofs.YtnpeojlhjbdjiaaGreatDoor

/-
  What is asked of one handle that no label names, and of all that are named, is asked of every handle. No program, no memory.
-/
namespace Go.Proofs.YtnpeojlhjbdjiaaGreatDoor
set_option maxRecDepth 100000

theorem allOk_map (X : List LB) : allOk X = (X.map (·.l)).all labOk := by simp [allOk, List.all_map, Function.comp_def]
theorem mem_hsOf {X : List LB} {x : Int} : x ∈ hsOf X ↔ x = -1 ∨ ∃ l ∈ X.map (·.l), x ∈ l.parts.map (·.1) := by
  simp only [hsOf, keysOf, List.mem_cons, List.mem_flatMap, List.mem_map]
  constructor
  · rintro (h | ⟨y, hy, h⟩)
    · exact .inl h
    · exact .inr ⟨y.l, ⟨y, hy, rfl⟩, h⟩
  · rintro (h | ⟨l, ⟨y, hy, rfl⟩, h⟩)
    · exact .inl h
    · exact .inr ⟨y, hy, h⟩
theorem cover1 {p : Int → Bool} {hs : List Int} (hm : (-1 : Int) ∈ hs) (hb : ∀ x, x ∉ hs → p x = p (-1)) : hs.all p = true ↔ ∀ x, p x = true := by
  constructor
  · intro h x
    have h' := List.all_eq_true.1 h
    by_cases hx : x ∈ hs
    · exact h' x hx
    · rw [hb x hx]; exact h' _ hm
  · intro h
    exact List.all_eq_true.2 fun x _ => h x
theorem no_minus {l : Lab} (h : labOk l = true) : (-1 : Int) ∉ l.parts.map (·.1) := fun hm => by
  obtain ⟨q, hq, he⟩ := List.mem_map.1 hm
  have := of_hOk (partsOk_mem (labOk_partsOk h) q hq).1
  omega
theorem out_lev {X : List LB} (h : allOk X = true) {l : Lab} (hl : l ∈ X.map (·.l)) {x : Int} (hx : x ∉ hsOf X) : lev l x = lev l (-1) := by
  rw [allOk_map] at h
  have ho := List.all_eq_true.1 h l hl
  have h1 : x ∉ l.parts.map (·.1) := fun hm => hx (mem_hsOf.2 (.inr ⟨l, hl, hm⟩))
  rw [lev_none h1, lev_none (no_minus ho)]
theorem bool_iff {a b : Bool} (h : a = true ↔ b = true) : a = b := by cases a <;> cases b <;> simp_all
theorem allowed_all {s : Lab} {t : Tm} {X : List LB} (hX : X.map (·.l) = [t.taint, t.clear, t.raise, t.verify, s]) : (allOk X && (hsOf X).all (mayL s t)) = allowed s t := by
  cases ho : allOk X
  · rw [allOk_map, hX] at ho
    have h2 : (termsOk t && labOk s) = false := by rw [← ho]; simp [termsOk, Bool.and_assoc]
    cases ha : labOk s
    · simp [allowed, ha]
    · rw [ha, Bool.and_true] at h2
      simp [allowed, ha, h2]
  · have h1 := ho
    rw [allOk_map, hX] at h1
    have h2 : labOk s = true ∧ termsOk t = true := by simp at h1; simp [termsOk, h1]
    refine bool_iff ?_
    rw [allowed_iff h2.1 h2.2, Bool.true_and]
    refine cover1 (mem_hsOf.2 (.inl rfl)) (fun x hx => ?_)
    have e1 : lev s x = lev s (-1) := out_lev ho (by rw [hX]; simp) hx
    have e2 : lev t.clear x = lev t.clear (-1) := out_lev ho (by rw [hX]; simp) hx
    have e3 : lev t.raise x = lev t.raise (-1) := out_lev ho (by rw [hX]; simp) hx
    simp only [mayL, e1, e2, e3]
theorem accepts_all {e r d : Lab} {t : Tm} {X : List LB} (hX : X.map (·.l) = [t.taint, t.clear, t.raise, t.verify, e, r, d]) : (allOk X && (hsOf X).all (inL e r t d)) = accepts e r t d := by
  cases ho : allOk X
  · rw [allOk_map, hX] at ho
    have h2 : (termsOk t && (labOk e && (labOk r && labOk d))) = false := by rw [← ho]; simp [termsOk, Bool.and_assoc]
    cases he : labOk e
    · simp [accepts, he]
    · cases hr : labOk r
      · simp [accepts, hr]
      · cases ht : termsOk t
        · simp [accepts, ht]
        · cases hd : labOk d
          · simp [accepts, hd]
          · rw [he, hr, ht, hd] at h2; cases h2
  · have h1 := ho
    rw [allOk_map, hX] at h1
    have h2 : labOk e = true ∧ labOk r = true ∧ termsOk t = true ∧ labOk d = true := by simp at h1; simp [termsOk, h1]
    refine bool_iff ?_
    rw [accepts_iff h2.1 h2.2.1 h2.2.2.1 h2.2.2.2, Bool.true_and]
    refine cover1 (mem_hsOf.2 (.inl rfl)) (fun x hx => ?_)
    have e1 : lev e x = lev e (-1) := out_lev ho (by rw [hX]; simp) hx
    have e2 : lev r x = lev r (-1) := out_lev ho (by rw [hX]; simp) hx
    have e3 : lev t.raise x = lev t.raise (-1) := out_lev ho (by rw [hX]; simp) hx
    have e4 : lev t.verify x = lev t.verify (-1) := out_lev ho (by rw [hX]; simp) hx
    have e5 : lev d x = lev d (-1) := out_lev ho (by rw [hX]; simp) hx
    simp only [inL, e1, e2, e3, e4, e5]
end Go.Proofs.YtnpeojlhjbdjiaaGreatDoor

/-
  Chapter 5 of the program: allowedTo and acceptedBy.
-/
namespace Go.Proofs.YtnpeojlhjbdjiaaGreatDoor
set_option maxRecDepth 100000
open Go.RowKit

set_option maxHeartbeats 8000000 in
theorem impl_acceptedby (v ur ud ue : Value) (t : Tm) (r d e : Lab) (w : World) (htm : RdTm w v t) (hr : RdLab w ur r) (hd : RdLab w ud d) (he : RdLab w ue e) (hs : Sent w 1) :
    Calls Tryz.prog 44 #[v, ur, ud, ue] w (RetErr 1 (accepts e r t d) (termsOk t && (labOk e && (labOk r && labOk d))) w) := by
  have HS := Lib.hid hs
  clear hs
  obtain ⟨-, b, -, -, -, -, -, hw, -, -, -⟩ := HS.out.s
  have HW := Lib.hid hw
  clear hw
  have RT := Lib.hid htm
  have Rr := Lib.hid hr
  obtain ⟨Ar, nr, cr, rfl, -⟩ := hr
  have Rd := Lib.hid hd
  obtain ⟨Ad, nd, cd, rfl, -⟩ := hd
  have Re := Lib.hid he
  obtain ⟨Ae, ne, ce, rfl, -⟩ := he
  obtain ⟨A0, n0, c0, A1, n1, c1, A2, n2, c2, A3, n3, c3, rfl, -, -, -, -⟩ := htm
  go_enter Tryz.func44, Tryz.ntmps44
  go_wp2
  generalize hW : (((w.alloc (.cells #[.int .i64 t.taint.base, .slice A0 n0 c0, .int .i64 t.clear.base, .slice A1 n1 c1, .int .i64 t.raise.base, .slice A2 n2 c2, .int .i64 t.verify.base, .slice A3 n3 c3] 33)).alloc (.cells #[.int .i64 r.base, .slice Ar nr cr] 26)).alloc (.cells #[.int .i64 d.base, .slice Ad nd cd] 26)).alloc (.cells #[.int .i64 e.base, .slice Ae ne ce] 26) = w0
  obtain ⟨b0, b1, b2, b3, hsz, bel⟩ := laid4b (ps := [.int .i64 t.taint.base, .slice A0 n0 c0, .int .i64 t.clear.base, .slice A1 n1 c1, .int .i64 t.raise.base, .slice A2 n2 c2, .int .i64 t.verify.base, .slice A3 n3 c3]) (rs := [.int .i64 r.base, .slice Ar nr cr]) (os := [.int .i64 d.base, .slice Ad nd cd]) (qs := [.int .i64 e.base, .slice Ae ne ce]) hW
  have B0 := Lib.hid b0
  have B1 := Lib.hid b1
  have B2 := Lib.hid b2
  have B3 := Lib.hid b3
  have HB := Lib.hid bel
  clear hW bel hsz b0 b1 b2 b3
  have HW0 : Hid (w0.cell? ⟨1, 0, none⟩ = some (.iface 149 (.pointer (some b)))) := Lib.hid ((HB.out.cell (block_lt_of_cell HW.out)).trans HW.out)
  refine wp_region_late 11 (fun w' => w'.cell? ⟨w.heap.size, 0, none⟩ = some (.int .i64 t.taint.base) ∧ w'.cell? ⟨w.heap.size, 1, none⟩ = some (.slice A0 n0 c0) ∧ w'.cell? ⟨w.heap.size, 2, none⟩ = some (.int .i64 t.clear.base) ∧ w'.cell? ⟨w.heap.size, 3, none⟩ = some (.slice A1 n1 c1) ∧ w'.cell? ⟨w.heap.size, 4, none⟩ = some (.int .i64 t.raise.base) ∧ w'.cell? ⟨w.heap.size, 5, none⟩ = some (.slice A2 n2 c2) ∧ w'.cell? ⟨w.heap.size, 6, none⟩ = some (.int .i64 t.verify.base) ∧ w'.cell? ⟨w.heap.size, 7, none⟩ = some (.slice A3 n3 c3) ∧ w'.cell? ⟨w.heap.size + 1, 0, none⟩ = some (.int .i64 r.base) ∧ w'.cell? ⟨w.heap.size + 1, 1, none⟩ = some (.slice Ar nr cr) ∧ w'.cell? ⟨w.heap.size + 1 + 1, 0, none⟩ = some (.int .i64 d.base) ∧ w'.cell? ⟨w.heap.size + 1 + 1, 1, none⟩ = some (.slice Ad nd cd) ∧ w'.cell? ⟨w.heap.size + 1 + 1 + 1, 0, none⟩ = some (.int .i64 e.base) ∧ w'.cell? ⟨w.heap.size + 1 + 1 + 1, 1, none⟩ = some (.slice Ae ne ce) ∧ w'.cell? ⟨1, 0, none⟩ = some (.iface 149 (.pointer (some b)))) (by kernel_rfl) ?_
  have HC : Hid (Below w0.heap.size w0 w0.drew) := Lib.hid (Below.refl _ _).drew
  generalize w0.drew = wx at HC ⊢
  refine WpLate.take (i := 0) (v := .agg #[.int .i64 t.taint.base, .slice A0 n0 c0, .int .i64 t.clear.base, .slice A1 n1 c1, .int .i64 t.raise.base, .slice A2 n2 c2, .int .i64 t.verify.base, .slice A3 n3 c3]) rfl (by kernel_rfl) (by kernel_rfl) (by kernel_rfl) (by kernel_rfl) (by kernel_rfl) (fun _ _ _ h => h) (Or.inl ⟨by rfl, fun w' hw => ?_⟩) ⟨(B0.out.below HC.out).cell 0 rfl, (B0.out.below HC.out).cell 1 rfl, (B0.out.below HC.out).cell 2 rfl, (B0.out.below HC.out).cell 3 rfl, (B0.out.below HC.out).cell 4 rfl, (B0.out.below HC.out).cell 5 rfl, (B0.out.below HC.out).cell 6 rfl, (B0.out.below HC.out).cell 7 rfl, (B1.out.below HC.out).cell 0 rfl, (B1.out.below HC.out).cell 1 rfl, (B2.out.below HC.out).cell 0 rfl, (B2.out.below HC.out).cell 1 rfl, (B3.out.below HC.out).cell 0 rfl, (B3.out.below HC.out).cell 1 rfl, (HC.out.cell (block_lt_of_cell HW0.out)).trans HW0.out⟩ ?_
  · obtain ⟨s0, s1, s2, s3, s4, s5, s6, s7, s8, s9, s10, s11, s12, s13, s14⟩ := hw
    go_simp
  try simp only [Act.put]
  try simp only [List.setIfInBounds_toArray]
  try simp only [List.set_cons_succ, List.set_cons_zero]
  refine WpLate.take (i := 2) (v := .agg #[.int .i64 e.base, .slice Ae ne ce]) rfl (by kernel_rfl) (by kernel_rfl) (by kernel_rfl) (by kernel_rfl) (by kernel_rfl) (fun _ _ _ h => h) (Or.inl ⟨by rfl, fun w' hw => ?_⟩) ⟨(B0.out.below HC.out).cell 0 rfl, (B0.out.below HC.out).cell 1 rfl, (B0.out.below HC.out).cell 2 rfl, (B0.out.below HC.out).cell 3 rfl, (B0.out.below HC.out).cell 4 rfl, (B0.out.below HC.out).cell 5 rfl, (B0.out.below HC.out).cell 6 rfl, (B0.out.below HC.out).cell 7 rfl, (B1.out.below HC.out).cell 0 rfl, (B1.out.below HC.out).cell 1 rfl, (B2.out.below HC.out).cell 0 rfl, (B2.out.below HC.out).cell 1 rfl, (B3.out.below HC.out).cell 0 rfl, (B3.out.below HC.out).cell 1 rfl, (HC.out.cell (block_lt_of_cell HW0.out)).trans HW0.out⟩ ?_
  · obtain ⟨s0, s1, s2, s3, s4, s5, s6, s7, s8, s9, s10, s11, s12, s13, s14⟩ := hw
    go_simp
  try simp only [Act.put]
  try simp only [List.setIfInBounds_toArray]
  try simp only [List.set_cons_succ, List.set_cons_zero]
  refine WpLate.take (i := 3) (v := .agg #[.int .i64 r.base, .slice Ar nr cr]) rfl (by kernel_rfl) (by kernel_rfl) (by kernel_rfl) (by kernel_rfl) (by kernel_rfl) (fun _ _ _ h => h) (Or.inl ⟨by rfl, fun w' hw => ?_⟩) ⟨(B0.out.below HC.out).cell 0 rfl, (B0.out.below HC.out).cell 1 rfl, (B0.out.below HC.out).cell 2 rfl, (B0.out.below HC.out).cell 3 rfl, (B0.out.below HC.out).cell 4 rfl, (B0.out.below HC.out).cell 5 rfl, (B0.out.below HC.out).cell 6 rfl, (B0.out.below HC.out).cell 7 rfl, (B1.out.below HC.out).cell 0 rfl, (B1.out.below HC.out).cell 1 rfl, (B2.out.below HC.out).cell 0 rfl, (B2.out.below HC.out).cell 1 rfl, (B3.out.below HC.out).cell 0 rfl, (B3.out.below HC.out).cell 1 rfl, (HC.out.cell (block_lt_of_cell HW0.out)).trans HW0.out⟩ ?_
  · obtain ⟨s0, s1, s2, s3, s4, s5, s6, s7, s8, s9, s10, s11, s12, s13, s14⟩ := hw
    go_simp
  try simp only [Act.put]
  try simp only [List.setIfInBounds_toArray]
  try simp only [List.set_cons_succ, List.set_cons_zero]
  refine WpLate.take (i := 4) (v := .agg #[.int .i64 d.base, .slice Ad nd cd]) rfl (by kernel_rfl) (by kernel_rfl) (by kernel_rfl) (by kernel_rfl) (by kernel_rfl) (fun _ _ _ h => h) (Or.inl ⟨by rfl, fun w' hw => ?_⟩) ⟨(B0.out.below HC.out).cell 0 rfl, (B0.out.below HC.out).cell 1 rfl, (B0.out.below HC.out).cell 2 rfl, (B0.out.below HC.out).cell 3 rfl, (B0.out.below HC.out).cell 4 rfl, (B0.out.below HC.out).cell 5 rfl, (B0.out.below HC.out).cell 6 rfl, (B0.out.below HC.out).cell 7 rfl, (B1.out.below HC.out).cell 0 rfl, (B1.out.below HC.out).cell 1 rfl, (B2.out.below HC.out).cell 0 rfl, (B2.out.below HC.out).cell 1 rfl, (B3.out.below HC.out).cell 0 rfl, (B3.out.below HC.out).cell 1 rfl, (HC.out.cell (block_lt_of_cell HW0.out)).trans HW0.out⟩ ?_
  · obtain ⟨s0, s1, s2, s3, s4, s5, s6, s7, s8, s9, s10, s11, s12, s13, s14⟩ := hw
    go_simp
  try simp only [Act.put]
  try simp only [List.setIfInBounds_toArray]
  try simp only [List.set_cons_succ, List.set_cons_zero]
  refine WpLate.take (i := 7) (v := .iface 149 (.pointer (some b))) rfl (by kernel_rfl) (by kernel_rfl) (by kernel_rfl) (by kernel_rfl) (by kernel_rfl) (fun _ _ _ h => h) (Or.inl ⟨by rfl, fun w' hw => ?_⟩) ⟨(B0.out.below HC.out).cell 0 rfl, (B0.out.below HC.out).cell 1 rfl, (B0.out.below HC.out).cell 2 rfl, (B0.out.below HC.out).cell 3 rfl, (B0.out.below HC.out).cell 4 rfl, (B0.out.below HC.out).cell 5 rfl, (B0.out.below HC.out).cell 6 rfl, (B0.out.below HC.out).cell 7 rfl, (B1.out.below HC.out).cell 0 rfl, (B1.out.below HC.out).cell 1 rfl, (B2.out.below HC.out).cell 0 rfl, (B2.out.below HC.out).cell 1 rfl, (B3.out.below HC.out).cell 0 rfl, (B3.out.below HC.out).cell 1 rfl, (HC.out.cell (block_lt_of_cell HW0.out)).trans HW0.out⟩ ?_
  · obtain ⟨s0, s1, s2, s3, s4, s5, s6, s7, s8, s9, s10, s11, s12, s13, s14⟩ := hw
    go_simp
  try simp only [Act.put]
  try simp only [List.setIfInBounds_toArray]
  try simp only [List.set_cons_succ, List.set_cons_zero]
  refine WpLate.take (i := 8) (v := .func (.func 69) #[] #[.pointer (some ⟨w.heap.size, 0, none⟩), .pointer (some ⟨w.heap.size + 1 + 1, 0, none⟩), .pointer (some ⟨w.heap.size + 1, 0, none⟩), .pointer (some ⟨w.heap.size + 1 + 1 + 1, 0, none⟩)]) rfl (by kernel_rfl) (by kernel_rfl) (by kernel_rfl) (by kernel_rfl) (by kernel_rfl) (fun _ _ _ h => h) (Or.inl ⟨by rfl, fun w' hw => ?_⟩) ⟨(B0.out.below HC.out).cell 0 rfl, (B0.out.below HC.out).cell 1 rfl, (B0.out.below HC.out).cell 2 rfl, (B0.out.below HC.out).cell 3 rfl, (B0.out.below HC.out).cell 4 rfl, (B0.out.below HC.out).cell 5 rfl, (B0.out.below HC.out).cell 6 rfl, (B0.out.below HC.out).cell 7 rfl, (B1.out.below HC.out).cell 0 rfl, (B1.out.below HC.out).cell 1 rfl, (B2.out.below HC.out).cell 0 rfl, (B2.out.below HC.out).cell 1 rfl, (B3.out.below HC.out).cell 0 rfl, (B3.out.below HC.out).cell 1 rfl, (HC.out.cell (block_lt_of_cell HW0.out)).trans HW0.out⟩ ?_
  · obtain ⟨s0, s1, s2, s3, s4, s5, s6, s7, s8, s9, s10, s11, s12, s13, s14⟩ := hw
    go_simp
  try simp only [Act.put]
  try simp only [List.setIfInBounds_toArray]
  try simp only [List.set_cons_succ, List.set_cons_zero]
  refine WpLate.each (rs := [1, 5]) (by kernel_rfl) (by simp) (LateEach.cons rfl (fun K hK => ?_) (LateEach.cons rfl (fun K hK => ?_) LateEach.nil))
  · skip
    go_simp
    refine (impl_labels t A0 n0 c0 A1 n1 c1 A2 n2 c2 A3 n3 c3 _).mono ?_
    rintro e w2 ⟨v2, rfl, hown, hb⟩
    obtain ⟨A, c, rfl, -, -, -⟩ := own_at hown
    have HO2 := Lib.hid hown
    have HC2 := Lib.hid (below_more HC.out hb)
    have SZ : Hid (wx.heap.size ≤ w2.heap.size) := Lib.hid hb.size
    clear hown hb
    refine hK.out _ _ (fun _ => ⟨(B0.out.below HC2.out).cell 0 rfl, (B0.out.below HC2.out).cell 1 rfl, (B0.out.below HC2.out).cell 2 rfl, (B0.out.below HC2.out).cell 3 rfl, (B0.out.below HC2.out).cell 4 rfl, (B0.out.below HC2.out).cell 5 rfl, (B0.out.below HC2.out).cell 6 rfl, (B0.out.below HC2.out).cell 7 rfl, (B1.out.below HC2.out).cell 0 rfl, (B1.out.below HC2.out).cell 1 rfl, (B2.out.below HC2.out).cell 0 rfl, (B2.out.below HC2.out).cell 1 rfl, (B3.out.below HC2.out).cell 0 rfl, (B3.out.below HC2.out).cell 1 rfl, (HC2.out.cell (block_lt_of_cell HW0.out)).trans HW0.out⟩) ?_
    try simp only [Act.put]
    try simp only [List.setIfInBounds_toArray]
    try simp only [List.set_cons_succ, List.set_cons_zero]
    refine WpLate.each (rs := [5]) (by kernel_rfl) (by simp) (LateEach.cons rfl (fun K hK => ?_) LateEach.nil)
    go_simp
    have hal : Below w2.heap.size w2 (w2.alloc (.cells #[.int .i64 e.base, .slice Ae ne ce, .int .i64 r.base, .slice Ar nr cr, .int .i64 d.base, .slice Ad nd cd] 26)) := (Below.refl _ _).alloc (Nat.le_refl _) _
    have HC3 := Lib.hid (below_more HC2.out hal)
    have HO := Lib.hid (own_below HO2.out hal)
    have HY : Hid (At (w2.alloc (.cells #[.int .i64 e.base, .slice Ae ne ce, .int .i64 r.base, .slice Ar nr cr, .int .i64 d.base, .slice Ad nd cd] 26)) (some ⟨w2.heap.size, 0, none⟩) (lbcells [⟨e, Ae, ne, ce⟩, ⟨r, Ar, nr, cr⟩, ⟨d, Ad, nd, cd⟩])) := Lib.hid (fun _ => ⟨w2.heap.size, 0, rfl, fun j u hj => by rw [Nat.zero_add]; exact (World.cell?_alloc_new _ _ _ _).trans (by simpa [lbcells, flat, encLB] using hj)⟩)
    obtain ⟨wb, hwb⟩ : ∃ wb, wb = wx.heap.size := ⟨_, rfl⟩
    have HBL : Hid (w0.heap.size ≤ wb) := Lib.hid (by rw [hwb]; exact HC.out.size)
    have HBS : Hid (wb ≤ (w2.alloc (.cells #[.int .i64 e.base, .slice Ae ne ce, .int .i64 r.base, .slice Ar nr cr, .int .i64 d.base, .slice Ad nd cd] 26)).heap.size) := Lib.hid (by rw [hwb]; have := SZ.out; simp; omega)
    rw [← hwb] at HO
    obtain ⟨yb, hyb⟩ : ∃ yb, yb = w2.heap.size := ⟨_, rfl⟩
    rw [← hyb] at HY ⊢
    refine hK.out _ _ (fun _ => ⟨(B0.out.below HC3.out).cell 0 rfl, (B0.out.below HC3.out).cell 1 rfl, (B0.out.below HC3.out).cell 2 rfl, (B0.out.below HC3.out).cell 3 rfl, (B0.out.below HC3.out).cell 4 rfl, (B0.out.below HC3.out).cell 5 rfl, (B0.out.below HC3.out).cell 6 rfl, (B0.out.below HC3.out).cell 7 rfl, (B1.out.below HC3.out).cell 0 rfl, (B1.out.below HC3.out).cell 1 rfl, (B2.out.below HC3.out).cell 0 rfl, (B2.out.below HC3.out).cell 1 rfl, (B3.out.below HC3.out).cell 0 rfl, (B3.out.below HC3.out).cell 1 rfl, (HC3.out.cell (block_lt_of_cell HW0.out)).trans HW0.out⟩) ?_
    clear hwb hyb hal SZ HO2
    generalize w2.alloc (.cells #[.int .i64 e.base, .slice Ae ne ce, .int .i64 r.base, .slice Ar nr cr, .int .i64 d.base, .slice Ad nd cd] 26) = w3 at HC3 HO HY HBS ⊢
    try simp only [Act.put]
    try simp only [List.setIfInBounds_toArray]
    try simp only [List.set_cons_succ, List.set_cons_zero]
    refine WpLate.each (rs := [6]) (by kernel_rfl) (by simp) (LateEach.cons rfl (fun K hK => ?_) LateEach.nil)
    refine step_app elemLab rfl (.tmp 10) (.tmp 14) rfl wb (.slice A 4 c) 4 (lbcells (lbsOf t A0 n0 c0 A1 n1 c1 A2 n2 c2 A3 n3 c3)) rfl HO.out (some ⟨yb, 0, none⟩) 3 3 (lbcells [⟨e, Ae, ne, ce⟩, ⟨r, Ar, nr, cr⟩, ⟨d, Ad, nd, cd⟩]) rfl HY.out rfl (lbcells_one _) (by omega) (by omega) HBS.out ?_
    intro v4 w4 hap
    have HC4 : Hid (Below w0.heap.size w0 w4) := Lib.hid (HC3.out.grown hap.grown HC3.out.size (fun j hj => Nat.le_trans HBL.out (HO.out.lt j hj).1))
    have HB4 : Hid (Below w.heap.size w w4) := Lib.hid (below_more HB.out HC4.out)
    obtain ⟨A5, c5, rfl, -, -, ha5⟩ := own_at hap.own
    rw [← lbcells_append] at ha5
    have HA5 := Lib.hid ha5
    clear hap ha5 HO HY
    refine hK.out _ _ (fun _ => ⟨(B0.out.below HC4.out).cell 0 rfl, (B0.out.below HC4.out).cell 1 rfl, (B0.out.below HC4.out).cell 2 rfl, (B0.out.below HC4.out).cell 3 rfl, (B0.out.below HC4.out).cell 4 rfl, (B0.out.below HC4.out).cell 5 rfl, (B0.out.below HC4.out).cell 6 rfl, (B0.out.below HC4.out).cell 7 rfl, (B1.out.below HC4.out).cell 0 rfl, (B1.out.below HC4.out).cell 1 rfl, (B2.out.below HC4.out).cell 0 rfl, (B2.out.below HC4.out).cell 1 rfl, (B3.out.below HC4.out).cell 0 rfl, (B3.out.below HC4.out).cell 1 rfl, (HC4.out.cell (block_lt_of_cell HW0.out)).trans HW0.out⟩) ?_
    try simp only [Act.put]
    try simp only [List.setIfInBounds_toArray]
    try simp only [List.set_cons_succ, List.set_cons_zero]
    refine WpLate.each (rs := [9]) (by kernel_rfl) (by simp) (LateEach.cons rfl (fun K hK => ?_) LateEach.nil)
    go_simp
    refine (first_accepts A5 7 c5 (lbsOf t A0 n0 c0 A1 n1 c1 A2 n2 c2 A3 n3 c3 ++ [⟨e, Ae, ne, ce⟩, ⟨r, Ar, nr, cr⟩, ⟨d, Ad, nd, cd⟩]) 1 b (inL e r t d) (w.heap.size) (w.heap.size + 1 + 1) (w.heap.size + 1) (w.heap.size + 1 + 1 + 1) w4 HA5.out rfl (by omega) (.append (lbs_read (RT.out.below HB4.out)) (.cons (Re.out.below HB4.out) (.cons (Rr.out.below HB4.out) (.cons (Rd.out.below HB4.out) (.nil _))))) (HS.out.below HB4.out) ((HB4.out.cell (block_lt_of_cell HW.out)).trans HW.out)
      (fun hok x w5 hb5 => clo_accepts x _ _ _ _ t d r e w5 ⟨by have h := hok; rw [allOk_map] at h; simp [lbsOf] at h; simp [termsOk, h], A0, n0, c0, A1, n1, c1, A2, n2, c2, A3, n3, c3, (B0.out.below (below_more HC4.out hb5)).has, RT.out.below (below_more HB4.out hb5)⟩ ⟨by have h := hok; rw [allOk_map] at h; simp [lbsOf] at h; simp [h], Ad, nd, cd, (B2.out.below (below_more HC4.out hb5)).has, Rd.out.below (below_more HB4.out hb5)⟩ ⟨by have h := hok; rw [allOk_map] at h; simp [lbsOf] at h; simp [h], Ar, nr, cr, (B1.out.below (below_more HC4.out hb5)).has, Rr.out.below (below_more HB4.out hb5)⟩ ⟨by have h := hok; rw [allOk_map] at h; simp [lbsOf] at h; simp [h], Ae, ne, ce, (B3.out.below (below_more HC4.out hb5)).has, Re.out.below (below_more HB4.out hb5)⟩)).mono ?_
    rintro e6 w6 ⟨v6, rfl, he, hb6⟩
    have HC6 := Lib.hid (below_more HC4.out hb6)
    have HE : Hid (IsErr w6 1 (accepts e r t d) (termsOk t && (labOk e && (labOk r && labOk d))) v6) := Lib.hid (by
      have h1 : (allOk (lbsOf t A0 n0 c0 A1 n1 c1 A2 n2 c2 A3 n3 c3 ++ [⟨e, Ae, ne, ce⟩, ⟨r, Ar, nr, cr⟩, ⟨d, Ad, nd, cd⟩]) && (hsOf (lbsOf t A0 n0 c0 A1 n1 c1 A2 n2 c2 A3 n3 c3 ++ [⟨e, Ae, ne, ce⟩, ⟨r, Ar, nr, cr⟩, ⟨d, Ad, nd, cd⟩])).all (inL e r t d)) = accepts e r t d := accepts_all rfl
      have h2 : allOk (lbsOf t A0 n0 c0 A1 n1 c1 A2 n2 c2 A3 n3 c3 ++ [⟨e, Ae, ne, ce⟩, ⟨r, Ar, nr, cr⟩, ⟨d, Ad, nd, cd⟩]) = (termsOk t && (labOk e && (labOk r && labOk d))) := by rw [allOk_map]; simp [lbsOf, termsOk, Bool.and_assoc]
      rw [h1, h2] at he
      exact he)
    clear he hb6
    refine hK.out _ _ (fun _ => ⟨(B0.out.below HC6.out).cell 0 rfl, (B0.out.below HC6.out).cell 1 rfl, (B0.out.below HC6.out).cell 2 rfl, (B0.out.below HC6.out).cell 3 rfl, (B0.out.below HC6.out).cell 4 rfl, (B0.out.below HC6.out).cell 5 rfl, (B0.out.below HC6.out).cell 6 rfl, (B0.out.below HC6.out).cell 7 rfl, (B1.out.below HC6.out).cell 0 rfl, (B1.out.below HC6.out).cell 1 rfl, (B2.out.below HC6.out).cell 0 rfl, (B2.out.below HC6.out).cell 1 rfl, (B3.out.below HC6.out).cell 0 rfl, (B3.out.below HC6.out).cell 1 rfl, (HC6.out.cell (block_lt_of_cell HW0.out)).trans HW0.out⟩) ?_
    try simp only [Act.put]
    try simp only [List.setIfInBounds_toArray]
    try simp only [List.set_cons_succ, List.set_cons_zero]
    refine WpLate.each (rs := [10]) (by kernel_rfl) (by simp) (LateEach.cons rfl (fun K hK => ?_) LateEach.nil)
    go_simp
    refine hK.out _ _ (fun _ => ⟨(B0.out.below HC6.out).cell 0 rfl, (B0.out.below HC6.out).cell 1 rfl, (B0.out.below HC6.out).cell 2 rfl, (B0.out.below HC6.out).cell 3 rfl, (B0.out.below HC6.out).cell 4 rfl, (B0.out.below HC6.out).cell 5 rfl, (B0.out.below HC6.out).cell 6 rfl, (B0.out.below HC6.out).cell 7 rfl, (B1.out.below HC6.out).cell 0 rfl, (B1.out.below HC6.out).cell 1 rfl, (B2.out.below HC6.out).cell 0 rfl, (B2.out.below HC6.out).cell 1 rfl, (B3.out.below HC6.out).cell 0 rfl, (B3.out.below HC6.out).cell 1 rfl, (HC6.out.cell (block_lt_of_cell HW0.out)).trans HW0.out⟩) ?_
    try simp only [Act.put]
    try simp only [List.setIfInBounds_toArray]
    try simp only [List.set_cons_succ, List.set_cons_zero]
    refine WpLate.done (by kernel_rfl) ?_ _
    go_wp2
    go_ret
    exact ⟨_, rfl, HE.out, below_more HB.out HC6.out⟩
  · skip
    go_simp
    have hal : Below wx.heap.size wx (wx.alloc (.cells #[.int .i64 e.base, .slice Ae ne ce, .int .i64 r.base, .slice Ar nr cr, .int .i64 d.base, .slice Ad nd cd] 26)) := (Below.refl _ _).alloc (Nat.le_refl _) _
    have HC2 := Lib.hid (below_more HC.out hal)
    have HY2 : Hid (At (wx.alloc (.cells #[.int .i64 e.base, .slice Ae ne ce, .int .i64 r.base, .slice Ar nr cr, .int .i64 d.base, .slice Ad nd cd] 26)) (some ⟨wx.heap.size, 0, none⟩) (lbcells [⟨e, Ae, ne, ce⟩, ⟨r, Ar, nr, cr⟩, ⟨d, Ad, nd, cd⟩])) := Lib.hid (fun _ => ⟨wx.heap.size, 0, rfl, fun j u hj => by rw [Nat.zero_add]; exact (World.cell?_alloc_new _ _ _ _).trans (by simpa [lbcells, flat, encLB] using hj)⟩)
    obtain ⟨yb, hyb⟩ : ∃ yb, yb = wx.heap.size := ⟨_, rfl⟩
    rw [← hyb] at HY2 ⊢
    refine hK.out _ _ (fun _ => ⟨(B0.out.below HC2.out).cell 0 rfl, (B0.out.below HC2.out).cell 1 rfl, (B0.out.below HC2.out).cell 2 rfl, (B0.out.below HC2.out).cell 3 rfl, (B0.out.below HC2.out).cell 4 rfl, (B0.out.below HC2.out).cell 5 rfl, (B0.out.below HC2.out).cell 6 rfl, (B0.out.below HC2.out).cell 7 rfl, (B1.out.below HC2.out).cell 0 rfl, (B1.out.below HC2.out).cell 1 rfl, (B2.out.below HC2.out).cell 0 rfl, (B2.out.below HC2.out).cell 1 rfl, (B3.out.below HC2.out).cell 0 rfl, (B3.out.below HC2.out).cell 1 rfl, (HC2.out.cell (block_lt_of_cell HW0.out)).trans HW0.out⟩) ?_
    clear hyb hal
    generalize wx.alloc (.cells #[.int .i64 e.base, .slice Ae ne ce, .int .i64 r.base, .slice Ar nr cr, .int .i64 d.base, .slice Ad nd cd] 26) = w2 at HC2 HY2 ⊢
    try simp only [Act.put]
    try simp only [List.setIfInBounds_toArray]
    try simp only [List.set_cons_succ, List.set_cons_zero]
    refine WpLate.each (rs := [1]) (by kernel_rfl) (by simp) (LateEach.cons rfl (fun K hK => ?_) LateEach.nil)
    go_simp
    refine (impl_labels t A0 n0 c0 A1 n1 c1 A2 n2 c2 A3 n3 c3 _).mono ?_
    rintro e w3 ⟨v2, rfl, hown, hb⟩
    obtain ⟨A, c, rfl, -, -, -⟩ := own_at hown
    have HC3 := Lib.hid (below_more HC2.out hb)
    have HY := Lib.hid (HY2.out.below hb)
    have HO := Lib.hid hown
    obtain ⟨wb, hwb⟩ : ∃ wb, wb = w2.heap.size := ⟨_, rfl⟩
    have HBL : Hid (w0.heap.size ≤ wb) := Lib.hid (by rw [hwb]; exact HC2.out.size)
    have HBS : Hid (wb ≤ w3.heap.size) := Lib.hid (by rw [hwb]; exact hb.size)
    rw [← hwb] at HO
    clear hown hb hwb HY2
    refine hK.out _ _ (fun _ => ⟨(B0.out.below HC3.out).cell 0 rfl, (B0.out.below HC3.out).cell 1 rfl, (B0.out.below HC3.out).cell 2 rfl, (B0.out.below HC3.out).cell 3 rfl, (B0.out.below HC3.out).cell 4 rfl, (B0.out.below HC3.out).cell 5 rfl, (B0.out.below HC3.out).cell 6 rfl, (B0.out.below HC3.out).cell 7 rfl, (B1.out.below HC3.out).cell 0 rfl, (B1.out.below HC3.out).cell 1 rfl, (B2.out.below HC3.out).cell 0 rfl, (B2.out.below HC3.out).cell 1 rfl, (B3.out.below HC3.out).cell 0 rfl, (B3.out.below HC3.out).cell 1 rfl, (HC3.out.cell (block_lt_of_cell HW0.out)).trans HW0.out⟩) ?_
    try simp only [Act.put]
    try simp only [List.setIfInBounds_toArray]
    try simp only [List.set_cons_succ, List.set_cons_zero]
    refine WpLate.each (rs := [6]) (by kernel_rfl) (by simp) (LateEach.cons rfl (fun K hK => ?_) LateEach.nil)
    refine step_app elemLab rfl (.tmp 10) (.tmp 14) rfl wb (.slice A 4 c) 4 (lbcells (lbsOf t A0 n0 c0 A1 n1 c1 A2 n2 c2 A3 n3 c3)) rfl HO.out (some ⟨yb, 0, none⟩) 3 3 (lbcells [⟨e, Ae, ne, ce⟩, ⟨r, Ar, nr, cr⟩, ⟨d, Ad, nd, cd⟩]) rfl HY.out rfl (lbcells_one _) (by omega) (by omega) HBS.out ?_
    intro v4 w4 hap
    have HC4 : Hid (Below w0.heap.size w0 w4) := Lib.hid (HC3.out.grown hap.grown HC3.out.size (fun j hj => Nat.le_trans HBL.out (HO.out.lt j hj).1))
    have HB4 : Hid (Below w.heap.size w w4) := Lib.hid (below_more HB.out HC4.out)
    obtain ⟨A5, c5, rfl, -, -, ha5⟩ := own_at hap.own
    rw [← lbcells_append] at ha5
    have HA5 := Lib.hid ha5
    clear hap ha5 HO HY
    refine hK.out _ _ (fun _ => ⟨(B0.out.below HC4.out).cell 0 rfl, (B0.out.below HC4.out).cell 1 rfl, (B0.out.below HC4.out).cell 2 rfl, (B0.out.below HC4.out).cell 3 rfl, (B0.out.below HC4.out).cell 4 rfl, (B0.out.below HC4.out).cell 5 rfl, (B0.out.below HC4.out).cell 6 rfl, (B0.out.below HC4.out).cell 7 rfl, (B1.out.below HC4.out).cell 0 rfl, (B1.out.below HC4.out).cell 1 rfl, (B2.out.below HC4.out).cell 0 rfl, (B2.out.below HC4.out).cell 1 rfl, (B3.out.below HC4.out).cell 0 rfl, (B3.out.below HC4.out).cell 1 rfl, (HC4.out.cell (block_lt_of_cell HW0.out)).trans HW0.out⟩) ?_
    try simp only [Act.put]
    try simp only [List.setIfInBounds_toArray]
    try simp only [List.set_cons_succ, List.set_cons_zero]
    refine WpLate.each (rs := [9]) (by kernel_rfl) (by simp) (LateEach.cons rfl (fun K hK => ?_) LateEach.nil)
    go_simp
    refine (first_accepts A5 7 c5 (lbsOf t A0 n0 c0 A1 n1 c1 A2 n2 c2 A3 n3 c3 ++ [⟨e, Ae, ne, ce⟩, ⟨r, Ar, nr, cr⟩, ⟨d, Ad, nd, cd⟩]) 1 b (inL e r t d) (w.heap.size) (w.heap.size + 1 + 1) (w.heap.size + 1) (w.heap.size + 1 + 1 + 1) w4 HA5.out rfl (by omega) (.append (lbs_read (RT.out.below HB4.out)) (.cons (Re.out.below HB4.out) (.cons (Rr.out.below HB4.out) (.cons (Rd.out.below HB4.out) (.nil _))))) (HS.out.below HB4.out) ((HB4.out.cell (block_lt_of_cell HW.out)).trans HW.out)
      (fun hok x w5 hb5 => clo_accepts x _ _ _ _ t d r e w5 ⟨by have h := hok; rw [allOk_map] at h; simp [lbsOf] at h; simp [termsOk, h], A0, n0, c0, A1, n1, c1, A2, n2, c2, A3, n3, c3, (B0.out.below (below_more HC4.out hb5)).has, RT.out.below (below_more HB4.out hb5)⟩ ⟨by have h := hok; rw [allOk_map] at h; simp [lbsOf] at h; simp [h], Ad, nd, cd, (B2.out.below (below_more HC4.out hb5)).has, Rd.out.below (below_more HB4.out hb5)⟩ ⟨by have h := hok; rw [allOk_map] at h; simp [lbsOf] at h; simp [h], Ar, nr, cr, (B1.out.below (below_more HC4.out hb5)).has, Rr.out.below (below_more HB4.out hb5)⟩ ⟨by have h := hok; rw [allOk_map] at h; simp [lbsOf] at h; simp [h], Ae, ne, ce, (B3.out.below (below_more HC4.out hb5)).has, Re.out.below (below_more HB4.out hb5)⟩)).mono ?_
    rintro e6 w6 ⟨v6, rfl, he, hb6⟩
    have HC6 := Lib.hid (below_more HC4.out hb6)
    have HE : Hid (IsErr w6 1 (accepts e r t d) (termsOk t && (labOk e && (labOk r && labOk d))) v6) := Lib.hid (by
      have h1 : (allOk (lbsOf t A0 n0 c0 A1 n1 c1 A2 n2 c2 A3 n3 c3 ++ [⟨e, Ae, ne, ce⟩, ⟨r, Ar, nr, cr⟩, ⟨d, Ad, nd, cd⟩]) && (hsOf (lbsOf t A0 n0 c0 A1 n1 c1 A2 n2 c2 A3 n3 c3 ++ [⟨e, Ae, ne, ce⟩, ⟨r, Ar, nr, cr⟩, ⟨d, Ad, nd, cd⟩])).all (inL e r t d)) = accepts e r t d := accepts_all rfl
      have h2 : allOk (lbsOf t A0 n0 c0 A1 n1 c1 A2 n2 c2 A3 n3 c3 ++ [⟨e, Ae, ne, ce⟩, ⟨r, Ar, nr, cr⟩, ⟨d, Ad, nd, cd⟩]) = (termsOk t && (labOk e && (labOk r && labOk d))) := by rw [allOk_map]; simp [lbsOf, termsOk, Bool.and_assoc]
      rw [h1, h2] at he
      exact he)
    clear he hb6
    refine hK.out _ _ (fun _ => ⟨(B0.out.below HC6.out).cell 0 rfl, (B0.out.below HC6.out).cell 1 rfl, (B0.out.below HC6.out).cell 2 rfl, (B0.out.below HC6.out).cell 3 rfl, (B0.out.below HC6.out).cell 4 rfl, (B0.out.below HC6.out).cell 5 rfl, (B0.out.below HC6.out).cell 6 rfl, (B0.out.below HC6.out).cell 7 rfl, (B1.out.below HC6.out).cell 0 rfl, (B1.out.below HC6.out).cell 1 rfl, (B2.out.below HC6.out).cell 0 rfl, (B2.out.below HC6.out).cell 1 rfl, (B3.out.below HC6.out).cell 0 rfl, (B3.out.below HC6.out).cell 1 rfl, (HC6.out.cell (block_lt_of_cell HW0.out)).trans HW0.out⟩) ?_
    try simp only [Act.put]
    try simp only [List.setIfInBounds_toArray]
    try simp only [List.set_cons_succ, List.set_cons_zero]
    refine WpLate.each (rs := [10]) (by kernel_rfl) (by simp) (LateEach.cons rfl (fun K hK => ?_) LateEach.nil)
    go_simp
    refine hK.out _ _ (fun _ => ⟨(B0.out.below HC6.out).cell 0 rfl, (B0.out.below HC6.out).cell 1 rfl, (B0.out.below HC6.out).cell 2 rfl, (B0.out.below HC6.out).cell 3 rfl, (B0.out.below HC6.out).cell 4 rfl, (B0.out.below HC6.out).cell 5 rfl, (B0.out.below HC6.out).cell 6 rfl, (B0.out.below HC6.out).cell 7 rfl, (B1.out.below HC6.out).cell 0 rfl, (B1.out.below HC6.out).cell 1 rfl, (B2.out.below HC6.out).cell 0 rfl, (B2.out.below HC6.out).cell 1 rfl, (B3.out.below HC6.out).cell 0 rfl, (B3.out.below HC6.out).cell 1 rfl, (HC6.out.cell (block_lt_of_cell HW0.out)).trans HW0.out⟩) ?_
    try simp only [Act.put]
    try simp only [List.setIfInBounds_toArray]
    try simp only [List.set_cons_succ, List.set_cons_zero]
    refine WpLate.done (by kernel_rfl) ?_ _
    go_wp2
    go_ret
    exact ⟨_, rfl, HE.out, below_more HB.out HC6.out⟩
end Go.Proofs.YtnpeojlhjbdjiaaGreatDoor

/-
  Chapter 5 of the program: Allowed and Accepts, where the program's sentinels are as they were laid.
-/
namespace Go.Proofs.YtnpeojlhjbdjiaaGreatDoor
set_option maxRecDepth 100000
open Go.RowKit

set_option maxHeartbeats 2000000 in
theorem impl_accepts (ue ur ut ud : Value) (e : Lab) (r : Lab) (t : Tm) (d : Lab) (w : World) (he : RdLab w ue e) (hr : RdLab w ur r) (ht : RdTm w ut t) (hd : RdLab w ud d) (hs : Sent w 1) :
    Calls Tryz.prog 20 #[ue, ur, ut, ud] w (RetV (.bool (accepts e r t d)) w) := by
  have HS := Lib.hid hs
  clear hs
  have Re := Lib.hid he
  obtain ⟨Ae, ne, ce, rfl, -⟩ := he
  have Rr := Lib.hid hr
  obtain ⟨Ar, nr, cr, rfl, -⟩ := hr
  have Rt := Lib.hid ht
  obtain ⟨A0, n0, c0, A1, n1, c1, A2, n2, c2, A3, n3, c3, rfl, -, -, -, -⟩ := ht
  have Rd := Lib.hid hd
  obtain ⟨Ad, nd, cd, rfl, -⟩ := hd
  go_enter Tryz.func20, Tryz.ntmps20
  go_wp2_with fail
  generalize hW : (((w.alloc (.cells #[.int .i64 e.base, .slice Ae ne ce] 26)).alloc (.cells #[.int .i64 r.base, .slice Ar nr cr] 26)).alloc (.cells #[.int .i64 t.taint.base, .slice A0 n0 c0, .int .i64 t.clear.base, .slice A1 n1 c1, .int .i64 t.raise.base, .slice A2 n2 c2, .int .i64 t.verify.base, .slice A3 n3 c3] 33)).alloc (.cells #[.int .i64 d.base, .slice Ad nd cd] 26) = w0
  have bel : Below w.heap.size w w0 := by rw [← hW]; go_grown
  have HB := Lib.hid bel
  clear hW bel
  refine (impl_acceptedby _ _ _ _ t r d e _ (Rt.out.below HB.out) (Rr.out.below HB.out) (Rd.out.below HB.out) (Re.out.below HB.out) (HS.out.below HB.out)).mono ?_
  rintro e9 w1 ⟨v9, rfl, he, hb⟩
  have HB1 := Lib.hid (below_more HB.out hb)
  have HE := Lib.hid he
  clear he hb
  go_wp2_with fail
  refine (impl_granted 1 (accepts e r t d) (termsOk t && (labOk e && (labOk r && labOk d))) v9 _ (HS.out.below HB1.out) HE.out).mono ?_
  rintro e9 w2 ⟨rfl, hb⟩
  go_wp2
  go_ret
  exact .mk rfl (below_more HB1.out hb)
end Go.Proofs.YtnpeojlhjbdjiaaGreatDoor
