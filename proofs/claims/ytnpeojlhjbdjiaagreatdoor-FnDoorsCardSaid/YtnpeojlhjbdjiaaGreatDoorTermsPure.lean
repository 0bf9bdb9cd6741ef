/-
  Texts put together: TermsPure, TermsLaws. What each proves stands ahead of it.
-/
import Derived.Test.YtnpeojlhjbdjiaaGreatDoorPure
import Derived.Test.YtnpeojlhjbdjiaaGreatDoorTm
import Derived.Test.YtnpeojlhjbdjiaaGreatDoorLike
/-
  Terms as plain data: right ones, what may be said, what is accepted. No program, no memory.
-/
namespace Go.Proofs.YtnpeojlhjbdjiaaGreatDoor
set_option maxRecDepth 100000

def termsOk (t : Tm) : Bool := labOk t.taint && (labOk t.clear && (labOk t.raise && labOk t.verify))
theorem termsOk_of {t : Tm} (h : termsOk t = true) : labOk t.taint = true ∧ labOk t.clear = true ∧ labOk t.raise = true ∧ labOk t.verify = true := by simpa [termsOk] using h
theorem termsOk_mk {t : Tm} (a : labOk t.taint = true) (b : labOk t.clear = true) (c : labOk t.raise = true) (d : labOk t.verify = true) : termsOk t = true := by simp [termsOk, a, b, c, d]
theorem termsOk_0 {t : Tm} (h : labOk t.taint = false) : termsOk t = false := by simp [termsOk, h]
theorem termsOk_1 {t : Tm} (h : labOk t.clear = false) : termsOk t = false := by simp [termsOk, h]
theorem termsOk_2 {t : Tm} (h : labOk t.raise = false) : termsOk t = false := by simp [termsOk, h]
theorem termsOk_3 {t : Tm} (h : labOk t.verify = false) : termsOk t = false := by simp [termsOk, h]
def noTm : Tm := ⟨⟨0, []⟩, ⟨4, []⟩, ⟨0, []⟩, ⟨4, []⟩⟩

/-- All of a list, from a place on. -/
def AllLeft (p : Int → Bool) (hs : List Int) (k : Nat) : Prop := hs.all p = (hs.drop k).all p
section
variable {p : Int → Bool} {hs : List Int} {k : Nat} {x : Int}
theorem AllLeft.zero (p : Int → Bool) (hs : List Int) : AllLeft p hs 0 := rfl
theorem AllLeft.succ (h : AllLeft p hs k) (hx : hs[k]? = some x) (hp : p x = true) : AllLeft p hs (k + 1) := by
  unfold AllLeft at h ⊢; rw [h, drop_at hx]; simp [hp]
theorem AllLeft.bad (h : AllLeft p hs k) (hx : hs[k]? = some x) (hp : p x = false) : hs.all p = false := by
  unfold AllLeft at h; rw [h, drop_at hx]; simp [hp]
theorem AllLeft.done (h : AllLeft p hs k) (hk : hs.length ≤ k) : hs.all p = true := by
  unfold AllLeft at h; rw [h, List.drop_eq_nil_of_le hk]; rfl
end
/-- Of every handle, where the list has all that are told otherwise. -/
theorem all_cover {p : Int → Bool} {hs : List Int} {b : Bool} (hb : ∀ x, x ∉ hs → p x = b) : (b && hs.all p) = true ↔ ∀ x, p x = true := by
  constructor
  · intro h x
    simp only [Bool.and_eq_true, List.all_eq_true] at h
    by_cases hx : x ∈ hs
    · exact h.2 x hx
    · rw [hb x hx]; exact h.1
  · intro h
    obtain ⟨x, hx⟩ := fresh hs
    have h1 := h x
    rw [hb x hx] at h1
    simp only [Bool.and_eq_true, List.all_eq_true]
    exact ⟨h1, fun y _ => h y⟩

def mayB (s c r : Int) : Bool := decide (s = 0) || (decide (c = 4) && decide (r = 0))
def mayL (s : Lab) (t : Tm) (x : Int) : Bool := mayB (lev s x) (lev t.clear x) (lev t.raise x)
def allowed (s : Lab) (t : Tm) : Bool := labOk s && (termsOk t && (mayB s.base t.clear.base t.raise.base && (hs3 s t.clear t.raise).all (mayL s t)))
theorem allowed_0 {s : Lab} {t : Tm} (h : labOk s = false) : allowed s t = false := by simp [allowed, h]
theorem allowed_1 {s : Lab} {t : Tm} (h : termsOk t = false) : allowed s t = false := by simp [allowed, h]
theorem allowed_2 {s : Lab} {t : Tm} (h : mayB s.base t.clear.base t.raise.base = false) : allowed s t = false := by simp [allowed, h]
theorem allowed_yes {s : Lab} {t : Tm} (a : labOk s = true) (b : termsOk t = true) (c : mayB s.base t.clear.base t.raise.base = true) : allowed s t = (hs3 s t.clear t.raise).all (mayL s t) := by simp [allowed, a, b, c]
theorem allowed_iff {s : Lab} {t : Tm} (a : labOk s = true) (b : termsOk t = true) : allowed s t = true ↔ ∀ x, mayL s t x = true := by
  have h := all_cover (p := mayL s t) (hs := hs3 s t.clear t.raise) (b := mayB s.base t.clear.base t.raise.base) (fun x hx => by
    rw [mem_hs3, not_or, not_or] at hx
    unfold mayL
    rw [lev_none hx.1.1, lev_none hx.1.2, lev_none hx.2])
  rw [← h]
  simp [allowed, a, b]

def inB (e r u v d : Int) : Bool := decide (e ≤ max r u) && (decide (e ≤ v) && (decide (e ≤ d) && decide (u ≤ d)))
def hs5 (a b c d e : Lab) : List Int := handlesIn (handlesIn (hs3 a b c) d.parts) e.parts
theorem mem_hs5 (a b c d e : Lab) (x : Int) : x ∈ hs5 a b c d e ↔ ((((x ∈ a.parts.map (·.1) ∨ x ∈ b.parts.map (·.1)) ∨ x ∈ c.parts.map (·.1)) ∨ x ∈ d.parts.map (·.1)) ∨ x ∈ e.parts.map (·.1)) := by
  unfold hs5; rw [mem_handlesIn, mem_handlesIn, mem_hs3]
theorem hs5_length (a b c d e : Lab) : (hs5 a b c d e).length ≤ a.parts.length + b.parts.length + c.parts.length + d.parts.length + e.parts.length := by
  have h1 := hs3_length a b c
  have h2 := handlesIn_length (hs3 a b c) d.parts
  have h3 := handlesIn_length (handlesIn (hs3 a b c) d.parts) e.parts
  unfold hs5; omega
def inL (e r : Lab) (t : Tm) (d : Lab) (x : Int) : Bool := inB (lev e x) (lev r x) (lev t.raise x) (lev t.verify x) (lev d x)
def accepts (e r : Lab) (t : Tm) (d : Lab) : Bool := labOk e && (labOk r && (termsOk t && (labOk d && (inB e.base r.base t.raise.base t.verify.base d.base && (hs5 e r t.raise t.verify d).all (inL e r t d)))))
section
variable {e r d : Lab} {t : Tm}
theorem accepts_0 (h : labOk e = false) : accepts e r t d = false := by simp [accepts, h]
theorem accepts_1 (h : labOk r = false) : accepts e r t d = false := by simp [accepts, h]
theorem accepts_2 (h : termsOk t = false) : accepts e r t d = false := by simp [accepts, h]
theorem accepts_3 (h : labOk d = false) : accepts e r t d = false := by simp [accepts, h]
theorem accepts_4 (h : inB e.base r.base t.raise.base t.verify.base d.base = false) : accepts e r t d = false := by simp [accepts, h]
theorem accepts_yes (a : labOk e = true) (b : labOk r = true) (c : termsOk t = true) (f : labOk d = true) (g : inB e.base r.base t.raise.base t.verify.base d.base = true) : accepts e r t d = (hs5 e r t.raise t.verify d).all (inL e r t d) := by simp [accepts, a, b, c, f, g]
theorem accepts_iff (a : labOk e = true) (b : labOk r = true) (c : termsOk t = true) (f : labOk d = true) : accepts e r t d = true ↔ ∀ x, inL e r t d x = true := by
  have h := all_cover (p := inL e r t d) (hs := hs5 e r t.raise t.verify d) (b := inB e.base r.base t.raise.base t.verify.base d.base) (fun x hx => by
    rw [mem_hs5, not_or, not_or, not_or, not_or] at hx
    unfold inL
    rw [lev_none hx.1.1.1.1, lev_none hx.1.1.1.2, lev_none hx.1.1.2, lev_none hx.1.2, lev_none hx.2])
  rw [← h]
  simp [accepts, a, b, c, f]
end
end Go.Proofs.YtnpeojlhjbdjiaaGreatDoor

/-
  Terms: what the law of chapter 5 asks, as plain data; terms that are alike.
-/
namespace Go.Proofs.YtnpeojlhjbdjiaaGreatDoor
set_option maxRecDepth 100000
open Go.RowKit

theorem allowed_noTm : allowed (plainL 2) noTm = true := by rfl
theorem plain_owns {t : Tm} (ht : termsOk t = true) (h : allowed (plainL 2) t = true) : t.clear = plainL 4 ∧ t.raise = plainL 0 := by
  have hk := (allowed_iff (s := plainL 2) (by rfl) ht).1 h
  obtain ⟨-, h1, h2, -⟩ := termsOk_of ht
  have hq : ∀ x, lev t.clear x = 4 ∧ lev t.raise x = 0 := fun x => by
    have q := hk x
    have e : lev (plainL 2) x = 2 := rfl
    unfold mayL at q
    rw [e] at q
    simpa [mayB] using q
  exact ⟨lab_ext h1 (by rfl) (fun x => by rw [(hq x).1]; rfl), lab_ext h2 (by rfl) (fun x => by rw [(hq x).2]; rfl)⟩
theorem accepts_of {e r d : Lab} {u : Tm} (h : accepts e r u d = true) : labOk e = true ∧ labOk r = true ∧ termsOk u = true ∧ labOk d = true ∧ ∀ x, inL e r u d x = true := by
  have a : labOk e = true := by simp [accepts] at h; exact h.1
  have b : labOk r = true := by simp [accepts] at h; exact h.2.1
  have c : termsOk u = true := by simp [accepts] at h; exact h.2.2.1
  have f : labOk d = true := by simp [accepts] at h; exact h.2.2.2.1
  exact ⟨a, b, c, f, (accepts_iff a b c f).1 h⟩
theorem accepts_heard {e r d : Lab} {u : Tm} (h : accepts e r u d = true) : ((joinL r u.raise).2 = true → atMost e (joinL r u.raise).1 = true) ∧ atMost e u.verify = true ∧ atMost e d = true ∧ atMost u.raise d = true := by
  obtain ⟨a, b, c, f, hx⟩ := accepts_of h
  obtain ⟨-, -, c2, c3⟩ := termsOk_of c
  have hq : ∀ x, lev e x ≤ max (lev r x) (lev u.raise x) ∧ lev e x ≤ lev u.verify x ∧ lev e x ≤ lev d x ∧ lev u.raise x ≤ lev d x := fun x => by
    have := hx x
    simp only [inL, inB, Bool.and_eq_true, decide_eq_true_eq] at this
    exact ⟨this.1, this.2.1, this.2.2.1, this.2.2.2⟩
  refine ⟨fun hj => ?_, (atMost_iff a c3).2 fun x => (hq x).2.1, (atMost_iff a f).2 fun x => (hq x).2.2.1, (atMost_iff c2 f).2 fun x => (hq x).2.2.2⟩
  obtain ⟨-, -, k, -, kl⟩ := joinL_law (l := r) (m := u.raise) (x := (joinL r u.raise).1) (by rw [← hj])
  exact (atMost_iff a k).2 fun x => by rw [kl]; exact (hq x).1

set_option maxHeartbeats 2000000 in
theorem like_tm (v u : Value) (t : Tm) (w : World) (h : RdTm w v t) (k : RdTm w u t) : Calls Tryz.prog 60 #[v, u] w (RetV (.bool true) w) := by
  obtain ⟨A0, n0, c0, A1, n1, c1, A2, n2, c2, A3, n3, c3, rfl, h0, h1, h2, h3⟩ := h
  obtain ⟨B0, m0, d0, B1, m1, d1, B2, m2, d2, B3, m3, d3, rfl, k0, k1, k2, k3⟩ := k
  have H0 := Lib.hid h0
  have H1 := Lib.hid h1
  have H2 := Lib.hid h2
  have H3 := Lib.hid h3
  have K0 := Lib.hid k0
  have K1 := Lib.hid k1
  have K2 := Lib.hid k2
  have K3 := Lib.hid k3
  clear h0 h1 h2 h3 k0 k1 k2 k3
  go_enter Tryz.func60, Tryz.ntmps60
  go_wp2_with fail
  generalize hW : (w.alloc (.cells #[.int .i64 t.taint.base, .slice A0 n0 c0, .int .i64 t.clear.base, .slice A1 n1 c1, .int .i64 t.raise.base, .slice A2 n2 c2, .int .i64 t.verify.base, .slice A3 n3 c3] 33)).alloc (.cells #[.int .i64 t.taint.base, .slice B0 m0 d0, .int .i64 t.clear.base, .slice B1 m1 d1, .int .i64 t.raise.base, .slice B2 m2 d2, .int .i64 t.verify.base, .slice B3 m3 d3] 33) = x0
  obtain ⟨pb, qb, hsz, bel⟩ := laid2 (ps := [.int .i64 t.taint.base, .slice A0 n0 c0, .int .i64 t.clear.base, .slice A1 n1 c1, .int .i64 t.raise.base, .slice A2 n2 c2, .int .i64 t.verify.base, .slice A3 n3 c3]) (rs := [.int .i64 t.taint.base, .slice B0 m0 d0, .int .i64 t.clear.base, .slice B1 m1 d1, .int .i64 t.raise.base, .slice B2 m2 d2, .int .i64 t.verify.base, .slice B3 m3 d3]) hW
  have PB := Lib.hid pb
  have QB := Lib.hid qb
  clear hW pb qb hsz
  refine (like_lab _ _ t.taint _ (H0.out.below bel) (K0.out.below bel)).mono ?_
  rintro e y0 ⟨rfl, hb⟩
  have P1 := Lib.hid (PB.out.below hb)
  have Q1 := Lib.hid (QB.out.below hb)
  have bel1 := below_more bel hb
  have a2 := P1.out.cell 2 rfl
  have a3 := P1.out.cell 3 rfl
  have b2 := Q1.out.cell 2 rfl
  have b3 := Q1.out.cell 3 rfl
  clear PB QB hb
  go_wp2_with fail
  refine (like_lab _ _ t.clear _ (H1.out.below bel1) (K1.out.below bel1)).mono ?_
  rintro e y1 ⟨rfl, hb⟩
  have P2 := Lib.hid (P1.out.below hb)
  have Q2 := Lib.hid (Q1.out.below hb)
  have bel2 := below_more bel1 hb
  clear a2 a3 b2 b3 P1 Q1 hb
  have a4 := P2.out.cell 4 rfl
  have a5 := P2.out.cell 5 rfl
  have b4 := Q2.out.cell 4 rfl
  have b5 := Q2.out.cell 5 rfl
  go_wp2_with fail
  refine (like_lab _ _ t.raise _ (H2.out.below bel2) (K2.out.below bel2)).mono ?_
  rintro e y2 ⟨rfl, hb⟩
  have P3 := Lib.hid (P2.out.below hb)
  have Q3 := Lib.hid (Q2.out.below hb)
  have bel3 := below_more bel2 hb
  clear a4 a5 b4 b5 P2 Q2 hb
  have a6 := P3.out.cell 6 rfl
  have a7 := P3.out.cell 7 rfl
  have b6 := Q3.out.cell 6 rfl
  have b7 := Q3.out.cell 7 rfl
  go_wp2_with fail
  refine (like_lab _ _ t.verify _ (H3.out.below bel3) (K3.out.below bel3)).mono ?_
  rintro e y3 ⟨rfl, hb⟩
  go_wp2
  go_ret
  exact .mk rfl (below_more bel3 hb)
end Go.Proofs.YtnpeojlhjbdjiaaGreatDoor
