/-
  Chapter 5 of the program: allowedTo and acceptedBy.
-/
import Derived.Test.YtedaknjjcdlpnaaDoorImplCover
import Derived.Test.YtedaknjjcdlpnaaDoorImplClo2
import Derived.Test.YtedaknjjcdlpnaaDoorLate2
import Derived.Test.YtedaknjjcdlpnaaDoorMem
namespace Go.Proofs.YtedaknjjcdlpnaaDoor
set_option maxRecDepth 100000
open Go.RowKit

set_option maxHeartbeats 8000000 in
theorem impl_allowedto (v us : Value) (t : Tm) (s : Lab) (w : World) (htm : RdTm w v t) (hs : RdLab w us s) (hs : Sent w 2) :
    Calls Tryd.prog 37 #[v, us] w (RetErr 2 (allowed s t) (termsOk t && labOk s) w) := by
  have HS := Lib.hid hs
  clear hs
  obtain ⟨-, b, -, -, -, -, -, hw, -, -, -⟩ := HS.out.s
  have HW := Lib.hid hw
  clear hw
  have RT := Lib.hid htm
  have Rs := Lib.hid hs
  obtain ⟨As, ns, cs, rfl, -⟩ := hs
  obtain ⟨A0, n0, c0, A1, n1, c1, A2, n2, c2, A3, n3, c3, rfl, -, -, -, -⟩ := htm
  go_enter Tryd.func37, Tryd.ntmps37
  go_wp2
  generalize hW : (w.alloc (.cells #[.int .i64 t.taint.base, .slice A0 n0 c0, .int .i64 t.clear.base, .slice A1 n1 c1, .int .i64 t.raise.base, .slice A2 n2 c2, .int .i64 t.verify.base, .slice A3 n3 c3] 28)).alloc (.cells #[.int .i64 s.base, .slice As ns cs] 26) = w0
  obtain ⟨b0, b1, hsz, bel⟩ := laid2 (ps := [.int .i64 t.taint.base, .slice A0 n0 c0, .int .i64 t.clear.base, .slice A1 n1 c1, .int .i64 t.raise.base, .slice A2 n2 c2, .int .i64 t.verify.base, .slice A3 n3 c3]) (rs := [.int .i64 s.base, .slice As ns cs]) hW
  have B0 := Lib.hid b0
  have B1 := Lib.hid b1
  have HB := Lib.hid bel
  clear hW bel hsz b0 b1
  have HW0 : Hid (w0.cell? ⟨2, 0, none⟩ = some (.iface 139 (.pointer (some b)))) := Lib.hid ((HB.out.cell (block_lt_of_cell HW.out)).trans HW.out)
  refine wp_region_late 9 (fun w' => w'.cell? ⟨w.heap.size, 0, none⟩ = some (.int .i64 t.taint.base) ∧ w'.cell? ⟨w.heap.size, 1, none⟩ = some (.slice A0 n0 c0) ∧ w'.cell? ⟨w.heap.size, 2, none⟩ = some (.int .i64 t.clear.base) ∧ w'.cell? ⟨w.heap.size, 3, none⟩ = some (.slice A1 n1 c1) ∧ w'.cell? ⟨w.heap.size, 4, none⟩ = some (.int .i64 t.raise.base) ∧ w'.cell? ⟨w.heap.size, 5, none⟩ = some (.slice A2 n2 c2) ∧ w'.cell? ⟨w.heap.size, 6, none⟩ = some (.int .i64 t.verify.base) ∧ w'.cell? ⟨w.heap.size, 7, none⟩ = some (.slice A3 n3 c3) ∧ w'.cell? ⟨w.heap.size + 1, 0, none⟩ = some (.int .i64 s.base) ∧ w'.cell? ⟨w.heap.size + 1, 1, none⟩ = some (.slice As ns cs) ∧ w'.cell? ⟨2, 0, none⟩ = some (.iface 139 (.pointer (some b)))) (by kernel_rfl) ?_
  have HC : Hid (Below w0.heap.size w0 w0.drew) := Lib.hid (Below.refl _ _).drew
  generalize w0.drew = wx at HC ⊢
  refine WpLate.take (i := 0) (v := .agg #[.int .i64 t.taint.base, .slice A0 n0 c0, .int .i64 t.clear.base, .slice A1 n1 c1, .int .i64 t.raise.base, .slice A2 n2 c2, .int .i64 t.verify.base, .slice A3 n3 c3]) rfl (by kernel_rfl) (by kernel_rfl) (by kernel_rfl) (by kernel_rfl) (by kernel_rfl) (fun _ _ _ h => h) (Or.inl ⟨by rfl, fun w' hw => ?_⟩) ⟨(B0.out.below HC.out).cell 0 rfl, (B0.out.below HC.out).cell 1 rfl, (B0.out.below HC.out).cell 2 rfl, (B0.out.below HC.out).cell 3 rfl, (B0.out.below HC.out).cell 4 rfl, (B0.out.below HC.out).cell 5 rfl, (B0.out.below HC.out).cell 6 rfl, (B0.out.below HC.out).cell 7 rfl, (B1.out.below HC.out).cell 0 rfl, (B1.out.below HC.out).cell 1 rfl, (HC.out.cell (block_lt_of_cell HW0.out)).trans HW0.out⟩ ?_
  · obtain ⟨s0, s1, s2, s3, s4, s5, s6, s7, s8, s9, s10⟩ := hw
    go_simp
  try simp only [Act.put]
  try simp only [List.setIfInBounds_toArray]
  try simp only [List.set_cons_succ, List.set_cons_zero]
  refine WpLate.take (i := 2) (v := .agg #[.int .i64 s.base, .slice As ns cs]) rfl (by kernel_rfl) (by kernel_rfl) (by kernel_rfl) (by kernel_rfl) (by kernel_rfl) (fun _ _ _ h => h) (Or.inl ⟨by rfl, fun w' hw => ?_⟩) ⟨(B0.out.below HC.out).cell 0 rfl, (B0.out.below HC.out).cell 1 rfl, (B0.out.below HC.out).cell 2 rfl, (B0.out.below HC.out).cell 3 rfl, (B0.out.below HC.out).cell 4 rfl, (B0.out.below HC.out).cell 5 rfl, (B0.out.below HC.out).cell 6 rfl, (B0.out.below HC.out).cell 7 rfl, (B1.out.below HC.out).cell 0 rfl, (B1.out.below HC.out).cell 1 rfl, (HC.out.cell (block_lt_of_cell HW0.out)).trans HW0.out⟩ ?_
  · obtain ⟨s0, s1, s2, s3, s4, s5, s6, s7, s8, s9, s10⟩ := hw
    go_simp
  try simp only [Act.put]
  try simp only [List.setIfInBounds_toArray]
  try simp only [List.set_cons_succ, List.set_cons_zero]
  refine WpLate.take (i := 5) (v := .iface 139 (.pointer (some b))) rfl (by kernel_rfl) (by kernel_rfl) (by kernel_rfl) (by kernel_rfl) (by kernel_rfl) (fun _ _ _ h => h) (Or.inl ⟨by rfl, fun w' hw => ?_⟩) ⟨(B0.out.below HC.out).cell 0 rfl, (B0.out.below HC.out).cell 1 rfl, (B0.out.below HC.out).cell 2 rfl, (B0.out.below HC.out).cell 3 rfl, (B0.out.below HC.out).cell 4 rfl, (B0.out.below HC.out).cell 5 rfl, (B0.out.below HC.out).cell 6 rfl, (B0.out.below HC.out).cell 7 rfl, (B1.out.below HC.out).cell 0 rfl, (B1.out.below HC.out).cell 1 rfl, (HC.out.cell (block_lt_of_cell HW0.out)).trans HW0.out⟩ ?_
  · obtain ⟨s0, s1, s2, s3, s4, s5, s6, s7, s8, s9, s10⟩ := hw
    go_simp
  try simp only [Act.put]
  try simp only [List.setIfInBounds_toArray]
  try simp only [List.set_cons_succ, List.set_cons_zero]
  refine WpLate.take (i := 6) (v := .func (.func 64) #[] #[.pointer (some ⟨w.heap.size, 0, none⟩), .pointer (some ⟨w.heap.size + 1, 0, none⟩)]) rfl (by kernel_rfl) (by kernel_rfl) (by kernel_rfl) (by kernel_rfl) (by kernel_rfl) (fun _ _ _ h => h) (Or.inl ⟨by rfl, fun w' hw => ?_⟩) ⟨(B0.out.below HC.out).cell 0 rfl, (B0.out.below HC.out).cell 1 rfl, (B0.out.below HC.out).cell 2 rfl, (B0.out.below HC.out).cell 3 rfl, (B0.out.below HC.out).cell 4 rfl, (B0.out.below HC.out).cell 5 rfl, (B0.out.below HC.out).cell 6 rfl, (B0.out.below HC.out).cell 7 rfl, (B1.out.below HC.out).cell 0 rfl, (B1.out.below HC.out).cell 1 rfl, (HC.out.cell (block_lt_of_cell HW0.out)).trans HW0.out⟩ ?_
  · obtain ⟨s0, s1, s2, s3, s4, s5, s6, s7, s8, s9, s10⟩ := hw
    go_simp
  try simp only [Act.put]
  try simp only [List.setIfInBounds_toArray]
  try simp only [List.set_cons_succ, List.set_cons_zero]
  refine WpLate.each (rs := [1, 3]) (by kernel_rfl) (by simp) (LateEach.cons rfl (fun K hK => ?_) (LateEach.cons rfl (fun K hK => ?_) LateEach.nil))
  · skip
    go_simp
    refine (impl_labels t A0 n0 c0 A1 n1 c1 A2 n2 c2 A3 n3 c3 _).mono ?_
    rintro e w2 ⟨v2, rfl, hown, hb⟩
    obtain ⟨A, c, rfl, -, -, -⟩ := own_at hown
    have HO2 := Lib.hid hown
    have HC2 := Lib.hid (below_more HC.out hb)
    have SZ : Hid (wx.heap.size ≤ w2.heap.size) := Lib.hid hb.size
    clear hown hb
    refine hK.out _ _ (fun _ => ⟨(B0.out.below HC2.out).cell 0 rfl, (B0.out.below HC2.out).cell 1 rfl, (B0.out.below HC2.out).cell 2 rfl, (B0.out.below HC2.out).cell 3 rfl, (B0.out.below HC2.out).cell 4 rfl, (B0.out.below HC2.out).cell 5 rfl, (B0.out.below HC2.out).cell 6 rfl, (B0.out.below HC2.out).cell 7 rfl, (B1.out.below HC2.out).cell 0 rfl, (B1.out.below HC2.out).cell 1 rfl, (HC2.out.cell (block_lt_of_cell HW0.out)).trans HW0.out⟩) ?_
    try simp only [Act.put]
    try simp only [List.setIfInBounds_toArray]
    try simp only [List.set_cons_succ, List.set_cons_zero]
    refine WpLate.each (rs := [3]) (by kernel_rfl) (by simp) (LateEach.cons rfl (fun K hK => ?_) LateEach.nil)
    go_simp
    have hal : Below w2.heap.size w2 (w2.alloc (.cells #[.int .i64 s.base, .slice As ns cs] 26)) := (Below.refl _ _).alloc (Nat.le_refl _) _
    have HC3 := Lib.hid (below_more HC2.out hal)
    have HO := Lib.hid (own_below HO2.out hal)
    have HY : Hid (At (w2.alloc (.cells #[.int .i64 s.base, .slice As ns cs] 26)) (some ⟨w2.heap.size, 0, none⟩) (lbcells [⟨s, As, ns, cs⟩])) := Lib.hid (fun _ => ⟨w2.heap.size, 0, rfl, fun j u hj => by rw [Nat.zero_add]; exact (World.cell?_alloc_new _ _ _ _).trans (by simpa [lbcells, flat, encLB] using hj)⟩)
    obtain ⟨wb, hwb⟩ : ∃ wb, wb = wx.heap.size := ⟨_, rfl⟩
    have HBL : Hid (w0.heap.size ≤ wb) := Lib.hid (by rw [hwb]; exact HC.out.size)
    have HBS : Hid (wb ≤ (w2.alloc (.cells #[.int .i64 s.base, .slice As ns cs] 26)).heap.size) := Lib.hid (by rw [hwb]; have := SZ.out; simp; omega)
    rw [← hwb] at HO
    obtain ⟨yb, hyb⟩ : ∃ yb, yb = w2.heap.size := ⟨_, rfl⟩
    rw [← hyb] at HY ⊢
    refine hK.out _ _ (fun _ => ⟨(B0.out.below HC3.out).cell 0 rfl, (B0.out.below HC3.out).cell 1 rfl, (B0.out.below HC3.out).cell 2 rfl, (B0.out.below HC3.out).cell 3 rfl, (B0.out.below HC3.out).cell 4 rfl, (B0.out.below HC3.out).cell 5 rfl, (B0.out.below HC3.out).cell 6 rfl, (B0.out.below HC3.out).cell 7 rfl, (B1.out.below HC3.out).cell 0 rfl, (B1.out.below HC3.out).cell 1 rfl, (HC3.out.cell (block_lt_of_cell HW0.out)).trans HW0.out⟩) ?_
    clear hwb hyb hal SZ HO2
    generalize w2.alloc (.cells #[.int .i64 s.base, .slice As ns cs] 26) = w3 at HC3 HO HY HBS ⊢
    try simp only [Act.put]
    try simp only [List.setIfInBounds_toArray]
    try simp only [List.set_cons_succ, List.set_cons_zero]
    refine WpLate.each (rs := [4]) (by kernel_rfl) (by simp) (LateEach.cons rfl (fun K hK => ?_) LateEach.nil)
    refine step_app elemLab rfl (.tmp 6) (.tmp 8) rfl wb (.slice A 4 c) 4 (lbcells (lbsOf t A0 n0 c0 A1 n1 c1 A2 n2 c2 A3 n3 c3)) rfl HO.out (some ⟨yb, 0, none⟩) 1 1 (lbcells [⟨s, As, ns, cs⟩]) rfl HY.out rfl (lbcells_one _) (by omega) (by omega) HBS.out ?_
    intro v4 w4 hap
    have HC4 : Hid (Below w0.heap.size w0 w4) := Lib.hid (HC3.out.grown hap.grown HC3.out.size (fun j hj => Nat.le_trans HBL.out (HO.out.lt j hj).1))
    have HB4 : Hid (Below w.heap.size w w4) := Lib.hid (below_more HB.out HC4.out)
    obtain ⟨A5, c5, rfl, -, -, ha5⟩ := own_at hap.own
    rw [← lbcells_append] at ha5
    have HA5 := Lib.hid ha5
    clear hap ha5 HO HY
    refine hK.out _ _ (fun _ => ⟨(B0.out.below HC4.out).cell 0 rfl, (B0.out.below HC4.out).cell 1 rfl, (B0.out.below HC4.out).cell 2 rfl, (B0.out.below HC4.out).cell 3 rfl, (B0.out.below HC4.out).cell 4 rfl, (B0.out.below HC4.out).cell 5 rfl, (B0.out.below HC4.out).cell 6 rfl, (B0.out.below HC4.out).cell 7 rfl, (B1.out.below HC4.out).cell 0 rfl, (B1.out.below HC4.out).cell 1 rfl, (HC4.out.cell (block_lt_of_cell HW0.out)).trans HW0.out⟩) ?_
    try simp only [Act.put]
    try simp only [List.setIfInBounds_toArray]
    try simp only [List.set_cons_succ, List.set_cons_zero]
    refine WpLate.each (rs := [7]) (by kernel_rfl) (by simp) (LateEach.cons rfl (fun K hK => ?_) LateEach.nil)
    go_simp
    refine (first_allowed A5 5 c5 (lbsOf t A0 n0 c0 A1 n1 c1 A2 n2 c2 A3 n3 c3 ++ [⟨s, As, ns, cs⟩]) 2 b (mayL s t) (w.heap.size) (w.heap.size + 1) w4 HA5.out rfl (by omega) (.append (lbs_read (RT.out.below HB4.out)) (.cons (Rs.out.below HB4.out) (.nil _))) (HS.out.below HB4.out) ((HB4.out.cell (block_lt_of_cell HW.out)).trans HW.out)
      (fun hok x w5 hb5 => clo_allowed x _ _ t s w5 ⟨by have h := hok; rw [allOk_map] at h; simp [lbsOf] at h; simp [termsOk, h], A0, n0, c0, A1, n1, c1, A2, n2, c2, A3, n3, c3, (B0.out.below (below_more HC4.out hb5)).has, RT.out.below (below_more HB4.out hb5)⟩ ⟨by have h := hok; rw [allOk_map] at h; simp [lbsOf] at h; simp [h], As, ns, cs, (B1.out.below (below_more HC4.out hb5)).has, Rs.out.below (below_more HB4.out hb5)⟩)).mono ?_
    rintro e6 w6 ⟨v6, rfl, he, hb6⟩
    have HC6 := Lib.hid (below_more HC4.out hb6)
    have HE : Hid (IsErr w6 2 (allowed s t) (termsOk t && labOk s) v6) := Lib.hid (by
      have h1 : (allOk (lbsOf t A0 n0 c0 A1 n1 c1 A2 n2 c2 A3 n3 c3 ++ [⟨s, As, ns, cs⟩]) && (hsOf (lbsOf t A0 n0 c0 A1 n1 c1 A2 n2 c2 A3 n3 c3 ++ [⟨s, As, ns, cs⟩])).all (mayL s t)) = allowed s t := allowed_all rfl
      have h2 : allOk (lbsOf t A0 n0 c0 A1 n1 c1 A2 n2 c2 A3 n3 c3 ++ [⟨s, As, ns, cs⟩]) = (termsOk t && labOk s) := by rw [allOk_map]; simp [lbsOf, termsOk, Bool.and_assoc]
      rw [h1, h2] at he
      exact he)
    clear he hb6
    refine hK.out _ _ (fun _ => ⟨(B0.out.below HC6.out).cell 0 rfl, (B0.out.below HC6.out).cell 1 rfl, (B0.out.below HC6.out).cell 2 rfl, (B0.out.below HC6.out).cell 3 rfl, (B0.out.below HC6.out).cell 4 rfl, (B0.out.below HC6.out).cell 5 rfl, (B0.out.below HC6.out).cell 6 rfl, (B0.out.below HC6.out).cell 7 rfl, (B1.out.below HC6.out).cell 0 rfl, (B1.out.below HC6.out).cell 1 rfl, (HC6.out.cell (block_lt_of_cell HW0.out)).trans HW0.out⟩) ?_
    try simp only [Act.put]
    try simp only [List.setIfInBounds_toArray]
    try simp only [List.set_cons_succ, List.set_cons_zero]
    refine WpLate.each (rs := [8]) (by kernel_rfl) (by simp) (LateEach.cons rfl (fun K hK => ?_) LateEach.nil)
    go_simp
    refine hK.out _ _ (fun _ => ⟨(B0.out.below HC6.out).cell 0 rfl, (B0.out.below HC6.out).cell 1 rfl, (B0.out.below HC6.out).cell 2 rfl, (B0.out.below HC6.out).cell 3 rfl, (B0.out.below HC6.out).cell 4 rfl, (B0.out.below HC6.out).cell 5 rfl, (B0.out.below HC6.out).cell 6 rfl, (B0.out.below HC6.out).cell 7 rfl, (B1.out.below HC6.out).cell 0 rfl, (B1.out.below HC6.out).cell 1 rfl, (HC6.out.cell (block_lt_of_cell HW0.out)).trans HW0.out⟩) ?_
    try simp only [Act.put]
    try simp only [List.setIfInBounds_toArray]
    try simp only [List.set_cons_succ, List.set_cons_zero]
    refine WpLate.done (by kernel_rfl) ?_ _
    go_wp2
    go_ret
    exact ⟨_, rfl, HE.out, below_more HB.out HC6.out⟩
  · skip
    go_simp
    have hal : Below wx.heap.size wx (wx.alloc (.cells #[.int .i64 s.base, .slice As ns cs] 26)) := (Below.refl _ _).alloc (Nat.le_refl _) _
    have HC2 := Lib.hid (below_more HC.out hal)
    have HY2 : Hid (At (wx.alloc (.cells #[.int .i64 s.base, .slice As ns cs] 26)) (some ⟨wx.heap.size, 0, none⟩) (lbcells [⟨s, As, ns, cs⟩])) := Lib.hid (fun _ => ⟨wx.heap.size, 0, rfl, fun j u hj => by rw [Nat.zero_add]; exact (World.cell?_alloc_new _ _ _ _).trans (by simpa [lbcells, flat, encLB] using hj)⟩)
    obtain ⟨yb, hyb⟩ : ∃ yb, yb = wx.heap.size := ⟨_, rfl⟩
    rw [← hyb] at HY2 ⊢
    refine hK.out _ _ (fun _ => ⟨(B0.out.below HC2.out).cell 0 rfl, (B0.out.below HC2.out).cell 1 rfl, (B0.out.below HC2.out).cell 2 rfl, (B0.out.below HC2.out).cell 3 rfl, (B0.out.below HC2.out).cell 4 rfl, (B0.out.below HC2.out).cell 5 rfl, (B0.out.below HC2.out).cell 6 rfl, (B0.out.below HC2.out).cell 7 rfl, (B1.out.below HC2.out).cell 0 rfl, (B1.out.below HC2.out).cell 1 rfl, (HC2.out.cell (block_lt_of_cell HW0.out)).trans HW0.out⟩) ?_
    clear hyb hal
    generalize wx.alloc (.cells #[.int .i64 s.base, .slice As ns cs] 26) = w2 at HC2 HY2 ⊢
    try simp only [Act.put]
    try simp only [List.setIfInBounds_toArray]
    try simp only [List.set_cons_succ, List.set_cons_zero]
    refine WpLate.each (rs := [1]) (by kernel_rfl) (by simp) (LateEach.cons rfl (fun K hK => ?_) LateEach.nil)
    go_simp
    refine (impl_labels t A0 n0 c0 A1 n1 c1 A2 n2 c2 A3 n3 c3 _).mono ?_
    rintro e w3 ⟨v2, rfl, hown, hb⟩
    obtain ⟨A, c, rfl, -, -, -⟩ := own_at hown
    have HC3 := Lib.hid (below_more HC2.out hb)
    have HY := Lib.hid (HY2.out.below hb)
    have HO := Lib.hid hown
    obtain ⟨wb, hwb⟩ : ∃ wb, wb = w2.heap.size := ⟨_, rfl⟩
    have HBL : Hid (w0.heap.size ≤ wb) := Lib.hid (by rw [hwb]; exact HC2.out.size)
    have HBS : Hid (wb ≤ w3.heap.size) := Lib.hid (by rw [hwb]; exact hb.size)
    rw [← hwb] at HO
    clear hown hb hwb HY2
    refine hK.out _ _ (fun _ => ⟨(B0.out.below HC3.out).cell 0 rfl, (B0.out.below HC3.out).cell 1 rfl, (B0.out.below HC3.out).cell 2 rfl, (B0.out.below HC3.out).cell 3 rfl, (B0.out.below HC3.out).cell 4 rfl, (B0.out.below HC3.out).cell 5 rfl, (B0.out.below HC3.out).cell 6 rfl, (B0.out.below HC3.out).cell 7 rfl, (B1.out.below HC3.out).cell 0 rfl, (B1.out.below HC3.out).cell 1 rfl, (HC3.out.cell (block_lt_of_cell HW0.out)).trans HW0.out⟩) ?_
    try simp only [Act.put]
    try simp only [List.setIfInBounds_toArray]
    try simp only [List.set_cons_succ, List.set_cons_zero]
    refine WpLate.each (rs := [4]) (by kernel_rfl) (by simp) (LateEach.cons rfl (fun K hK => ?_) LateEach.nil)
    refine step_app elemLab rfl (.tmp 6) (.tmp 8) rfl wb (.slice A 4 c) 4 (lbcells (lbsOf t A0 n0 c0 A1 n1 c1 A2 n2 c2 A3 n3 c3)) rfl HO.out (some ⟨yb, 0, none⟩) 1 1 (lbcells [⟨s, As, ns, cs⟩]) rfl HY.out rfl (lbcells_one _) (by omega) (by omega) HBS.out ?_
    intro v4 w4 hap
    have HC4 : Hid (Below w0.heap.size w0 w4) := Lib.hid (HC3.out.grown hap.grown HC3.out.size (fun j hj => Nat.le_trans HBL.out (HO.out.lt j hj).1))
    have HB4 : Hid (Below w.heap.size w w4) := Lib.hid (below_more HB.out HC4.out)
    obtain ⟨A5, c5, rfl, -, -, ha5⟩ := own_at hap.own
    rw [← lbcells_append] at ha5
    have HA5 := Lib.hid ha5
    clear hap ha5 HO HY
    refine hK.out _ _ (fun _ => ⟨(B0.out.below HC4.out).cell 0 rfl, (B0.out.below HC4.out).cell 1 rfl, (B0.out.below HC4.out).cell 2 rfl, (B0.out.below HC4.out).cell 3 rfl, (B0.out.below HC4.out).cell 4 rfl, (B0.out.below HC4.out).cell 5 rfl, (B0.out.below HC4.out).cell 6 rfl, (B0.out.below HC4.out).cell 7 rfl, (B1.out.below HC4.out).cell 0 rfl, (B1.out.below HC4.out).cell 1 rfl, (HC4.out.cell (block_lt_of_cell HW0.out)).trans HW0.out⟩) ?_
    try simp only [Act.put]
    try simp only [List.setIfInBounds_toArray]
    try simp only [List.set_cons_succ, List.set_cons_zero]
    refine WpLate.each (rs := [7]) (by kernel_rfl) (by simp) (LateEach.cons rfl (fun K hK => ?_) LateEach.nil)
    go_simp
    refine (first_allowed A5 5 c5 (lbsOf t A0 n0 c0 A1 n1 c1 A2 n2 c2 A3 n3 c3 ++ [⟨s, As, ns, cs⟩]) 2 b (mayL s t) (w.heap.size) (w.heap.size + 1) w4 HA5.out rfl (by omega) (.append (lbs_read (RT.out.below HB4.out)) (.cons (Rs.out.below HB4.out) (.nil _))) (HS.out.below HB4.out) ((HB4.out.cell (block_lt_of_cell HW.out)).trans HW.out)
      (fun hok x w5 hb5 => clo_allowed x _ _ t s w5 ⟨by have h := hok; rw [allOk_map] at h; simp [lbsOf] at h; simp [termsOk, h], A0, n0, c0, A1, n1, c1, A2, n2, c2, A3, n3, c3, (B0.out.below (below_more HC4.out hb5)).has, RT.out.below (below_more HB4.out hb5)⟩ ⟨by have h := hok; rw [allOk_map] at h; simp [lbsOf] at h; simp [h], As, ns, cs, (B1.out.below (below_more HC4.out hb5)).has, Rs.out.below (below_more HB4.out hb5)⟩)).mono ?_
    rintro e6 w6 ⟨v6, rfl, he, hb6⟩
    have HC6 := Lib.hid (below_more HC4.out hb6)
    have HE : Hid (IsErr w6 2 (allowed s t) (termsOk t && labOk s) v6) := Lib.hid (by
      have h1 : (allOk (lbsOf t A0 n0 c0 A1 n1 c1 A2 n2 c2 A3 n3 c3 ++ [⟨s, As, ns, cs⟩]) && (hsOf (lbsOf t A0 n0 c0 A1 n1 c1 A2 n2 c2 A3 n3 c3 ++ [⟨s, As, ns, cs⟩])).all (mayL s t)) = allowed s t := allowed_all rfl
      have h2 : allOk (lbsOf t A0 n0 c0 A1 n1 c1 A2 n2 c2 A3 n3 c3 ++ [⟨s, As, ns, cs⟩]) = (termsOk t && labOk s) := by rw [allOk_map]; simp [lbsOf, termsOk, Bool.and_assoc]
      rw [h1, h2] at he
      exact he)
    clear he hb6
    refine hK.out _ _ (fun _ => ⟨(B0.out.below HC6.out).cell 0 rfl, (B0.out.below HC6.out).cell 1 rfl, (B0.out.below HC6.out).cell 2 rfl, (B0.out.below HC6.out).cell 3 rfl, (B0.out.below HC6.out).cell 4 rfl, (B0.out.below HC6.out).cell 5 rfl, (B0.out.below HC6.out).cell 6 rfl, (B0.out.below HC6.out).cell 7 rfl, (B1.out.below HC6.out).cell 0 rfl, (B1.out.below HC6.out).cell 1 rfl, (HC6.out.cell (block_lt_of_cell HW0.out)).trans HW0.out⟩) ?_
    try simp only [Act.put]
    try simp only [List.setIfInBounds_toArray]
    try simp only [List.set_cons_succ, List.set_cons_zero]
    refine WpLate.each (rs := [8]) (by kernel_rfl) (by simp) (LateEach.cons rfl (fun K hK => ?_) LateEach.nil)
    go_simp
    refine hK.out _ _ (fun _ => ⟨(B0.out.below HC6.out).cell 0 rfl, (B0.out.below HC6.out).cell 1 rfl, (B0.out.below HC6.out).cell 2 rfl, (B0.out.below HC6.out).cell 3 rfl, (B0.out.below HC6.out).cell 4 rfl, (B0.out.below HC6.out).cell 5 rfl, (B0.out.below HC6.out).cell 6 rfl, (B0.out.below HC6.out).cell 7 rfl, (B1.out.below HC6.out).cell 0 rfl, (B1.out.below HC6.out).cell 1 rfl, (HC6.out.cell (block_lt_of_cell HW0.out)).trans HW0.out⟩) ?_
    try simp only [Act.put]
    try simp only [List.setIfInBounds_toArray]
    try simp only [List.set_cons_succ, List.set_cons_zero]
    refine WpLate.done (by kernel_rfl) ?_ _
    go_wp2
    go_ret
    exact ⟨_, rfl, HE.out, below_more HB.out HC6.out⟩
set_option maxHeartbeats 8000000 in
theorem impl_acceptedby (v ur ud ue : Value) (t : Tm) (r d e : Lab) (w : World) (htm : RdTm w v t) (hr : RdLab w ur r) (hd : RdLab w ud d) (he : RdLab w ue e) (hs : Sent w 1) :
    Calls Tryd.prog 36 #[v, ur, ud, ue] w (RetErr 1 (accepts e r t d) (termsOk t && (labOk e && (labOk r && labOk d))) w) := by
  have HS := Lib.hid hs
  clear hs
  obtain ⟨-, b, -, -, -, -, -, hw, -, -, -⟩ := HS.out.s
  have HW := Lib.hid hw
  clear hw
  have RT := Lib.hid htm
  have Rr := Lib.hid hr
  obtain ⟨Ar, nr, cr, rfl, -⟩ := hr
  have Rd := Lib.hid hd
  obtain ⟨Ad, nd, cd, rfl, -⟩ := hd
  have Re := Lib.hid he
  obtain ⟨Ae, ne, ce, rfl, -⟩ := he
  obtain ⟨A0, n0, c0, A1, n1, c1, A2, n2, c2, A3, n3, c3, rfl, -, -, -, -⟩ := htm
  go_enter Tryd.func36, Tryd.ntmps36
  go_wp2
  generalize hW : (((w.alloc (.cells #[.int .i64 t.taint.base, .slice A0 n0 c0, .int .i64 t.clear.base, .slice A1 n1 c1, .int .i64 t.raise.base, .slice A2 n2 c2, .int .i64 t.verify.base, .slice A3 n3 c3] 28)).alloc (.cells #[.int .i64 r.base, .slice Ar nr cr] 26)).alloc (.cells #[.int .i64 d.base, .slice Ad nd cd] 26)).alloc (.cells #[.int .i64 e.base, .slice Ae ne ce] 26) = w0
  obtain ⟨b0, b1, b2, b3, hsz, bel⟩ := laid4b (ps := [.int .i64 t.taint.base, .slice A0 n0 c0, .int .i64 t.clear.base, .slice A1 n1 c1, .int .i64 t.raise.base, .slice A2 n2 c2, .int .i64 t.verify.base, .slice A3 n3 c3]) (rs := [.int .i64 r.base, .slice Ar nr cr]) (os := [.int .i64 d.base, .slice Ad nd cd]) (qs := [.int .i64 e.base, .slice Ae ne ce]) hW
  have B0 := Lib.hid b0
  have B1 := Lib.hid b1
  have B2 := Lib.hid b2
  have B3 := Lib.hid b3
  have HB := Lib.hid bel
  clear hW bel hsz b0 b1 b2 b3
  have HW0 : Hid (w0.cell? ⟨1, 0, none⟩ = some (.iface 139 (.pointer (some b)))) := Lib.hid ((HB.out.cell (block_lt_of_cell HW.out)).trans HW.out)
  refine wp_region_late 11 (fun w' => w'.cell? ⟨w.heap.size, 0, none⟩ = some (.int .i64 t.taint.base) ∧ w'.cell? ⟨w.heap.size, 1, none⟩ = some (.slice A0 n0 c0) ∧ w'.cell? ⟨w.heap.size, 2, none⟩ = some (.int .i64 t.clear.base) ∧ w'.cell? ⟨w.heap.size, 3, none⟩ = some (.slice A1 n1 c1) ∧ w'.cell? ⟨w.heap.size, 4, none⟩ = some (.int .i64 t.raise.base) ∧ w'.cell? ⟨w.heap.size, 5, none⟩ = some (.slice A2 n2 c2) ∧ w'.cell? ⟨w.heap.size, 6, none⟩ = some (.int .i64 t.verify.base) ∧ w'.cell? ⟨w.heap.size, 7, none⟩ = some (.slice A3 n3 c3) ∧ w'.cell? ⟨w.heap.size + 1, 0, none⟩ = some (.int .i64 r.base) ∧ w'.cell? ⟨w.heap.size + 1, 1, none⟩ = some (.slice Ar nr cr) ∧ w'.cell? ⟨w.heap.size + 1 + 1, 0, none⟩ = some (.int .i64 d.base) ∧ w'.cell? ⟨w.heap.size + 1 + 1, 1, none⟩ = some (.slice Ad nd cd) ∧ w'.cell? ⟨w.heap.size + 1 + 1 + 1, 0, none⟩ = some (.int .i64 e.base) ∧ w'.cell? ⟨w.heap.size + 1 + 1 + 1, 1, none⟩ = some (.slice Ae ne ce) ∧ w'.cell? ⟨1, 0, none⟩ = some (.iface 139 (.pointer (some b)))) (by kernel_rfl) ?_
  have HC : Hid (Below w0.heap.size w0 w0.drew) := Lib.hid (Below.refl _ _).drew
  generalize w0.drew = wx at HC ⊢
  refine WpLate.take (i := 0) (v := .agg #[.int .i64 t.taint.base, .slice A0 n0 c0, .int .i64 t.clear.base, .slice A1 n1 c1, .int .i64 t.raise.base, .slice A2 n2 c2, .int .i64 t.verify.base, .slice A3 n3 c3]) rfl (by kernel_rfl) (by kernel_rfl) (by kernel_rfl) (by kernel_rfl) (by kernel_rfl) (fun _ _ _ h => h) (Or.inl ⟨by rfl, fun w' hw => ?_⟩) ⟨(B0.out.below HC.out).cell 0 rfl, (B0.out.below HC.out).cell 1 rfl, (B0.out.below HC.out).cell 2 rfl, (B0.out.below HC.out).cell 3 rfl, (B0.out.below HC.out).cell 4 rfl, (B0.out.below HC.out).cell 5 rfl, (B0.out.below HC.out).cell 6 rfl, (B0.out.below HC.out).cell 7 rfl, (B1.out.below HC.out).cell 0 rfl, (B1.out.below HC.out).cell 1 rfl, (B2.out.below HC.out).cell 0 rfl, (B2.out.below HC.out).cell 1 rfl, (B3.out.below HC.out).cell 0 rfl, (B3.out.below HC.out).cell 1 rfl, (HC.out.cell (block_lt_of_cell HW0.out)).trans HW0.out⟩ ?_
  · obtain ⟨s0, s1, s2, s3, s4, s5, s6, s7, s8, s9, s10, s11, s12, s13, s14⟩ := hw
    go_simp
  try simp only [Act.put]
  try simp only [List.setIfInBounds_toArray]
  try simp only [List.set_cons_succ, List.set_cons_zero]
  refine WpLate.take (i := 2) (v := .agg #[.int .i64 e.base, .slice Ae ne ce]) rfl (by kernel_rfl) (by kernel_rfl) (by kernel_rfl) (by kernel_rfl) (by kernel_rfl) (fun _ _ _ h => h) (Or.inl ⟨by rfl, fun w' hw => ?_⟩) ⟨(B0.out.below HC.out).cell 0 rfl, (B0.out.below HC.out).cell 1 rfl, (B0.out.below HC.out).cell 2 rfl, (B0.out.below HC.out).cell 3 rfl, (B0.out.below HC.out).cell 4 rfl, (B0.out.below HC.out).cell 5 rfl, (B0.out.below HC.out).cell 6 rfl, (B0.out.below HC.out).cell 7 rfl, (B1.out.below HC.out).cell 0 rfl, (B1.out.below HC.out).cell 1 rfl, (B2.out.below HC.out).cell 0 rfl, (B2.out.below HC.out).cell 1 rfl, (B3.out.below HC.out).cell 0 rfl, (B3.out.below HC.out).cell 1 rfl, (HC.out.cell (block_lt_of_cell HW0.out)).trans HW0.out⟩ ?_
  · obtain ⟨s0, s1, s2, s3, s4, s5, s6, s7, s8, s9, s10, s11, s12, s13, s14⟩ := hw
    go_simp
  try simp only [Act.put]
  try simp only [List.setIfInBounds_toArray]
  try simp only [List.set_cons_succ, List.set_cons_zero]
  refine WpLate.take (i := 3) (v := .agg #[.int .i64 r.base, .slice Ar nr cr]) rfl (by kernel_rfl) (by kernel_rfl) (by kernel_rfl) (by kernel_rfl) (by kernel_rfl) (fun _ _ _ h => h) (Or.inl ⟨by rfl, fun w' hw => ?_⟩) ⟨(B0.out.below HC.out).cell 0 rfl, (B0.out.below HC.out).cell 1 rfl, (B0.out.below HC.out).cell 2 rfl, (B0.out.below HC.out).cell 3 rfl, (B0.out.below HC.out).cell 4 rfl, (B0.out.below HC.out).cell 5 rfl, (B0.out.below HC.out).cell 6 rfl, (B0.out.below HC.out).cell 7 rfl, (B1.out.below HC.out).cell 0 rfl, (B1.out.below HC.out).cell 1 rfl, (B2.out.below HC.out).cell 0 rfl, (B2.out.below HC.out).cell 1 rfl, (B3.out.below HC.out).cell 0 rfl, (B3.out.below HC.out).cell 1 rfl, (HC.out.cell (block_lt_of_cell HW0.out)).trans HW0.out⟩ ?_
  · obtain ⟨s0, s1, s2, s3, s4, s5, s6, s7, s8, s9, s10, s11, s12, s13, s14⟩ := hw
    go_simp
  try simp only [Act.put]
  try simp only [List.setIfInBounds_toArray]
  try simp only [List.set_cons_succ, List.set_cons_zero]
  refine WpLate.take (i := 4) (v := .agg #[.int .i64 d.base, .slice Ad nd cd]) rfl (by kernel_rfl) (by kernel_rfl) (by kernel_rfl) (by kernel_rfl) (by kernel_rfl) (fun _ _ _ h => h) (Or.inl ⟨by rfl, fun w' hw => ?_⟩) ⟨(B0.out.below HC.out).cell 0 rfl, (B0.out.below HC.out).cell 1 rfl, (B0.out.below HC.out).cell 2 rfl, (B0.out.below HC.out).cell 3 rfl, (B0.out.below HC.out).cell 4 rfl, (B0.out.below HC.out).cell 5 rfl, (B0.out.below HC.out).cell 6 rfl, (B0.out.below HC.out).cell 7 rfl, (B1.out.below HC.out).cell 0 rfl, (B1.out.below HC.out).cell 1 rfl, (B2.out.below HC.out).cell 0 rfl, (B2.out.below HC.out).cell 1 rfl, (B3.out.below HC.out).cell 0 rfl, (B3.out.below HC.out).cell 1 rfl, (HC.out.cell (block_lt_of_cell HW0.out)).trans HW0.out⟩ ?_
  · obtain ⟨s0, s1, s2, s3, s4, s5, s6, s7, s8, s9, s10, s11, s12, s13, s14⟩ := hw
    go_simp
  try simp only [Act.put]
  try simp only [List.setIfInBounds_toArray]
  try simp only [List.set_cons_succ, List.set_cons_zero]
  refine WpLate.take (i := 7) (v := .iface 139 (.pointer (some b))) rfl (by kernel_rfl) (by kernel_rfl) (by kernel_rfl) (by kernel_rfl) (by kernel_rfl) (fun _ _ _ h => h) (Or.inl ⟨by rfl, fun w' hw => ?_⟩) ⟨(B0.out.below HC.out).cell 0 rfl, (B0.out.below HC.out).cell 1 rfl, (B0.out.below HC.out).cell 2 rfl, (B0.out.below HC.out).cell 3 rfl, (B0.out.below HC.out).cell 4 rfl, (B0.out.below HC.out).cell 5 rfl, (B0.out.below HC.out).cell 6 rfl, (B0.out.below HC.out).cell 7 rfl, (B1.out.below HC.out).cell 0 rfl, (B1.out.below HC.out).cell 1 rfl, (B2.out.below HC.out).cell 0 rfl, (B2.out.below HC.out).cell 1 rfl, (B3.out.below HC.out).cell 0 rfl, (B3.out.below HC.out).cell 1 rfl, (HC.out.cell (block_lt_of_cell HW0.out)).trans HW0.out⟩ ?_
  · obtain ⟨s0, s1, s2, s3, s4, s5, s6, s7, s8, s9, s10, s11, s12, s13, s14⟩ := hw
    go_simp
  try simp only [Act.put]
  try simp only [List.setIfInBounds_toArray]
  try simp only [List.set_cons_succ, List.set_cons_zero]
  refine WpLate.take (i := 8) (v := .func (.func 61) #[] #[.pointer (some ⟨w.heap.size, 0, none⟩), .pointer (some ⟨w.heap.size + 1 + 1, 0, none⟩), .pointer (some ⟨w.heap.size + 1, 0, none⟩), .pointer (some ⟨w.heap.size + 1 + 1 + 1, 0, none⟩)]) rfl (by kernel_rfl) (by kernel_rfl) (by kernel_rfl) (by kernel_rfl) (by kernel_rfl) (fun _ _ _ h => h) (Or.inl ⟨by rfl, fun w' hw => ?_⟩) ⟨(B0.out.below HC.out).cell 0 rfl, (B0.out.below HC.out).cell 1 rfl, (B0.out.below HC.out).cell 2 rfl, (B0.out.below HC.out).cell 3 rfl, (B0.out.below HC.out).cell 4 rfl, (B0.out.below HC.out).cell 5 rfl, (B0.out.below HC.out).cell 6 rfl, (B0.out.below HC.out).cell 7 rfl, (B1.out.below HC.out).cell 0 rfl, (B1.out.below HC.out).cell 1 rfl, (B2.out.below HC.out).cell 0 rfl, (B2.out.below HC.out).cell 1 rfl, (B3.out.below HC.out).cell 0 rfl, (B3.out.below HC.out).cell 1 rfl, (HC.out.cell (block_lt_of_cell HW0.out)).trans HW0.out⟩ ?_
  · obtain ⟨s0, s1, s2, s3, s4, s5, s6, s7, s8, s9, s10, s11, s12, s13, s14⟩ := hw
    go_simp
  try simp only [Act.put]
  try simp only [List.setIfInBounds_toArray]
  try simp only [List.set_cons_succ, List.set_cons_zero]
  refine WpLate.each (rs := [1, 5]) (by kernel_rfl) (by simp) (LateEach.cons rfl (fun K hK => ?_) (LateEach.cons rfl (fun K hK => ?_) LateEach.nil))
  · skip
    go_simp
    refine (impl_labels t A0 n0 c0 A1 n1 c1 A2 n2 c2 A3 n3 c3 _).mono ?_
    rintro e w2 ⟨v2, rfl, hown, hb⟩
    obtain ⟨A, c, rfl, -, -, -⟩ := own_at hown
    have HO2 := Lib.hid hown
    have HC2 := Lib.hid (below_more HC.out hb)
    have SZ : Hid (wx.heap.size ≤ w2.heap.size) := Lib.hid hb.size
    clear hown hb
    refine hK.out _ _ (fun _ => ⟨(B0.out.below HC2.out).cell 0 rfl, (B0.out.below HC2.out).cell 1 rfl, (B0.out.below HC2.out).cell 2 rfl, (B0.out.below HC2.out).cell 3 rfl, (B0.out.below HC2.out).cell 4 rfl, (B0.out.below HC2.out).cell 5 rfl, (B0.out.below HC2.out).cell 6 rfl, (B0.out.below HC2.out).cell 7 rfl, (B1.out.below HC2.out).cell 0 rfl, (B1.out.below HC2.out).cell 1 rfl, (B2.out.below HC2.out).cell 0 rfl, (B2.out.below HC2.out).cell 1 rfl, (B3.out.below HC2.out).cell 0 rfl, (B3.out.below HC2.out).cell 1 rfl, (HC2.out.cell (block_lt_of_cell HW0.out)).trans HW0.out⟩) ?_
    try simp only [Act.put]
    try simp only [List.setIfInBounds_toArray]
    try simp only [List.set_cons_succ, List.set_cons_zero]
    refine WpLate.each (rs := [5]) (by kernel_rfl) (by simp) (LateEach.cons rfl (fun K hK => ?_) LateEach.nil)
    go_simp
    have hal : Below w2.heap.size w2 (w2.alloc (.cells #[.int .i64 e.base, .slice Ae ne ce, .int .i64 r.base, .slice Ar nr cr, .int .i64 d.base, .slice Ad nd cd] 26)) := (Below.refl _ _).alloc (Nat.le_refl _) _
    have HC3 := Lib.hid (below_more HC2.out hal)
    have HO := Lib.hid (own_below HO2.out hal)
    have HY : Hid (At (w2.alloc (.cells #[.int .i64 e.base, .slice Ae ne ce, .int .i64 r.base, .slice Ar nr cr, .int .i64 d.base, .slice Ad nd cd] 26)) (some ⟨w2.heap.size, 0, none⟩) (lbcells [⟨e, Ae, ne, ce⟩, ⟨r, Ar, nr, cr⟩, ⟨d, Ad, nd, cd⟩])) := Lib.hid (fun _ => ⟨w2.heap.size, 0, rfl, fun j u hj => by rw [Nat.zero_add]; exact (World.cell?_alloc_new _ _ _ _).trans (by simpa [lbcells, flat, encLB] using hj)⟩)
    obtain ⟨wb, hwb⟩ : ∃ wb, wb = wx.heap.size := ⟨_, rfl⟩
    have HBL : Hid (w0.heap.size ≤ wb) := Lib.hid (by rw [hwb]; exact HC.out.size)
    have HBS : Hid (wb ≤ (w2.alloc (.cells #[.int .i64 e.base, .slice Ae ne ce, .int .i64 r.base, .slice Ar nr cr, .int .i64 d.base, .slice Ad nd cd] 26)).heap.size) := Lib.hid (by rw [hwb]; have := SZ.out; simp; omega)
    rw [← hwb] at HO
    obtain ⟨yb, hyb⟩ : ∃ yb, yb = w2.heap.size := ⟨_, rfl⟩
    rw [← hyb] at HY ⊢
    refine hK.out _ _ (fun _ => ⟨(B0.out.below HC3.out).cell 0 rfl, (B0.out.below HC3.out).cell 1 rfl, (B0.out.below HC3.out).cell 2 rfl, (B0.out.below HC3.out).cell 3 rfl, (B0.out.below HC3.out).cell 4 rfl, (B0.out.below HC3.out).cell 5 rfl, (B0.out.below HC3.out).cell 6 rfl, (B0.out.below HC3.out).cell 7 rfl, (B1.out.below HC3.out).cell 0 rfl, (B1.out.below HC3.out).cell 1 rfl, (B2.out.below HC3.out).cell 0 rfl, (B2.out.below HC3.out).cell 1 rfl, (B3.out.below HC3.out).cell 0 rfl, (B3.out.below HC3.out).cell 1 rfl, (HC3.out.cell (block_lt_of_cell HW0.out)).trans HW0.out⟩) ?_
    clear hwb hyb hal SZ HO2
    generalize w2.alloc (.cells #[.int .i64 e.base, .slice Ae ne ce, .int .i64 r.base, .slice Ar nr cr, .int .i64 d.base, .slice Ad nd cd] 26) = w3 at HC3 HO HY HBS ⊢
    try simp only [Act.put]
    try simp only [List.setIfInBounds_toArray]
    try simp only [List.set_cons_succ, List.set_cons_zero]
    refine WpLate.each (rs := [6]) (by kernel_rfl) (by simp) (LateEach.cons rfl (fun K hK => ?_) LateEach.nil)
    refine step_app elemLab rfl (.tmp 10) (.tmp 14) rfl wb (.slice A 4 c) 4 (lbcells (lbsOf t A0 n0 c0 A1 n1 c1 A2 n2 c2 A3 n3 c3)) rfl HO.out (some ⟨yb, 0, none⟩) 3 3 (lbcells [⟨e, Ae, ne, ce⟩, ⟨r, Ar, nr, cr⟩, ⟨d, Ad, nd, cd⟩]) rfl HY.out rfl (lbcells_one _) (by omega) (by omega) HBS.out ?_
    intro v4 w4 hap
    have HC4 : Hid (Below w0.heap.size w0 w4) := Lib.hid (HC3.out.grown hap.grown HC3.out.size (fun j hj => Nat.le_trans HBL.out (HO.out.lt j hj).1))
    have HB4 : Hid (Below w.heap.size w w4) := Lib.hid (below_more HB.out HC4.out)
    obtain ⟨A5, c5, rfl, -, -, ha5⟩ := own_at hap.own
    rw [← lbcells_append] at ha5
    have HA5 := Lib.hid ha5
    clear hap ha5 HO HY
    refine hK.out _ _ (fun _ => ⟨(B0.out.below HC4.out).cell 0 rfl, (B0.out.below HC4.out).cell 1 rfl, (B0.out.below HC4.out).cell 2 rfl, (B0.out.below HC4.out).cell 3 rfl, (B0.out.below HC4.out).cell 4 rfl, (B0.out.below HC4.out).cell 5 rfl, (B0.out.below HC4.out).cell 6 rfl, (B0.out.below HC4.out).cell 7 rfl, (B1.out.below HC4.out).cell 0 rfl, (B1.out.below HC4.out).cell 1 rfl, (B2.out.below HC4.out).cell 0 rfl, (B2.out.below HC4.out).cell 1 rfl, (B3.out.below HC4.out).cell 0 rfl, (B3.out.below HC4.out).cell 1 rfl, (HC4.out.cell (block_lt_of_cell HW0.out)).trans HW0.out⟩) ?_
    try simp only [Act.put]
    try simp only [List.setIfInBounds_toArray]
    try simp only [List.set_cons_succ, List.set_cons_zero]
    refine WpLate.each (rs := [9]) (by kernel_rfl) (by simp) (LateEach.cons rfl (fun K hK => ?_) LateEach.nil)
    go_simp
    refine (first_accepts A5 7 c5 (lbsOf t A0 n0 c0 A1 n1 c1 A2 n2 c2 A3 n3 c3 ++ [⟨e, Ae, ne, ce⟩, ⟨r, Ar, nr, cr⟩, ⟨d, Ad, nd, cd⟩]) 1 b (inL e r t d) (w.heap.size) (w.heap.size + 1 + 1) (w.heap.size + 1) (w.heap.size + 1 + 1 + 1) w4 HA5.out rfl (by omega) (.append (lbs_read (RT.out.below HB4.out)) (.cons (Re.out.below HB4.out) (.cons (Rr.out.below HB4.out) (.cons (Rd.out.below HB4.out) (.nil _))))) (HS.out.below HB4.out) ((HB4.out.cell (block_lt_of_cell HW.out)).trans HW.out)
      (fun hok x w5 hb5 => clo_accepts x _ _ _ _ t d r e w5 ⟨by have h := hok; rw [allOk_map] at h; simp [lbsOf] at h; simp [termsOk, h], A0, n0, c0, A1, n1, c1, A2, n2, c2, A3, n3, c3, (B0.out.below (below_more HC4.out hb5)).has, RT.out.below (below_more HB4.out hb5)⟩ ⟨by have h := hok; rw [allOk_map] at h; simp [lbsOf] at h; simp [h], Ad, nd, cd, (B2.out.below (below_more HC4.out hb5)).has, Rd.out.below (below_more HB4.out hb5)⟩ ⟨by have h := hok; rw [allOk_map] at h; simp [lbsOf] at h; simp [h], Ar, nr, cr, (B1.out.below (below_more HC4.out hb5)).has, Rr.out.below (below_more HB4.out hb5)⟩ ⟨by have h := hok; rw [allOk_map] at h; simp [lbsOf] at h; simp [h], Ae, ne, ce, (B3.out.below (below_more HC4.out hb5)).has, Re.out.below (below_more HB4.out hb5)⟩)).mono ?_
    rintro e6 w6 ⟨v6, rfl, he, hb6⟩
    have HC6 := Lib.hid (below_more HC4.out hb6)
    have HE : Hid (IsErr w6 1 (accepts e r t d) (termsOk t && (labOk e && (labOk r && labOk d))) v6) := Lib.hid (by
      have h1 : (allOk (lbsOf t A0 n0 c0 A1 n1 c1 A2 n2 c2 A3 n3 c3 ++ [⟨e, Ae, ne, ce⟩, ⟨r, Ar, nr, cr⟩, ⟨d, Ad, nd, cd⟩]) && (hsOf (lbsOf t A0 n0 c0 A1 n1 c1 A2 n2 c2 A3 n3 c3 ++ [⟨e, Ae, ne, ce⟩, ⟨r, Ar, nr, cr⟩, ⟨d, Ad, nd, cd⟩])).all (inL e r t d)) = accepts e r t d := accepts_all rfl
      have h2 : allOk (lbsOf t A0 n0 c0 A1 n1 c1 A2 n2 c2 A3 n3 c3 ++ [⟨e, Ae, ne, ce⟩, ⟨r, Ar, nr, cr⟩, ⟨d, Ad, nd, cd⟩]) = (termsOk t && (labOk e && (labOk r && labOk d))) := by rw [allOk_map]; simp [lbsOf, termsOk, Bool.and_assoc]
      rw [h1, h2] at he
      exact he)
    clear he hb6
    refine hK.out _ _ (fun _ => ⟨(B0.out.below HC6.out).cell 0 rfl, (B0.out.below HC6.out).cell 1 rfl, (B0.out.below HC6.out).cell 2 rfl, (B0.out.below HC6.out).cell 3 rfl, (B0.out.below HC6.out).cell 4 rfl, (B0.out.below HC6.out).cell 5 rfl, (B0.out.below HC6.out).cell 6 rfl, (B0.out.below HC6.out).cell 7 rfl, (B1.out.below HC6.out).cell 0 rfl, (B1.out.below HC6.out).cell 1 rfl, (B2.out.below HC6.out).cell 0 rfl, (B2.out.below HC6.out).cell 1 rfl, (B3.out.below HC6.out).cell 0 rfl, (B3.out.below HC6.out).cell 1 rfl, (HC6.out.cell (block_lt_of_cell HW0.out)).trans HW0.out⟩) ?_
    try simp only [Act.put]
    try simp only [List.setIfInBounds_toArray]
    try simp only [List.set_cons_succ, List.set_cons_zero]
    refine WpLate.each (rs := [10]) (by kernel_rfl) (by simp) (LateEach.cons rfl (fun K hK => ?_) LateEach.nil)
    go_simp
    refine hK.out _ _ (fun _ => ⟨(B0.out.below HC6.out).cell 0 rfl, (B0.out.below HC6.out).cell 1 rfl, (B0.out.below HC6.out).cell 2 rfl, (B0.out.below HC6.out).cell 3 rfl, (B0.out.below HC6.out).cell 4 rfl, (B0.out.below HC6.out).cell 5 rfl, (B0.out.below HC6.out).cell 6 rfl, (B0.out.below HC6.out).cell 7 rfl, (B1.out.below HC6.out).cell 0 rfl, (B1.out.below HC6.out).cell 1 rfl, (B2.out.below HC6.out).cell 0 rfl, (B2.out.below HC6.out).cell 1 rfl, (B3.out.below HC6.out).cell 0 rfl, (B3.out.below HC6.out).cell 1 rfl, (HC6.out.cell (block_lt_of_cell HW0.out)).trans HW0.out⟩) ?_
    try simp only [Act.put]
    try simp only [List.setIfInBounds_toArray]
    try simp only [List.set_cons_succ, List.set_cons_zero]
    refine WpLate.done (by kernel_rfl) ?_ _
    go_wp2
    go_ret
    exact ⟨_, rfl, HE.out, below_more HB.out HC6.out⟩
  · skip
    go_simp
    have hal : Below wx.heap.size wx (wx.alloc (.cells #[.int .i64 e.base, .slice Ae ne ce, .int .i64 r.base, .slice Ar nr cr, .int .i64 d.base, .slice Ad nd cd] 26)) := (Below.refl _ _).alloc (Nat.le_refl _) _
    have HC2 := Lib.hid (below_more HC.out hal)
    have HY2 : Hid (At (wx.alloc (.cells #[.int .i64 e.base, .slice Ae ne ce, .int .i64 r.base, .slice Ar nr cr, .int .i64 d.base, .slice Ad nd cd] 26)) (some ⟨wx.heap.size, 0, none⟩) (lbcells [⟨e, Ae, ne, ce⟩, ⟨r, Ar, nr, cr⟩, ⟨d, Ad, nd, cd⟩])) := Lib.hid (fun _ => ⟨wx.heap.size, 0, rfl, fun j u hj => by rw [Nat.zero_add]; exact (World.cell?_alloc_new _ _ _ _).trans (by simpa [lbcells, flat, encLB] using hj)⟩)
    obtain ⟨yb, hyb⟩ : ∃ yb, yb = wx.heap.size := ⟨_, rfl⟩
    rw [← hyb] at HY2 ⊢
    refine hK.out _ _ (fun _ => ⟨(B0.out.below HC2.out).cell 0 rfl, (B0.out.below HC2.out).cell 1 rfl, (B0.out.below HC2.out).cell 2 rfl, (B0.out.below HC2.out).cell 3 rfl, (B0.out.below HC2.out).cell 4 rfl, (B0.out.below HC2.out).cell 5 rfl, (B0.out.below HC2.out).cell 6 rfl, (B0.out.below HC2.out).cell 7 rfl, (B1.out.below HC2.out).cell 0 rfl, (B1.out.below HC2.out).cell 1 rfl, (B2.out.below HC2.out).cell 0 rfl, (B2.out.below HC2.out).cell 1 rfl, (B3.out.below HC2.out).cell 0 rfl, (B3.out.below HC2.out).cell 1 rfl, (HC2.out.cell (block_lt_of_cell HW0.out)).trans HW0.out⟩) ?_
    clear hyb hal
    generalize wx.alloc (.cells #[.int .i64 e.base, .slice Ae ne ce, .int .i64 r.base, .slice Ar nr cr, .int .i64 d.base, .slice Ad nd cd] 26) = w2 at HC2 HY2 ⊢
    try simp only [Act.put]
    try simp only [List.setIfInBounds_toArray]
    try simp only [List.set_cons_succ, List.set_cons_zero]
    refine WpLate.each (rs := [1]) (by kernel_rfl) (by simp) (LateEach.cons rfl (fun K hK => ?_) LateEach.nil)
    go_simp
    refine (impl_labels t A0 n0 c0 A1 n1 c1 A2 n2 c2 A3 n3 c3 _).mono ?_
    rintro e w3 ⟨v2, rfl, hown, hb⟩
    obtain ⟨A, c, rfl, -, -, -⟩ := own_at hown
    have HC3 := Lib.hid (below_more HC2.out hb)
    have HY := Lib.hid (HY2.out.below hb)
    have HO := Lib.hid hown
    obtain ⟨wb, hwb⟩ : ∃ wb, wb = w2.heap.size := ⟨_, rfl⟩
    have HBL : Hid (w0.heap.size ≤ wb) := Lib.hid (by rw [hwb]; exact HC2.out.size)
    have HBS : Hid (wb ≤ w3.heap.size) := Lib.hid (by rw [hwb]; exact hb.size)
    rw [← hwb] at HO
    clear hown hb hwb HY2
    refine hK.out _ _ (fun _ => ⟨(B0.out.below HC3.out).cell 0 rfl, (B0.out.below HC3.out).cell 1 rfl, (B0.out.below HC3.out).cell 2 rfl, (B0.out.below HC3.out).cell 3 rfl, (B0.out.below HC3.out).cell 4 rfl, (B0.out.below HC3.out).cell 5 rfl, (B0.out.below HC3.out).cell 6 rfl, (B0.out.below HC3.out).cell 7 rfl, (B1.out.below HC3.out).cell 0 rfl, (B1.out.below HC3.out).cell 1 rfl, (B2.out.below HC3.out).cell 0 rfl, (B2.out.below HC3.out).cell 1 rfl, (B3.out.below HC3.out).cell 0 rfl, (B3.out.below HC3.out).cell 1 rfl, (HC3.out.cell (block_lt_of_cell HW0.out)).trans HW0.out⟩) ?_
    try simp only [Act.put]
    try simp only [List.setIfInBounds_toArray]
    try simp only [List.set_cons_succ, List.set_cons_zero]
    refine WpLate.each (rs := [6]) (by kernel_rfl) (by simp) (LateEach.cons rfl (fun K hK => ?_) LateEach.nil)
    refine step_app elemLab rfl (.tmp 10) (.tmp 14) rfl wb (.slice A 4 c) 4 (lbcells (lbsOf t A0 n0 c0 A1 n1 c1 A2 n2 c2 A3 n3 c3)) rfl HO.out (some ⟨yb, 0, none⟩) 3 3 (lbcells [⟨e, Ae, ne, ce⟩, ⟨r, Ar, nr, cr⟩, ⟨d, Ad, nd, cd⟩]) rfl HY.out rfl (lbcells_one _) (by omega) (by omega) HBS.out ?_
    intro v4 w4 hap
    have HC4 : Hid (Below w0.heap.size w0 w4) := Lib.hid (HC3.out.grown hap.grown HC3.out.size (fun j hj => Nat.le_trans HBL.out (HO.out.lt j hj).1))
    have HB4 : Hid (Below w.heap.size w w4) := Lib.hid (below_more HB.out HC4.out)
    obtain ⟨A5, c5, rfl, -, -, ha5⟩ := own_at hap.own
    rw [← lbcells_append] at ha5
    have HA5 := Lib.hid ha5
    clear hap ha5 HO HY
    refine hK.out _ _ (fun _ => ⟨(B0.out.below HC4.out).cell 0 rfl, (B0.out.below HC4.out).cell 1 rfl, (B0.out.below HC4.out).cell 2 rfl, (B0.out.below HC4.out).cell 3 rfl, (B0.out.below HC4.out).cell 4 rfl, (B0.out.below HC4.out).cell 5 rfl, (B0.out.below HC4.out).cell 6 rfl, (B0.out.below HC4.out).cell 7 rfl, (B1.out.below HC4.out).cell 0 rfl, (B1.out.below HC4.out).cell 1 rfl, (B2.out.below HC4.out).cell 0 rfl, (B2.out.below HC4.out).cell 1 rfl, (B3.out.below HC4.out).cell 0 rfl, (B3.out.below HC4.out).cell 1 rfl, (HC4.out.cell (block_lt_of_cell HW0.out)).trans HW0.out⟩) ?_
    try simp only [Act.put]
    try simp only [List.setIfInBounds_toArray]
    try simp only [List.set_cons_succ, List.set_cons_zero]
    refine WpLate.each (rs := [9]) (by kernel_rfl) (by simp) (LateEach.cons rfl (fun K hK => ?_) LateEach.nil)
    go_simp
    refine (first_accepts A5 7 c5 (lbsOf t A0 n0 c0 A1 n1 c1 A2 n2 c2 A3 n3 c3 ++ [⟨e, Ae, ne, ce⟩, ⟨r, Ar, nr, cr⟩, ⟨d, Ad, nd, cd⟩]) 1 b (inL e r t d) (w.heap.size) (w.heap.size + 1 + 1) (w.heap.size + 1) (w.heap.size + 1 + 1 + 1) w4 HA5.out rfl (by omega) (.append (lbs_read (RT.out.below HB4.out)) (.cons (Re.out.below HB4.out) (.cons (Rr.out.below HB4.out) (.cons (Rd.out.below HB4.out) (.nil _))))) (HS.out.below HB4.out) ((HB4.out.cell (block_lt_of_cell HW.out)).trans HW.out)
      (fun hok x w5 hb5 => clo_accepts x _ _ _ _ t d r e w5 ⟨by have h := hok; rw [allOk_map] at h; simp [lbsOf] at h; simp [termsOk, h], A0, n0, c0, A1, n1, c1, A2, n2, c2, A3, n3, c3, (B0.out.below (below_more HC4.out hb5)).has, RT.out.below (below_more HB4.out hb5)⟩ ⟨by have h := hok; rw [allOk_map] at h; simp [lbsOf] at h; simp [h], Ad, nd, cd, (B2.out.below (below_more HC4.out hb5)).has, Rd.out.below (below_more HB4.out hb5)⟩ ⟨by have h := hok; rw [allOk_map] at h; simp [lbsOf] at h; simp [h], Ar, nr, cr, (B1.out.below (below_more HC4.out hb5)).has, Rr.out.below (below_more HB4.out hb5)⟩ ⟨by have h := hok; rw [allOk_map] at h; simp [lbsOf] at h; simp [h], Ae, ne, ce, (B3.out.below (below_more HC4.out hb5)).has, Re.out.below (below_more HB4.out hb5)⟩)).mono ?_
    rintro e6 w6 ⟨v6, rfl, he, hb6⟩
    have HC6 := Lib.hid (below_more HC4.out hb6)
    have HE : Hid (IsErr w6 1 (accepts e r t d) (termsOk t && (labOk e && (labOk r && labOk d))) v6) := Lib.hid (by
      have h1 : (allOk (lbsOf t A0 n0 c0 A1 n1 c1 A2 n2 c2 A3 n3 c3 ++ [⟨e, Ae, ne, ce⟩, ⟨r, Ar, nr, cr⟩, ⟨d, Ad, nd, cd⟩]) && (hsOf (lbsOf t A0 n0 c0 A1 n1 c1 A2 n2 c2 A3 n3 c3 ++ [⟨e, Ae, ne, ce⟩, ⟨r, Ar, nr, cr⟩, ⟨d, Ad, nd, cd⟩])).all (inL e r t d)) = accepts e r t d := accepts_all rfl
      have h2 : allOk (lbsOf t A0 n0 c0 A1 n1 c1 A2 n2 c2 A3 n3 c3 ++ [⟨e, Ae, ne, ce⟩, ⟨r, Ar, nr, cr⟩, ⟨d, Ad, nd, cd⟩]) = (termsOk t && (labOk e && (labOk r && labOk d))) := by rw [allOk_map]; simp [lbsOf, termsOk, Bool.and_assoc]
      rw [h1, h2] at he
      exact he)
    clear he hb6
    refine hK.out _ _ (fun _ => ⟨(B0.out.below HC6.out).cell 0 rfl, (B0.out.below HC6.out).cell 1 rfl, (B0.out.below HC6.out).cell 2 rfl, (B0.out.below HC6.out).cell 3 rfl, (B0.out.below HC6.out).cell 4 rfl, (B0.out.below HC6.out).cell 5 rfl, (B0.out.below HC6.out).cell 6 rfl, (B0.out.below HC6.out).cell 7 rfl, (B1.out.below HC6.out).cell 0 rfl, (B1.out.below HC6.out).cell 1 rfl, (B2.out.below HC6.out).cell 0 rfl, (B2.out.below HC6.out).cell 1 rfl, (B3.out.below HC6.out).cell 0 rfl, (B3.out.below HC6.out).cell 1 rfl, (HC6.out.cell (block_lt_of_cell HW0.out)).trans HW0.out⟩) ?_
    try simp only [Act.put]
    try simp only [List.setIfInBounds_toArray]
    try simp only [List.set_cons_succ, List.set_cons_zero]
    refine WpLate.each (rs := [10]) (by kernel_rfl) (by simp) (LateEach.cons rfl (fun K hK => ?_) LateEach.nil)
    go_simp
    refine hK.out _ _ (fun _ => ⟨(B0.out.below HC6.out).cell 0 rfl, (B0.out.below HC6.out).cell 1 rfl, (B0.out.below HC6.out).cell 2 rfl, (B0.out.below HC6.out).cell 3 rfl, (B0.out.below HC6.out).cell 4 rfl, (B0.out.below HC6.out).cell 5 rfl, (B0.out.below HC6.out).cell 6 rfl, (B0.out.below HC6.out).cell 7 rfl, (B1.out.below HC6.out).cell 0 rfl, (B1.out.below HC6.out).cell 1 rfl, (B2.out.below HC6.out).cell 0 rfl, (B2.out.below HC6.out).cell 1 rfl, (B3.out.below HC6.out).cell 0 rfl, (B3.out.below HC6.out).cell 1 rfl, (HC6.out.cell (block_lt_of_cell HW0.out)).trans HW0.out⟩) ?_
    try simp only [Act.put]
    try simp only [List.setIfInBounds_toArray]
    try simp only [List.set_cons_succ, List.set_cons_zero]
    refine WpLate.done (by kernel_rfl) ?_ _
    go_wp2
    go_ret
    exact ⟨_, rfl, HE.out, below_more HB.out HC6.out⟩
end Go.Proofs.YtedaknjjcdlpnaaDoor
