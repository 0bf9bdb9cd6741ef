/-
  Chapter 5 of the program: Allowed and Accepts, where the program's sentinels are as they were laid.
-/
import Derived.Test.YtedaknjjcdlpnaaDoorImplTold
namespace Go.Proofs.YtedaknjjcdlpnaaDoor
set_option maxRecDepth 100000
open Go.RowKit

set_option maxHeartbeats 2000000 in
theorem impl_allowed (us ut : Value) (s : Lab) (t : Tm) (w : World) (hs : RdLab w us s) (ht : RdTm w ut t) (hs : Sent w 2) :
    Calls Tryd.prog 11 #[us, ut] w (RetV (.bool (allowed s t)) w) := by
  have HS := Lib.hid hs
  clear hs
  have Rs := Lib.hid hs
  obtain ⟨As, ns, cs, rfl, -⟩ := hs
  have Rt := Lib.hid ht
  obtain ⟨A0, n0, c0, A1, n1, c1, A2, n2, c2, A3, n3, c3, rfl, -, -, -, -⟩ := ht
  go_enter Tryd.func11, Tryd.ntmps11
  go_wp2_with fail
  generalize hW : (w.alloc (.cells #[.int .i64 s.base, .slice As ns cs] 26)).alloc (.cells #[.int .i64 t.taint.base, .slice A0 n0 c0, .int .i64 t.clear.base, .slice A1 n1 c1, .int .i64 t.raise.base, .slice A2 n2 c2, .int .i64 t.verify.base, .slice A3 n3 c3] 28) = w0
  have bel : Below w.heap.size w w0 := by rw [← hW]; go_grown
  have HB := Lib.hid bel
  clear hW bel
  refine (impl_allowedto _ _ t s _ (Rt.out.below HB.out) (Rs.out.below HB.out) (HS.out.below HB.out)).mono ?_
  rintro e9 w1 ⟨v9, rfl, he, hb⟩
  have HB1 := Lib.hid (below_more HB.out hb)
  have HE := Lib.hid he
  clear he hb
  go_wp2_with fail
  refine (impl_granted 2 (allowed s t) (termsOk t && labOk s) v9 _ (HS.out.below HB1.out) HE.out).mono ?_
  rintro e9 w2 ⟨rfl, hb⟩
  go_wp2
  go_ret
  exact .mk rfl (below_more HB1.out hb)
set_option maxHeartbeats 2000000 in
theorem impl_accepts (ue ur ut ud : Value) (e : Lab) (r : Lab) (t : Tm) (d : Lab) (w : World) (he : RdLab w ue e) (hr : RdLab w ur r) (ht : RdTm w ut t) (hd : RdLab w ud d) (hs : Sent w 1) :
    Calls Tryd.prog 10 #[ue, ur, ut, ud] w (RetV (.bool (accepts e r t d)) w) := by
  have HS := Lib.hid hs
  clear hs
  have Re := Lib.hid he
  obtain ⟨Ae, ne, ce, rfl, -⟩ := he
  have Rr := Lib.hid hr
  obtain ⟨Ar, nr, cr, rfl, -⟩ := hr
  have Rt := Lib.hid ht
  obtain ⟨A0, n0, c0, A1, n1, c1, A2, n2, c2, A3, n3, c3, rfl, -, -, -, -⟩ := ht
  have Rd := Lib.hid hd
  obtain ⟨Ad, nd, cd, rfl, -⟩ := hd
  go_enter Tryd.func10, Tryd.ntmps10
  go_wp2_with fail
  generalize hW : (((w.alloc (.cells #[.int .i64 e.base, .slice Ae ne ce] 26)).alloc (.cells #[.int .i64 r.base, .slice Ar nr cr] 26)).alloc (.cells #[.int .i64 t.taint.base, .slice A0 n0 c0, .int .i64 t.clear.base, .slice A1 n1 c1, .int .i64 t.raise.base, .slice A2 n2 c2, .int .i64 t.verify.base, .slice A3 n3 c3] 28)).alloc (.cells #[.int .i64 d.base, .slice Ad nd cd] 26) = w0
  have bel : Below w.heap.size w w0 := by rw [← hW]; go_grown
  have HB := Lib.hid bel
  clear hW bel
  refine (impl_acceptedby _ _ _ _ t r d e _ (Rt.out.below HB.out) (Rr.out.below HB.out) (Rd.out.below HB.out) (Re.out.below HB.out) (HS.out.below HB.out)).mono ?_
  rintro e9 w1 ⟨v9, rfl, he, hb⟩
  have HB1 := Lib.hid (below_more HB.out hb)
  have HE := Lib.hid he
  clear he hb
  go_wp2_with fail
  refine (impl_granted 1 (accepts e r t d) (termsOk t && (labOk e && (labOk r && labOk d))) v9 _ (HS.out.below HB1.out) HE.out).mono ?_
  rintro e9 w2 ⟨rfl, hb⟩
  go_wp2
  go_ret
  exact .mk rfl (below_more HB1.out hb)
end Go.Proofs.YtedaknjjcdlpnaaDoor
