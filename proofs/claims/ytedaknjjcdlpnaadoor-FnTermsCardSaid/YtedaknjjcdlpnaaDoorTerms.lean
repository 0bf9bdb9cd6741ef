/-
  FnTerms: whatever the input, the law returns true and its arguments read as they did; no condition but the tie of the listed variables.
-/
import Derived.Deep.DeepCutAuto
import Derived.Test.YtedaknjjcdlpnaaDoorBase
import Derived.Test.YtedaknjjcdlpnaaDoorCards
import Derived.Test.YtedaknjjcdlpnaaDoorTie
import Derived.SevenTiedAt
import Derived.LaidMore
import Derived.Stop.Joined
import Derived.Test.YtedaknjjcdlpnaaDoorTermsPure
import Derived.Test.YtedaknjjcdlpnaaDoorDrawAccepts
import Derived.Test.YtedaknjjcdlpnaaDoorSpecAllowed
import Derived.Test.YtedaknjjcdlpnaaDoorSpecAccepts
import Derived.Test.YtedaknjjcdlpnaaDoorSpecJoin2
import Derived.Test.YtedaknjjcdlpnaaDoorLate2
import Derived.Test.YtedaknjjcdlpnaaDoorImplTerms
import Derived.Test.YtedaknjjcdlpnaaDoorSent
namespace Go.Proofs.YtedaknjjcdlpnaaDoor.fnTerms
set_option maxRecDepth 100000
open Go.ChangeShapes Go.WideShapes Go.ChangeAt Go.RowKit
open Go.ChangeMaps (open_string shut_string)
set_option linter.unusedVariables false

theorem like_eq {l m : Lab} (h : Hid (l = m)) (v u : Value) (w : World) (hr : RdLab w v l) (hq : RdLab w u m) : Calls Tryd.prog 22 #[v, u] w (RetV (.bool true) w) := by
  have e := h.out
  subst e
  exact like_lab v u l w hr hq

set_option maxHeartbeats 16000000 in
theorem walk {w : World} (a : Option Addr) (len cap : Nat) (zs : List Int) (w0 : IsRow .u8 w a len cap zs) (hs : Sent w 2) (hs2 : Sent w 1) :
    Calls Tryd.prog 3 #[.slice a len cap] w fun e w' => e = .returned (.bool true) ∧ Below w.heap.size w w' := by
  by_cases hl : len ≤ 4096
  · go_enter Tryd.func3, Tryd.ntmps3
    go_wp2_with fail
    refine (big_no a len cap _ (by omega)).mono ?_
    rintro e0 w1 ⟨rfl, rfl⟩
    go_wp2_with fail
    refine (draw_allowed a len cap zs _ hl w0).mono ?_
    rintro e y0 ⟨v1, u1, s, t, rfl, rs, -, rt, -, hb⟩
    have bel' : Below w.heap.size w y0 := hb
    clear hb
    have bel := bel'
    clear bel'
    have RS := Lib.hid rs
    obtain ⟨As_, ns_, cs_, rfl, -⟩ := rs
    have RT := Lib.hid rt
    obtain ⟨At_0, nt_0, ct_0, At_1, nt_1, ct_1, At_2, nt_2, ct_2, At_3, nt_3, ct_3, rfl, -, -, -, -⟩ := rt
    go_wp2_with fail
    generalize hW : (y0.alloc (.cells #[.int .i64 s.base, .slice As_ ns_ cs_] 26)).alloc (.cells #[.int .i64 t.taint.base, .slice At_0 nt_0 ct_0, .int .i64 t.clear.base, .slice At_1 nt_1 ct_1, .int .i64 t.raise.base, .slice At_2 nt_2 ct_2, .int .i64 t.verify.base, .slice At_3 nt_3 ct_3] 28) = x1
    obtain ⟨nb0, nb1, hsz, hb⟩ := laid2 (ps := [.int .i64 s.base, .slice As_ ns_ cs_]) (rs := [.int .i64 t.taint.base, .slice At_0 nt_0 ct_0, .int .i64 t.clear.base, .slice At_1 nt_1 ct_1, .int .i64 t.raise.base, .slice At_2 nt_2 ct_2, .int .i64 t.verify.base, .slice At_3 nt_3 ct_3]) hW
    have RS' := Lib.hid (RS.out.below hb)
    clear RS
    have RS := RS'
    clear RS'
    have RT' := Lib.hid (RT.out.below hb)
    clear RT
    have RT := RT'
    clear RT'
    have bel' : Below w.heap.size w x1 := below_more bel hb
    clear bel hb
    have bel := bel'
    clear bel'
    have BS := Lib.hid nb0
    have BT := Lib.hid nb1
    clear hW hsz nb0 nb1
    refine (draw_accepts a len cap zs _ hl (by exact w0.below bel)).mono ?_
    rintro e y2 ⟨v2, u2, vx, vy, e, r, u, d, rfl, re, fe, rr, fr, ru, fu, rd, -, hb⟩
    have BS' := Lib.hid (BS.out.below hb)
    clear BS
    have BS := BS'
    clear BS'
    have BT' := Lib.hid (BT.out.below hb)
    clear BT
    have BT := BT'
    clear BT'
    have RS' := Lib.hid (RS.out.below hb)
    clear RS
    have RS := RS'
    clear RS'
    have RT' := Lib.hid (RT.out.below hb)
    clear RT
    have RT := RT'
    clear RT'
    have bel' : Below w.heap.size w y2 := below_more bel hb
    clear bel hb
    have bel := bel'
    clear bel'
    have RE := Lib.hid re
    obtain ⟨Ae_, ne_, ce_, rfl, -⟩ := re
    have RR := Lib.hid rr
    obtain ⟨Ar_, nr_, cr_, rfl, -⟩ := rr
    have RU := Lib.hid ru
    obtain ⟨Au_0, nu_0, cu_0, Au_1, nu_1, cu_1, Au_2, nu_2, cu_2, Au_3, nu_3, cu_3, rfl, -, -, -, -⟩ := ru
    have RD := Lib.hid rd
    obtain ⟨Ad_, nd_, cd_, rfl, -⟩ := rd
    go_wp2_with fail
    generalize hW : (((y2.alloc (.cells #[.int .i64 e.base, .slice Ae_ ne_ ce_] 26)).alloc (.cells #[.int .i64 r.base, .slice Ar_ nr_ cr_] 26)).alloc (.cells #[.int .i64 u.taint.base, .slice Au_0 nu_0 cu_0, .int .i64 u.clear.base, .slice Au_1 nu_1 cu_1, .int .i64 u.raise.base, .slice Au_2 nu_2 cu_2, .int .i64 u.verify.base, .slice Au_3 nu_3 cu_3] 28)).alloc (.cells #[.int .i64 d.base, .slice Ad_ nd_ cd_] 26) = x3
    obtain ⟨nb0, nb1, nb2, nb3, hsz, hb⟩ := laid4b (ps := [.int .i64 e.base, .slice Ae_ ne_ ce_]) (rs := [.int .i64 r.base, .slice Ar_ nr_ cr_]) (os := [.int .i64 u.taint.base, .slice Au_0 nu_0 cu_0, .int .i64 u.clear.base, .slice Au_1 nu_1 cu_1, .int .i64 u.raise.base, .slice Au_2 nu_2 cu_2, .int .i64 u.verify.base, .slice Au_3 nu_3 cu_3]) (qs := [.int .i64 d.base, .slice Ad_ nd_ cd_]) hW
    have BS' := Lib.hid (BS.out.below hb)
    clear BS
    have BS := BS'
    clear BS'
    have BT' := Lib.hid (BT.out.below hb)
    clear BT
    have BT := BT'
    clear BT'
    have RS' := Lib.hid (RS.out.below hb)
    clear RS
    have RS := RS'
    clear RS'
    have RT' := Lib.hid (RT.out.below hb)
    clear RT
    have RT := RT'
    clear RT'
    have RE' := Lib.hid (RE.out.below hb)
    clear RE
    have RE := RE'
    clear RE'
    have RR' := Lib.hid (RR.out.below hb)
    clear RR
    have RR := RR'
    clear RR'
    have RU' := Lib.hid (RU.out.below hb)
    clear RU
    have RU := RU'
    clear RU'
    have RD' := Lib.hid (RD.out.below hb)
    clear RD
    have RD := RD'
    clear RD'
    have bel' : Below w.heap.size w x3 := below_more bel hb
    clear bel hb
    have bel := bel'
    clear bel'
    have BE := Lib.hid nb0
    have BR := Lib.hid nb1
    have BU := Lib.hid nb2
    have BD := Lib.hid nb3
    clear hW hsz nb0 nb1 nb2 nb3
    refine (draw_termsok a len cap zs _ hl (by exact w0.below bel)).mono ?_
    rintro e y4 ⟨v3, k, rfl, rk, -, hb⟩
    have BS' := Lib.hid (BS.out.below hb)
    clear BS
    have BS := BS'
    clear BS'
    have BT' := Lib.hid (BT.out.below hb)
    clear BT
    have BT := BT'
    clear BT'
    have BE' := Lib.hid (BE.out.below hb)
    clear BE
    have BE := BE'
    clear BE'
    have BR' := Lib.hid (BR.out.below hb)
    clear BR
    have BR := BR'
    clear BR'
    have BU' := Lib.hid (BU.out.below hb)
    clear BU
    have BU := BU'
    clear BU'
    have BD' := Lib.hid (BD.out.below hb)
    clear BD
    have BD := BD'
    clear BD'
    have RS' := Lib.hid (RS.out.below hb)
    clear RS
    have RS := RS'
    clear RS'
    have RT' := Lib.hid (RT.out.below hb)
    clear RT
    have RT := RT'
    clear RT'
    have RE' := Lib.hid (RE.out.below hb)
    clear RE
    have RE := RE'
    clear RE'
    have RR' := Lib.hid (RR.out.below hb)
    clear RR
    have RR := RR'
    clear RR'
    have RU' := Lib.hid (RU.out.below hb)
    clear RU
    have RU := RU'
    clear RU'
    have RD' := Lib.hid (RD.out.below hb)
    clear RD
    have RD := RD'
    clear RD'
    have bel' : Below w.heap.size w y4 := below_more bel hb
    clear bel hb
    have bel := bel'
    clear bel'
    have RK := Lib.hid rk
    obtain ⟨Ak_0, nk_0, ck_0, Ak_1, nk_1, ck_1, Ak_2, nk_2, ck_2, Ak_3, nk_3, ck_3, rfl, -, -, -, -⟩ := rk
    have BEk0 := BE.out.cell 0 rfl
    have BEk1 := BE.out.cell 1 rfl
    have BEkz := BE.out.lt
    have BRk0 := BR.out.cell 0 rfl
    have BRk1 := BR.out.cell 1 rfl
    have BRkz := BR.out.lt
    have BUk0 := BU.out.cell 0 rfl
    have BUk1 := BU.out.cell 1 rfl
    have BUk2 := BU.out.cell 2 rfl
    have BUk3 := BU.out.cell 3 rfl
    have BUk4 := BU.out.cell 4 rfl
    have BUk5 := BU.out.cell 5 rfl
    have BUk6 := BU.out.cell 6 rfl
    have BUk7 := BU.out.cell 7 rfl
    have BUkz := BU.out.lt
    have BDk0 := BD.out.cell 0 rfl
    have BDk1 := BD.out.cell 1 rfl
    have BDkz := BD.out.lt
    go_wp2_with fail
    generalize hW : y4.alloc (.cells #[.int .i64 k.taint.base, .slice Ak_0 nk_0 ck_0, .int .i64 k.clear.base, .slice Ak_1 nk_1 ck_1, .int .i64 k.raise.base, .slice Ak_2 nk_2 ck_2, .int .i64 k.verify.base, .slice Ak_3 nk_3 ck_3] 28) = x5
    obtain ⟨nb0, hsz, hb⟩ := laid1 (ps := [.int .i64 k.taint.base, .slice Ak_0 nk_0 ck_0, .int .i64 k.clear.base, .slice Ak_1 nk_1 ck_1, .int .i64 k.raise.base, .slice Ak_2 nk_2 ck_2, .int .i64 k.verify.base, .slice Ak_3 nk_3 ck_3]) hW
    have BS' := Lib.hid (BS.out.below hb)
    clear BS
    have BS := BS'
    clear BS'
    have BT' := Lib.hid (BT.out.below hb)
    clear BT
    have BT := BT'
    clear BT'
    have BE' := Lib.hid (BE.out.below hb)
    clear BE
    have BE := BE'
    clear BE'
    have BR' := Lib.hid (BR.out.below hb)
    clear BR
    have BR := BR'
    clear BR'
    have BU' := Lib.hid (BU.out.below hb)
    clear BU
    have BU := BU'
    clear BU'
    have BD' := Lib.hid (BD.out.below hb)
    clear BD
    have BD := BD'
    clear BD'
    have RS' := Lib.hid (RS.out.below hb)
    clear RS
    have RS := RS'
    clear RS'
    have RT' := Lib.hid (RT.out.below hb)
    clear RT
    have RT := RT'
    clear RT'
    have RE' := Lib.hid (RE.out.below hb)
    clear RE
    have RE := RE'
    clear RE'
    have RR' := Lib.hid (RR.out.below hb)
    clear RR
    have RR := RR'
    clear RR'
    have RU' := Lib.hid (RU.out.below hb)
    clear RU
    have RU := RU'
    clear RU'
    have RD' := Lib.hid (RD.out.below hb)
    clear RD
    have RD := RD'
    clear RD'
    have RK' := Lib.hid (RK.out.below hb)
    clear RK
    have RK := RK'
    clear RK'
    have bel' : Below w.heap.size w x5 := below_more bel hb
    clear bel hb
    have bel := bel'
    clear bel'
    have BK := Lib.hid nb0
    clear hW hsz nb0
    refine (impl_accepts _ _ _ _ e r u d _ RE.out RR.out RU.out RD.out (hs2.below bel)).mono ?_
    rintro e y6 ⟨rfl, hb⟩
    clear BEk0 BEk1 BEkz BRk0 BRk1 BRkz BUk0 BUk1 BUk2 BUk3 BUk4 BUk5 BUk6 BUk7 BUkz BDk0 BDk1 BDkz
    have BS' := Lib.hid (BS.out.below hb)
    clear BS
    have BS := BS'
    clear BS'
    have BT' := Lib.hid (BT.out.below hb)
    clear BT
    have BT := BT'
    clear BT'
    have BE' := Lib.hid (BE.out.below hb)
    clear BE
    have BE := BE'
    clear BE'
    have BR' := Lib.hid (BR.out.below hb)
    clear BR
    have BR := BR'
    clear BR'
    have BU' := Lib.hid (BU.out.below hb)
    clear BU
    have BU := BU'
    clear BU'
    have BD' := Lib.hid (BD.out.below hb)
    clear BD
    have BD := BD'
    clear BD'
    have BK' := Lib.hid (BK.out.below hb)
    clear BK
    have BK := BK'
    clear BK'
    have RS' := Lib.hid (RS.out.below hb)
    clear RS
    have RS := RS'
    clear RS'
    have RT' := Lib.hid (RT.out.below hb)
    clear RT
    have RT := RT'
    clear RT'
    have RE' := Lib.hid (RE.out.below hb)
    clear RE
    have RE := RE'
    clear RE'
    have RR' := Lib.hid (RR.out.below hb)
    clear RR
    have RR := RR'
    clear RR'
    have RU' := Lib.hid (RU.out.below hb)
    clear RU
    have RU := RU'
    clear RU'
    have RD' := Lib.hid (RD.out.below hb)
    clear RD
    have RD := RD'
    clear RD'
    have RK' := Lib.hid (RK.out.below hb)
    clear RK
    have RK := RK'
    clear RK'
    have bel' : Below w.heap.size w y6 := below_more bel hb
    clear bel hb
    have bel := bel'
    clear bel'
    have BSk0 := BS.out.cell 0 rfl
    have BSk1 := BS.out.cell 1 rfl
    have BSkz := BS.out.lt
    have BTk0 := BT.out.cell 0 rfl
    have BTk1 := BT.out.cell 1 rfl
    have BTk2 := BT.out.cell 2 rfl
    have BTk3 := BT.out.cell 3 rfl
    have BTk4 := BT.out.cell 4 rfl
    have BTk5 := BT.out.cell 5 rfl
    have BTk6 := BT.out.cell 6 rfl
    have BTk7 := BT.out.cell 7 rfl
    have BTkz := BT.out.lt
    have BEk0 := BE.out.cell 0 rfl
    have BEk1 := BE.out.cell 1 rfl
    have BEkz := BE.out.lt
    have BRk0 := BR.out.cell 0 rfl
    have BRk1 := BR.out.cell 1 rfl
    have BRkz := BR.out.lt
    have BUk0 := BU.out.cell 0 rfl
    have BUk1 := BU.out.cell 1 rfl
    have BUk2 := BU.out.cell 2 rfl
    have BUk3 := BU.out.cell 3 rfl
    have BUk4 := BU.out.cell 4 rfl
    have BUk5 := BU.out.cell 5 rfl
    have BUk6 := BU.out.cell 6 rfl
    have BUk7 := BU.out.cell 7 rfl
    have BUkz := BU.out.lt
    have BDk0 := BD.out.cell 0 rfl
    have BDk1 := BD.out.cell 1 rfl
    have BDkz := BD.out.lt
    have BKk0 := BK.out.cell 0 rfl
    have BKk1 := BK.out.cell 1 rfl
    have BKk2 := BK.out.cell 2 rfl
    have BKk3 := BK.out.cell 3 rfl
    have BKk4 := BK.out.cell 4 rfl
    have BKk5 := BK.out.cell 5 rfl
    have BKk6 := BK.out.cell 6 rfl
    have BKk7 := BK.out.cell 7 rfl
    have BKkz := BK.out.lt
    have HC := Lib.hid (Below.refl y6.heap.size y6)
    go_wp2
    go_region_held3 (fun w' => w'.cell? ⟨y0.heap.size, 0, none⟩ = some (.int .i64 s.base) ∧ w'.cell? ⟨y0.heap.size, 1, none⟩ = some (.slice As_ ns_ cs_) ∧ w'.cell? ⟨y0.heap.size + 1, 0, none⟩ = some (.int .i64 t.taint.base) ∧ w'.cell? ⟨y0.heap.size + 1, 1, none⟩ = some (.slice At_0 nt_0 ct_0) ∧ w'.cell? ⟨y0.heap.size + 1, 2, none⟩ = some (.int .i64 t.clear.base) ∧ w'.cell? ⟨y0.heap.size + 1, 3, none⟩ = some (.slice At_1 nt_1 ct_1) ∧ w'.cell? ⟨y0.heap.size + 1, 4, none⟩ = some (.int .i64 t.raise.base) ∧ w'.cell? ⟨y0.heap.size + 1, 5, none⟩ = some (.slice At_2 nt_2 ct_2) ∧ w'.cell? ⟨y0.heap.size + 1, 6, none⟩ = some (.int .i64 t.verify.base) ∧ w'.cell? ⟨y0.heap.size + 1, 7, none⟩ = some (.slice At_3 nt_3 ct_3) ∧ w'.cell? ⟨y2.heap.size, 0, none⟩ = some (.int .i64 e.base) ∧ w'.cell? ⟨y2.heap.size, 1, none⟩ = some (.slice Ae_ ne_ ce_) ∧ w'.cell? ⟨y2.heap.size + 1, 0, none⟩ = some (.int .i64 r.base) ∧ w'.cell? ⟨y2.heap.size + 1, 1, none⟩ = some (.slice Ar_ nr_ cr_) ∧ w'.cell? ⟨y2.heap.size + 1 + 1, 0, none⟩ = some (.int .i64 u.taint.base) ∧ w'.cell? ⟨y2.heap.size + 1 + 1, 1, none⟩ = some (.slice Au_0 nu_0 cu_0) ∧ w'.cell? ⟨y2.heap.size + 1 + 1, 2, none⟩ = some (.int .i64 u.clear.base) ∧ w'.cell? ⟨y2.heap.size + 1 + 1, 3, none⟩ = some (.slice Au_1 nu_1 cu_1) ∧ w'.cell? ⟨y2.heap.size + 1 + 1, 4, none⟩ = some (.int .i64 u.raise.base) ∧ w'.cell? ⟨y2.heap.size + 1 + 1, 5, none⟩ = some (.slice Au_2 nu_2 cu_2) ∧ w'.cell? ⟨y2.heap.size + 1 + 1, 6, none⟩ = some (.int .i64 u.verify.base) ∧ w'.cell? ⟨y2.heap.size + 1 + 1, 7, none⟩ = some (.slice Au_3 nu_3 cu_3) ∧ w'.cell? ⟨y2.heap.size + 1 + 1 + 1, 0, none⟩ = some (.int .i64 d.base) ∧ w'.cell? ⟨y2.heap.size + 1 + 1 + 1, 1, none⟩ = some (.slice Ad_ nd_ cd_) ∧ w'.cell? ⟨y4.heap.size, 0, none⟩ = some (.int .i64 k.taint.base) ∧ w'.cell? ⟨y4.heap.size, 1, none⟩ = some (.slice Ak_0 nk_0 ck_0) ∧ w'.cell? ⟨y4.heap.size, 2, none⟩ = some (.int .i64 k.clear.base) ∧ w'.cell? ⟨y4.heap.size, 3, none⟩ = some (.slice Ak_1 nk_1 ck_1) ∧ w'.cell? ⟨y4.heap.size, 4, none⟩ = some (.int .i64 k.raise.base) ∧ w'.cell? ⟨y4.heap.size, 5, none⟩ = some (.slice Ak_2 nk_2 ck_2) ∧ w'.cell? ⟨y4.heap.size, 6, none⟩ = some (.int .i64 k.verify.base) ∧ w'.cell? ⟨y4.heap.size, 7, none⟩ = some (.slice Ak_3 nk_3 ck_3))
      (first | exact ⟨ff0, ff1, ff2, ff3, ff4, ff5, ff6, ff7, ff8, ff9, ff10, ff11, ff12, ff13, ff14, ff15, ff16, ff17, ff18, ff19, ff20, ff21, ff22, ff23, ff24, ff25, ff26, ff27, ff28, ff29, ff30, ff31⟩ | go_keep)
      (first
      | (go_at_call 11
         refine (impl_allowed _ _ s t _ (by first | exact RS.out.below HC.out | exact (RS.out.below HC.out).drew) (by first | exact RT.out.below HC.out | exact (RT.out.below HC.out).drew) (by first | exact hs.below (below_more bel HC.out) | exact (hs.below (below_more bel HC.out)).drew)).mono ?_
         rintro e wn ⟨rfl, hb⟩
         have HC' : Hid (Below y6.heap.size y6 wn) := Lib.hid (by first | exact below_more HC.out hb | exact below_more HC.out (below_undrew hb))
         clear HC
         have HC := HC'
         clear HC'
         try clear ff0 ff1 ff2 ff3 ff4 ff5 ff6 ff7 ff8 ff9 ff10 ff11 ff12 ff13 ff14 ff15 ff16 ff17 ff18 ff19 ff20 ff21 ff22 ff23 ff24 ff25 ff26 ff27 ff28 ff29 ff30 ff31
         have ff0 : wn.cell? ⟨y0.heap.size, 0, none⟩ = some (.int .i64 s.base) := (BS.out.below HC.out).cell 0 rfl
         have ff1 : wn.cell? ⟨y0.heap.size, 1, none⟩ = some (.slice As_ ns_ cs_) := (BS.out.below HC.out).cell 1 rfl
         have ff2 : wn.cell? ⟨y0.heap.size + 1, 0, none⟩ = some (.int .i64 t.taint.base) := (BT.out.below HC.out).cell 0 rfl
         have ff3 : wn.cell? ⟨y0.heap.size + 1, 1, none⟩ = some (.slice At_0 nt_0 ct_0) := (BT.out.below HC.out).cell 1 rfl
         have ff4 : wn.cell? ⟨y0.heap.size + 1, 2, none⟩ = some (.int .i64 t.clear.base) := (BT.out.below HC.out).cell 2 rfl
         have ff5 : wn.cell? ⟨y0.heap.size + 1, 3, none⟩ = some (.slice At_1 nt_1 ct_1) := (BT.out.below HC.out).cell 3 rfl
         have ff6 : wn.cell? ⟨y0.heap.size + 1, 4, none⟩ = some (.int .i64 t.raise.base) := (BT.out.below HC.out).cell 4 rfl
         have ff7 : wn.cell? ⟨y0.heap.size + 1, 5, none⟩ = some (.slice At_2 nt_2 ct_2) := (BT.out.below HC.out).cell 5 rfl
         have ff8 : wn.cell? ⟨y0.heap.size + 1, 6, none⟩ = some (.int .i64 t.verify.base) := (BT.out.below HC.out).cell 6 rfl
         have ff9 : wn.cell? ⟨y0.heap.size + 1, 7, none⟩ = some (.slice At_3 nt_3 ct_3) := (BT.out.below HC.out).cell 7 rfl
         have ff10 : wn.cell? ⟨y2.heap.size, 0, none⟩ = some (.int .i64 e.base) := (BE.out.below HC.out).cell 0 rfl
         have ff11 : wn.cell? ⟨y2.heap.size, 1, none⟩ = some (.slice Ae_ ne_ ce_) := (BE.out.below HC.out).cell 1 rfl
         have ff12 : wn.cell? ⟨y2.heap.size + 1, 0, none⟩ = some (.int .i64 r.base) := (BR.out.below HC.out).cell 0 rfl
         have ff13 : wn.cell? ⟨y2.heap.size + 1, 1, none⟩ = some (.slice Ar_ nr_ cr_) := (BR.out.below HC.out).cell 1 rfl
         have ff14 : wn.cell? ⟨y2.heap.size + 1 + 1, 0, none⟩ = some (.int .i64 u.taint.base) := (BU.out.below HC.out).cell 0 rfl
         have ff15 : wn.cell? ⟨y2.heap.size + 1 + 1, 1, none⟩ = some (.slice Au_0 nu_0 cu_0) := (BU.out.below HC.out).cell 1 rfl
         have ff16 : wn.cell? ⟨y2.heap.size + 1 + 1, 2, none⟩ = some (.int .i64 u.clear.base) := (BU.out.below HC.out).cell 2 rfl
         have ff17 : wn.cell? ⟨y2.heap.size + 1 + 1, 3, none⟩ = some (.slice Au_1 nu_1 cu_1) := (BU.out.below HC.out).cell 3 rfl
         have ff18 : wn.cell? ⟨y2.heap.size + 1 + 1, 4, none⟩ = some (.int .i64 u.raise.base) := (BU.out.below HC.out).cell 4 rfl
         have ff19 : wn.cell? ⟨y2.heap.size + 1 + 1, 5, none⟩ = some (.slice Au_2 nu_2 cu_2) := (BU.out.below HC.out).cell 5 rfl
         have ff20 : wn.cell? ⟨y2.heap.size + 1 + 1, 6, none⟩ = some (.int .i64 u.verify.base) := (BU.out.below HC.out).cell 6 rfl
         have ff21 : wn.cell? ⟨y2.heap.size + 1 + 1, 7, none⟩ = some (.slice Au_3 nu_3 cu_3) := (BU.out.below HC.out).cell 7 rfl
         have ff22 : wn.cell? ⟨y2.heap.size + 1 + 1 + 1, 0, none⟩ = some (.int .i64 d.base) := (BD.out.below HC.out).cell 0 rfl
         have ff23 : wn.cell? ⟨y2.heap.size + 1 + 1 + 1, 1, none⟩ = some (.slice Ad_ nd_ cd_) := (BD.out.below HC.out).cell 1 rfl
         have ff24 : wn.cell? ⟨y4.heap.size, 0, none⟩ = some (.int .i64 k.taint.base) := (BK.out.below HC.out).cell 0 rfl
         have ff25 : wn.cell? ⟨y4.heap.size, 1, none⟩ = some (.slice Ak_0 nk_0 ck_0) := (BK.out.below HC.out).cell 1 rfl
         have ff26 : wn.cell? ⟨y4.heap.size, 2, none⟩ = some (.int .i64 k.clear.base) := (BK.out.below HC.out).cell 2 rfl
         have ff27 : wn.cell? ⟨y4.heap.size, 3, none⟩ = some (.slice Ak_1 nk_1 ck_1) := (BK.out.below HC.out).cell 3 rfl
         have ff28 : wn.cell? ⟨y4.heap.size, 4, none⟩ = some (.int .i64 k.raise.base) := (BK.out.below HC.out).cell 4 rfl
         have ff29 : wn.cell? ⟨y4.heap.size, 5, none⟩ = some (.slice Ak_2 nk_2 ck_2) := (BK.out.below HC.out).cell 5 rfl
         have ff30 : wn.cell? ⟨y4.heap.size, 6, none⟩ = some (.int .i64 k.verify.base) := (BK.out.below HC.out).cell 6 rfl
         have ff31 : wn.cell? ⟨y4.heap.size, 7, none⟩ = some (.slice Ak_3 nk_3 ck_3) := (BK.out.below HC.out).cell 7 rfl
         skip
         clear hb)
      | (go_at_call 12
         refine (spec_allowed _ _ s t _ (by first | exact RS.out.below HC.out | exact (RS.out.below HC.out).drew) (by first | exact RT.out.below HC.out | exact (RT.out.below HC.out).drew)).mono ?_
         rintro e wn ⟨rfl, hb⟩
         have HC' : Hid (Below y6.heap.size y6 wn) := Lib.hid (by first | exact below_more HC.out hb | exact below_more HC.out (below_undrew hb))
         clear HC
         have HC := HC'
         clear HC'
         try clear ff0 ff1 ff2 ff3 ff4 ff5 ff6 ff7 ff8 ff9 ff10 ff11 ff12 ff13 ff14 ff15 ff16 ff17 ff18 ff19 ff20 ff21 ff22 ff23 ff24 ff25 ff26 ff27 ff28 ff29 ff30 ff31
         have ff0 : wn.cell? ⟨y0.heap.size, 0, none⟩ = some (.int .i64 s.base) := (BS.out.below HC.out).cell 0 rfl
         have ff1 : wn.cell? ⟨y0.heap.size, 1, none⟩ = some (.slice As_ ns_ cs_) := (BS.out.below HC.out).cell 1 rfl
         have ff2 : wn.cell? ⟨y0.heap.size + 1, 0, none⟩ = some (.int .i64 t.taint.base) := (BT.out.below HC.out).cell 0 rfl
         have ff3 : wn.cell? ⟨y0.heap.size + 1, 1, none⟩ = some (.slice At_0 nt_0 ct_0) := (BT.out.below HC.out).cell 1 rfl
         have ff4 : wn.cell? ⟨y0.heap.size + 1, 2, none⟩ = some (.int .i64 t.clear.base) := (BT.out.below HC.out).cell 2 rfl
         have ff5 : wn.cell? ⟨y0.heap.size + 1, 3, none⟩ = some (.slice At_1 nt_1 ct_1) := (BT.out.below HC.out).cell 3 rfl
         have ff6 : wn.cell? ⟨y0.heap.size + 1, 4, none⟩ = some (.int .i64 t.raise.base) := (BT.out.below HC.out).cell 4 rfl
         have ff7 : wn.cell? ⟨y0.heap.size + 1, 5, none⟩ = some (.slice At_2 nt_2 ct_2) := (BT.out.below HC.out).cell 5 rfl
         have ff8 : wn.cell? ⟨y0.heap.size + 1, 6, none⟩ = some (.int .i64 t.verify.base) := (BT.out.below HC.out).cell 6 rfl
         have ff9 : wn.cell? ⟨y0.heap.size + 1, 7, none⟩ = some (.slice At_3 nt_3 ct_3) := (BT.out.below HC.out).cell 7 rfl
         have ff10 : wn.cell? ⟨y2.heap.size, 0, none⟩ = some (.int .i64 e.base) := (BE.out.below HC.out).cell 0 rfl
         have ff11 : wn.cell? ⟨y2.heap.size, 1, none⟩ = some (.slice Ae_ ne_ ce_) := (BE.out.below HC.out).cell 1 rfl
         have ff12 : wn.cell? ⟨y2.heap.size + 1, 0, none⟩ = some (.int .i64 r.base) := (BR.out.below HC.out).cell 0 rfl
         have ff13 : wn.cell? ⟨y2.heap.size + 1, 1, none⟩ = some (.slice Ar_ nr_ cr_) := (BR.out.below HC.out).cell 1 rfl
         have ff14 : wn.cell? ⟨y2.heap.size + 1 + 1, 0, none⟩ = some (.int .i64 u.taint.base) := (BU.out.below HC.out).cell 0 rfl
         have ff15 : wn.cell? ⟨y2.heap.size + 1 + 1, 1, none⟩ = some (.slice Au_0 nu_0 cu_0) := (BU.out.below HC.out).cell 1 rfl
         have ff16 : wn.cell? ⟨y2.heap.size + 1 + 1, 2, none⟩ = some (.int .i64 u.clear.base) := (BU.out.below HC.out).cell 2 rfl
         have ff17 : wn.cell? ⟨y2.heap.size + 1 + 1, 3, none⟩ = some (.slice Au_1 nu_1 cu_1) := (BU.out.below HC.out).cell 3 rfl
         have ff18 : wn.cell? ⟨y2.heap.size + 1 + 1, 4, none⟩ = some (.int .i64 u.raise.base) := (BU.out.below HC.out).cell 4 rfl
         have ff19 : wn.cell? ⟨y2.heap.size + 1 + 1, 5, none⟩ = some (.slice Au_2 nu_2 cu_2) := (BU.out.below HC.out).cell 5 rfl
         have ff20 : wn.cell? ⟨y2.heap.size + 1 + 1, 6, none⟩ = some (.int .i64 u.verify.base) := (BU.out.below HC.out).cell 6 rfl
         have ff21 : wn.cell? ⟨y2.heap.size + 1 + 1, 7, none⟩ = some (.slice Au_3 nu_3 cu_3) := (BU.out.below HC.out).cell 7 rfl
         have ff22 : wn.cell? ⟨y2.heap.size + 1 + 1 + 1, 0, none⟩ = some (.int .i64 d.base) := (BD.out.below HC.out).cell 0 rfl
         have ff23 : wn.cell? ⟨y2.heap.size + 1 + 1 + 1, 1, none⟩ = some (.slice Ad_ nd_ cd_) := (BD.out.below HC.out).cell 1 rfl
         have ff24 : wn.cell? ⟨y4.heap.size, 0, none⟩ = some (.int .i64 k.taint.base) := (BK.out.below HC.out).cell 0 rfl
         have ff25 : wn.cell? ⟨y4.heap.size, 1, none⟩ = some (.slice Ak_0 nk_0 ck_0) := (BK.out.below HC.out).cell 1 rfl
         have ff26 : wn.cell? ⟨y4.heap.size, 2, none⟩ = some (.int .i64 k.clear.base) := (BK.out.below HC.out).cell 2 rfl
         have ff27 : wn.cell? ⟨y4.heap.size, 3, none⟩ = some (.slice Ak_1 nk_1 ck_1) := (BK.out.below HC.out).cell 3 rfl
         have ff28 : wn.cell? ⟨y4.heap.size, 4, none⟩ = some (.int .i64 k.raise.base) := (BK.out.below HC.out).cell 4 rfl
         have ff29 : wn.cell? ⟨y4.heap.size, 5, none⟩ = some (.slice Ak_2 nk_2 ck_2) := (BK.out.below HC.out).cell 5 rfl
         have ff30 : wn.cell? ⟨y4.heap.size, 6, none⟩ = some (.int .i64 k.verify.base) := (BK.out.below HC.out).cell 6 rfl
         have ff31 : wn.cell? ⟨y4.heap.size, 7, none⟩ = some (.slice Ak_3 nk_3 ck_3) := (BK.out.below HC.out).cell 7 rfl
         skip
         clear hb)
      | (go_at_call 13
         refine (spec_accepts _ _ _ _ e r u d _ (by first | exact RE.out.below HC.out | exact (RE.out.below HC.out).drew) (by first | exact RR.out.below HC.out | exact (RR.out.below HC.out).drew) (by first | exact RU.out.below HC.out | exact (RU.out.below HC.out).drew) (by first | exact RD.out.below HC.out | exact (RD.out.below HC.out).drew)).mono ?_
         rintro e wn ⟨rfl, hb⟩
         have HC' : Hid (Below y6.heap.size y6 wn) := Lib.hid (by first | exact below_more HC.out hb | exact below_more HC.out (below_undrew hb))
         clear HC
         have HC := HC'
         clear HC'
         try clear ff0 ff1 ff2 ff3 ff4 ff5 ff6 ff7 ff8 ff9 ff10 ff11 ff12 ff13 ff14 ff15 ff16 ff17 ff18 ff19 ff20 ff21 ff22 ff23 ff24 ff25 ff26 ff27 ff28 ff29 ff30 ff31
         have ff0 : wn.cell? ⟨y0.heap.size, 0, none⟩ = some (.int .i64 s.base) := (BS.out.below HC.out).cell 0 rfl
         have ff1 : wn.cell? ⟨y0.heap.size, 1, none⟩ = some (.slice As_ ns_ cs_) := (BS.out.below HC.out).cell 1 rfl
         have ff2 : wn.cell? ⟨y0.heap.size + 1, 0, none⟩ = some (.int .i64 t.taint.base) := (BT.out.below HC.out).cell 0 rfl
         have ff3 : wn.cell? ⟨y0.heap.size + 1, 1, none⟩ = some (.slice At_0 nt_0 ct_0) := (BT.out.below HC.out).cell 1 rfl
         have ff4 : wn.cell? ⟨y0.heap.size + 1, 2, none⟩ = some (.int .i64 t.clear.base) := (BT.out.below HC.out).cell 2 rfl
         have ff5 : wn.cell? ⟨y0.heap.size + 1, 3, none⟩ = some (.slice At_1 nt_1 ct_1) := (BT.out.below HC.out).cell 3 rfl
         have ff6 : wn.cell? ⟨y0.heap.size + 1, 4, none⟩ = some (.int .i64 t.raise.base) := (BT.out.below HC.out).cell 4 rfl
         have ff7 : wn.cell? ⟨y0.heap.size + 1, 5, none⟩ = some (.slice At_2 nt_2 ct_2) := (BT.out.below HC.out).cell 5 rfl
         have ff8 : wn.cell? ⟨y0.heap.size + 1, 6, none⟩ = some (.int .i64 t.verify.base) := (BT.out.below HC.out).cell 6 rfl
         have ff9 : wn.cell? ⟨y0.heap.size + 1, 7, none⟩ = some (.slice At_3 nt_3 ct_3) := (BT.out.below HC.out).cell 7 rfl
         have ff10 : wn.cell? ⟨y2.heap.size, 0, none⟩ = some (.int .i64 e.base) := (BE.out.below HC.out).cell 0 rfl
         have ff11 : wn.cell? ⟨y2.heap.size, 1, none⟩ = some (.slice Ae_ ne_ ce_) := (BE.out.below HC.out).cell 1 rfl
         have ff12 : wn.cell? ⟨y2.heap.size + 1, 0, none⟩ = some (.int .i64 r.base) := (BR.out.below HC.out).cell 0 rfl
         have ff13 : wn.cell? ⟨y2.heap.size + 1, 1, none⟩ = some (.slice Ar_ nr_ cr_) := (BR.out.below HC.out).cell 1 rfl
         have ff14 : wn.cell? ⟨y2.heap.size + 1 + 1, 0, none⟩ = some (.int .i64 u.taint.base) := (BU.out.below HC.out).cell 0 rfl
         have ff15 : wn.cell? ⟨y2.heap.size + 1 + 1, 1, none⟩ = some (.slice Au_0 nu_0 cu_0) := (BU.out.below HC.out).cell 1 rfl
         have ff16 : wn.cell? ⟨y2.heap.size + 1 + 1, 2, none⟩ = some (.int .i64 u.clear.base) := (BU.out.below HC.out).cell 2 rfl
         have ff17 : wn.cell? ⟨y2.heap.size + 1 + 1, 3, none⟩ = some (.slice Au_1 nu_1 cu_1) := (BU.out.below HC.out).cell 3 rfl
         have ff18 : wn.cell? ⟨y2.heap.size + 1 + 1, 4, none⟩ = some (.int .i64 u.raise.base) := (BU.out.below HC.out).cell 4 rfl
         have ff19 : wn.cell? ⟨y2.heap.size + 1 + 1, 5, none⟩ = some (.slice Au_2 nu_2 cu_2) := (BU.out.below HC.out).cell 5 rfl
         have ff20 : wn.cell? ⟨y2.heap.size + 1 + 1, 6, none⟩ = some (.int .i64 u.verify.base) := (BU.out.below HC.out).cell 6 rfl
         have ff21 : wn.cell? ⟨y2.heap.size + 1 + 1, 7, none⟩ = some (.slice Au_3 nu_3 cu_3) := (BU.out.below HC.out).cell 7 rfl
         have ff22 : wn.cell? ⟨y2.heap.size + 1 + 1 + 1, 0, none⟩ = some (.int .i64 d.base) := (BD.out.below HC.out).cell 0 rfl
         have ff23 : wn.cell? ⟨y2.heap.size + 1 + 1 + 1, 1, none⟩ = some (.slice Ad_ nd_ cd_) := (BD.out.below HC.out).cell 1 rfl
         have ff24 : wn.cell? ⟨y4.heap.size, 0, none⟩ = some (.int .i64 k.taint.base) := (BK.out.below HC.out).cell 0 rfl
         have ff25 : wn.cell? ⟨y4.heap.size, 1, none⟩ = some (.slice Ak_0 nk_0 ck_0) := (BK.out.below HC.out).cell 1 rfl
         have ff26 : wn.cell? ⟨y4.heap.size, 2, none⟩ = some (.int .i64 k.clear.base) := (BK.out.below HC.out).cell 2 rfl
         have ff27 : wn.cell? ⟨y4.heap.size, 3, none⟩ = some (.slice Ak_1 nk_1 ck_1) := (BK.out.below HC.out).cell 3 rfl
         have ff28 : wn.cell? ⟨y4.heap.size, 4, none⟩ = some (.int .i64 k.raise.base) := (BK.out.below HC.out).cell 4 rfl
         have ff29 : wn.cell? ⟨y4.heap.size, 5, none⟩ = some (.slice Ak_2 nk_2 ck_2) := (BK.out.below HC.out).cell 5 rfl
         have ff30 : wn.cell? ⟨y4.heap.size, 6, none⟩ = some (.int .i64 k.verify.base) := (BK.out.below HC.out).cell 6 rfl
         have ff31 : wn.cell? ⟨y4.heap.size, 7, none⟩ = some (.slice Ak_3 nk_3 ck_3) := (BK.out.below HC.out).cell 7 rfl
         skip
         clear hb)
      | (go_at_call 14
         refine (impl_termsok _ k _ (by first | exact RK.out.below HC.out | exact (RK.out.below HC.out).drew)).mono ?_
         rintro e wn ⟨rfl, hb⟩
         have HC' : Hid (Below y6.heap.size y6 wn) := Lib.hid (by first | exact below_more HC.out hb | exact below_more HC.out (below_undrew hb))
         clear HC
         have HC := HC'
         clear HC'
         try clear ff0 ff1 ff2 ff3 ff4 ff5 ff6 ff7 ff8 ff9 ff10 ff11 ff12 ff13 ff14 ff15 ff16 ff17 ff18 ff19 ff20 ff21 ff22 ff23 ff24 ff25 ff26 ff27 ff28 ff29 ff30 ff31
         have ff0 : wn.cell? ⟨y0.heap.size, 0, none⟩ = some (.int .i64 s.base) := (BS.out.below HC.out).cell 0 rfl
         have ff1 : wn.cell? ⟨y0.heap.size, 1, none⟩ = some (.slice As_ ns_ cs_) := (BS.out.below HC.out).cell 1 rfl
         have ff2 : wn.cell? ⟨y0.heap.size + 1, 0, none⟩ = some (.int .i64 t.taint.base) := (BT.out.below HC.out).cell 0 rfl
         have ff3 : wn.cell? ⟨y0.heap.size + 1, 1, none⟩ = some (.slice At_0 nt_0 ct_0) := (BT.out.below HC.out).cell 1 rfl
         have ff4 : wn.cell? ⟨y0.heap.size + 1, 2, none⟩ = some (.int .i64 t.clear.base) := (BT.out.below HC.out).cell 2 rfl
         have ff5 : wn.cell? ⟨y0.heap.size + 1, 3, none⟩ = some (.slice At_1 nt_1 ct_1) := (BT.out.below HC.out).cell 3 rfl
         have ff6 : wn.cell? ⟨y0.heap.size + 1, 4, none⟩ = some (.int .i64 t.raise.base) := (BT.out.below HC.out).cell 4 rfl
         have ff7 : wn.cell? ⟨y0.heap.size + 1, 5, none⟩ = some (.slice At_2 nt_2 ct_2) := (BT.out.below HC.out).cell 5 rfl
         have ff8 : wn.cell? ⟨y0.heap.size + 1, 6, none⟩ = some (.int .i64 t.verify.base) := (BT.out.below HC.out).cell 6 rfl
         have ff9 : wn.cell? ⟨y0.heap.size + 1, 7, none⟩ = some (.slice At_3 nt_3 ct_3) := (BT.out.below HC.out).cell 7 rfl
         have ff10 : wn.cell? ⟨y2.heap.size, 0, none⟩ = some (.int .i64 e.base) := (BE.out.below HC.out).cell 0 rfl
         have ff11 : wn.cell? ⟨y2.heap.size, 1, none⟩ = some (.slice Ae_ ne_ ce_) := (BE.out.below HC.out).cell 1 rfl
         have ff12 : wn.cell? ⟨y2.heap.size + 1, 0, none⟩ = some (.int .i64 r.base) := (BR.out.below HC.out).cell 0 rfl
         have ff13 : wn.cell? ⟨y2.heap.size + 1, 1, none⟩ = some (.slice Ar_ nr_ cr_) := (BR.out.below HC.out).cell 1 rfl
         have ff14 : wn.cell? ⟨y2.heap.size + 1 + 1, 0, none⟩ = some (.int .i64 u.taint.base) := (BU.out.below HC.out).cell 0 rfl
         have ff15 : wn.cell? ⟨y2.heap.size + 1 + 1, 1, none⟩ = some (.slice Au_0 nu_0 cu_0) := (BU.out.below HC.out).cell 1 rfl
         have ff16 : wn.cell? ⟨y2.heap.size + 1 + 1, 2, none⟩ = some (.int .i64 u.clear.base) := (BU.out.below HC.out).cell 2 rfl
         have ff17 : wn.cell? ⟨y2.heap.size + 1 + 1, 3, none⟩ = some (.slice Au_1 nu_1 cu_1) := (BU.out.below HC.out).cell 3 rfl
         have ff18 : wn.cell? ⟨y2.heap.size + 1 + 1, 4, none⟩ = some (.int .i64 u.raise.base) := (BU.out.below HC.out).cell 4 rfl
         have ff19 : wn.cell? ⟨y2.heap.size + 1 + 1, 5, none⟩ = some (.slice Au_2 nu_2 cu_2) := (BU.out.below HC.out).cell 5 rfl
         have ff20 : wn.cell? ⟨y2.heap.size + 1 + 1, 6, none⟩ = some (.int .i64 u.verify.base) := (BU.out.below HC.out).cell 6 rfl
         have ff21 : wn.cell? ⟨y2.heap.size + 1 + 1, 7, none⟩ = some (.slice Au_3 nu_3 cu_3) := (BU.out.below HC.out).cell 7 rfl
         have ff22 : wn.cell? ⟨y2.heap.size + 1 + 1 + 1, 0, none⟩ = some (.int .i64 d.base) := (BD.out.below HC.out).cell 0 rfl
         have ff23 : wn.cell? ⟨y2.heap.size + 1 + 1 + 1, 1, none⟩ = some (.slice Ad_ nd_ cd_) := (BD.out.below HC.out).cell 1 rfl
         have ff24 : wn.cell? ⟨y4.heap.size, 0, none⟩ = some (.int .i64 k.taint.base) := (BK.out.below HC.out).cell 0 rfl
         have ff25 : wn.cell? ⟨y4.heap.size, 1, none⟩ = some (.slice Ak_0 nk_0 ck_0) := (BK.out.below HC.out).cell 1 rfl
         have ff26 : wn.cell? ⟨y4.heap.size, 2, none⟩ = some (.int .i64 k.clear.base) := (BK.out.below HC.out).cell 2 rfl
         have ff27 : wn.cell? ⟨y4.heap.size, 3, none⟩ = some (.slice Ak_1 nk_1 ck_1) := (BK.out.below HC.out).cell 3 rfl
         have ff28 : wn.cell? ⟨y4.heap.size, 4, none⟩ = some (.int .i64 k.raise.base) := (BK.out.below HC.out).cell 4 rfl
         have ff29 : wn.cell? ⟨y4.heap.size, 5, none⟩ = some (.slice Ak_2 nk_2 ck_2) := (BK.out.below HC.out).cell 5 rfl
         have ff30 : wn.cell? ⟨y4.heap.size, 6, none⟩ = some (.int .i64 k.verify.base) := (BK.out.below HC.out).cell 6 rfl
         have ff31 : wn.cell? ⟨y4.heap.size, 7, none⟩ = some (.slice Ak_3 nk_3 ck_3) := (BK.out.below HC.out).cell 7 rfl
         skip
         clear hb)
      | (go_at_call 15
         refine (spec_termsok _ k _ (by first | exact RK.out.below HC.out | exact (RK.out.below HC.out).drew)).mono ?_
         rintro e wn ⟨rfl, hb⟩
         have HC' : Hid (Below y6.heap.size y6 wn) := Lib.hid (by first | exact below_more HC.out hb | exact below_more HC.out (below_undrew hb))
         clear HC
         have HC := HC'
         clear HC'
         try clear ff0 ff1 ff2 ff3 ff4 ff5 ff6 ff7 ff8 ff9 ff10 ff11 ff12 ff13 ff14 ff15 ff16 ff17 ff18 ff19 ff20 ff21 ff22 ff23 ff24 ff25 ff26 ff27 ff28 ff29 ff30 ff31
         have ff0 : wn.cell? ⟨y0.heap.size, 0, none⟩ = some (.int .i64 s.base) := (BS.out.below HC.out).cell 0 rfl
         have ff1 : wn.cell? ⟨y0.heap.size, 1, none⟩ = some (.slice As_ ns_ cs_) := (BS.out.below HC.out).cell 1 rfl
         have ff2 : wn.cell? ⟨y0.heap.size + 1, 0, none⟩ = some (.int .i64 t.taint.base) := (BT.out.below HC.out).cell 0 rfl
         have ff3 : wn.cell? ⟨y0.heap.size + 1, 1, none⟩ = some (.slice At_0 nt_0 ct_0) := (BT.out.below HC.out).cell 1 rfl
         have ff4 : wn.cell? ⟨y0.heap.size + 1, 2, none⟩ = some (.int .i64 t.clear.base) := (BT.out.below HC.out).cell 2 rfl
         have ff5 : wn.cell? ⟨y0.heap.size + 1, 3, none⟩ = some (.slice At_1 nt_1 ct_1) := (BT.out.below HC.out).cell 3 rfl
         have ff6 : wn.cell? ⟨y0.heap.size + 1, 4, none⟩ = some (.int .i64 t.raise.base) := (BT.out.below HC.out).cell 4 rfl
         have ff7 : wn.cell? ⟨y0.heap.size + 1, 5, none⟩ = some (.slice At_2 nt_2 ct_2) := (BT.out.below HC.out).cell 5 rfl
         have ff8 : wn.cell? ⟨y0.heap.size + 1, 6, none⟩ = some (.int .i64 t.verify.base) := (BT.out.below HC.out).cell 6 rfl
         have ff9 : wn.cell? ⟨y0.heap.size + 1, 7, none⟩ = some (.slice At_3 nt_3 ct_3) := (BT.out.below HC.out).cell 7 rfl
         have ff10 : wn.cell? ⟨y2.heap.size, 0, none⟩ = some (.int .i64 e.base) := (BE.out.below HC.out).cell 0 rfl
         have ff11 : wn.cell? ⟨y2.heap.size, 1, none⟩ = some (.slice Ae_ ne_ ce_) := (BE.out.below HC.out).cell 1 rfl
         have ff12 : wn.cell? ⟨y2.heap.size + 1, 0, none⟩ = some (.int .i64 r.base) := (BR.out.below HC.out).cell 0 rfl
         have ff13 : wn.cell? ⟨y2.heap.size + 1, 1, none⟩ = some (.slice Ar_ nr_ cr_) := (BR.out.below HC.out).cell 1 rfl
         have ff14 : wn.cell? ⟨y2.heap.size + 1 + 1, 0, none⟩ = some (.int .i64 u.taint.base) := (BU.out.below HC.out).cell 0 rfl
         have ff15 : wn.cell? ⟨y2.heap.size + 1 + 1, 1, none⟩ = some (.slice Au_0 nu_0 cu_0) := (BU.out.below HC.out).cell 1 rfl
         have ff16 : wn.cell? ⟨y2.heap.size + 1 + 1, 2, none⟩ = some (.int .i64 u.clear.base) := (BU.out.below HC.out).cell 2 rfl
         have ff17 : wn.cell? ⟨y2.heap.size + 1 + 1, 3, none⟩ = some (.slice Au_1 nu_1 cu_1) := (BU.out.below HC.out).cell 3 rfl
         have ff18 : wn.cell? ⟨y2.heap.size + 1 + 1, 4, none⟩ = some (.int .i64 u.raise.base) := (BU.out.below HC.out).cell 4 rfl
         have ff19 : wn.cell? ⟨y2.heap.size + 1 + 1, 5, none⟩ = some (.slice Au_2 nu_2 cu_2) := (BU.out.below HC.out).cell 5 rfl
         have ff20 : wn.cell? ⟨y2.heap.size + 1 + 1, 6, none⟩ = some (.int .i64 u.verify.base) := (BU.out.below HC.out).cell 6 rfl
         have ff21 : wn.cell? ⟨y2.heap.size + 1 + 1, 7, none⟩ = some (.slice Au_3 nu_3 cu_3) := (BU.out.below HC.out).cell 7 rfl
         have ff22 : wn.cell? ⟨y2.heap.size + 1 + 1 + 1, 0, none⟩ = some (.int .i64 d.base) := (BD.out.below HC.out).cell 0 rfl
         have ff23 : wn.cell? ⟨y2.heap.size + 1 + 1 + 1, 1, none⟩ = some (.slice Ad_ nd_ cd_) := (BD.out.below HC.out).cell 1 rfl
         have ff24 : wn.cell? ⟨y4.heap.size, 0, none⟩ = some (.int .i64 k.taint.base) := (BK.out.below HC.out).cell 0 rfl
         have ff25 : wn.cell? ⟨y4.heap.size, 1, none⟩ = some (.slice Ak_0 nk_0 ck_0) := (BK.out.below HC.out).cell 1 rfl
         have ff26 : wn.cell? ⟨y4.heap.size, 2, none⟩ = some (.int .i64 k.clear.base) := (BK.out.below HC.out).cell 2 rfl
         have ff27 : wn.cell? ⟨y4.heap.size, 3, none⟩ = some (.slice Ak_1 nk_1 ck_1) := (BK.out.below HC.out).cell 3 rfl
         have ff28 : wn.cell? ⟨y4.heap.size, 4, none⟩ = some (.int .i64 k.raise.base) := (BK.out.below HC.out).cell 4 rfl
         have ff29 : wn.cell? ⟨y4.heap.size, 5, none⟩ = some (.slice Ak_2 nk_2 ck_2) := (BK.out.below HC.out).cell 5 rfl
         have ff30 : wn.cell? ⟨y4.heap.size, 6, none⟩ = some (.int .i64 k.verify.base) := (BK.out.below HC.out).cell 6 rfl
         have ff31 : wn.cell? ⟨y4.heap.size, 7, none⟩ = some (.slice Ak_3 nk_3 ck_3) := (BK.out.below HC.out).cell 7 rfl
         skip
         clear hb)
      | (go_at_call 17
         refine (impl_noterms _).mono ?_
         rintro e wn ⟨vv, rfl, own, hb⟩
         have HC' : Hid (Below y6.heap.size y6 wn) := Lib.hid (by first | exact below_more HC.out hb | exact below_more HC.out (below_undrew hb))
         clear HC
         have HC := HC'
         clear HC'
         try clear ff0 ff1 ff2 ff3 ff4 ff5 ff6 ff7 ff8 ff9 ff10 ff11 ff12 ff13 ff14 ff15 ff16 ff17 ff18 ff19 ff20 ff21 ff22 ff23 ff24 ff25 ff26 ff27 ff28 ff29 ff30 ff31
         have ff0 : wn.cell? ⟨y0.heap.size, 0, none⟩ = some (.int .i64 s.base) := (BS.out.below HC.out).cell 0 rfl
         have ff1 : wn.cell? ⟨y0.heap.size, 1, none⟩ = some (.slice As_ ns_ cs_) := (BS.out.below HC.out).cell 1 rfl
         have ff2 : wn.cell? ⟨y0.heap.size + 1, 0, none⟩ = some (.int .i64 t.taint.base) := (BT.out.below HC.out).cell 0 rfl
         have ff3 : wn.cell? ⟨y0.heap.size + 1, 1, none⟩ = some (.slice At_0 nt_0 ct_0) := (BT.out.below HC.out).cell 1 rfl
         have ff4 : wn.cell? ⟨y0.heap.size + 1, 2, none⟩ = some (.int .i64 t.clear.base) := (BT.out.below HC.out).cell 2 rfl
         have ff5 : wn.cell? ⟨y0.heap.size + 1, 3, none⟩ = some (.slice At_1 nt_1 ct_1) := (BT.out.below HC.out).cell 3 rfl
         have ff6 : wn.cell? ⟨y0.heap.size + 1, 4, none⟩ = some (.int .i64 t.raise.base) := (BT.out.below HC.out).cell 4 rfl
         have ff7 : wn.cell? ⟨y0.heap.size + 1, 5, none⟩ = some (.slice At_2 nt_2 ct_2) := (BT.out.below HC.out).cell 5 rfl
         have ff8 : wn.cell? ⟨y0.heap.size + 1, 6, none⟩ = some (.int .i64 t.verify.base) := (BT.out.below HC.out).cell 6 rfl
         have ff9 : wn.cell? ⟨y0.heap.size + 1, 7, none⟩ = some (.slice At_3 nt_3 ct_3) := (BT.out.below HC.out).cell 7 rfl
         have ff10 : wn.cell? ⟨y2.heap.size, 0, none⟩ = some (.int .i64 e.base) := (BE.out.below HC.out).cell 0 rfl
         have ff11 : wn.cell? ⟨y2.heap.size, 1, none⟩ = some (.slice Ae_ ne_ ce_) := (BE.out.below HC.out).cell 1 rfl
         have ff12 : wn.cell? ⟨y2.heap.size + 1, 0, none⟩ = some (.int .i64 r.base) := (BR.out.below HC.out).cell 0 rfl
         have ff13 : wn.cell? ⟨y2.heap.size + 1, 1, none⟩ = some (.slice Ar_ nr_ cr_) := (BR.out.below HC.out).cell 1 rfl
         have ff14 : wn.cell? ⟨y2.heap.size + 1 + 1, 0, none⟩ = some (.int .i64 u.taint.base) := (BU.out.below HC.out).cell 0 rfl
         have ff15 : wn.cell? ⟨y2.heap.size + 1 + 1, 1, none⟩ = some (.slice Au_0 nu_0 cu_0) := (BU.out.below HC.out).cell 1 rfl
         have ff16 : wn.cell? ⟨y2.heap.size + 1 + 1, 2, none⟩ = some (.int .i64 u.clear.base) := (BU.out.below HC.out).cell 2 rfl
         have ff17 : wn.cell? ⟨y2.heap.size + 1 + 1, 3, none⟩ = some (.slice Au_1 nu_1 cu_1) := (BU.out.below HC.out).cell 3 rfl
         have ff18 : wn.cell? ⟨y2.heap.size + 1 + 1, 4, none⟩ = some (.int .i64 u.raise.base) := (BU.out.below HC.out).cell 4 rfl
         have ff19 : wn.cell? ⟨y2.heap.size + 1 + 1, 5, none⟩ = some (.slice Au_2 nu_2 cu_2) := (BU.out.below HC.out).cell 5 rfl
         have ff20 : wn.cell? ⟨y2.heap.size + 1 + 1, 6, none⟩ = some (.int .i64 u.verify.base) := (BU.out.below HC.out).cell 6 rfl
         have ff21 : wn.cell? ⟨y2.heap.size + 1 + 1, 7, none⟩ = some (.slice Au_3 nu_3 cu_3) := (BU.out.below HC.out).cell 7 rfl
         have ff22 : wn.cell? ⟨y2.heap.size + 1 + 1 + 1, 0, none⟩ = some (.int .i64 d.base) := (BD.out.below HC.out).cell 0 rfl
         have ff23 : wn.cell? ⟨y2.heap.size + 1 + 1 + 1, 1, none⟩ = some (.slice Ad_ nd_ cd_) := (BD.out.below HC.out).cell 1 rfl
         have ff24 : wn.cell? ⟨y4.heap.size, 0, none⟩ = some (.int .i64 k.taint.base) := (BK.out.below HC.out).cell 0 rfl
         have ff25 : wn.cell? ⟨y4.heap.size, 1, none⟩ = some (.slice Ak_0 nk_0 ck_0) := (BK.out.below HC.out).cell 1 rfl
         have ff26 : wn.cell? ⟨y4.heap.size, 2, none⟩ = some (.int .i64 k.clear.base) := (BK.out.below HC.out).cell 2 rfl
         have ff27 : wn.cell? ⟨y4.heap.size, 3, none⟩ = some (.slice Ak_1 nk_1 ck_1) := (BK.out.below HC.out).cell 3 rfl
         have ff28 : wn.cell? ⟨y4.heap.size, 4, none⟩ = some (.int .i64 k.raise.base) := (BK.out.below HC.out).cell 4 rfl
         have ff29 : wn.cell? ⟨y4.heap.size, 5, none⟩ = some (.slice Ak_2 nk_2 ck_2) := (BK.out.below HC.out).cell 5 rfl
         have ff30 : wn.cell? ⟨y4.heap.size, 6, none⟩ = some (.int .i64 k.verify.base) := (BK.out.below HC.out).cell 6 rfl
         have ff31 : wn.cell? ⟨y4.heap.size, 7, none⟩ = some (.slice Ak_3 nk_3 ck_3) := (BK.out.below HC.out).cell 7 rfl
         try (have N2' := Lib.hid (N2.out.below (by first | exact hb | exact below_undrew hb))
              clear N2
              have N2 := N2'
              clear N2')
         have N1 := Lib.hid own.rd
         obtain ⟨An1_0, nn1_0, cn1_0, An1_1, nn1_1, cn1_1, An1_2, nn1_2, cn1_2, An1_3, nn1_3, cn1_3, rfl, -, -, -, -, -⟩ := own
         clear hb)
      | (go_at_call 18
         refine (spec_noterms _).mono ?_
         rintro e wn ⟨vv, rfl, own, hb⟩
         have HC' : Hid (Below y6.heap.size y6 wn) := Lib.hid (by first | exact below_more HC.out hb | exact below_more HC.out (below_undrew hb))
         clear HC
         have HC := HC'
         clear HC'
         try clear ff0 ff1 ff2 ff3 ff4 ff5 ff6 ff7 ff8 ff9 ff10 ff11 ff12 ff13 ff14 ff15 ff16 ff17 ff18 ff19 ff20 ff21 ff22 ff23 ff24 ff25 ff26 ff27 ff28 ff29 ff30 ff31
         have ff0 : wn.cell? ⟨y0.heap.size, 0, none⟩ = some (.int .i64 s.base) := (BS.out.below HC.out).cell 0 rfl
         have ff1 : wn.cell? ⟨y0.heap.size, 1, none⟩ = some (.slice As_ ns_ cs_) := (BS.out.below HC.out).cell 1 rfl
         have ff2 : wn.cell? ⟨y0.heap.size + 1, 0, none⟩ = some (.int .i64 t.taint.base) := (BT.out.below HC.out).cell 0 rfl
         have ff3 : wn.cell? ⟨y0.heap.size + 1, 1, none⟩ = some (.slice At_0 nt_0 ct_0) := (BT.out.below HC.out).cell 1 rfl
         have ff4 : wn.cell? ⟨y0.heap.size + 1, 2, none⟩ = some (.int .i64 t.clear.base) := (BT.out.below HC.out).cell 2 rfl
         have ff5 : wn.cell? ⟨y0.heap.size + 1, 3, none⟩ = some (.slice At_1 nt_1 ct_1) := (BT.out.below HC.out).cell 3 rfl
         have ff6 : wn.cell? ⟨y0.heap.size + 1, 4, none⟩ = some (.int .i64 t.raise.base) := (BT.out.below HC.out).cell 4 rfl
         have ff7 : wn.cell? ⟨y0.heap.size + 1, 5, none⟩ = some (.slice At_2 nt_2 ct_2) := (BT.out.below HC.out).cell 5 rfl
         have ff8 : wn.cell? ⟨y0.heap.size + 1, 6, none⟩ = some (.int .i64 t.verify.base) := (BT.out.below HC.out).cell 6 rfl
         have ff9 : wn.cell? ⟨y0.heap.size + 1, 7, none⟩ = some (.slice At_3 nt_3 ct_3) := (BT.out.below HC.out).cell 7 rfl
         have ff10 : wn.cell? ⟨y2.heap.size, 0, none⟩ = some (.int .i64 e.base) := (BE.out.below HC.out).cell 0 rfl
         have ff11 : wn.cell? ⟨y2.heap.size, 1, none⟩ = some (.slice Ae_ ne_ ce_) := (BE.out.below HC.out).cell 1 rfl
         have ff12 : wn.cell? ⟨y2.heap.size + 1, 0, none⟩ = some (.int .i64 r.base) := (BR.out.below HC.out).cell 0 rfl
         have ff13 : wn.cell? ⟨y2.heap.size + 1, 1, none⟩ = some (.slice Ar_ nr_ cr_) := (BR.out.below HC.out).cell 1 rfl
         have ff14 : wn.cell? ⟨y2.heap.size + 1 + 1, 0, none⟩ = some (.int .i64 u.taint.base) := (BU.out.below HC.out).cell 0 rfl
         have ff15 : wn.cell? ⟨y2.heap.size + 1 + 1, 1, none⟩ = some (.slice Au_0 nu_0 cu_0) := (BU.out.below HC.out).cell 1 rfl
         have ff16 : wn.cell? ⟨y2.heap.size + 1 + 1, 2, none⟩ = some (.int .i64 u.clear.base) := (BU.out.below HC.out).cell 2 rfl
         have ff17 : wn.cell? ⟨y2.heap.size + 1 + 1, 3, none⟩ = some (.slice Au_1 nu_1 cu_1) := (BU.out.below HC.out).cell 3 rfl
         have ff18 : wn.cell? ⟨y2.heap.size + 1 + 1, 4, none⟩ = some (.int .i64 u.raise.base) := (BU.out.below HC.out).cell 4 rfl
         have ff19 : wn.cell? ⟨y2.heap.size + 1 + 1, 5, none⟩ = some (.slice Au_2 nu_2 cu_2) := (BU.out.below HC.out).cell 5 rfl
         have ff20 : wn.cell? ⟨y2.heap.size + 1 + 1, 6, none⟩ = some (.int .i64 u.verify.base) := (BU.out.below HC.out).cell 6 rfl
         have ff21 : wn.cell? ⟨y2.heap.size + 1 + 1, 7, none⟩ = some (.slice Au_3 nu_3 cu_3) := (BU.out.below HC.out).cell 7 rfl
         have ff22 : wn.cell? ⟨y2.heap.size + 1 + 1 + 1, 0, none⟩ = some (.int .i64 d.base) := (BD.out.below HC.out).cell 0 rfl
         have ff23 : wn.cell? ⟨y2.heap.size + 1 + 1 + 1, 1, none⟩ = some (.slice Ad_ nd_ cd_) := (BD.out.below HC.out).cell 1 rfl
         have ff24 : wn.cell? ⟨y4.heap.size, 0, none⟩ = some (.int .i64 k.taint.base) := (BK.out.below HC.out).cell 0 rfl
         have ff25 : wn.cell? ⟨y4.heap.size, 1, none⟩ = some (.slice Ak_0 nk_0 ck_0) := (BK.out.below HC.out).cell 1 rfl
         have ff26 : wn.cell? ⟨y4.heap.size, 2, none⟩ = some (.int .i64 k.clear.base) := (BK.out.below HC.out).cell 2 rfl
         have ff27 : wn.cell? ⟨y4.heap.size, 3, none⟩ = some (.slice Ak_1 nk_1 ck_1) := (BK.out.below HC.out).cell 3 rfl
         have ff28 : wn.cell? ⟨y4.heap.size, 4, none⟩ = some (.int .i64 k.raise.base) := (BK.out.below HC.out).cell 4 rfl
         have ff29 : wn.cell? ⟨y4.heap.size, 5, none⟩ = some (.slice Ak_2 nk_2 ck_2) := (BK.out.below HC.out).cell 5 rfl
         have ff30 : wn.cell? ⟨y4.heap.size, 6, none⟩ = some (.int .i64 k.verify.base) := (BK.out.below HC.out).cell 6 rfl
         have ff31 : wn.cell? ⟨y4.heap.size, 7, none⟩ = some (.slice Ak_3 nk_3 ck_3) := (BK.out.below HC.out).cell 7 rfl
         try (have N1' := Lib.hid (N1.out.below (by first | exact hb | exact below_undrew hb))
              clear N1
              have N1 := N1'
              clear N1')
         have N2 := Lib.hid own.rd
         obtain ⟨An2_0, nn2_0, cn2_0, An2_1, nn2_1, cn2_1, An2_2, nn2_2, cn2_2, An2_3, nn2_3, cn2_3, rfl, -, -, -, -, -⟩ := own
         clear hb)
      | (go_at_call 16
         refine (like_tm _ _ noTm _ N1.out N2.out).mono ?_
         rintro e wn ⟨rfl, hb⟩
         have HC' : Hid (Below y6.heap.size y6 wn) := Lib.hid (by first | exact below_more HC.out hb | exact below_more HC.out (below_undrew hb))
         clear HC
         have HC := HC'
         clear HC'
         try clear ff0 ff1 ff2 ff3 ff4 ff5 ff6 ff7 ff8 ff9 ff10 ff11 ff12 ff13 ff14 ff15 ff16 ff17 ff18 ff19 ff20 ff21 ff22 ff23 ff24 ff25 ff26 ff27 ff28 ff29 ff30 ff31
         have ff0 : wn.cell? ⟨y0.heap.size, 0, none⟩ = some (.int .i64 s.base) := (BS.out.below HC.out).cell 0 rfl
         have ff1 : wn.cell? ⟨y0.heap.size, 1, none⟩ = some (.slice As_ ns_ cs_) := (BS.out.below HC.out).cell 1 rfl
         have ff2 : wn.cell? ⟨y0.heap.size + 1, 0, none⟩ = some (.int .i64 t.taint.base) := (BT.out.below HC.out).cell 0 rfl
         have ff3 : wn.cell? ⟨y0.heap.size + 1, 1, none⟩ = some (.slice At_0 nt_0 ct_0) := (BT.out.below HC.out).cell 1 rfl
         have ff4 : wn.cell? ⟨y0.heap.size + 1, 2, none⟩ = some (.int .i64 t.clear.base) := (BT.out.below HC.out).cell 2 rfl
         have ff5 : wn.cell? ⟨y0.heap.size + 1, 3, none⟩ = some (.slice At_1 nt_1 ct_1) := (BT.out.below HC.out).cell 3 rfl
         have ff6 : wn.cell? ⟨y0.heap.size + 1, 4, none⟩ = some (.int .i64 t.raise.base) := (BT.out.below HC.out).cell 4 rfl
         have ff7 : wn.cell? ⟨y0.heap.size + 1, 5, none⟩ = some (.slice At_2 nt_2 ct_2) := (BT.out.below HC.out).cell 5 rfl
         have ff8 : wn.cell? ⟨y0.heap.size + 1, 6, none⟩ = some (.int .i64 t.verify.base) := (BT.out.below HC.out).cell 6 rfl
         have ff9 : wn.cell? ⟨y0.heap.size + 1, 7, none⟩ = some (.slice At_3 nt_3 ct_3) := (BT.out.below HC.out).cell 7 rfl
         have ff10 : wn.cell? ⟨y2.heap.size, 0, none⟩ = some (.int .i64 e.base) := (BE.out.below HC.out).cell 0 rfl
         have ff11 : wn.cell? ⟨y2.heap.size, 1, none⟩ = some (.slice Ae_ ne_ ce_) := (BE.out.below HC.out).cell 1 rfl
         have ff12 : wn.cell? ⟨y2.heap.size + 1, 0, none⟩ = some (.int .i64 r.base) := (BR.out.below HC.out).cell 0 rfl
         have ff13 : wn.cell? ⟨y2.heap.size + 1, 1, none⟩ = some (.slice Ar_ nr_ cr_) := (BR.out.below HC.out).cell 1 rfl
         have ff14 : wn.cell? ⟨y2.heap.size + 1 + 1, 0, none⟩ = some (.int .i64 u.taint.base) := (BU.out.below HC.out).cell 0 rfl
         have ff15 : wn.cell? ⟨y2.heap.size + 1 + 1, 1, none⟩ = some (.slice Au_0 nu_0 cu_0) := (BU.out.below HC.out).cell 1 rfl
         have ff16 : wn.cell? ⟨y2.heap.size + 1 + 1, 2, none⟩ = some (.int .i64 u.clear.base) := (BU.out.below HC.out).cell 2 rfl
         have ff17 : wn.cell? ⟨y2.heap.size + 1 + 1, 3, none⟩ = some (.slice Au_1 nu_1 cu_1) := (BU.out.below HC.out).cell 3 rfl
         have ff18 : wn.cell? ⟨y2.heap.size + 1 + 1, 4, none⟩ = some (.int .i64 u.raise.base) := (BU.out.below HC.out).cell 4 rfl
         have ff19 : wn.cell? ⟨y2.heap.size + 1 + 1, 5, none⟩ = some (.slice Au_2 nu_2 cu_2) := (BU.out.below HC.out).cell 5 rfl
         have ff20 : wn.cell? ⟨y2.heap.size + 1 + 1, 6, none⟩ = some (.int .i64 u.verify.base) := (BU.out.below HC.out).cell 6 rfl
         have ff21 : wn.cell? ⟨y2.heap.size + 1 + 1, 7, none⟩ = some (.slice Au_3 nu_3 cu_3) := (BU.out.below HC.out).cell 7 rfl
         have ff22 : wn.cell? ⟨y2.heap.size + 1 + 1 + 1, 0, none⟩ = some (.int .i64 d.base) := (BD.out.below HC.out).cell 0 rfl
         have ff23 : wn.cell? ⟨y2.heap.size + 1 + 1 + 1, 1, none⟩ = some (.slice Ad_ nd_ cd_) := (BD.out.below HC.out).cell 1 rfl
         have ff24 : wn.cell? ⟨y4.heap.size, 0, none⟩ = some (.int .i64 k.taint.base) := (BK.out.below HC.out).cell 0 rfl
         have ff25 : wn.cell? ⟨y4.heap.size, 1, none⟩ = some (.slice Ak_0 nk_0 ck_0) := (BK.out.below HC.out).cell 1 rfl
         have ff26 : wn.cell? ⟨y4.heap.size, 2, none⟩ = some (.int .i64 k.clear.base) := (BK.out.below HC.out).cell 2 rfl
         have ff27 : wn.cell? ⟨y4.heap.size, 3, none⟩ = some (.slice Ak_1 nk_1 ck_1) := (BK.out.below HC.out).cell 3 rfl
         have ff28 : wn.cell? ⟨y4.heap.size, 4, none⟩ = some (.int .i64 k.raise.base) := (BK.out.below HC.out).cell 4 rfl
         have ff29 : wn.cell? ⟨y4.heap.size, 5, none⟩ = some (.slice Ak_2 nk_2 ck_2) := (BK.out.below HC.out).cell 5 rfl
         have ff30 : wn.cell? ⟨y4.heap.size, 6, none⟩ = some (.int .i64 k.verify.base) := (BK.out.below HC.out).cell 6 rfl
         have ff31 : wn.cell? ⟨y4.heap.size, 7, none⟩ = some (.slice Ak_3 nk_3 ck_3) := (BK.out.below HC.out).cell 7 rfl
         skip
         clear hb))
    obtain ⟨y7, hwn⟩ : ∃ y7, y7 = wn := ⟨_, rfl⟩
    rw [← hwn] at HC ⊢
    have hb := HC.out
    clear HC hwn ff0 ff1 ff2 ff3 ff4 ff5 ff6 ff7 ff8 ff9 ff10 ff11 ff12 ff13 ff14 ff15 ff16 ff17 ff18 ff19 ff20 ff21 ff22 ff23 ff24 ff25 ff26 ff27 ff28 ff29 ff30 ff31
    clear BSk0 BSk1 BSkz BTk0 BTk1 BTk2 BTk3 BTk4 BTk5 BTk6 BTk7 BTkz BEk0 BEk1 BEkz BRk0 BRk1 BRkz BUk0 BUk1 BUk2 BUk3 BUk4 BUk5 BUk6 BUk7 BUkz BDk0 BDk1 BDkz BKk0 BKk1 BKk2 BKk3 BKk4 BKk5 BKk6 BKk7 BKkz
    have BS' := Lib.hid (BS.out.below hb)
    clear BS
    have BS := BS'
    clear BS'
    have BT' := Lib.hid (BT.out.below hb)
    clear BT
    have BT := BT'
    clear BT'
    have BE' := Lib.hid (BE.out.below hb)
    clear BE
    have BE := BE'
    clear BE'
    have BR' := Lib.hid (BR.out.below hb)
    clear BR
    have BR := BR'
    clear BR'
    have BU' := Lib.hid (BU.out.below hb)
    clear BU
    have BU := BU'
    clear BU'
    have BD' := Lib.hid (BD.out.below hb)
    clear BD
    have BD := BD'
    clear BD'
    have BK' := Lib.hid (BK.out.below hb)
    clear BK
    have BK := BK'
    clear BK'
    have RS' := Lib.hid (RS.out.below hb)
    clear RS
    have RS := RS'
    clear RS'
    have RT' := Lib.hid (RT.out.below hb)
    clear RT
    have RT := RT'
    clear RT'
    have RE' := Lib.hid (RE.out.below hb)
    clear RE
    have RE := RE'
    clear RE'
    have RR' := Lib.hid (RR.out.below hb)
    clear RR
    have RR := RR'
    clear RR'
    have RU' := Lib.hid (RU.out.below hb)
    clear RU
    have RU := RU'
    clear RU'
    have RD' := Lib.hid (RD.out.below hb)
    clear RD
    have RD := RD'
    clear RD'
    have RK' := Lib.hid (RK.out.below hb)
    clear RK
    have RK := RK'
    clear RK'
    have bel' : Below w.heap.size w y7 := below_more bel hb
    clear bel hb
    have bel := bel'
    clear bel'
    clear N1 N2 RK BK
    go_upto_if 64 with fail
    go_cut [10, 12, 118] (fun s10 s12 s118 wx => s118 = undef ∧ Hid (Below y7.heap.size y7 wx))
    case first =>
      cases hacc : accepts e r u d
      · go_wp2
        go_meet
        case rel => exact ⟨rfl, Lib.hid (Below.refl _ _)⟩
      · skip
        obtain ⟨hj, hv, hdd, hrd⟩ := accepts_heard hacc
        have HB0 := Lib.hid bel
        clear bel
        have bel : Below y7.heap.size y7 y7 := .refl _ _
        have BRk0 := BR.out.cell 0 rfl
        have BRk1 := BR.out.cell 1 rfl
        have BRkz := BR.out.lt
        have BUk0 := BU.out.cell 0 rfl
        have BUk1 := BU.out.cell 1 rfl
        have BUk2 := BU.out.cell 2 rfl
        have BUk3 := BU.out.cell 3 rfl
        have BUk4 := BU.out.cell 4 rfl
        have BUk5 := BU.out.cell 5 rfl
        have BUk6 := BU.out.cell 6 rfl
        have BUk7 := BU.out.cell 7 rfl
        have BUkz := BU.out.lt
        go_wp2_with fail
        refine (spec_join _ _ r u.raise _ RR.out (by obtain ⟨_, _, _, _, _, _, _, _, _, _, _, _, ek, q0, q1, q2, q3⟩ := RU.out; cases ek; exact q2)).mono ?_
        rintro e y58 ⟨vj, rfl, own, hb⟩
        clear BRk0 BRk1 BRkz BUk0 BUk1 BUk2 BUk3 BUk4 BUk5 BUk6 BUk7 BUkz
        have BS' := Lib.hid (BS.out.below hb)
        clear BS
        have BS := BS'
        clear BS'
        have BT' := Lib.hid (BT.out.below hb)
        clear BT
        have BT := BT'
        clear BT'
        have BE' := Lib.hid (BE.out.below hb)
        clear BE
        have BE := BE'
        clear BE'
        have BR' := Lib.hid (BR.out.below hb)
        clear BR
        have BR := BR'
        clear BR'
        have BU' := Lib.hid (BU.out.below hb)
        clear BU
        have BU := BU'
        clear BU'
        have BD' := Lib.hid (BD.out.below hb)
        clear BD
        have BD := BD'
        clear BD'
        have RS' := Lib.hid (RS.out.below hb)
        clear RS
        have RS := RS'
        clear RS'
        have RT' := Lib.hid (RT.out.below hb)
        clear RT
        have RT := RT'
        clear RT'
        have RE' := Lib.hid (RE.out.below hb)
        clear RE
        have RE := RE'
        clear RE'
        have RR' := Lib.hid (RR.out.below hb)
        clear RR
        have RR := RR'
        clear RR'
        have RU' := Lib.hid (RU.out.below hb)
        clear RU
        have RU := RU'
        clear RU'
        have RD' := Lib.hid (RD.out.below hb)
        clear RD
        have RD := RD'
        clear RD'
        have bel' : Below y7.heap.size y7 y58 := below_more bel hb
        clear bel hb
        have bel := bel'
        clear bel'
        have RJ := Lib.hid own.rd
        obtain ⟨Aj, nj, cj, rfl, -, -, -⟩ := own
        cases hfit : (joinL r u.raise).2
        · skip
          have BEk0 := BE.out.cell 0 rfl
          have BEk1 := BE.out.cell 1 rfl
          have BEkz := BE.out.lt
          have BUk0 := BU.out.cell 0 rfl
          have BUk1 := BU.out.cell 1 rfl
          have BUk2 := BU.out.cell 2 rfl
          have BUk3 := BU.out.cell 3 rfl
          have BUk4 := BU.out.cell 4 rfl
          have BUk5 := BU.out.cell 5 rfl
          have BUk6 := BU.out.cell 6 rfl
          have BUk7 := BU.out.cell 7 rfl
          have BUkz := BU.out.lt
          go_wp2_with fail
          generalize hW : y58.alloc (.cells #[.int .i64 (joinL r u.raise).1.base, .slice Aj nj cj] 26) = x79
          obtain ⟨nb0, hsz, hb⟩ := laid1 (ps := [.int .i64 (joinL r u.raise).1.base, .slice Aj nj cj]) hW
          have BS' := Lib.hid (BS.out.below hb)
          clear BS
          have BS := BS'
          clear BS'
          have BT' := Lib.hid (BT.out.below hb)
          clear BT
          have BT := BT'
          clear BT'
          have BE' := Lib.hid (BE.out.below hb)
          clear BE
          have BE := BE'
          clear BE'
          have BR' := Lib.hid (BR.out.below hb)
          clear BR
          have BR := BR'
          clear BR'
          have BU' := Lib.hid (BU.out.below hb)
          clear BU
          have BU := BU'
          clear BU'
          have BD' := Lib.hid (BD.out.below hb)
          clear BD
          have BD := BD'
          clear BD'
          have RS' := Lib.hid (RS.out.below hb)
          clear RS
          have RS := RS'
          clear RS'
          have RT' := Lib.hid (RT.out.below hb)
          clear RT
          have RT := RT'
          clear RT'
          have RE' := Lib.hid (RE.out.below hb)
          clear RE
          have RE := RE'
          clear RE'
          have RR' := Lib.hid (RR.out.below hb)
          clear RR
          have RR := RR'
          clear RR'
          have RU' := Lib.hid (RU.out.below hb)
          clear RU
          have RU := RU'
          clear RU'
          have RD' := Lib.hid (RD.out.below hb)
          clear RD
          have RD := RD'
          clear RD'
          have RJ' := Lib.hid (RJ.out.below hb)
          clear RJ
          have RJ := RJ'
          clear RJ'
          have bel' : Below y7.heap.size y7 x79 := below_more bel hb
          clear bel hb
          have bel := bel'
          clear bel'
          have BJ := Lib.hid nb0
          clear hW hsz nb0
          refine (spec_atmost _ _ e (u.verify) _ RE.out (by obtain ⟨_, _, _, _, _, _, _, _, _, _, _, _, ek, q0, q1, q2, q3⟩ := RU.out; cases ek; exact q3)).mono ?_
          rintro e y80 ⟨rfl, hb⟩
          clear BEk0 BEk1 BEkz BUk0 BUk1 BUk2 BUk3 BUk4 BUk5 BUk6 BUk7 BUkz
          have BS' := Lib.hid (BS.out.below hb)
          clear BS
          have BS := BS'
          clear BS'
          have BT' := Lib.hid (BT.out.below hb)
          clear BT
          have BT := BT'
          clear BT'
          have BE' := Lib.hid (BE.out.below hb)
          clear BE
          have BE := BE'
          clear BE'
          have BR' := Lib.hid (BR.out.below hb)
          clear BR
          have BR := BR'
          clear BR'
          have BU' := Lib.hid (BU.out.below hb)
          clear BU
          have BU := BU'
          clear BU'
          have BD' := Lib.hid (BD.out.below hb)
          clear BD
          have BD := BD'
          clear BD'
          have BJ' := Lib.hid (BJ.out.below hb)
          clear BJ
          have BJ := BJ'
          clear BJ'
          have RS' := Lib.hid (RS.out.below hb)
          clear RS
          have RS := RS'
          clear RS'
          have RT' := Lib.hid (RT.out.below hb)
          clear RT
          have RT := RT'
          clear RT'
          have RE' := Lib.hid (RE.out.below hb)
          clear RE
          have RE := RE'
          clear RE'
          have RR' := Lib.hid (RR.out.below hb)
          clear RR
          have RR := RR'
          clear RR'
          have RU' := Lib.hid (RU.out.below hb)
          clear RU
          have RU := RU'
          clear RU'
          have RD' := Lib.hid (RD.out.below hb)
          clear RD
          have RD := RD'
          clear RD'
          have RJ' := Lib.hid (RJ.out.below hb)
          clear RJ
          have RJ := RJ'
          clear RJ'
          have bel' : Below y7.heap.size y7 y80 := below_more bel hb
          clear bel hb
          have bel := bel'
          clear bel'
          have BEk0 := BE.out.cell 0 rfl
          have BEk1 := BE.out.cell 1 rfl
          have BEkz := BE.out.lt
          have BDk0 := BD.out.cell 0 rfl
          have BDk1 := BD.out.cell 1 rfl
          have BDkz := BD.out.lt
          go_wp2_with fail
          refine (spec_atmost _ _ e (d) _ RE.out RD.out).mono ?_
          rintro e y81 ⟨rfl, hb⟩
          clear BEk0 BEk1 BEkz BDk0 BDk1 BDkz
          have BS' := Lib.hid (BS.out.below hb)
          clear BS
          have BS := BS'
          clear BS'
          have BT' := Lib.hid (BT.out.below hb)
          clear BT
          have BT := BT'
          clear BT'
          have BE' := Lib.hid (BE.out.below hb)
          clear BE
          have BE := BE'
          clear BE'
          have BR' := Lib.hid (BR.out.below hb)
          clear BR
          have BR := BR'
          clear BR'
          have BU' := Lib.hid (BU.out.below hb)
          clear BU
          have BU := BU'
          clear BU'
          have BD' := Lib.hid (BD.out.below hb)
          clear BD
          have BD := BD'
          clear BD'
          have BJ' := Lib.hid (BJ.out.below hb)
          clear BJ
          have BJ := BJ'
          clear BJ'
          have RS' := Lib.hid (RS.out.below hb)
          clear RS
          have RS := RS'
          clear RS'
          have RT' := Lib.hid (RT.out.below hb)
          clear RT
          have RT := RT'
          clear RT'
          have RE' := Lib.hid (RE.out.below hb)
          clear RE
          have RE := RE'
          clear RE'
          have RR' := Lib.hid (RR.out.below hb)
          clear RR
          have RR := RR'
          clear RR'
          have RU' := Lib.hid (RU.out.below hb)
          clear RU
          have RU := RU'
          clear RU'
          have RD' := Lib.hid (RD.out.below hb)
          clear RD
          have RD := RD'
          clear RD'
          have RJ' := Lib.hid (RJ.out.below hb)
          clear RJ
          have RJ := RJ'
          clear RJ'
          have bel' : Below y7.heap.size y7 y81 := below_more bel hb
          clear bel hb
          have bel := bel'
          clear bel'
          have BUk0 := BU.out.cell 0 rfl
          have BUk1 := BU.out.cell 1 rfl
          have BUk2 := BU.out.cell 2 rfl
          have BUk3 := BU.out.cell 3 rfl
          have BUk4 := BU.out.cell 4 rfl
          have BUk5 := BU.out.cell 5 rfl
          have BUk6 := BU.out.cell 6 rfl
          have BUk7 := BU.out.cell 7 rfl
          have BUkz := BU.out.lt
          have BDk0 := BD.out.cell 0 rfl
          have BDk1 := BD.out.cell 1 rfl
          have BDkz := BD.out.lt
          go_wp2_with fail
          refine (spec_atmost _ _ u.raise (d) _ (by obtain ⟨_, _, _, _, _, _, _, _, _, _, _, _, ek, q0, q1, q2, q3⟩ := RU.out; cases ek; exact q2) RD.out).mono ?_
          rintro e y82 ⟨rfl, hb⟩
          clear BUk0 BUk1 BUk2 BUk3 BUk4 BUk5 BUk6 BUk7 BUkz BDk0 BDk1 BDkz
          have BS' := Lib.hid (BS.out.below hb)
          clear BS
          have BS := BS'
          clear BS'
          have BT' := Lib.hid (BT.out.below hb)
          clear BT
          have BT := BT'
          clear BT'
          have BE' := Lib.hid (BE.out.below hb)
          clear BE
          have BE := BE'
          clear BE'
          have BR' := Lib.hid (BR.out.below hb)
          clear BR
          have BR := BR'
          clear BR'
          have BU' := Lib.hid (BU.out.below hb)
          clear BU
          have BU := BU'
          clear BU'
          have BD' := Lib.hid (BD.out.below hb)
          clear BD
          have BD := BD'
          clear BD'
          have BJ' := Lib.hid (BJ.out.below hb)
          clear BJ
          have BJ := BJ'
          clear BJ'
          have RS' := Lib.hid (RS.out.below hb)
          clear RS
          have RS := RS'
          clear RS'
          have RT' := Lib.hid (RT.out.below hb)
          clear RT
          have RT := RT'
          clear RT'
          have RE' := Lib.hid (RE.out.below hb)
          clear RE
          have RE := RE'
          clear RE'
          have RR' := Lib.hid (RR.out.below hb)
          clear RR
          have RR := RR'
          clear RR'
          have RU' := Lib.hid (RU.out.below hb)
          clear RU
          have RU := RU'
          clear RU'
          have RD' := Lib.hid (RD.out.below hb)
          clear RD
          have RD := RD'
          clear RD'
          have RJ' := Lib.hid (RJ.out.below hb)
          clear RJ
          have RJ := RJ'
          clear RJ'
          have bel' : Below y7.heap.size y7 y82 := below_more bel hb
          clear bel hb
          have bel := bel'
          clear bel'
          go_wp2
          go_meet
          case rel => exact ⟨rfl, Lib.hid bel⟩
        · skip
          have hj := hj hfit
          have BEk0 := BE.out.cell 0 rfl
          have BEk1 := BE.out.cell 1 rfl
          have BEkz := BE.out.lt
          go_wp2_with fail
          generalize hW : y58.alloc (.cells #[.int .i64 (joinL r u.raise).1.base, .slice Aj nj cj] 26) = x79
          obtain ⟨nb0, hsz, hb⟩ := laid1 (ps := [.int .i64 (joinL r u.raise).1.base, .slice Aj nj cj]) hW
          have BS' := Lib.hid (BS.out.below hb)
          clear BS
          have BS := BS'
          clear BS'
          have BT' := Lib.hid (BT.out.below hb)
          clear BT
          have BT := BT'
          clear BT'
          have BE' := Lib.hid (BE.out.below hb)
          clear BE
          have BE := BE'
          clear BE'
          have BR' := Lib.hid (BR.out.below hb)
          clear BR
          have BR := BR'
          clear BR'
          have BU' := Lib.hid (BU.out.below hb)
          clear BU
          have BU := BU'
          clear BU'
          have BD' := Lib.hid (BD.out.below hb)
          clear BD
          have BD := BD'
          clear BD'
          have RS' := Lib.hid (RS.out.below hb)
          clear RS
          have RS := RS'
          clear RS'
          have RT' := Lib.hid (RT.out.below hb)
          clear RT
          have RT := RT'
          clear RT'
          have RE' := Lib.hid (RE.out.below hb)
          clear RE
          have RE := RE'
          clear RE'
          have RR' := Lib.hid (RR.out.below hb)
          clear RR
          have RR := RR'
          clear RR'
          have RU' := Lib.hid (RU.out.below hb)
          clear RU
          have RU := RU'
          clear RU'
          have RD' := Lib.hid (RD.out.below hb)
          clear RD
          have RD := RD'
          clear RD'
          have RJ' := Lib.hid (RJ.out.below hb)
          clear RJ
          have RJ := RJ'
          clear RJ'
          have bel' : Below y7.heap.size y7 x79 := below_more bel hb
          clear bel hb
          have bel := bel'
          clear bel'
          have BJ := Lib.hid nb0
          clear hW hsz nb0
          refine (spec_atmost _ _ e (joinL r u.raise).1 _ RE.out RJ.out).mono ?_
          rintro e y80 ⟨rfl, hb⟩
          clear BEk0 BEk1 BEkz
          have BS' := Lib.hid (BS.out.below hb)
          clear BS
          have BS := BS'
          clear BS'
          have BT' := Lib.hid (BT.out.below hb)
          clear BT
          have BT := BT'
          clear BT'
          have BE' := Lib.hid (BE.out.below hb)
          clear BE
          have BE := BE'
          clear BE'
          have BR' := Lib.hid (BR.out.below hb)
          clear BR
          have BR := BR'
          clear BR'
          have BU' := Lib.hid (BU.out.below hb)
          clear BU
          have BU := BU'
          clear BU'
          have BD' := Lib.hid (BD.out.below hb)
          clear BD
          have BD := BD'
          clear BD'
          have BJ' := Lib.hid (BJ.out.below hb)
          clear BJ
          have BJ := BJ'
          clear BJ'
          have RS' := Lib.hid (RS.out.below hb)
          clear RS
          have RS := RS'
          clear RS'
          have RT' := Lib.hid (RT.out.below hb)
          clear RT
          have RT := RT'
          clear RT'
          have RE' := Lib.hid (RE.out.below hb)
          clear RE
          have RE := RE'
          clear RE'
          have RR' := Lib.hid (RR.out.below hb)
          clear RR
          have RR := RR'
          clear RR'
          have RU' := Lib.hid (RU.out.below hb)
          clear RU
          have RU := RU'
          clear RU'
          have RD' := Lib.hid (RD.out.below hb)
          clear RD
          have RD := RD'
          clear RD'
          have RJ' := Lib.hid (RJ.out.below hb)
          clear RJ
          have RJ := RJ'
          clear RJ'
          have bel' : Below y7.heap.size y7 y80 := below_more bel hb
          clear bel hb
          have bel := bel'
          clear bel'
          have BEk0 := BE.out.cell 0 rfl
          have BEk1 := BE.out.cell 1 rfl
          have BEkz := BE.out.lt
          have BUk0 := BU.out.cell 0 rfl
          have BUk1 := BU.out.cell 1 rfl
          have BUk2 := BU.out.cell 2 rfl
          have BUk3 := BU.out.cell 3 rfl
          have BUk4 := BU.out.cell 4 rfl
          have BUk5 := BU.out.cell 5 rfl
          have BUk6 := BU.out.cell 6 rfl
          have BUk7 := BU.out.cell 7 rfl
          have BUkz := BU.out.lt
          go_wp2_with fail
          refine (spec_atmost _ _ e (u.verify) _ RE.out (by obtain ⟨_, _, _, _, _, _, _, _, _, _, _, _, ek, q0, q1, q2, q3⟩ := RU.out; cases ek; exact q3)).mono ?_
          rintro e y81 ⟨rfl, hb⟩
          clear BEk0 BEk1 BEkz BUk0 BUk1 BUk2 BUk3 BUk4 BUk5 BUk6 BUk7 BUkz
          have BS' := Lib.hid (BS.out.below hb)
          clear BS
          have BS := BS'
          clear BS'
          have BT' := Lib.hid (BT.out.below hb)
          clear BT
          have BT := BT'
          clear BT'
          have BE' := Lib.hid (BE.out.below hb)
          clear BE
          have BE := BE'
          clear BE'
          have BR' := Lib.hid (BR.out.below hb)
          clear BR
          have BR := BR'
          clear BR'
          have BU' := Lib.hid (BU.out.below hb)
          clear BU
          have BU := BU'
          clear BU'
          have BD' := Lib.hid (BD.out.below hb)
          clear BD
          have BD := BD'
          clear BD'
          have BJ' := Lib.hid (BJ.out.below hb)
          clear BJ
          have BJ := BJ'
          clear BJ'
          have RS' := Lib.hid (RS.out.below hb)
          clear RS
          have RS := RS'
          clear RS'
          have RT' := Lib.hid (RT.out.below hb)
          clear RT
          have RT := RT'
          clear RT'
          have RE' := Lib.hid (RE.out.below hb)
          clear RE
          have RE := RE'
          clear RE'
          have RR' := Lib.hid (RR.out.below hb)
          clear RR
          have RR := RR'
          clear RR'
          have RU' := Lib.hid (RU.out.below hb)
          clear RU
          have RU := RU'
          clear RU'
          have RD' := Lib.hid (RD.out.below hb)
          clear RD
          have RD := RD'
          clear RD'
          have RJ' := Lib.hid (RJ.out.below hb)
          clear RJ
          have RJ := RJ'
          clear RJ'
          have bel' : Below y7.heap.size y7 y81 := below_more bel hb
          clear bel hb
          have bel := bel'
          clear bel'
          have BEk0 := BE.out.cell 0 rfl
          have BEk1 := BE.out.cell 1 rfl
          have BEkz := BE.out.lt
          have BDk0 := BD.out.cell 0 rfl
          have BDk1 := BD.out.cell 1 rfl
          have BDkz := BD.out.lt
          go_wp2_with fail
          refine (spec_atmost _ _ e (d) _ RE.out RD.out).mono ?_
          rintro e y82 ⟨rfl, hb⟩
          clear BEk0 BEk1 BEkz BDk0 BDk1 BDkz
          have BS' := Lib.hid (BS.out.below hb)
          clear BS
          have BS := BS'
          clear BS'
          have BT' := Lib.hid (BT.out.below hb)
          clear BT
          have BT := BT'
          clear BT'
          have BE' := Lib.hid (BE.out.below hb)
          clear BE
          have BE := BE'
          clear BE'
          have BR' := Lib.hid (BR.out.below hb)
          clear BR
          have BR := BR'
          clear BR'
          have BU' := Lib.hid (BU.out.below hb)
          clear BU
          have BU := BU'
          clear BU'
          have BD' := Lib.hid (BD.out.below hb)
          clear BD
          have BD := BD'
          clear BD'
          have BJ' := Lib.hid (BJ.out.below hb)
          clear BJ
          have BJ := BJ'
          clear BJ'
          have RS' := Lib.hid (RS.out.below hb)
          clear RS
          have RS := RS'
          clear RS'
          have RT' := Lib.hid (RT.out.below hb)
          clear RT
          have RT := RT'
          clear RT'
          have RE' := Lib.hid (RE.out.below hb)
          clear RE
          have RE := RE'
          clear RE'
          have RR' := Lib.hid (RR.out.below hb)
          clear RR
          have RR := RR'
          clear RR'
          have RU' := Lib.hid (RU.out.below hb)
          clear RU
          have RU := RU'
          clear RU'
          have RD' := Lib.hid (RD.out.below hb)
          clear RD
          have RD := RD'
          clear RD'
          have RJ' := Lib.hid (RJ.out.below hb)
          clear RJ
          have RJ := RJ'
          clear RJ'
          have bel' : Below y7.heap.size y7 y82 := below_more bel hb
          clear bel hb
          have bel := bel'
          clear bel'
          have BUk0 := BU.out.cell 0 rfl
          have BUk1 := BU.out.cell 1 rfl
          have BUk2 := BU.out.cell 2 rfl
          have BUk3 := BU.out.cell 3 rfl
          have BUk4 := BU.out.cell 4 rfl
          have BUk5 := BU.out.cell 5 rfl
          have BUk6 := BU.out.cell 6 rfl
          have BUk7 := BU.out.cell 7 rfl
          have BUkz := BU.out.lt
          have BDk0 := BD.out.cell 0 rfl
          have BDk1 := BD.out.cell 1 rfl
          have BDkz := BD.out.lt
          go_wp2_with fail
          refine (spec_atmost _ _ u.raise (d) _ (by obtain ⟨_, _, _, _, _, _, _, _, _, _, _, _, ek, q0, q1, q2, q3⟩ := RU.out; cases ek; exact q2) RD.out).mono ?_
          rintro e y83 ⟨rfl, hb⟩
          clear BUk0 BUk1 BUk2 BUk3 BUk4 BUk5 BUk6 BUk7 BUkz BDk0 BDk1 BDkz
          have BS' := Lib.hid (BS.out.below hb)
          clear BS
          have BS := BS'
          clear BS'
          have BT' := Lib.hid (BT.out.below hb)
          clear BT
          have BT := BT'
          clear BT'
          have BE' := Lib.hid (BE.out.below hb)
          clear BE
          have BE := BE'
          clear BE'
          have BR' := Lib.hid (BR.out.below hb)
          clear BR
          have BR := BR'
          clear BR'
          have BU' := Lib.hid (BU.out.below hb)
          clear BU
          have BU := BU'
          clear BU'
          have BD' := Lib.hid (BD.out.below hb)
          clear BD
          have BD := BD'
          clear BD'
          have BJ' := Lib.hid (BJ.out.below hb)
          clear BJ
          have BJ := BJ'
          clear BJ'
          have RS' := Lib.hid (RS.out.below hb)
          clear RS
          have RS := RS'
          clear RS'
          have RT' := Lib.hid (RT.out.below hb)
          clear RT
          have RT := RT'
          clear RT'
          have RE' := Lib.hid (RE.out.below hb)
          clear RE
          have RE := RE'
          clear RE'
          have RR' := Lib.hid (RR.out.below hb)
          clear RR
          have RR := RR'
          clear RR'
          have RU' := Lib.hid (RU.out.below hb)
          clear RU
          have RU := RU'
          clear RU'
          have RD' := Lib.hid (RD.out.below hb)
          clear RD
          have RD := RD'
          clear RD'
          have RJ' := Lib.hid (RJ.out.below hb)
          clear RJ
          have RJ := RJ'
          clear RJ'
          have bel' : Below y7.heap.size y7 y83 := below_more bel hb
          clear bel hb
          have bel := bel'
          clear bel'
          go_wp2
          go_meet
          case rel => exact ⟨rfl, Lib.hid bel⟩
    obtain ⟨rfl, hcut⟩ := hcut
    have bel2 := below_more bel hcut.out
    obtain ⟨wz, hwz⟩ : ∃ wz, wz = wc := ⟨_, rfl⟩
    rw [← hwz] at hcut bel2 ⊢
    have hb := hcut.out
    clear bel2 hcut hwz
    have BS' := Lib.hid (BS.out.below hb)
    clear BS
    have BS := BS'
    clear BS'
    have BT' := Lib.hid (BT.out.below hb)
    clear BT
    have BT := BT'
    clear BT'
    have BE' := Lib.hid (BE.out.below hb)
    clear BE
    have BE := BE'
    clear BE'
    have BR' := Lib.hid (BR.out.below hb)
    clear BR
    have BR := BR'
    clear BR'
    have BU' := Lib.hid (BU.out.below hb)
    clear BU
    have BU := BU'
    clear BU'
    have BD' := Lib.hid (BD.out.below hb)
    clear BD
    have BD := BD'
    clear BD'
    have RS' := Lib.hid (RS.out.below hb)
    clear RS
    have RS := RS'
    clear RS'
    have RT' := Lib.hid (RT.out.below hb)
    clear RT
    have RT := RT'
    clear RT'
    have RE' := Lib.hid (RE.out.below hb)
    clear RE
    have RE := RE'
    clear RE'
    have RR' := Lib.hid (RR.out.below hb)
    clear RR
    have RR := RR'
    clear RR'
    have RU' := Lib.hid (RU.out.below hb)
    clear RU
    have RU := RU'
    clear RU'
    have RD' := Lib.hid (RD.out.below hb)
    clear RD
    have RD := RD'
    clear RD'
    have bel' : Below w.heap.size w wz := below_more bel hb
    clear bel hb
    have bel := bel'
    clear bel'
    go_wp2_with fail
    refine (spec_plain 2 _).mono ?_
    rintro e y8 ⟨vp, rfl, own, hb⟩
    have BS' := Lib.hid (BS.out.below hb)
    clear BS
    have BS := BS'
    clear BS'
    have BT' := Lib.hid (BT.out.below hb)
    clear BT
    have BT := BT'
    clear BT'
    have BE' := Lib.hid (BE.out.below hb)
    clear BE
    have BE := BE'
    clear BE'
    have BR' := Lib.hid (BR.out.below hb)
    clear BR
    have BR := BR'
    clear BR'
    have BU' := Lib.hid (BU.out.below hb)
    clear BU
    have BU := BU'
    clear BU'
    have BD' := Lib.hid (BD.out.below hb)
    clear BD
    have BD := BD'
    clear BD'
    have RS' := Lib.hid (RS.out.below hb)
    clear RS
    have RS := RS'
    clear RS'
    have RT' := Lib.hid (RT.out.below hb)
    clear RT
    have RT := RT'
    clear RT'
    have RE' := Lib.hid (RE.out.below hb)
    clear RE
    have RE := RE'
    clear RE'
    have RR' := Lib.hid (RR.out.below hb)
    clear RR
    have RR := RR'
    clear RR'
    have RU' := Lib.hid (RU.out.below hb)
    clear RU
    have RU := RU'
    clear RU'
    have RD' := Lib.hid (RD.out.below hb)
    clear RD
    have RD := RD'
    clear RD'
    have bel' : Below w.heap.size w y8 := below_more bel hb
    clear bel hb
    have bel := bel'
    clear bel'
    have RP := Lib.hid own.rd
    obtain ⟨Ap, np, cp, rfl, -, -, -⟩ := own
    go_upto_region 14 with fail
    generalize hW : y8.alloc (.cells #[.int .i64 (plainL 2).base, .slice Ap np cp] 26) = x9
    obtain ⟨nb0, hsz, hb⟩ := laid1 (ps := [.int .i64 (plainL 2).base, .slice Ap np cp]) hW
    have BS' := Lib.hid (BS.out.below hb)
    clear BS
    have BS := BS'
    clear BS'
    have BT' := Lib.hid (BT.out.below hb)
    clear BT
    have BT := BT'
    clear BT'
    have BE' := Lib.hid (BE.out.below hb)
    clear BE
    have BE := BE'
    clear BE'
    have BR' := Lib.hid (BR.out.below hb)
    clear BR
    have BR := BR'
    clear BR'
    have BU' := Lib.hid (BU.out.below hb)
    clear BU
    have BU := BU'
    clear BU'
    have BD' := Lib.hid (BD.out.below hb)
    clear BD
    have BD := BD'
    clear BD'
    have RS' := Lib.hid (RS.out.below hb)
    clear RS
    have RS := RS'
    clear RS'
    have RT' := Lib.hid (RT.out.below hb)
    clear RT
    have RT := RT'
    clear RT'
    have RE' := Lib.hid (RE.out.below hb)
    clear RE
    have RE := RE'
    clear RE'
    have RR' := Lib.hid (RR.out.below hb)
    clear RR
    have RR := RR'
    clear RR'
    have RU' := Lib.hid (RU.out.below hb)
    clear RU
    have RU := RU'
    clear RU'
    have RD' := Lib.hid (RD.out.below hb)
    clear RD
    have RD := RD'
    clear RD'
    have RP' := Lib.hid (RP.out.below hb)
    clear RP
    have RP := RP'
    clear RP'
    have bel' : Below w.heap.size w x9 := below_more bel hb
    clear bel hb
    have bel := bel'
    clear bel'
    have BP := Lib.hid nb0
    clear hW hsz nb0
    have hno := allowed_noTm
    cases hok : termsOk t
    · skip
      have BTk0 := BT.out.cell 0 rfl
      have BTk1 := BT.out.cell 1 rfl
      have BTk2 := BT.out.cell 2 rfl
      have BTk3 := BT.out.cell 3 rfl
      have BTk4 := BT.out.cell 4 rfl
      have BTk5 := BT.out.cell 5 rfl
      have BTk6 := BT.out.cell 6 rfl
      have BTk7 := BT.out.cell 7 rfl
      have BPk0 := BP.out.cell 0 rfl
      have BPk1 := BP.out.cell 1 rfl
      have BTkz := BT.out.lt
      have BPkz := BP.out.lt
      go_wp2
      refine wp_region_late 27 (fun w' => w'.cell? ⟨y0.heap.size + 1, 0, none⟩ = some (.int .i64 t.taint.base) ∧ w'.cell? ⟨y0.heap.size + 1, 1, none⟩ = some (.slice At_0 nt_0 ct_0) ∧ w'.cell? ⟨y0.heap.size + 1, 2, none⟩ = some (.int .i64 t.clear.base) ∧ w'.cell? ⟨y0.heap.size + 1, 3, none⟩ = some (.slice At_1 nt_1 ct_1) ∧ w'.cell? ⟨y0.heap.size + 1, 4, none⟩ = some (.int .i64 t.raise.base) ∧ w'.cell? ⟨y0.heap.size + 1, 5, none⟩ = some (.slice At_2 nt_2 ct_2) ∧ w'.cell? ⟨y0.heap.size + 1, 6, none⟩ = some (.int .i64 t.verify.base) ∧ w'.cell? ⟨y0.heap.size + 1, 7, none⟩ = some (.slice At_3 nt_3 ct_3) ∧ w'.cell? ⟨y8.heap.size, 0, none⟩ = some (.int .i64 (plainL 2).base) ∧ w'.cell? ⟨y8.heap.size, 1, none⟩ = some (.slice Ap np cp)) (by kernel_rfl) ?_
      obtain ⟨wx, hwx⟩ : ∃ wx, wx = x9.drew := ⟨_, rfl⟩
      have HC : Hid (Below x9.heap.size x9 wx) := Lib.hid (by rw [hwx]; exact (Below.refl _ _).drew)
      rw [← hwx]
      clear hwx
      refine WpLate.take2 (i := 0) (v := .agg #[.int .i64 (plainL 2).base, .slice Ap np cp]) rfl rfl (by kernel_rfl) (by kernel_rfl) (by kernel_rfl) (by kernel_rfl) (by kernel_rfl) (fun _ _ _ h => h) (Or.inl ⟨by rfl, fun w' hw => ?_⟩) ⟨(BT.out.below HC.out).cell 0 rfl, (BT.out.below HC.out).cell 1 rfl, (BT.out.below HC.out).cell 2 rfl, (BT.out.below HC.out).cell 3 rfl, (BT.out.below HC.out).cell 4 rfl, (BT.out.below HC.out).cell 5 rfl, (BT.out.below HC.out).cell 6 rfl, (BT.out.below HC.out).cell 7 rfl, (BP.out.below HC.out).cell 0 rfl, (BP.out.below HC.out).cell 1 rfl⟩ ?_
      · obtain ⟨hw0, hw1, hw2, hw3, hw4, hw5, hw6, hw7, hw8, hw9⟩ := hw; go_simp
      try simp only [List.setIfInBounds_toArray]
      try simp only [List.set_cons_succ, List.set_cons_zero]
      refine WpLate.each (rs := [1]) (by kernel_rfl) (by simp) (LateEach.cons rfl (fun K hK => ?_) LateEach.nil)
      go_simp
      refine (impl_noterms _).mono ?_
      rintro e wl1 ⟨vv, rfl, own, hb⟩
      have HC' := Lib.hid (below_more HC.out hb)
      clear HC hb
      have HC := HC'
      clear HC'
      have N1 := Lib.hid own.rd
      obtain ⟨_, _, _, _, _, _, _, _, _, _, _, _, rfl, -⟩ := own
      try dsimp only
      refine hK.out _ _ (fun _ => ⟨(BT.out.below HC.out).cell 0 rfl, (BT.out.below HC.out).cell 1 rfl, (BT.out.below HC.out).cell 2 rfl, (BT.out.below HC.out).cell 3 rfl, (BT.out.below HC.out).cell 4 rfl, (BT.out.below HC.out).cell 5 rfl, (BT.out.below HC.out).cell 6 rfl, (BT.out.below HC.out).cell 7 rfl, (BP.out.below HC.out).cell 0 rfl, (BP.out.below HC.out).cell 1 rfl⟩) ?_
      try simp only [Act.put]
      try simp only [List.setIfInBounds_toArray]
      try simp only [List.set_cons_succ, List.set_cons_zero]
      refine WpLate.each (rs := [2]) (by kernel_rfl) (by simp) (LateEach.cons rfl (fun K hK => ?_) LateEach.nil)
      go_simp
      refine (impl_allowed _ _ (plainL 2) noTm _ (RP.out.below HC.out) N1.out (hs.below (below_more bel HC.out))).mono ?_
      rintro e wl2 ⟨rfl, hb⟩
      have HC' := Lib.hid (below_more HC.out hb)
      clear HC hb
      have HC := HC'
      clear HC'
      rw [hno]
      try dsimp only
      refine hK.out _ _ (fun _ => ⟨(BT.out.below HC.out).cell 0 rfl, (BT.out.below HC.out).cell 1 rfl, (BT.out.below HC.out).cell 2 rfl, (BT.out.below HC.out).cell 3 rfl, (BT.out.below HC.out).cell 4 rfl, (BT.out.below HC.out).cell 5 rfl, (BT.out.below HC.out).cell 6 rfl, (BT.out.below HC.out).cell 7 rfl, (BP.out.below HC.out).cell 0 rfl, (BP.out.below HC.out).cell 1 rfl⟩) ?_
      try simp only [Act.put]
      try simp only [List.setIfInBounds_toArray]
      try simp only [List.set_cons_succ, List.set_cons_zero]
      refine WpLate.take2 (i := 3) (v := .bool true) rfl rfl (by kernel_rfl) (by kernel_rfl) (by kernel_rfl) (by kernel_rfl) (by kernel_rfl) (fun _ _ _ h => h) (Or.inl ⟨by rfl, fun w' hw => ?_⟩) ⟨(BT.out.below HC.out).cell 0 rfl, (BT.out.below HC.out).cell 1 rfl, (BT.out.below HC.out).cell 2 rfl, (BT.out.below HC.out).cell 3 rfl, (BT.out.below HC.out).cell 4 rfl, (BT.out.below HC.out).cell 5 rfl, (BT.out.below HC.out).cell 6 rfl, (BT.out.below HC.out).cell 7 rfl, (BP.out.below HC.out).cell 0 rfl, (BP.out.below HC.out).cell 1 rfl⟩ ?_
      · go_simp
      try simp only [List.setIfInBounds_toArray]
      try simp only [List.set_cons_succ, List.set_cons_zero]
      refine WpLate.take2 (i := 4) (v := .agg #[.int .i64 t.taint.base, .slice At_0 nt_0 ct_0, .int .i64 t.clear.base, .slice At_1 nt_1 ct_1, .int .i64 t.raise.base, .slice At_2 nt_2 ct_2, .int .i64 t.verify.base, .slice At_3 nt_3 ct_3]) rfl rfl (by kernel_rfl) (by kernel_rfl) (by kernel_rfl) (by kernel_rfl) (by kernel_rfl) (fun _ _ _ h => h) (yields_take (j := 3) (s := 103) (b := true) (by kernel_rfl) (by kernel_rfl) (by rfl) (fun w' hw => ?_)) ⟨(BT.out.below HC.out).cell 0 rfl, (BT.out.below HC.out).cell 1 rfl, (BT.out.below HC.out).cell 2 rfl, (BT.out.below HC.out).cell 3 rfl, (BT.out.below HC.out).cell 4 rfl, (BT.out.below HC.out).cell 5 rfl, (BT.out.below HC.out).cell 6 rfl, (BT.out.below HC.out).cell 7 rfl, (BP.out.below HC.out).cell 0 rfl, (BP.out.below HC.out).cell 1 rfl⟩ ?_
      · obtain ⟨hw0, hw1, hw2, hw3, hw4, hw5, hw6, hw7, hw8, hw9⟩ := hw; go_simp
      try simp only [List.setIfInBounds_toArray]
      try simp only [List.set_cons_succ, List.set_cons_zero]
      refine WpLate.each (rs := [5]) (by kernel_rfl) (by simp) (LateEach.cons rfl (fun K hK => ?_) LateEach.nil)
      go_simp
      refine (spec_termsok _ t _ (RT.out.below HC.out)).mono ?_
      rintro e wl5 ⟨rfl, hb⟩
      have HC' := Lib.hid (below_more HC.out hb)
      clear HC hb
      have HC := HC'
      clear HC'
      rw [hok]
      try dsimp only
      refine hK.out _ _ (fun _ => ⟨(BT.out.below HC.out).cell 0 rfl, (BT.out.below HC.out).cell 1 rfl, (BT.out.below HC.out).cell 2 rfl, (BT.out.below HC.out).cell 3 rfl, (BT.out.below HC.out).cell 4 rfl, (BT.out.below HC.out).cell 5 rfl, (BT.out.below HC.out).cell 6 rfl, (BT.out.below HC.out).cell 7 rfl, (BP.out.below HC.out).cell 0 rfl, (BP.out.below HC.out).cell 1 rfl⟩) ?_
      try simp only [Act.put]
      try simp only [List.setIfInBounds_toArray]
      try simp only [List.set_cons_succ, List.set_cons_zero]
      refine WpLate.take2 (i := 6) (v := .bool true) rfl rfl (by kernel_rfl) (by kernel_rfl) (by kernel_rfl) (by kernel_rfl) (by kernel_rfl) (fun _ _ _ h => h) (yields_take (j := 3) (s := 103) (b := true) (by kernel_rfl) (by kernel_rfl) (by rfl) (fun w' hw => ?_)) ⟨(BT.out.below HC.out).cell 0 rfl, (BT.out.below HC.out).cell 1 rfl, (BT.out.below HC.out).cell 2 rfl, (BT.out.below HC.out).cell 3 rfl, (BT.out.below HC.out).cell 4 rfl, (BT.out.below HC.out).cell 5 rfl, (BT.out.below HC.out).cell 6 rfl, (BT.out.below HC.out).cell 7 rfl, (BP.out.below HC.out).cell 0 rfl, (BP.out.below HC.out).cell 1 rfl⟩ ?_
      · go_simp
      try simp only [List.setIfInBounds_toArray]
      try simp only [List.set_cons_succ, List.set_cons_zero]
      refine WpLate.take2 (i := 7) (v := .bool true) rfl rfl (by kernel_rfl) (by kernel_rfl) (by kernel_rfl) (by kernel_rfl) (by kernel_rfl) (fun _ _ _ h => h) (yields_take (j := 3) (s := 103) (b := true) (by kernel_rfl) (by kernel_rfl) (by rfl) (fun w' hw => ?_)) ⟨(BT.out.below HC.out).cell 0 rfl, (BT.out.below HC.out).cell 1 rfl, (BT.out.below HC.out).cell 2 rfl, (BT.out.below HC.out).cell 3 rfl, (BT.out.below HC.out).cell 4 rfl, (BT.out.below HC.out).cell 5 rfl, (BT.out.below HC.out).cell 6 rfl, (BT.out.below HC.out).cell 7 rfl, (BP.out.below HC.out).cell 0 rfl, (BP.out.below HC.out).cell 1 rfl⟩ ?_
      · go_simp
      try simp only [List.setIfInBounds_toArray]
      try simp only [List.set_cons_succ, List.set_cons_zero]
      refine WpLate.take2 (i := 8) (v := undef) rfl rfl (by kernel_rfl) (by kernel_rfl) (by kernel_rfl) (by kernel_rfl) (by kernel_rfl) (fun _ _ _ h => h) (yields_skip (j := 7) (s := 107) (b := false) (v := .bool true) (by kernel_rfl) (by kernel_rfl) (by rfl) (by first | (simp; done) | (intro h; cases h))) ⟨(BT.out.below HC.out).cell 0 rfl, (BT.out.below HC.out).cell 1 rfl, (BT.out.below HC.out).cell 2 rfl, (BT.out.below HC.out).cell 3 rfl, (BT.out.below HC.out).cell 4 rfl, (BT.out.below HC.out).cell 5 rfl, (BT.out.below HC.out).cell 6 rfl, (BT.out.below HC.out).cell 7 rfl, (BP.out.below HC.out).cell 0 rfl, (BP.out.below HC.out).cell 1 rfl⟩ ?_
      try simp only [List.setIfInBounds_toArray]
      try simp only [List.set_cons_succ, List.set_cons_zero]
      refine WpLate.take2 (i := 9) (v := undef) rfl rfl (by kernel_rfl) (by kernel_rfl) (by kernel_rfl) (by kernel_rfl) (by kernel_rfl) (fun _ _ _ h => h) (yields_skip (j := 7) (s := 107) (b := false) (v := .bool true) (by kernel_rfl) (by kernel_rfl) (by rfl) (by first | (simp; done) | (intro h; cases h))) ⟨(BT.out.below HC.out).cell 0 rfl, (BT.out.below HC.out).cell 1 rfl, (BT.out.below HC.out).cell 2 rfl, (BT.out.below HC.out).cell 3 rfl, (BT.out.below HC.out).cell 4 rfl, (BT.out.below HC.out).cell 5 rfl, (BT.out.below HC.out).cell 6 rfl, (BT.out.below HC.out).cell 7 rfl, (BP.out.below HC.out).cell 0 rfl, (BP.out.below HC.out).cell 1 rfl⟩ ?_
      try simp only [List.setIfInBounds_toArray]
      try simp only [List.set_cons_succ, List.set_cons_zero]
      refine WpLate.take2 (i := 10) (v := undef) rfl rfl (by kernel_rfl) (by kernel_rfl) (by kernel_rfl) (by kernel_rfl) (by kernel_rfl) (fun _ _ _ h => h) (yields_skip (j := 7) (s := 107) (b := false) (v := .bool true) (by kernel_rfl) (by kernel_rfl) (by rfl) (by first | (simp; done) | (intro h; cases h))) ⟨(BT.out.below HC.out).cell 0 rfl, (BT.out.below HC.out).cell 1 rfl, (BT.out.below HC.out).cell 2 rfl, (BT.out.below HC.out).cell 3 rfl, (BT.out.below HC.out).cell 4 rfl, (BT.out.below HC.out).cell 5 rfl, (BT.out.below HC.out).cell 6 rfl, (BT.out.below HC.out).cell 7 rfl, (BP.out.below HC.out).cell 0 rfl, (BP.out.below HC.out).cell 1 rfl⟩ ?_
      try simp only [List.setIfInBounds_toArray]
      try simp only [List.set_cons_succ, List.set_cons_zero]
      refine WpLate.take2 (i := 11) (v := undef) rfl rfl (by kernel_rfl) (by kernel_rfl) (by kernel_rfl) (by kernel_rfl) (by kernel_rfl) (fun _ _ _ h => h) (yields_skip (j := 7) (s := 107) (b := false) (v := .bool true) (by kernel_rfl) (by kernel_rfl) (by rfl) (by first | (simp; done) | (intro h; cases h))) ⟨(BT.out.below HC.out).cell 0 rfl, (BT.out.below HC.out).cell 1 rfl, (BT.out.below HC.out).cell 2 rfl, (BT.out.below HC.out).cell 3 rfl, (BT.out.below HC.out).cell 4 rfl, (BT.out.below HC.out).cell 5 rfl, (BT.out.below HC.out).cell 6 rfl, (BT.out.below HC.out).cell 7 rfl, (BP.out.below HC.out).cell 0 rfl, (BP.out.below HC.out).cell 1 rfl⟩ ?_
      try simp only [List.setIfInBounds_toArray]
      try simp only [List.set_cons_succ, List.set_cons_zero]
      refine WpLate.take2 (i := 12) (v := .bool true) rfl rfl (by kernel_rfl) (by kernel_rfl) (by kernel_rfl) (by kernel_rfl) (by kernel_rfl) (fun _ _ _ h => h) (yields_take (j := 3) (s := 103) (b := true) (by kernel_rfl) (by kernel_rfl) (by rfl) (fun w' hw => ?_)) ⟨(BT.out.below HC.out).cell 0 rfl, (BT.out.below HC.out).cell 1 rfl, (BT.out.below HC.out).cell 2 rfl, (BT.out.below HC.out).cell 3 rfl, (BT.out.below HC.out).cell 4 rfl, (BT.out.below HC.out).cell 5 rfl, (BT.out.below HC.out).cell 6 rfl, (BT.out.below HC.out).cell 7 rfl, (BP.out.below HC.out).cell 0 rfl, (BP.out.below HC.out).cell 1 rfl⟩ ?_
      · go_simp
      try simp only [List.setIfInBounds_toArray]
      try simp only [List.set_cons_succ, List.set_cons_zero]
      refine WpLate.take2 (i := 13) (v := .bool true) rfl rfl (by kernel_rfl) (by kernel_rfl) (by kernel_rfl) (by kernel_rfl) (by kernel_rfl) (fun _ _ _ h => h) (yields_take (j := 3) (s := 103) (b := true) (by kernel_rfl) (by kernel_rfl) (by rfl) (fun w' hw => ?_)) ⟨(BT.out.below HC.out).cell 0 rfl, (BT.out.below HC.out).cell 1 rfl, (BT.out.below HC.out).cell 2 rfl, (BT.out.below HC.out).cell 3 rfl, (BT.out.below HC.out).cell 4 rfl, (BT.out.below HC.out).cell 5 rfl, (BT.out.below HC.out).cell 6 rfl, (BT.out.below HC.out).cell 7 rfl, (BP.out.below HC.out).cell 0 rfl, (BP.out.below HC.out).cell 1 rfl⟩ ?_
      · go_simp
      try simp only [List.setIfInBounds_toArray]
      try simp only [List.set_cons_succ, List.set_cons_zero]
      refine WpLate.take2 (i := 14) (v := undef) rfl rfl (by kernel_rfl) (by kernel_rfl) (by kernel_rfl) (by kernel_rfl) (by kernel_rfl) (fun _ _ _ h => h) (yields_skip (j := 13) (s := 113) (b := false) (v := .bool true) (by kernel_rfl) (by kernel_rfl) (by rfl) (by first | (simp; done) | (intro h; cases h))) ⟨(BT.out.below HC.out).cell 0 rfl, (BT.out.below HC.out).cell 1 rfl, (BT.out.below HC.out).cell 2 rfl, (BT.out.below HC.out).cell 3 rfl, (BT.out.below HC.out).cell 4 rfl, (BT.out.below HC.out).cell 5 rfl, (BT.out.below HC.out).cell 6 rfl, (BT.out.below HC.out).cell 7 rfl, (BP.out.below HC.out).cell 0 rfl, (BP.out.below HC.out).cell 1 rfl⟩ ?_
      try simp only [List.setIfInBounds_toArray]
      try simp only [List.set_cons_succ, List.set_cons_zero]
      refine WpLate.take2 (i := 15) (v := undef) rfl rfl (by kernel_rfl) (by kernel_rfl) (by kernel_rfl) (by kernel_rfl) (by kernel_rfl) (fun _ _ _ h => h) (yields_skip (j := 13) (s := 113) (b := false) (v := .bool true) (by kernel_rfl) (by kernel_rfl) (by rfl) (by first | (simp; done) | (intro h; cases h))) ⟨(BT.out.below HC.out).cell 0 rfl, (BT.out.below HC.out).cell 1 rfl, (BT.out.below HC.out).cell 2 rfl, (BT.out.below HC.out).cell 3 rfl, (BT.out.below HC.out).cell 4 rfl, (BT.out.below HC.out).cell 5 rfl, (BT.out.below HC.out).cell 6 rfl, (BT.out.below HC.out).cell 7 rfl, (BP.out.below HC.out).cell 0 rfl, (BP.out.below HC.out).cell 1 rfl⟩ ?_
      try simp only [List.setIfInBounds_toArray]
      try simp only [List.set_cons_succ, List.set_cons_zero]
      refine WpLate.take2 (i := 16) (v := undef) rfl rfl (by kernel_rfl) (by kernel_rfl) (by kernel_rfl) (by kernel_rfl) (by kernel_rfl) (fun _ _ _ h => h) (yields_skip (j := 13) (s := 113) (b := false) (v := .bool true) (by kernel_rfl) (by kernel_rfl) (by rfl) (by first | (simp; done) | (intro h; cases h))) ⟨(BT.out.below HC.out).cell 0 rfl, (BT.out.below HC.out).cell 1 rfl, (BT.out.below HC.out).cell 2 rfl, (BT.out.below HC.out).cell 3 rfl, (BT.out.below HC.out).cell 4 rfl, (BT.out.below HC.out).cell 5 rfl, (BT.out.below HC.out).cell 6 rfl, (BT.out.below HC.out).cell 7 rfl, (BP.out.below HC.out).cell 0 rfl, (BP.out.below HC.out).cell 1 rfl⟩ ?_
      try simp only [List.setIfInBounds_toArray]
      try simp only [List.set_cons_succ, List.set_cons_zero]
      refine WpLate.take2 (i := 17) (v := undef) rfl rfl (by kernel_rfl) (by kernel_rfl) (by kernel_rfl) (by kernel_rfl) (by kernel_rfl) (fun _ _ _ h => h) (yields_skip (j := 13) (s := 113) (b := false) (v := .bool true) (by kernel_rfl) (by kernel_rfl) (by rfl) (by first | (simp; done) | (intro h; cases h))) ⟨(BT.out.below HC.out).cell 0 rfl, (BT.out.below HC.out).cell 1 rfl, (BT.out.below HC.out).cell 2 rfl, (BT.out.below HC.out).cell 3 rfl, (BT.out.below HC.out).cell 4 rfl, (BT.out.below HC.out).cell 5 rfl, (BT.out.below HC.out).cell 6 rfl, (BT.out.below HC.out).cell 7 rfl, (BP.out.below HC.out).cell 0 rfl, (BP.out.below HC.out).cell 1 rfl⟩ ?_
      try simp only [List.setIfInBounds_toArray]
      try simp only [List.set_cons_succ, List.set_cons_zero]
      refine WpLate.take2 (i := 18) (v := undef) rfl rfl (by kernel_rfl) (by kernel_rfl) (by kernel_rfl) (by kernel_rfl) (by kernel_rfl) (fun _ _ _ h => h) (yields_skip (j := 13) (s := 113) (b := false) (v := .bool true) (by kernel_rfl) (by kernel_rfl) (by rfl) (by first | (simp; done) | (intro h; cases h))) ⟨(BT.out.below HC.out).cell 0 rfl, (BT.out.below HC.out).cell 1 rfl, (BT.out.below HC.out).cell 2 rfl, (BT.out.below HC.out).cell 3 rfl, (BT.out.below HC.out).cell 4 rfl, (BT.out.below HC.out).cell 5 rfl, (BT.out.below HC.out).cell 6 rfl, (BT.out.below HC.out).cell 7 rfl, (BP.out.below HC.out).cell 0 rfl, (BP.out.below HC.out).cell 1 rfl⟩ ?_
      try simp only [List.setIfInBounds_toArray]
      try simp only [List.set_cons_succ, List.set_cons_zero]
      refine WpLate.take2 (i := 19) (v := undef) rfl rfl (by kernel_rfl) (by kernel_rfl) (by kernel_rfl) (by kernel_rfl) (by kernel_rfl) (fun _ _ _ h => h) (yields_skip (j := 18) (s := 118) (b := true) (v := undef) (by kernel_rfl) (by kernel_rfl) (by rfl) (by first | (simp; done) | (intro h; cases h))) ⟨(BT.out.below HC.out).cell 0 rfl, (BT.out.below HC.out).cell 1 rfl, (BT.out.below HC.out).cell 2 rfl, (BT.out.below HC.out).cell 3 rfl, (BT.out.below HC.out).cell 4 rfl, (BT.out.below HC.out).cell 5 rfl, (BT.out.below HC.out).cell 6 rfl, (BT.out.below HC.out).cell 7 rfl, (BP.out.below HC.out).cell 0 rfl, (BP.out.below HC.out).cell 1 rfl⟩ ?_
      try simp only [List.setIfInBounds_toArray]
      try simp only [List.set_cons_succ, List.set_cons_zero]
      refine WpLate.take2 (i := 20) (v := undef) rfl rfl (by kernel_rfl) (by kernel_rfl) (by kernel_rfl) (by kernel_rfl) (by kernel_rfl) (fun _ _ _ h => h) (yields_skip (j := 18) (s := 118) (b := true) (v := undef) (by kernel_rfl) (by kernel_rfl) (by rfl) (by first | (simp; done) | (intro h; cases h))) ⟨(BT.out.below HC.out).cell 0 rfl, (BT.out.below HC.out).cell 1 rfl, (BT.out.below HC.out).cell 2 rfl, (BT.out.below HC.out).cell 3 rfl, (BT.out.below HC.out).cell 4 rfl, (BT.out.below HC.out).cell 5 rfl, (BT.out.below HC.out).cell 6 rfl, (BT.out.below HC.out).cell 7 rfl, (BP.out.below HC.out).cell 0 rfl, (BP.out.below HC.out).cell 1 rfl⟩ ?_
      try simp only [List.setIfInBounds_toArray]
      try simp only [List.set_cons_succ, List.set_cons_zero]
      refine WpLate.take2 (i := 21) (v := undef) rfl rfl (by kernel_rfl) (by kernel_rfl) (by kernel_rfl) (by kernel_rfl) (by kernel_rfl) (fun _ _ _ h => h) (yields_skip (j := 18) (s := 118) (b := true) (v := undef) (by kernel_rfl) (by kernel_rfl) (by rfl) (by first | (simp; done) | (intro h; cases h))) ⟨(BT.out.below HC.out).cell 0 rfl, (BT.out.below HC.out).cell 1 rfl, (BT.out.below HC.out).cell 2 rfl, (BT.out.below HC.out).cell 3 rfl, (BT.out.below HC.out).cell 4 rfl, (BT.out.below HC.out).cell 5 rfl, (BT.out.below HC.out).cell 6 rfl, (BT.out.below HC.out).cell 7 rfl, (BP.out.below HC.out).cell 0 rfl, (BP.out.below HC.out).cell 1 rfl⟩ ?_
      try simp only [List.setIfInBounds_toArray]
      try simp only [List.set_cons_succ, List.set_cons_zero]
      refine WpLate.take2 (i := 22) (v := undef) rfl rfl (by kernel_rfl) (by kernel_rfl) (by kernel_rfl) (by kernel_rfl) (by kernel_rfl) (fun _ _ _ h => h) (yields_skip (j := 18) (s := 118) (b := true) (v := undef) (by kernel_rfl) (by kernel_rfl) (by rfl) (by first | (simp; done) | (intro h; cases h))) ⟨(BT.out.below HC.out).cell 0 rfl, (BT.out.below HC.out).cell 1 rfl, (BT.out.below HC.out).cell 2 rfl, (BT.out.below HC.out).cell 3 rfl, (BT.out.below HC.out).cell 4 rfl, (BT.out.below HC.out).cell 5 rfl, (BT.out.below HC.out).cell 6 rfl, (BT.out.below HC.out).cell 7 rfl, (BP.out.below HC.out).cell 0 rfl, (BP.out.below HC.out).cell 1 rfl⟩ ?_
      try simp only [List.setIfInBounds_toArray]
      try simp only [List.set_cons_succ, List.set_cons_zero]
      refine WpLate.take2 (i := 23) (v := undef) rfl rfl (by kernel_rfl) (by kernel_rfl) (by kernel_rfl) (by kernel_rfl) (by kernel_rfl) (fun _ _ _ h => h) (yields_skip (j := 13) (s := 113) (b := false) (v := .bool true) (by kernel_rfl) (by kernel_rfl) (by rfl) (by first | (simp; done) | (intro h; cases h))) ⟨(BT.out.below HC.out).cell 0 rfl, (BT.out.below HC.out).cell 1 rfl, (BT.out.below HC.out).cell 2 rfl, (BT.out.below HC.out).cell 3 rfl, (BT.out.below HC.out).cell 4 rfl, (BT.out.below HC.out).cell 5 rfl, (BT.out.below HC.out).cell 6 rfl, (BT.out.below HC.out).cell 7 rfl, (BP.out.below HC.out).cell 0 rfl, (BP.out.below HC.out).cell 1 rfl⟩ ?_
      try simp only [List.setIfInBounds_toArray]
      try simp only [List.set_cons_succ, List.set_cons_zero]
      refine WpLate.take2 (i := 24) (v := .bool true) rfl rfl (by kernel_rfl) (by kernel_rfl) (by kernel_rfl) (by kernel_rfl) (by kernel_rfl) (fun _ _ _ h => h) (yields_take (j := 3) (s := 103) (b := true) (by kernel_rfl) (by kernel_rfl) (by rfl) (fun w' hw => ?_)) ⟨(BT.out.below HC.out).cell 0 rfl, (BT.out.below HC.out).cell 1 rfl, (BT.out.below HC.out).cell 2 rfl, (BT.out.below HC.out).cell 3 rfl, (BT.out.below HC.out).cell 4 rfl, (BT.out.below HC.out).cell 5 rfl, (BT.out.below HC.out).cell 6 rfl, (BT.out.below HC.out).cell 7 rfl, (BP.out.below HC.out).cell 0 rfl, (BP.out.below HC.out).cell 1 rfl⟩ ?_
      · go_simp
      try simp only [List.setIfInBounds_toArray]
      try simp only [List.set_cons_succ, List.set_cons_zero]
      refine WpLate.take2 (i := 25) (v := .bool true) rfl rfl (by kernel_rfl) (by kernel_rfl) (by kernel_rfl) (by kernel_rfl) (by kernel_rfl) (fun _ _ _ h => h) (Or.inl ⟨by rfl, fun w' hw => ?_⟩) ⟨(BT.out.below HC.out).cell 0 rfl, (BT.out.below HC.out).cell 1 rfl, (BT.out.below HC.out).cell 2 rfl, (BT.out.below HC.out).cell 3 rfl, (BT.out.below HC.out).cell 4 rfl, (BT.out.below HC.out).cell 5 rfl, (BT.out.below HC.out).cell 6 rfl, (BT.out.below HC.out).cell 7 rfl, (BP.out.below HC.out).cell 0 rfl, (BP.out.below HC.out).cell 1 rfl⟩ ?_
      · go_simp
      try simp only [List.setIfInBounds_toArray]
      try simp only [List.set_cons_succ, List.set_cons_zero]
      refine WpLate.take2 (i := 26) (v := .bool true) rfl rfl (by kernel_rfl) (by kernel_rfl) (by kernel_rfl) (by kernel_rfl) (by kernel_rfl) (fun _ _ _ h => h) (Or.inl ⟨by rfl, fun w' hw => ?_⟩) ⟨(BT.out.below HC.out).cell 0 rfl, (BT.out.below HC.out).cell 1 rfl, (BT.out.below HC.out).cell 2 rfl, (BT.out.below HC.out).cell 3 rfl, (BT.out.below HC.out).cell 4 rfl, (BT.out.below HC.out).cell 5 rfl, (BT.out.below HC.out).cell 6 rfl, (BT.out.below HC.out).cell 7 rfl, (BP.out.below HC.out).cell 0 rfl, (BP.out.below HC.out).cell 1 rfl⟩ ?_
      · go_simp
      try simp only [List.setIfInBounds_toArray]
      try simp only [List.set_cons_succ, List.set_cons_zero]
      refine WpLate.done (by kernel_rfl) ?_ _
      go_wp2
      go_ret
      exact ⟨rfl, below_more bel HC.out⟩
    cases hal : allowed (plainL 2) t
    · skip
      have BTk0 := BT.out.cell 0 rfl
      have BTk1 := BT.out.cell 1 rfl
      have BTk2 := BT.out.cell 2 rfl
      have BTk3 := BT.out.cell 3 rfl
      have BTk4 := BT.out.cell 4 rfl
      have BTk5 := BT.out.cell 5 rfl
      have BTk6 := BT.out.cell 6 rfl
      have BTk7 := BT.out.cell 7 rfl
      have BPk0 := BP.out.cell 0 rfl
      have BPk1 := BP.out.cell 1 rfl
      have BTkz := BT.out.lt
      have BPkz := BP.out.lt
      go_wp2
      refine wp_region_late 27 (fun w' => w'.cell? ⟨y0.heap.size + 1, 0, none⟩ = some (.int .i64 t.taint.base) ∧ w'.cell? ⟨y0.heap.size + 1, 1, none⟩ = some (.slice At_0 nt_0 ct_0) ∧ w'.cell? ⟨y0.heap.size + 1, 2, none⟩ = some (.int .i64 t.clear.base) ∧ w'.cell? ⟨y0.heap.size + 1, 3, none⟩ = some (.slice At_1 nt_1 ct_1) ∧ w'.cell? ⟨y0.heap.size + 1, 4, none⟩ = some (.int .i64 t.raise.base) ∧ w'.cell? ⟨y0.heap.size + 1, 5, none⟩ = some (.slice At_2 nt_2 ct_2) ∧ w'.cell? ⟨y0.heap.size + 1, 6, none⟩ = some (.int .i64 t.verify.base) ∧ w'.cell? ⟨y0.heap.size + 1, 7, none⟩ = some (.slice At_3 nt_3 ct_3) ∧ w'.cell? ⟨y8.heap.size, 0, none⟩ = some (.int .i64 (plainL 2).base) ∧ w'.cell? ⟨y8.heap.size, 1, none⟩ = some (.slice Ap np cp)) (by kernel_rfl) ?_
      obtain ⟨wx, hwx⟩ : ∃ wx, wx = x9.drew := ⟨_, rfl⟩
      have HC : Hid (Below x9.heap.size x9 wx) := Lib.hid (by rw [hwx]; exact (Below.refl _ _).drew)
      rw [← hwx]
      clear hwx
      refine WpLate.take2 (i := 0) (v := .agg #[.int .i64 (plainL 2).base, .slice Ap np cp]) rfl rfl (by kernel_rfl) (by kernel_rfl) (by kernel_rfl) (by kernel_rfl) (by kernel_rfl) (fun _ _ _ h => h) (Or.inl ⟨by rfl, fun w' hw => ?_⟩) ⟨(BT.out.below HC.out).cell 0 rfl, (BT.out.below HC.out).cell 1 rfl, (BT.out.below HC.out).cell 2 rfl, (BT.out.below HC.out).cell 3 rfl, (BT.out.below HC.out).cell 4 rfl, (BT.out.below HC.out).cell 5 rfl, (BT.out.below HC.out).cell 6 rfl, (BT.out.below HC.out).cell 7 rfl, (BP.out.below HC.out).cell 0 rfl, (BP.out.below HC.out).cell 1 rfl⟩ ?_
      · obtain ⟨hw0, hw1, hw2, hw3, hw4, hw5, hw6, hw7, hw8, hw9⟩ := hw; go_simp
      try simp only [List.setIfInBounds_toArray]
      try simp only [List.set_cons_succ, List.set_cons_zero]
      refine WpLate.each (rs := [1]) (by kernel_rfl) (by simp) (LateEach.cons rfl (fun K hK => ?_) LateEach.nil)
      go_simp
      refine (impl_noterms _).mono ?_
      rintro e wl1 ⟨vv, rfl, own, hb⟩
      have HC' := Lib.hid (below_more HC.out hb)
      clear HC hb
      have HC := HC'
      clear HC'
      have N1 := Lib.hid own.rd
      obtain ⟨_, _, _, _, _, _, _, _, _, _, _, _, rfl, -⟩ := own
      try dsimp only
      refine hK.out _ _ (fun _ => ⟨(BT.out.below HC.out).cell 0 rfl, (BT.out.below HC.out).cell 1 rfl, (BT.out.below HC.out).cell 2 rfl, (BT.out.below HC.out).cell 3 rfl, (BT.out.below HC.out).cell 4 rfl, (BT.out.below HC.out).cell 5 rfl, (BT.out.below HC.out).cell 6 rfl, (BT.out.below HC.out).cell 7 rfl, (BP.out.below HC.out).cell 0 rfl, (BP.out.below HC.out).cell 1 rfl⟩) ?_
      try simp only [Act.put]
      try simp only [List.setIfInBounds_toArray]
      try simp only [List.set_cons_succ, List.set_cons_zero]
      refine WpLate.each (rs := [2]) (by kernel_rfl) (by simp) (LateEach.cons rfl (fun K hK => ?_) LateEach.nil)
      go_simp
      refine (impl_allowed _ _ (plainL 2) noTm _ (RP.out.below HC.out) N1.out (hs.below (below_more bel HC.out))).mono ?_
      rintro e wl2 ⟨rfl, hb⟩
      have HC' := Lib.hid (below_more HC.out hb)
      clear HC hb
      have HC := HC'
      clear HC'
      rw [hno]
      try dsimp only
      refine hK.out _ _ (fun _ => ⟨(BT.out.below HC.out).cell 0 rfl, (BT.out.below HC.out).cell 1 rfl, (BT.out.below HC.out).cell 2 rfl, (BT.out.below HC.out).cell 3 rfl, (BT.out.below HC.out).cell 4 rfl, (BT.out.below HC.out).cell 5 rfl, (BT.out.below HC.out).cell 6 rfl, (BT.out.below HC.out).cell 7 rfl, (BP.out.below HC.out).cell 0 rfl, (BP.out.below HC.out).cell 1 rfl⟩) ?_
      try simp only [Act.put]
      try simp only [List.setIfInBounds_toArray]
      try simp only [List.set_cons_succ, List.set_cons_zero]
      refine WpLate.take2 (i := 3) (v := .bool true) rfl rfl (by kernel_rfl) (by kernel_rfl) (by kernel_rfl) (by kernel_rfl) (by kernel_rfl) (fun _ _ _ h => h) (Or.inl ⟨by rfl, fun w' hw => ?_⟩) ⟨(BT.out.below HC.out).cell 0 rfl, (BT.out.below HC.out).cell 1 rfl, (BT.out.below HC.out).cell 2 rfl, (BT.out.below HC.out).cell 3 rfl, (BT.out.below HC.out).cell 4 rfl, (BT.out.below HC.out).cell 5 rfl, (BT.out.below HC.out).cell 6 rfl, (BT.out.below HC.out).cell 7 rfl, (BP.out.below HC.out).cell 0 rfl, (BP.out.below HC.out).cell 1 rfl⟩ ?_
      · go_simp
      try simp only [List.setIfInBounds_toArray]
      try simp only [List.set_cons_succ, List.set_cons_zero]
      refine WpLate.take2 (i := 4) (v := .agg #[.int .i64 t.taint.base, .slice At_0 nt_0 ct_0, .int .i64 t.clear.base, .slice At_1 nt_1 ct_1, .int .i64 t.raise.base, .slice At_2 nt_2 ct_2, .int .i64 t.verify.base, .slice At_3 nt_3 ct_3]) rfl rfl (by kernel_rfl) (by kernel_rfl) (by kernel_rfl) (by kernel_rfl) (by kernel_rfl) (fun _ _ _ h => h) (yields_take (j := 3) (s := 103) (b := true) (by kernel_rfl) (by kernel_rfl) (by rfl) (fun w' hw => ?_)) ⟨(BT.out.below HC.out).cell 0 rfl, (BT.out.below HC.out).cell 1 rfl, (BT.out.below HC.out).cell 2 rfl, (BT.out.below HC.out).cell 3 rfl, (BT.out.below HC.out).cell 4 rfl, (BT.out.below HC.out).cell 5 rfl, (BT.out.below HC.out).cell 6 rfl, (BT.out.below HC.out).cell 7 rfl, (BP.out.below HC.out).cell 0 rfl, (BP.out.below HC.out).cell 1 rfl⟩ ?_
      · obtain ⟨hw0, hw1, hw2, hw3, hw4, hw5, hw6, hw7, hw8, hw9⟩ := hw; go_simp
      try simp only [List.setIfInBounds_toArray]
      try simp only [List.set_cons_succ, List.set_cons_zero]
      refine WpLate.each (rs := [5]) (by kernel_rfl) (by simp) (LateEach.cons rfl (fun K hK => ?_) LateEach.nil)
      go_simp
      refine (spec_termsok _ t _ (RT.out.below HC.out)).mono ?_
      rintro e wl5 ⟨rfl, hb⟩
      have HC' := Lib.hid (below_more HC.out hb)
      clear HC hb
      have HC := HC'
      clear HC'
      rw [hok]
      try dsimp only
      refine hK.out _ _ (fun _ => ⟨(BT.out.below HC.out).cell 0 rfl, (BT.out.below HC.out).cell 1 rfl, (BT.out.below HC.out).cell 2 rfl, (BT.out.below HC.out).cell 3 rfl, (BT.out.below HC.out).cell 4 rfl, (BT.out.below HC.out).cell 5 rfl, (BT.out.below HC.out).cell 6 rfl, (BT.out.below HC.out).cell 7 rfl, (BP.out.below HC.out).cell 0 rfl, (BP.out.below HC.out).cell 1 rfl⟩) ?_
      try simp only [Act.put]
      try simp only [List.setIfInBounds_toArray]
      try simp only [List.set_cons_succ, List.set_cons_zero]
      refine WpLate.take2 (i := 6) (v := .bool false) rfl rfl (by kernel_rfl) (by kernel_rfl) (by kernel_rfl) (by kernel_rfl) (by kernel_rfl) (fun _ _ _ h => h) (yields_take (j := 3) (s := 103) (b := true) (by kernel_rfl) (by kernel_rfl) (by rfl) (fun w' hw => ?_)) ⟨(BT.out.below HC.out).cell 0 rfl, (BT.out.below HC.out).cell 1 rfl, (BT.out.below HC.out).cell 2 rfl, (BT.out.below HC.out).cell 3 rfl, (BT.out.below HC.out).cell 4 rfl, (BT.out.below HC.out).cell 5 rfl, (BT.out.below HC.out).cell 6 rfl, (BT.out.below HC.out).cell 7 rfl, (BP.out.below HC.out).cell 0 rfl, (BP.out.below HC.out).cell 1 rfl⟩ ?_
      · go_simp
      try simp only [List.setIfInBounds_toArray]
      try simp only [List.set_cons_succ, List.set_cons_zero]
      refine WpLate.take2 (i := 7) (v := .bool false) rfl rfl (by kernel_rfl) (by kernel_rfl) (by kernel_rfl) (by kernel_rfl) (by kernel_rfl) (fun _ _ _ h => h) (yields_take (j := 3) (s := 103) (b := true) (by kernel_rfl) (by kernel_rfl) (by rfl) (fun w' hw => ?_)) ⟨(BT.out.below HC.out).cell 0 rfl, (BT.out.below HC.out).cell 1 rfl, (BT.out.below HC.out).cell 2 rfl, (BT.out.below HC.out).cell 3 rfl, (BT.out.below HC.out).cell 4 rfl, (BT.out.below HC.out).cell 5 rfl, (BT.out.below HC.out).cell 6 rfl, (BT.out.below HC.out).cell 7 rfl, (BP.out.below HC.out).cell 0 rfl, (BP.out.below HC.out).cell 1 rfl⟩ ?_
      · go_simp
      try simp only [List.setIfInBounds_toArray]
      try simp only [List.set_cons_succ, List.set_cons_zero]
      refine WpLate.take2 (i := 8) (v := .agg #[.int .i64 (plainL 2).base, .slice Ap np cp]) rfl rfl (by kernel_rfl) (by kernel_rfl) (by kernel_rfl) (by kernel_rfl) (by kernel_rfl) (fun _ _ _ h => h) (yields_take (j := 7) (s := 107) (b := false) (by kernel_rfl) (by kernel_rfl) (by rfl) (fun w' hw => ?_)) ⟨(BT.out.below HC.out).cell 0 rfl, (BT.out.below HC.out).cell 1 rfl, (BT.out.below HC.out).cell 2 rfl, (BT.out.below HC.out).cell 3 rfl, (BT.out.below HC.out).cell 4 rfl, (BT.out.below HC.out).cell 5 rfl, (BT.out.below HC.out).cell 6 rfl, (BT.out.below HC.out).cell 7 rfl, (BP.out.below HC.out).cell 0 rfl, (BP.out.below HC.out).cell 1 rfl⟩ ?_
      · obtain ⟨hw0, hw1, hw2, hw3, hw4, hw5, hw6, hw7, hw8, hw9⟩ := hw; go_simp
      try simp only [List.setIfInBounds_toArray]
      try simp only [List.set_cons_succ, List.set_cons_zero]
      refine WpLate.take2 (i := 9) (v := .agg #[.int .i64 t.taint.base, .slice At_0 nt_0 ct_0, .int .i64 t.clear.base, .slice At_1 nt_1 ct_1, .int .i64 t.raise.base, .slice At_2 nt_2 ct_2, .int .i64 t.verify.base, .slice At_3 nt_3 ct_3]) rfl rfl (by kernel_rfl) (by kernel_rfl) (by kernel_rfl) (by kernel_rfl) (by kernel_rfl) (fun _ _ _ h => h) (yields_take (j := 7) (s := 107) (b := false) (by kernel_rfl) (by kernel_rfl) (by rfl) (fun w' hw => ?_)) ⟨(BT.out.below HC.out).cell 0 rfl, (BT.out.below HC.out).cell 1 rfl, (BT.out.below HC.out).cell 2 rfl, (BT.out.below HC.out).cell 3 rfl, (BT.out.below HC.out).cell 4 rfl, (BT.out.below HC.out).cell 5 rfl, (BT.out.below HC.out).cell 6 rfl, (BT.out.below HC.out).cell 7 rfl, (BP.out.below HC.out).cell 0 rfl, (BP.out.below HC.out).cell 1 rfl⟩ ?_
      · obtain ⟨hw0, hw1, hw2, hw3, hw4, hw5, hw6, hw7, hw8, hw9⟩ := hw; go_simp
      try simp only [List.setIfInBounds_toArray]
      try simp only [List.set_cons_succ, List.set_cons_zero]
      refine WpLate.each (rs := [10]) (by kernel_rfl) (by simp) (LateEach.cons rfl (fun K hK => ?_) LateEach.nil)
      go_simp
      refine (impl_allowed _ _ (plainL 2) t _ (RP.out.below HC.out) (RT.out.below HC.out) (hs.below (below_more bel HC.out))).mono ?_
      rintro e wl10 ⟨rfl, hb⟩
      have HC' := Lib.hid (below_more HC.out hb)
      clear HC hb
      have HC := HC'
      clear HC'
      rw [hal]
      try dsimp only
      refine hK.out _ _ (fun _ => ⟨(BT.out.below HC.out).cell 0 rfl, (BT.out.below HC.out).cell 1 rfl, (BT.out.below HC.out).cell 2 rfl, (BT.out.below HC.out).cell 3 rfl, (BT.out.below HC.out).cell 4 rfl, (BT.out.below HC.out).cell 5 rfl, (BT.out.below HC.out).cell 6 rfl, (BT.out.below HC.out).cell 7 rfl, (BP.out.below HC.out).cell 0 rfl, (BP.out.below HC.out).cell 1 rfl⟩) ?_
      try simp only [Act.put]
      try simp only [List.setIfInBounds_toArray]
      try simp only [List.set_cons_succ, List.set_cons_zero]
      refine WpLate.take2 (i := 11) (v := .bool true) rfl rfl (by kernel_rfl) (by kernel_rfl) (by kernel_rfl) (by kernel_rfl) (by kernel_rfl) (fun _ _ _ h => h) (yields_take (j := 7) (s := 107) (b := false) (by kernel_rfl) (by kernel_rfl) (by rfl) (fun w' hw => ?_)) ⟨(BT.out.below HC.out).cell 0 rfl, (BT.out.below HC.out).cell 1 rfl, (BT.out.below HC.out).cell 2 rfl, (BT.out.below HC.out).cell 3 rfl, (BT.out.below HC.out).cell 4 rfl, (BT.out.below HC.out).cell 5 rfl, (BT.out.below HC.out).cell 6 rfl, (BT.out.below HC.out).cell 7 rfl, (BP.out.below HC.out).cell 0 rfl, (BP.out.below HC.out).cell 1 rfl⟩ ?_
      · go_simp
      try simp only [List.setIfInBounds_toArray]
      try simp only [List.set_cons_succ, List.set_cons_zero]
      refine WpLate.take2 (i := 12) (v := .bool true) rfl rfl (by kernel_rfl) (by kernel_rfl) (by kernel_rfl) (by kernel_rfl) (by kernel_rfl) (fun _ _ _ h => h) (yields_take (j := 3) (s := 103) (b := true) (by kernel_rfl) (by kernel_rfl) (by rfl) (fun w' hw => ?_)) ⟨(BT.out.below HC.out).cell 0 rfl, (BT.out.below HC.out).cell 1 rfl, (BT.out.below HC.out).cell 2 rfl, (BT.out.below HC.out).cell 3 rfl, (BT.out.below HC.out).cell 4 rfl, (BT.out.below HC.out).cell 5 rfl, (BT.out.below HC.out).cell 6 rfl, (BT.out.below HC.out).cell 7 rfl, (BP.out.below HC.out).cell 0 rfl, (BP.out.below HC.out).cell 1 rfl⟩ ?_
      · go_simp
      try simp only [List.setIfInBounds_toArray]
      try simp only [List.set_cons_succ, List.set_cons_zero]
      refine WpLate.take2 (i := 13) (v := .bool true) rfl rfl (by kernel_rfl) (by kernel_rfl) (by kernel_rfl) (by kernel_rfl) (by kernel_rfl) (fun _ _ _ h => h) (yields_take (j := 3) (s := 103) (b := true) (by kernel_rfl) (by kernel_rfl) (by rfl) (fun w' hw => ?_)) ⟨(BT.out.below HC.out).cell 0 rfl, (BT.out.below HC.out).cell 1 rfl, (BT.out.below HC.out).cell 2 rfl, (BT.out.below HC.out).cell 3 rfl, (BT.out.below HC.out).cell 4 rfl, (BT.out.below HC.out).cell 5 rfl, (BT.out.below HC.out).cell 6 rfl, (BT.out.below HC.out).cell 7 rfl, (BP.out.below HC.out).cell 0 rfl, (BP.out.below HC.out).cell 1 rfl⟩ ?_
      · go_simp
      try simp only [List.setIfInBounds_toArray]
      try simp only [List.set_cons_succ, List.set_cons_zero]
      refine WpLate.take2 (i := 14) (v := undef) rfl rfl (by kernel_rfl) (by kernel_rfl) (by kernel_rfl) (by kernel_rfl) (by kernel_rfl) (fun _ _ _ h => h) (yields_skip (j := 13) (s := 113) (b := false) (v := .bool true) (by kernel_rfl) (by kernel_rfl) (by rfl) (by first | (simp; done) | (intro h; cases h))) ⟨(BT.out.below HC.out).cell 0 rfl, (BT.out.below HC.out).cell 1 rfl, (BT.out.below HC.out).cell 2 rfl, (BT.out.below HC.out).cell 3 rfl, (BT.out.below HC.out).cell 4 rfl, (BT.out.below HC.out).cell 5 rfl, (BT.out.below HC.out).cell 6 rfl, (BT.out.below HC.out).cell 7 rfl, (BP.out.below HC.out).cell 0 rfl, (BP.out.below HC.out).cell 1 rfl⟩ ?_
      try simp only [List.setIfInBounds_toArray]
      try simp only [List.set_cons_succ, List.set_cons_zero]
      refine WpLate.take2 (i := 15) (v := undef) rfl rfl (by kernel_rfl) (by kernel_rfl) (by kernel_rfl) (by kernel_rfl) (by kernel_rfl) (fun _ _ _ h => h) (yields_skip (j := 13) (s := 113) (b := false) (v := .bool true) (by kernel_rfl) (by kernel_rfl) (by rfl) (by first | (simp; done) | (intro h; cases h))) ⟨(BT.out.below HC.out).cell 0 rfl, (BT.out.below HC.out).cell 1 rfl, (BT.out.below HC.out).cell 2 rfl, (BT.out.below HC.out).cell 3 rfl, (BT.out.below HC.out).cell 4 rfl, (BT.out.below HC.out).cell 5 rfl, (BT.out.below HC.out).cell 6 rfl, (BT.out.below HC.out).cell 7 rfl, (BP.out.below HC.out).cell 0 rfl, (BP.out.below HC.out).cell 1 rfl⟩ ?_
      try simp only [List.setIfInBounds_toArray]
      try simp only [List.set_cons_succ, List.set_cons_zero]
      refine WpLate.take2 (i := 16) (v := undef) rfl rfl (by kernel_rfl) (by kernel_rfl) (by kernel_rfl) (by kernel_rfl) (by kernel_rfl) (fun _ _ _ h => h) (yields_skip (j := 13) (s := 113) (b := false) (v := .bool true) (by kernel_rfl) (by kernel_rfl) (by rfl) (by first | (simp; done) | (intro h; cases h))) ⟨(BT.out.below HC.out).cell 0 rfl, (BT.out.below HC.out).cell 1 rfl, (BT.out.below HC.out).cell 2 rfl, (BT.out.below HC.out).cell 3 rfl, (BT.out.below HC.out).cell 4 rfl, (BT.out.below HC.out).cell 5 rfl, (BT.out.below HC.out).cell 6 rfl, (BT.out.below HC.out).cell 7 rfl, (BP.out.below HC.out).cell 0 rfl, (BP.out.below HC.out).cell 1 rfl⟩ ?_
      try simp only [List.setIfInBounds_toArray]
      try simp only [List.set_cons_succ, List.set_cons_zero]
      refine WpLate.take2 (i := 17) (v := undef) rfl rfl (by kernel_rfl) (by kernel_rfl) (by kernel_rfl) (by kernel_rfl) (by kernel_rfl) (fun _ _ _ h => h) (yields_skip (j := 13) (s := 113) (b := false) (v := .bool true) (by kernel_rfl) (by kernel_rfl) (by rfl) (by first | (simp; done) | (intro h; cases h))) ⟨(BT.out.below HC.out).cell 0 rfl, (BT.out.below HC.out).cell 1 rfl, (BT.out.below HC.out).cell 2 rfl, (BT.out.below HC.out).cell 3 rfl, (BT.out.below HC.out).cell 4 rfl, (BT.out.below HC.out).cell 5 rfl, (BT.out.below HC.out).cell 6 rfl, (BT.out.below HC.out).cell 7 rfl, (BP.out.below HC.out).cell 0 rfl, (BP.out.below HC.out).cell 1 rfl⟩ ?_
      try simp only [List.setIfInBounds_toArray]
      try simp only [List.set_cons_succ, List.set_cons_zero]
      refine WpLate.take2 (i := 18) (v := undef) rfl rfl (by kernel_rfl) (by kernel_rfl) (by kernel_rfl) (by kernel_rfl) (by kernel_rfl) (fun _ _ _ h => h) (yields_skip (j := 13) (s := 113) (b := false) (v := .bool true) (by kernel_rfl) (by kernel_rfl) (by rfl) (by first | (simp; done) | (intro h; cases h))) ⟨(BT.out.below HC.out).cell 0 rfl, (BT.out.below HC.out).cell 1 rfl, (BT.out.below HC.out).cell 2 rfl, (BT.out.below HC.out).cell 3 rfl, (BT.out.below HC.out).cell 4 rfl, (BT.out.below HC.out).cell 5 rfl, (BT.out.below HC.out).cell 6 rfl, (BT.out.below HC.out).cell 7 rfl, (BP.out.below HC.out).cell 0 rfl, (BP.out.below HC.out).cell 1 rfl⟩ ?_
      try simp only [List.setIfInBounds_toArray]
      try simp only [List.set_cons_succ, List.set_cons_zero]
      refine WpLate.take2 (i := 19) (v := undef) rfl rfl (by kernel_rfl) (by kernel_rfl) (by kernel_rfl) (by kernel_rfl) (by kernel_rfl) (fun _ _ _ h => h) (yields_skip (j := 18) (s := 118) (b := true) (v := undef) (by kernel_rfl) (by kernel_rfl) (by rfl) (by first | (simp; done) | (intro h; cases h))) ⟨(BT.out.below HC.out).cell 0 rfl, (BT.out.below HC.out).cell 1 rfl, (BT.out.below HC.out).cell 2 rfl, (BT.out.below HC.out).cell 3 rfl, (BT.out.below HC.out).cell 4 rfl, (BT.out.below HC.out).cell 5 rfl, (BT.out.below HC.out).cell 6 rfl, (BT.out.below HC.out).cell 7 rfl, (BP.out.below HC.out).cell 0 rfl, (BP.out.below HC.out).cell 1 rfl⟩ ?_
      try simp only [List.setIfInBounds_toArray]
      try simp only [List.set_cons_succ, List.set_cons_zero]
      refine WpLate.take2 (i := 20) (v := undef) rfl rfl (by kernel_rfl) (by kernel_rfl) (by kernel_rfl) (by kernel_rfl) (by kernel_rfl) (fun _ _ _ h => h) (yields_skip (j := 18) (s := 118) (b := true) (v := undef) (by kernel_rfl) (by kernel_rfl) (by rfl) (by first | (simp; done) | (intro h; cases h))) ⟨(BT.out.below HC.out).cell 0 rfl, (BT.out.below HC.out).cell 1 rfl, (BT.out.below HC.out).cell 2 rfl, (BT.out.below HC.out).cell 3 rfl, (BT.out.below HC.out).cell 4 rfl, (BT.out.below HC.out).cell 5 rfl, (BT.out.below HC.out).cell 6 rfl, (BT.out.below HC.out).cell 7 rfl, (BP.out.below HC.out).cell 0 rfl, (BP.out.below HC.out).cell 1 rfl⟩ ?_
      try simp only [List.setIfInBounds_toArray]
      try simp only [List.set_cons_succ, List.set_cons_zero]
      refine WpLate.take2 (i := 21) (v := undef) rfl rfl (by kernel_rfl) (by kernel_rfl) (by kernel_rfl) (by kernel_rfl) (by kernel_rfl) (fun _ _ _ h => h) (yields_skip (j := 18) (s := 118) (b := true) (v := undef) (by kernel_rfl) (by kernel_rfl) (by rfl) (by first | (simp; done) | (intro h; cases h))) ⟨(BT.out.below HC.out).cell 0 rfl, (BT.out.below HC.out).cell 1 rfl, (BT.out.below HC.out).cell 2 rfl, (BT.out.below HC.out).cell 3 rfl, (BT.out.below HC.out).cell 4 rfl, (BT.out.below HC.out).cell 5 rfl, (BT.out.below HC.out).cell 6 rfl, (BT.out.below HC.out).cell 7 rfl, (BP.out.below HC.out).cell 0 rfl, (BP.out.below HC.out).cell 1 rfl⟩ ?_
      try simp only [List.setIfInBounds_toArray]
      try simp only [List.set_cons_succ, List.set_cons_zero]
      refine WpLate.take2 (i := 22) (v := undef) rfl rfl (by kernel_rfl) (by kernel_rfl) (by kernel_rfl) (by kernel_rfl) (by kernel_rfl) (fun _ _ _ h => h) (yields_skip (j := 18) (s := 118) (b := true) (v := undef) (by kernel_rfl) (by kernel_rfl) (by rfl) (by first | (simp; done) | (intro h; cases h))) ⟨(BT.out.below HC.out).cell 0 rfl, (BT.out.below HC.out).cell 1 rfl, (BT.out.below HC.out).cell 2 rfl, (BT.out.below HC.out).cell 3 rfl, (BT.out.below HC.out).cell 4 rfl, (BT.out.below HC.out).cell 5 rfl, (BT.out.below HC.out).cell 6 rfl, (BT.out.below HC.out).cell 7 rfl, (BP.out.below HC.out).cell 0 rfl, (BP.out.below HC.out).cell 1 rfl⟩ ?_
      try simp only [List.setIfInBounds_toArray]
      try simp only [List.set_cons_succ, List.set_cons_zero]
      refine WpLate.take2 (i := 23) (v := undef) rfl rfl (by kernel_rfl) (by kernel_rfl) (by kernel_rfl) (by kernel_rfl) (by kernel_rfl) (fun _ _ _ h => h) (yields_skip (j := 13) (s := 113) (b := false) (v := .bool true) (by kernel_rfl) (by kernel_rfl) (by rfl) (by first | (simp; done) | (intro h; cases h))) ⟨(BT.out.below HC.out).cell 0 rfl, (BT.out.below HC.out).cell 1 rfl, (BT.out.below HC.out).cell 2 rfl, (BT.out.below HC.out).cell 3 rfl, (BT.out.below HC.out).cell 4 rfl, (BT.out.below HC.out).cell 5 rfl, (BT.out.below HC.out).cell 6 rfl, (BT.out.below HC.out).cell 7 rfl, (BP.out.below HC.out).cell 0 rfl, (BP.out.below HC.out).cell 1 rfl⟩ ?_
      try simp only [List.setIfInBounds_toArray]
      try simp only [List.set_cons_succ, List.set_cons_zero]
      refine WpLate.take2 (i := 24) (v := .bool true) rfl rfl (by kernel_rfl) (by kernel_rfl) (by kernel_rfl) (by kernel_rfl) (by kernel_rfl) (fun _ _ _ h => h) (yields_take (j := 3) (s := 103) (b := true) (by kernel_rfl) (by kernel_rfl) (by rfl) (fun w' hw => ?_)) ⟨(BT.out.below HC.out).cell 0 rfl, (BT.out.below HC.out).cell 1 rfl, (BT.out.below HC.out).cell 2 rfl, (BT.out.below HC.out).cell 3 rfl, (BT.out.below HC.out).cell 4 rfl, (BT.out.below HC.out).cell 5 rfl, (BT.out.below HC.out).cell 6 rfl, (BT.out.below HC.out).cell 7 rfl, (BP.out.below HC.out).cell 0 rfl, (BP.out.below HC.out).cell 1 rfl⟩ ?_
      · go_simp
      try simp only [List.setIfInBounds_toArray]
      try simp only [List.set_cons_succ, List.set_cons_zero]
      refine WpLate.take2 (i := 25) (v := .bool true) rfl rfl (by kernel_rfl) (by kernel_rfl) (by kernel_rfl) (by kernel_rfl) (by kernel_rfl) (fun _ _ _ h => h) (Or.inl ⟨by rfl, fun w' hw => ?_⟩) ⟨(BT.out.below HC.out).cell 0 rfl, (BT.out.below HC.out).cell 1 rfl, (BT.out.below HC.out).cell 2 rfl, (BT.out.below HC.out).cell 3 rfl, (BT.out.below HC.out).cell 4 rfl, (BT.out.below HC.out).cell 5 rfl, (BT.out.below HC.out).cell 6 rfl, (BT.out.below HC.out).cell 7 rfl, (BP.out.below HC.out).cell 0 rfl, (BP.out.below HC.out).cell 1 rfl⟩ ?_
      · go_simp
      try simp only [List.setIfInBounds_toArray]
      try simp only [List.set_cons_succ, List.set_cons_zero]
      refine WpLate.take2 (i := 26) (v := .bool true) rfl rfl (by kernel_rfl) (by kernel_rfl) (by kernel_rfl) (by kernel_rfl) (by kernel_rfl) (fun _ _ _ h => h) (Or.inl ⟨by rfl, fun w' hw => ?_⟩) ⟨(BT.out.below HC.out).cell 0 rfl, (BT.out.below HC.out).cell 1 rfl, (BT.out.below HC.out).cell 2 rfl, (BT.out.below HC.out).cell 3 rfl, (BT.out.below HC.out).cell 4 rfl, (BT.out.below HC.out).cell 5 rfl, (BT.out.below HC.out).cell 6 rfl, (BT.out.below HC.out).cell 7 rfl, (BP.out.below HC.out).cell 0 rfl, (BP.out.below HC.out).cell 1 rfl⟩ ?_
      · go_simp
      try simp only [List.setIfInBounds_toArray]
      try simp only [List.set_cons_succ, List.set_cons_zero]
      refine WpLate.done (by kernel_rfl) ?_ _
      go_wp2
      go_ret
      exact ⟨rfl, below_more bel HC.out⟩
    · skip
      obtain ⟨hcl0, hrz0⟩ := plain_owns hok hal
      have hcl := Lib.hid hcl0
      have hrz := Lib.hid hrz0
      clear hcl0 hrz0
      have BTk0 := BT.out.cell 0 rfl
      have BTk1 := BT.out.cell 1 rfl
      have BTk2 := BT.out.cell 2 rfl
      have BTk3 := BT.out.cell 3 rfl
      have BTk4 := BT.out.cell 4 rfl
      have BTk5 := BT.out.cell 5 rfl
      have BTk6 := BT.out.cell 6 rfl
      have BTk7 := BT.out.cell 7 rfl
      have BTkz := BT.out.lt
      have BPk0 := BP.out.cell 0 rfl
      have BPk1 := BP.out.cell 1 rfl
      have BPkz := BP.out.lt
      have HC := Lib.hid (Below.refl x9.heap.size x9)
      go_wp2
      go_region_held3 (fun w' => w'.cell? ⟨y0.heap.size + 1, 0, none⟩ = some (.int .i64 t.taint.base) ∧ w'.cell? ⟨y0.heap.size + 1, 1, none⟩ = some (.slice At_0 nt_0 ct_0) ∧ w'.cell? ⟨y0.heap.size + 1, 2, none⟩ = some (.int .i64 t.clear.base) ∧ w'.cell? ⟨y0.heap.size + 1, 3, none⟩ = some (.slice At_1 nt_1 ct_1) ∧ w'.cell? ⟨y0.heap.size + 1, 4, none⟩ = some (.int .i64 t.raise.base) ∧ w'.cell? ⟨y0.heap.size + 1, 5, none⟩ = some (.slice At_2 nt_2 ct_2) ∧ w'.cell? ⟨y0.heap.size + 1, 6, none⟩ = some (.int .i64 t.verify.base) ∧ w'.cell? ⟨y0.heap.size + 1, 7, none⟩ = some (.slice At_3 nt_3 ct_3) ∧ w'.cell? ⟨y8.heap.size, 0, none⟩ = some (.int .i64 (plainL 2).base) ∧ w'.cell? ⟨y8.heap.size, 1, none⟩ = some (.slice Ap np cp))
        (first | exact ⟨ff0, ff1, ff2, ff3, ff4, ff5, ff6, ff7, ff8, ff9⟩ | go_keep)
        (first
        | (go_at_call 17
           refine (impl_noterms _).mono ?_
           rintro e wn ⟨vv, rfl, own, hb⟩
           have HC' : Hid (Below x9.heap.size x9 wn) := Lib.hid (by first | exact below_more HC.out hb | exact below_more HC.out (below_undrew hb))
           clear HC
           have HC := HC'
           clear HC'
           try clear ff0 ff1 ff2 ff3 ff4 ff5 ff6 ff7 ff8 ff9
           have ff0 : wn.cell? ⟨y0.heap.size + 1, 0, none⟩ = some (.int .i64 t.taint.base) := (BT.out.below HC.out).cell 0 rfl
           have ff1 : wn.cell? ⟨y0.heap.size + 1, 1, none⟩ = some (.slice At_0 nt_0 ct_0) := (BT.out.below HC.out).cell 1 rfl
           have ff2 : wn.cell? ⟨y0.heap.size + 1, 2, none⟩ = some (.int .i64 t.clear.base) := (BT.out.below HC.out).cell 2 rfl
           have ff3 : wn.cell? ⟨y0.heap.size + 1, 3, none⟩ = some (.slice At_1 nt_1 ct_1) := (BT.out.below HC.out).cell 3 rfl
           have ff4 : wn.cell? ⟨y0.heap.size + 1, 4, none⟩ = some (.int .i64 t.raise.base) := (BT.out.below HC.out).cell 4 rfl
           have ff5 : wn.cell? ⟨y0.heap.size + 1, 5, none⟩ = some (.slice At_2 nt_2 ct_2) := (BT.out.below HC.out).cell 5 rfl
           have ff6 : wn.cell? ⟨y0.heap.size + 1, 6, none⟩ = some (.int .i64 t.verify.base) := (BT.out.below HC.out).cell 6 rfl
           have ff7 : wn.cell? ⟨y0.heap.size + 1, 7, none⟩ = some (.slice At_3 nt_3 ct_3) := (BT.out.below HC.out).cell 7 rfl
           have ff8 : wn.cell? ⟨y8.heap.size, 0, none⟩ = some (.int .i64 (plainL 2).base) := (BP.out.below HC.out).cell 0 rfl
           have ff9 : wn.cell? ⟨y8.heap.size, 1, none⟩ = some (.slice Ap np cp) := (BP.out.below HC.out).cell 1 rfl
           try (have N2' := Lib.hid (N2.out.below (by first | exact hb | exact below_undrew hb))
                clear N2
                have N2 := N2'
                clear N2')
           have N1 := Lib.hid own.rd
           obtain ⟨An1_0, nn1_0, cn1_0, An1_1, nn1_1, cn1_1, An1_2, nn1_2, cn1_2, An1_3, nn1_3, cn1_3, rfl, -, -, -, -, -⟩ := own
           clear hb)
        | (go_at_call 11
           refine (impl_allowed _ _ (plainL 2) noTm _ (by first | exact RP.out.below HC.out | exact (RP.out.below HC.out).drew) N1.out (by first | exact hs.below (below_more bel HC.out) | exact (hs.below (below_more bel HC.out)).drew)).mono ?_
           rintro e wn ⟨rfl, hb⟩
           have HC' : Hid (Below x9.heap.size x9 wn) := Lib.hid (by first | exact below_more HC.out hb | exact below_more HC.out (below_undrew hb))
           clear HC
           have HC := HC'
           clear HC'
           try clear ff0 ff1 ff2 ff3 ff4 ff5 ff6 ff7 ff8 ff9
           have ff0 : wn.cell? ⟨y0.heap.size + 1, 0, none⟩ = some (.int .i64 t.taint.base) := (BT.out.below HC.out).cell 0 rfl
           have ff1 : wn.cell? ⟨y0.heap.size + 1, 1, none⟩ = some (.slice At_0 nt_0 ct_0) := (BT.out.below HC.out).cell 1 rfl
           have ff2 : wn.cell? ⟨y0.heap.size + 1, 2, none⟩ = some (.int .i64 t.clear.base) := (BT.out.below HC.out).cell 2 rfl
           have ff3 : wn.cell? ⟨y0.heap.size + 1, 3, none⟩ = some (.slice At_1 nt_1 ct_1) := (BT.out.below HC.out).cell 3 rfl
           have ff4 : wn.cell? ⟨y0.heap.size + 1, 4, none⟩ = some (.int .i64 t.raise.base) := (BT.out.below HC.out).cell 4 rfl
           have ff5 : wn.cell? ⟨y0.heap.size + 1, 5, none⟩ = some (.slice At_2 nt_2 ct_2) := (BT.out.below HC.out).cell 5 rfl
           have ff6 : wn.cell? ⟨y0.heap.size + 1, 6, none⟩ = some (.int .i64 t.verify.base) := (BT.out.below HC.out).cell 6 rfl
           have ff7 : wn.cell? ⟨y0.heap.size + 1, 7, none⟩ = some (.slice At_3 nt_3 ct_3) := (BT.out.below HC.out).cell 7 rfl
           have ff8 : wn.cell? ⟨y8.heap.size, 0, none⟩ = some (.int .i64 (plainL 2).base) := (BP.out.below HC.out).cell 0 rfl
           have ff9 : wn.cell? ⟨y8.heap.size, 1, none⟩ = some (.slice Ap np cp) := (BP.out.below HC.out).cell 1 rfl
           clear N1
           clear hb)
        | (go_at_call 15
           refine (spec_termsok _ t _ (by first | exact RT.out.below HC.out | exact (RT.out.below HC.out).drew)).mono ?_
           rintro e wn ⟨rfl, hb⟩
           have HC' : Hid (Below x9.heap.size x9 wn) := Lib.hid (by first | exact below_more HC.out hb | exact below_more HC.out (below_undrew hb))
           clear HC
           have HC := HC'
           clear HC'
           try clear ff0 ff1 ff2 ff3 ff4 ff5 ff6 ff7 ff8 ff9
           have ff0 : wn.cell? ⟨y0.heap.size + 1, 0, none⟩ = some (.int .i64 t.taint.base) := (BT.out.below HC.out).cell 0 rfl
           have ff1 : wn.cell? ⟨y0.heap.size + 1, 1, none⟩ = some (.slice At_0 nt_0 ct_0) := (BT.out.below HC.out).cell 1 rfl
           have ff2 : wn.cell? ⟨y0.heap.size + 1, 2, none⟩ = some (.int .i64 t.clear.base) := (BT.out.below HC.out).cell 2 rfl
           have ff3 : wn.cell? ⟨y0.heap.size + 1, 3, none⟩ = some (.slice At_1 nt_1 ct_1) := (BT.out.below HC.out).cell 3 rfl
           have ff4 : wn.cell? ⟨y0.heap.size + 1, 4, none⟩ = some (.int .i64 t.raise.base) := (BT.out.below HC.out).cell 4 rfl
           have ff5 : wn.cell? ⟨y0.heap.size + 1, 5, none⟩ = some (.slice At_2 nt_2 ct_2) := (BT.out.below HC.out).cell 5 rfl
           have ff6 : wn.cell? ⟨y0.heap.size + 1, 6, none⟩ = some (.int .i64 t.verify.base) := (BT.out.below HC.out).cell 6 rfl
           have ff7 : wn.cell? ⟨y0.heap.size + 1, 7, none⟩ = some (.slice At_3 nt_3 ct_3) := (BT.out.below HC.out).cell 7 rfl
           have ff8 : wn.cell? ⟨y8.heap.size, 0, none⟩ = some (.int .i64 (plainL 2).base) := (BP.out.below HC.out).cell 0 rfl
           have ff9 : wn.cell? ⟨y8.heap.size, 1, none⟩ = some (.slice Ap np cp) := (BP.out.below HC.out).cell 1 rfl
           skip
           clear hb)
        | (go_at_call 11
           refine (impl_allowed _ _ (plainL 2) t _ (by first | exact RP.out.below HC.out | exact (RP.out.below HC.out).drew) (by first | exact RT.out.below HC.out | exact (RT.out.below HC.out).drew) (by first | exact hs.below (below_more bel HC.out) | exact (hs.below (below_more bel HC.out)).drew)).mono ?_
           rintro e wn ⟨rfl, hb⟩
           have HC' : Hid (Below x9.heap.size x9 wn) := Lib.hid (by first | exact below_more HC.out hb | exact below_more HC.out (below_undrew hb))
           clear HC
           have HC := HC'
           clear HC'
           try clear ff0 ff1 ff2 ff3 ff4 ff5 ff6 ff7 ff8 ff9
           have ff0 : wn.cell? ⟨y0.heap.size + 1, 0, none⟩ = some (.int .i64 t.taint.base) := (BT.out.below HC.out).cell 0 rfl
           have ff1 : wn.cell? ⟨y0.heap.size + 1, 1, none⟩ = some (.slice At_0 nt_0 ct_0) := (BT.out.below HC.out).cell 1 rfl
           have ff2 : wn.cell? ⟨y0.heap.size + 1, 2, none⟩ = some (.int .i64 t.clear.base) := (BT.out.below HC.out).cell 2 rfl
           have ff3 : wn.cell? ⟨y0.heap.size + 1, 3, none⟩ = some (.slice At_1 nt_1 ct_1) := (BT.out.below HC.out).cell 3 rfl
           have ff4 : wn.cell? ⟨y0.heap.size + 1, 4, none⟩ = some (.int .i64 t.raise.base) := (BT.out.below HC.out).cell 4 rfl
           have ff5 : wn.cell? ⟨y0.heap.size + 1, 5, none⟩ = some (.slice At_2 nt_2 ct_2) := (BT.out.below HC.out).cell 5 rfl
           have ff6 : wn.cell? ⟨y0.heap.size + 1, 6, none⟩ = some (.int .i64 t.verify.base) := (BT.out.below HC.out).cell 6 rfl
           have ff7 : wn.cell? ⟨y0.heap.size + 1, 7, none⟩ = some (.slice At_3 nt_3 ct_3) := (BT.out.below HC.out).cell 7 rfl
           have ff8 : wn.cell? ⟨y8.heap.size, 0, none⟩ = some (.int .i64 (plainL 2).base) := (BP.out.below HC.out).cell 0 rfl
           have ff9 : wn.cell? ⟨y8.heap.size, 1, none⟩ = some (.slice Ap np cp) := (BP.out.below HC.out).cell 1 rfl
           skip
           clear hb)
        | (go_at_call_of 21 (Value.int IntKind.i64 4)
           refine (spec_plain 4 _).mono ?_
           rintro e wn ⟨vv, rfl, own, hb⟩
           have HC' : Hid (Below x9.heap.size x9 wn) := Lib.hid (by first | exact below_more HC.out hb | exact below_more HC.out (below_undrew hb))
           clear HC
           have HC := HC'
           clear HC'
           try clear ff0 ff1 ff2 ff3 ff4 ff5 ff6 ff7 ff8 ff9
           have ff0 : wn.cell? ⟨y0.heap.size + 1, 0, none⟩ = some (.int .i64 t.taint.base) := (BT.out.below HC.out).cell 0 rfl
           have ff1 : wn.cell? ⟨y0.heap.size + 1, 1, none⟩ = some (.slice At_0 nt_0 ct_0) := (BT.out.below HC.out).cell 1 rfl
           have ff2 : wn.cell? ⟨y0.heap.size + 1, 2, none⟩ = some (.int .i64 t.clear.base) := (BT.out.below HC.out).cell 2 rfl
           have ff3 : wn.cell? ⟨y0.heap.size + 1, 3, none⟩ = some (.slice At_1 nt_1 ct_1) := (BT.out.below HC.out).cell 3 rfl
           have ff4 : wn.cell? ⟨y0.heap.size + 1, 4, none⟩ = some (.int .i64 t.raise.base) := (BT.out.below HC.out).cell 4 rfl
           have ff5 : wn.cell? ⟨y0.heap.size + 1, 5, none⟩ = some (.slice At_2 nt_2 ct_2) := (BT.out.below HC.out).cell 5 rfl
           have ff6 : wn.cell? ⟨y0.heap.size + 1, 6, none⟩ = some (.int .i64 t.verify.base) := (BT.out.below HC.out).cell 6 rfl
           have ff7 : wn.cell? ⟨y0.heap.size + 1, 7, none⟩ = some (.slice At_3 nt_3 ct_3) := (BT.out.below HC.out).cell 7 rfl
           have ff8 : wn.cell? ⟨y8.heap.size, 0, none⟩ = some (.int .i64 (plainL 2).base) := (BP.out.below HC.out).cell 0 rfl
           have ff9 : wn.cell? ⟨y8.heap.size, 1, none⟩ = some (.slice Ap np cp) := (BP.out.below HC.out).cell 1 rfl
           have L1 := Lib.hid own.rd
           obtain ⟨AL1, nL1, cL1, rfl, -, -, -⟩ := own
           clear hb)
        | (go_at_call_of 21 (Value.int IntKind.i64 0)
           refine (spec_plain 0 _).mono ?_
           rintro e wn ⟨vv, rfl, own, hb⟩
           have HC' : Hid (Below x9.heap.size x9 wn) := Lib.hid (by first | exact below_more HC.out hb | exact below_more HC.out (below_undrew hb))
           clear HC
           have HC := HC'
           clear HC'
           try clear ff0 ff1 ff2 ff3 ff4 ff5 ff6 ff7 ff8 ff9
           have ff0 : wn.cell? ⟨y0.heap.size + 1, 0, none⟩ = some (.int .i64 t.taint.base) := (BT.out.below HC.out).cell 0 rfl
           have ff1 : wn.cell? ⟨y0.heap.size + 1, 1, none⟩ = some (.slice At_0 nt_0 ct_0) := (BT.out.below HC.out).cell 1 rfl
           have ff2 : wn.cell? ⟨y0.heap.size + 1, 2, none⟩ = some (.int .i64 t.clear.base) := (BT.out.below HC.out).cell 2 rfl
           have ff3 : wn.cell? ⟨y0.heap.size + 1, 3, none⟩ = some (.slice At_1 nt_1 ct_1) := (BT.out.below HC.out).cell 3 rfl
           have ff4 : wn.cell? ⟨y0.heap.size + 1, 4, none⟩ = some (.int .i64 t.raise.base) := (BT.out.below HC.out).cell 4 rfl
           have ff5 : wn.cell? ⟨y0.heap.size + 1, 5, none⟩ = some (.slice At_2 nt_2 ct_2) := (BT.out.below HC.out).cell 5 rfl
           have ff6 : wn.cell? ⟨y0.heap.size + 1, 6, none⟩ = some (.int .i64 t.verify.base) := (BT.out.below HC.out).cell 6 rfl
           have ff7 : wn.cell? ⟨y0.heap.size + 1, 7, none⟩ = some (.slice At_3 nt_3 ct_3) := (BT.out.below HC.out).cell 7 rfl
           have ff8 : wn.cell? ⟨y8.heap.size, 0, none⟩ = some (.int .i64 (plainL 2).base) := (BP.out.below HC.out).cell 0 rfl
           have ff9 : wn.cell? ⟨y8.heap.size, 1, none⟩ = some (.slice Ap np cp) := (BP.out.below HC.out).cell 1 rfl
           have L2 := Lib.hid own.rd
           obtain ⟨AL2, nL2, cL2, rfl, -, -, -⟩ := own
           clear hb)
        | (go_at_call_of 22 (Value.agg #[Value.int IntKind.i64 t.clear.base, Value.slice At_1 nt_1 ct_1])
           refine (like_eq hcl _ _ _ (by obtain ⟨_, _, _, _, _, _, _, _, _, _, _, _, ek, q0, q1, q2, q3⟩ := (RT.out.below HC.out); cases ek; exact q1) L1.out).mono ?_
           rintro e wn ⟨rfl, hb⟩
           have HC' : Hid (Below x9.heap.size x9 wn) := Lib.hid (by first | exact below_more HC.out hb | exact below_more HC.out (below_undrew hb))
           clear HC
           have HC := HC'
           clear HC'
           try clear ff0 ff1 ff2 ff3 ff4 ff5 ff6 ff7 ff8 ff9
           have ff0 : wn.cell? ⟨y0.heap.size + 1, 0, none⟩ = some (.int .i64 t.taint.base) := (BT.out.below HC.out).cell 0 rfl
           have ff1 : wn.cell? ⟨y0.heap.size + 1, 1, none⟩ = some (.slice At_0 nt_0 ct_0) := (BT.out.below HC.out).cell 1 rfl
           have ff2 : wn.cell? ⟨y0.heap.size + 1, 2, none⟩ = some (.int .i64 t.clear.base) := (BT.out.below HC.out).cell 2 rfl
           have ff3 : wn.cell? ⟨y0.heap.size + 1, 3, none⟩ = some (.slice At_1 nt_1 ct_1) := (BT.out.below HC.out).cell 3 rfl
           have ff4 : wn.cell? ⟨y0.heap.size + 1, 4, none⟩ = some (.int .i64 t.raise.base) := (BT.out.below HC.out).cell 4 rfl
           have ff5 : wn.cell? ⟨y0.heap.size + 1, 5, none⟩ = some (.slice At_2 nt_2 ct_2) := (BT.out.below HC.out).cell 5 rfl
           have ff6 : wn.cell? ⟨y0.heap.size + 1, 6, none⟩ = some (.int .i64 t.verify.base) := (BT.out.below HC.out).cell 6 rfl
           have ff7 : wn.cell? ⟨y0.heap.size + 1, 7, none⟩ = some (.slice At_3 nt_3 ct_3) := (BT.out.below HC.out).cell 7 rfl
           have ff8 : wn.cell? ⟨y8.heap.size, 0, none⟩ = some (.int .i64 (plainL 2).base) := (BP.out.below HC.out).cell 0 rfl
           have ff9 : wn.cell? ⟨y8.heap.size, 1, none⟩ = some (.slice Ap np cp) := (BP.out.below HC.out).cell 1 rfl
           skip
           clear hb)
        | (go_at_call_of 22 (Value.agg #[Value.int IntKind.i64 t.raise.base, Value.slice At_2 nt_2 ct_2])
           refine (like_eq hrz _ _ _ (by obtain ⟨_, _, _, _, _, _, _, _, _, _, _, _, ek, q0, q1, q2, q3⟩ := (RT.out.below HC.out); cases ek; exact q2) L2.out).mono ?_
           rintro e wn ⟨rfl, hb⟩
           have HC' : Hid (Below x9.heap.size x9 wn) := Lib.hid (by first | exact below_more HC.out hb | exact below_more HC.out (below_undrew hb))
           clear HC
           have HC := HC'
           clear HC'
           try clear ff0 ff1 ff2 ff3 ff4 ff5 ff6 ff7 ff8 ff9
           have ff0 : wn.cell? ⟨y0.heap.size + 1, 0, none⟩ = some (.int .i64 t.taint.base) := (BT.out.below HC.out).cell 0 rfl
           have ff1 : wn.cell? ⟨y0.heap.size + 1, 1, none⟩ = some (.slice At_0 nt_0 ct_0) := (BT.out.below HC.out).cell 1 rfl
           have ff2 : wn.cell? ⟨y0.heap.size + 1, 2, none⟩ = some (.int .i64 t.clear.base) := (BT.out.below HC.out).cell 2 rfl
           have ff3 : wn.cell? ⟨y0.heap.size + 1, 3, none⟩ = some (.slice At_1 nt_1 ct_1) := (BT.out.below HC.out).cell 3 rfl
           have ff4 : wn.cell? ⟨y0.heap.size + 1, 4, none⟩ = some (.int .i64 t.raise.base) := (BT.out.below HC.out).cell 4 rfl
           have ff5 : wn.cell? ⟨y0.heap.size + 1, 5, none⟩ = some (.slice At_2 nt_2 ct_2) := (BT.out.below HC.out).cell 5 rfl
           have ff6 : wn.cell? ⟨y0.heap.size + 1, 6, none⟩ = some (.int .i64 t.verify.base) := (BT.out.below HC.out).cell 6 rfl
           have ff7 : wn.cell? ⟨y0.heap.size + 1, 7, none⟩ = some (.slice At_3 nt_3 ct_3) := (BT.out.below HC.out).cell 7 rfl
           have ff8 : wn.cell? ⟨y8.heap.size, 0, none⟩ = some (.int .i64 (plainL 2).base) := (BP.out.below HC.out).cell 0 rfl
           have ff9 : wn.cell? ⟨y8.heap.size, 1, none⟩ = some (.slice Ap np cp) := (BP.out.below HC.out).cell 1 rfl
           skip
           clear hb))
      obtain ⟨y100, hwn⟩ : ∃ y100, y100 = wn := ⟨_, rfl⟩
      rw [← hwn] at HC ⊢
      have hb := HC.out
      clear HC hwn ff0 ff1 ff2 ff3 ff4 ff5 ff6 ff7 ff8 ff9
      clear BTk0 BTk1 BTk2 BTk3 BTk4 BTk5 BTk6 BTk7 BTkz BPk0 BPk1 BPkz
      have BS' := Lib.hid (BS.out.below hb)
      clear BS
      have BS := BS'
      clear BS'
      have BT' := Lib.hid (BT.out.below hb)
      clear BT
      have BT := BT'
      clear BT'
      have BE' := Lib.hid (BE.out.below hb)
      clear BE
      have BE := BE'
      clear BE'
      have BR' := Lib.hid (BR.out.below hb)
      clear BR
      have BR := BR'
      clear BR'
      have BU' := Lib.hid (BU.out.below hb)
      clear BU
      have BU := BU'
      clear BU'
      have BD' := Lib.hid (BD.out.below hb)
      clear BD
      have BD := BD'
      clear BD'
      have BP' := Lib.hid (BP.out.below hb)
      clear BP
      have BP := BP'
      clear BP'
      have RS' := Lib.hid (RS.out.below hb)
      clear RS
      have RS := RS'
      clear RS'
      have RT' := Lib.hid (RT.out.below hb)
      clear RT
      have RT := RT'
      clear RT'
      have RE' := Lib.hid (RE.out.below hb)
      clear RE
      have RE := RE'
      clear RE'
      have RR' := Lib.hid (RR.out.below hb)
      clear RR
      have RR := RR'
      clear RR'
      have RU' := Lib.hid (RU.out.below hb)
      clear RU
      have RU := RU'
      clear RU'
      have RD' := Lib.hid (RD.out.below hb)
      clear RD
      have RD := RD'
      clear RD'
      have RP' := Lib.hid (RP.out.below hb)
      clear RP
      have RP := RP'
      clear RP'
      have bel' : Below w.heap.size w y100 := below_more bel hb
      clear bel hb
      have bel := bel'
      clear bel'
      go_wp2
      go_ret
      exact ⟨rfl, bel⟩
  · go_enter Tryd.func3, Tryd.ntmps3
    go_wp2_with fail
    refine (big_yes a len cap _ (by omega)).mono ?_
    rintro e w1 ⟨rfl, rfl⟩
    go_wp2
    go_ret
    exact ⟨rfl, .refl _ _⟩

set_option maxRecDepth 100000 in
theorem lifted (os : Os) (started : os.Started) (H : Type) (enc : TypeId × Value → H) :
    ReturnsInHanded {} Tryd.checked os 3 .any (fun w args => (Rows.fnTermsSpec.pre enc Tryd.prog Tryd.f3 [] false w args ∧ laidMetH Tryd.prog Rows.fnTermsRow.laid w) ∧ sizedMet enc Tryd.prog Tryd.f3 (OpenSpec.ofChange Rows.fnTermsSpec) false w args)
      (Rows.fnTermsSpec.post enc Tryd.prog Tryd.f3 false true false false) := by
  refine returnsInHanded_of_change_and (C := Tryd.checked) (X := fun w _ => laidMetH Tryd.prog Rows.fnTermsRow.laid w) (fun _ _ _ hh h => h.of_heap hh) own started (by kernel_rfl) Tryd.func3
    (ChangeSpec.witness_shaped (enc := enc) (C := Tryd.checked) (os := os) (X := fun w _ => laidMetH Tryd.prog Rows.fnTermsRow.laid w) false (World.doorLaid Tryd.prog 4000 os) #[.slice none 0 0] 8 rfl (World.shaped_of_RefB (by kernel_rfl) (by kernel_rfl)) (by kernel_rfl) (by kernel_rfl) (by kernel_rfl) (laidMetH_of_parts3 (fuel := 8) (laidMet_of_run' 8 (by kernel_rfl) (by kernel_rfl)) (by kernel_rfl) (by kernel_rfl))) ?_
  intro W base args ds gs before hval0 hW _ _ hL _
  have hval : ∀ (j : Nat) t v, Tryd.f3.params[j]? = some t → args[j]? = some v → Value.okWide Tryd.prog W .any base t v := hval0
  have hW' := hW
  obtain ⟨p, q, hA0, hV, rfl, hfz, hnd⟩ := hW
  have hA : DataW.TrodAll enc Tryd.prog W 0 (fun _ => true) true Tryd.f3.params.toList args.toList ds p := hA0
  rw [Tryd.params3] at hA hval
  obtain ⟨v0, vs0, d0, ds0, p0, q0, hargs, rfl, rfl, h0, r0⟩ := trodAll_cons hA
  obtain ⟨rfl, rfl, rfl⟩ := trodAll_nil r0
  obtain rfl : args = #[v0] := by cases args; simp_all
  obtain ⟨a9, b9, c9, va, vb, vc, hs, hs2⟩ := sent_both hL
  have vr : ∀ {X : World}, X.var? Tryd.prog "loop.example/g00805/impl.errTooHigh" = some #[.iface 139 (.pointer (some c9))] → X.var? Tryd.prog "loop.example/g00805/impl.errNotRight" = some #[.iface 139 (.pointer (some a9))] → X.var? Tryd.prog "loop.example/g00805/impl.errNotOwned" = some #[.iface 139 (.pointer (some b9))] → ∀ sp : Nat → Bool, DataW.TrodVars enc Tryd.prog X sp ["loop.example/g00805/impl.errTooHigh", "loop.example/g00805/impl.errNotRight", "loop.example/g00805/impl.errNotOwned"] [tok enc (.iface 139 (.pointer (some c9))), tok enc (.iface 139 (.pointer (some a9))), tok enc (.iface 139 (.pointer (some b9)))] [.cell 1 0, .cell 0 0, .cell 2 0] :=
    fun yvc yva yvb sp => vars_read3 enc gn_errTooHigh gt_errTooHigh Tryd.underlying61 yvc trivial gn_errNotRight gt_errNotRight Tryd.underlying61 yva trivial gn_errNotOwned gt_errNotOwned Tryd.underlying61 yvb trivial sp
  have hV' : DataW.TrodVars enc Tryd.prog W (fun _ => true) ["loop.example/g00805/impl.errTooHigh", "loop.example/g00805/impl.errNotRight", "loop.example/g00805/impl.errNotOwned"] gs q := hV
  obtain ⟨rfl, rfl⟩ := hV'.unique (vr vc va vb _)
  have k0 := h0
  have lt0 : ∀ x ∈ p0, x.block < W.heap.size := by obtain ⟨m, hm⟩ := k0; exact DataW.trod_lt m _ _ _ hm
  obtain ⟨a0, len0, cap0, rfl, z0, w0⟩ := open_bytes (hval 0 22 v0 rfl rfl) h0
  clear hA0 hval0
  refine (walk a0 len0 cap0 z0 w0 hs hs2 (w := W)).mono fun e W' ⟨he, bel⟩ => ?_
  subst he
  exact ⟨_, rfl, _, _, _, [], _, _, hW', (trodAll_cons_mk (shut_bool Tryd.underlying4 _) trodAll_mk0), (trodAll_cons_mk (Below.trod laidOut (by kernel_rfl) (of_decide_eq_true (by kernel_rfl)) k0 bel lt0) trodAll_mk0), vr (var_below vc bel) (var_below va bel) (var_below vb bel) _, bel.frame _, fun h => by cases h⟩

theorem said : Rows.FnTermsSaid :=
  OpenClaim.holds_of_wide 3 Tryd.f3 rfl rfl rfl rfl rfl rfl rfl ⟨rfl, rfl, rfl, rfl, rfl⟩ rfl rfl rfl rfl rfl (by kernel_rfl) Tryd.func3 (by kernel_rfl)
    (of_decide_eq_true (by kernel_rfl)) (by unfold Func.isWrapper; first | (rw [if_pos (by decide +kernel)]; kernel_rfl) | (rw [if_neg (by decide +kernel)]; exact ⟨rfl, rfl⟩))
    (fun os started H enc _ => lifted os started H enc)

theorem plain (f : FuncId) (fn : Func) (hf : Tryd.pinned.checked.prog.funcNamed Rows.fnTermsRow.func = some f) (hfn : Tryd.pinned.checked.prog.funcs[f]? = some fn) :
    true = Tryd.pinned.checked.prog.looks [] ∧ ∀ (j : Nat) t, fn.params[j]? = some t → Tryd.pinned.checked.prog.wantsStandIn t = false := by
  obtain rfl : f = 3 := Option.some.inj ((show Tryd.prog.funcNamed Rows.fnTermsRow.func = some 3 by kernel_rfl).symm.trans hf) |>.symm
  obtain rfl : fn = Tryd.f3 := (Option.some.inj (Tryd.func3.symm.trans hfn)).symm
  refine ⟨by kernel_rfl, fun j t ht => ?_⟩
  rw [Tryd.params3] at ht
  have hm : t ∈ [22] := by simpa using Array.mem_of_getElem? ht
  have hall : ([22].all fun u => !Tryd.prog.wantsStandIn u) = true := by kernel_rfl
  exact (show Tryd.prog.wantsStandIn t = false by simpa using List.all_eq_true.1 hall t hm)

theorem proved : Rows.FnTermsCardSaid :=
  Claim7.holds_tied_plain_at .later [] _ _ _ _ said (fun _ h => by cases h) (by kernel_rfl) (fun _ h => by cases h) fnTerms_row_tie rfl ⟨rfl, rfl⟩ (by kernel_rfl) rfl plain (by kernel_rfl)
#print axioms proved
end Go.Proofs.YtedaknjjcdlpnaaDoor.fnTerms
