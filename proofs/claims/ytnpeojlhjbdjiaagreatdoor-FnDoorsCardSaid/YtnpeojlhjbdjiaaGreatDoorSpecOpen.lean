/-
  Texts put together: SpecOpen, DoorLaws. What each proves stands ahead of it.
-/
import Derived.Test.YtnpeojlhjbdjiaaGreatDoorDoorPure
import Derived.Test.YtnpeojlhjbdjiaaGreatDoorDat
import Derived.Test.YtnpeojlhjbdjiaaGreatDoorSpecLab
import Derived.Test.YtnpeojlhjbdjiaaGreatDoorSpecLab4
/-
  Chapter 7 of the model: OpenDoor, ShutDoor.
-/
namespace Go.Proofs.YtnpeojlhjbdjiaaGreatDoor
set_option maxRecDepth 100000
open Go.RowKit

def noDoor : Door := ⟨0, noLab, []⟩
def openD (a : Int) : Door := if makerOf a < 0 then noDoor else ⟨a, plainL 4, []⟩
def shutD (a : Int) : Door := if makerOf a < 0 then noDoor else ⟨a, (withL (plainL 4) a 1).1, []⟩
theorem openD_no {a : Int} (h : makerOf a < 0) : openD a = noDoor := if_pos h
theorem openD_yes {a : Int} (h : ¬ makerOf a < 0) : openD a = ⟨a, plainL 4, []⟩ := if_neg h
theorem shutD_no {a : Int} (h : makerOf a < 0) : shutD a = noDoor := if_pos h
theorem shutD_yes {a : Int} (h : ¬ makerOf a < 0) : shutD a = ⟨a, (withL (plainL 4) a 1).1, []⟩ := if_neg h
theorem openD_size (a : Int) : doorSz (openD a) ≤ 1048576 := by
  unfold openD
  split
  · simp [doorSz, noDoor, noLab, mssSz, mssSum]
  · simp [doorSz, plainL, lvOk, mssSz, mssSum]
theorem shutD_size (a : Int) : doorSz (shutD a) ≤ 1048576 := by
  unfold shutD
  split
  · simp [doorSz, noDoor, noLab, mssSz, mssSum]
  · simp only [doorSz, mssSz, mssSum, List.map_nil, List.sum_nil, List.length_nil]
    have : (withL (plainL 4) a 1).1.parts.length ≤ 8 := by
      unfold withL
      simp only []
      split
      · simp [noLab]
      · simp only []; omega
    omega
/-- Nothing yet. -/
theorem own_noDoor (base : Nat) (w : World) : Own base w (dtDoor noDoor) [.int .i64 0, .int .i64 0, .slice none 0 0, .slice none 0 0] :=
  ⟨[], Ows.mk_num (Ows.mk_num (Ows.mk_row (ow_none w _ _) (Ows.mk_row (ow_none w _ _) (Ows.mk_nil w)))), List.nodup_nil, fun _ h => by cases h⟩
/-- A door without messages: its label is the call's own. -/
theorem own_door {base : Nat} {w : World} {a : Int} {l : Lab} {us : List Value} (h : Own base w (dtLab l) us) : Own base w (dtDoor ⟨a, l, []⟩) (.int .i64 a :: (us ++ [.slice none 0 0])) := by
  obtain ⟨bs, h1, h2, h3⟩ := h
  refine ⟨bs, ?_, h2, h3⟩
  have h4 := (h1.append (Ows.mk_row (ow_none w 12 35) (Ows.mk_nil w))).mk_num (n := a)
  simpa [dtDoor] using h4
theorem Own.set4 {base g : Nat} {w : World} {ds : List Dt} {us : List Value} (h : Own base w ds us) (hg : g < base) (a b c d : Value) : Own base ((((w.setCell ⟨g, 0, none⟩ a).setCell ⟨g, 1, none⟩ b).setCell ⟨g, 2, none⟩ c).setCell ⟨g, 3, none⟩ d) ds us :=
  (((h.past hg).past hg).past hg).past hg
theorem specD_opendoor (a : Int) (w : World) : Calls Tryz.prog 13 #[.int .i64 a] w (RetD (dtDoor (openD a)) w) := by
  by_cases h : makerOf a < 0
  · have HR := Lib.hid (openD_no h)
    go_enter Tryz.func13, Tryz.ntmps13
    go_wp2_with (go_at_call 17; refine (spec_makerof a _).mono ?_; rintro e w' ⟨rfl, rfl⟩)
    refine bodyPost_ret (v := .agg #[.int .i64 0, .int .i64 0, .slice none 0 0, .slice none 0 0]) (by simp [results, Tryz.results13, go_sem]) rfl ?_
    rw [HR.out]
    exact ⟨_, rfl, own_noDoor _ _, by go_grown⟩
  · have HR := Lib.hid (openD_yes h)
    go_enter Tryz.func13, Tryz.ntmps13
    go_wp2_with (go_at_call 17; refine (spec_makerof a _).mono ?_; rintro e w' ⟨rfl, rfl⟩)
    generalize hW : w.alloc (.cells #[.int .i64 0, .int .i64 0, .slice none 0 0, .slice none 0 0] 29) = x0
    obtain ⟨pb, hsz, bel⟩ := laid1 (ps := [.int .i64 0, .int .i64 0, .slice none 0 0, .slice none 0 0]) hW
    have PB := Lib.hid pb
    clear hW pb
    refine (spec_plain 4 _).mono ?_
    rintro e w1 ⟨v1, rfl, own, hb⟩
    obtain ⟨us, rfl, ho⟩ := own.dt
    obtain ⟨A0, n0, c0, rfl⟩ := shp_lab ho.rd
    have HO := Lib.hid (own_door (a := a) ho)
    have PB1 := Lib.hid (PB.out.below hb)
    have bel1 := below_more bel hb
    have hlo : w.heap.size + 1 ≤ x0.heap.size := by omega
    have r0 := PB1.out.cell 0 rfl
    have r1 := PB1.out.cell 1 rfl
    have r2 := PB1.out.cell 2 rfl
    have r3 := PB1.out.cell 3 rfl
    have f0 := PB1.out.free 0
    have f1 := PB1.out.free 1
    have f2 := PB1.out.free 2
    have f3 := PB1.out.free 3
    clear hb own ho PB hsz bel
    go_wp2
    refine bodyPost_ret (v := .agg #[.int .i64 a, .int .i64 (plainL 4).base, .slice A0 n0 c0, .slice none 0 0]) (by simp [results, Tryz.results13, go_sem, r0, r1, r2, r3]) rfl ?_
    rw [HR.out]
    exact ⟨_, rfl, (HO.out.set4 (by omega) _ _ _ _).lower (by omega), (((bel1.setCell (by simp only []; omega) _).setCell (by simp only []; omega) _).setCell (by simp only []; omega) _).setCell (by simp only []; omega) _⟩
theorem specD_shutdoor (a : Int) (w : World) : Calls Tryz.prog 14 #[.int .i64 a] w (RetD (dtDoor (shutD a)) w) := by
  by_cases h : makerOf a < 0
  · have HR := Lib.hid (shutD_no h)
    go_enter Tryz.func14, Tryz.ntmps14
    go_wp2_with (go_at_call 17; refine (spec_makerof a _).mono ?_; rintro e w' ⟨rfl, rfl⟩)
    refine bodyPost_ret (v := .agg #[.int .i64 0, .int .i64 0, .slice none 0 0, .slice none 0 0]) (by simp [results, Tryz.results14, go_sem]) rfl ?_
    rw [HR.out]
    exact ⟨_, rfl, own_noDoor _ _, by go_grown⟩
  · have HR := Lib.hid (shutD_yes h)
    go_enter Tryz.func14, Tryz.ntmps14
    go_wp2_with (go_at_call 17; refine (spec_makerof a _).mono ?_; rintro e w' ⟨rfl, rfl⟩)
    generalize hW : w.alloc (.cells #[.int .i64 0, .int .i64 0, .slice none 0 0, .slice none 0 0] 29) = x0
    obtain ⟨pb, hsz, bel⟩ := laid1 (ps := [.int .i64 0, .int .i64 0, .slice none 0 0, .slice none 0 0]) hW
    have PB := Lib.hid pb
    have HZ := Lib.hid hsz
    clear hW pb hsz
    refine (spec_plain 4 _).mono ?_
    rintro e w1 ⟨v1, rfl, own, hb⟩
    have RP := Lib.hid own.rd
    have hz1 := Lib.hid hb.size
    have PB1 := Lib.hid (PB.out.below hb)
    have bel1 := below_more bel hb
    clear hb own PB bel
    go_wp2_with fail
    refine (spec_with0 v1 (plainL 4) a 1 w1 RP.out (by simp [plainL, lvOk])).mono ?_
    rintro e w2 ⟨v2, rfl, own, hb⟩
    obtain ⟨us, rfl, ho⟩ := own.dt
    obtain ⟨A0, n0, c0, rfl⟩ := shp_lab ho.rd
    have HO := Lib.hid (own_door (a := a) ho).r
    have PB2 := Lib.hid (PB1.out.below hb)
    have bel2 := Lib.hid (below_more bel1 hb)
    have hz2 := Lib.hid hb.size
    clear hb own ho bel1 PB1 RP
    have r0 := PB2.out.cell 0 rfl
    have r1 := PB2.out.cell 1 rfl
    have r2 := PB2.out.cell 2 rfl
    have r3 := PB2.out.cell 3 rfl
    have f0 := PB2.out.free 0
    have f1 := PB2.out.free 1
    have f2 := PB2.out.free 2
    have f3 := PB2.out.free 3
    have rz := PB2.out.lt
    go_wp2
    have bq := (box_putRow (w := w2) (g := w.heap.size) (pre := []) (old := [.int .i64 0, .int .i64 0, .slice none 0 0, .slice none 0 0]) (i := 0) [.int .i64 a, .int .i64 (withL (plainL 4) a 1).1.base, .slice A0 n0 c0, .slice none 0 0] PB2.out rfl rfl).alloc (.cells #[.int .i64 (withL (plainL 4) a 1).1.base, .slice A0 n0 c0] 26)
    have bz := (size_putRow (g := w.heap.size) [.int .i64 a, .int .i64 (withL (plainL 4) a 1).1.base, .slice A0 n0 c0, .slice none 0 0] (w := w2) (i := 0))
    have z0 := HZ.out
    have z1 := hz1.out
    have z2 := hz2.out
    have bx := ((HO.out.putRow (b := w.heap.size) (i := 0) [.int .i64 a, .int .i64 (withL (plainL 4) a 1).1.base, .slice A0 n0 c0, .slice none 0 0] (.inl (by omega))).below ((Below.refl _ _).alloc (Nat.le_refl _) (.cells #[.int .i64 (withL (plainL 4) a 1).1.base, .slice A0 n0 c0] 26))).own (base := w.heap.size) (by omega)
    have by' := (below_putRow (b := w.heap.size) (i := 0) [.int .i64 a, .int .i64 (withL (plainL 4) a 1).1.base, .slice A0 n0 c0, .slice none 0 0] bel2.out (Nat.le_refl _)).alloc (by rw [bz]; omega) (.cells #[.int .i64 (withL (plainL 4) a 1).1.base, .slice A0 n0 c0] 26)
    simp only [putRow, Nat.reduceAdd, Nat.zero_add, List.nil_append] at bq bx by'
    have q0 := bq.cell 0 rfl
    have q1 := bq.cell 1 rfl
    have q2 := bq.cell 2 rfl
    have q3 := bq.cell 3 rfl
    refine bodyPost_ret (v := .agg #[.int .i64 a, .int .i64 (withL (plainL 4) a 1).1.base, .slice A0 n0 c0, .slice none 0 0]) (by simp [results, Tryz.results14, go_sem, q0, q1, q2, q3]) rfl ?_
    rw [HR.out]
    exact ⟨_, rfl, bx, by'⟩
end Go.Proofs.YtnpeojlhjbdjiaaGreatDoor

/-
  What the law of chapter 7 asks, as plain data. No program, no memory.
-/
namespace Go.Proofs.YtnpeojlhjbdjiaaGreatDoor
set_option maxRecDepth 100000

theorem maker_range {h : Int} (hm : ¬ makerOf h < 0) : 0 ≤ h ∧ h ≤ 999 := by unfold makerOf at hm; split at hm <;> omega
theorem openD_is {h : Int} (hm : ¬ makerOf h < 0) : openD h = ⟨h, ⟨4, []⟩, []⟩ := by simp [openD, hm, plainL, lvOk]
theorem shutD_is {h : Int} (hm : ¬ makerOf h < 0) : shutD h = ⟨h, ⟨4, [(h, 1)]⟩, []⟩ := by simp [shutD, hm, plainL, lvOk, withL, withGo]
theorem owner_yes {h : Int} (hm : ¬ makerOf h < 0) : (withLabel (plainL 2) h 0).1 = ⟨2, [(h, 0)]⟩ := by
  obtain ⟨h0, h1⟩ := maker_range hm
  simp [withLabel, plainL, lvOk, withL, withGo, hOk_yes h0 h1, labOk, partsOk]
theorem open_ok {h : Int} (hm : ¬ makerOf h < 0) : doorOk (openD h) = true := by
  have h2 : 0 ≤ makerOf h := by omega
  simp [openD_is hm, doorOk, h2, labOk, lvOk, partsOk]
theorem shut_ok {h : Int} (hm : ¬ makerOf h < 0) : doorOk (shutD h) = true := by
  obtain ⟨h0, h1⟩ := maker_range hm
  have h2 : 0 ≤ makerOf h := by omega
  simp [shutD_is hm, doorOk, h2, labOk, lvOk, partsOk, hOk_yes h0 h1]
  omega
theorem acc_open {h : Int} (hm : ¬ makerOf h < 0) : accepts (plainL 2) (plainL 3) noTm (openD h).label = true := by rw [openD_is hm]; rfl
theorem one_ok {h b v : Int} (h0 : 0 ≤ h) (h1 : h ≤ 999) (hb : lvOk b = true) (hv : lvOk v = true) (hn : v ≠ b) : labOk ⟨b, [(h, v)]⟩ = true := by
  have : (-1 : Int) < h := by omega
  simp [labOk, partsOk, hOk_yes h0 h1, hb, hv, hn, this]
theorem lev_one (b h v x : Int) : lev ⟨b, [(h, v)]⟩ x = if h = x then v else b := by simp [lev, levIn]
theorem lev_nil (b x : Int) : lev ⟨b, []⟩ x = b := by simp [lev, levIn]
theorem acc_shut {h : Int} (hm : ¬ makerOf h < 0) : accepts (plainL 2) (plainL 3) noTm (shutD h).label = false := by
  obtain ⟨h0, h1⟩ := maker_range hm
  have ok := one_ok (b := 4) (v := 1) h0 h1 rfl rfl (by omega)
  cases hc : accepts (plainL 2) (plainL 3) noTm (shutD h).label
  · rfl
  · rw [shutD_is hm] at hc
    have q := (accepts_iff (by rfl) (by rfl) (by rfl) ok).1 hc h
    simp [inL, inB, lev_one, lev_nil, plainL, lvOk, noTm] at q
theorem acc_owner {h : Int} (hm : ¬ makerOf h < 0) : accepts (withLabel (plainL 2) h 0).1 (plainL 3) noTm (shutD h).label = true := by
  obtain ⟨h0, h1⟩ := maker_range hm
  rw [shutD_is hm, owner_yes hm]
  refine (accepts_iff (one_ok h0 h1 rfl rfl (by omega)) (by rfl) (by rfl) (one_ok h0 h1 rfl rfl (by omega))).2 fun x => ?_
  by_cases e : h = x <;> simp [inL, inB, lev_one, lev_nil, plainL, lvOk, noTm, e] <;> omega
end Go.Proofs.YtnpeojlhjbdjiaaGreatDoor
