/-
  The draw of a send label (chapter 5 of the model): some label of the call's own; the cursor stays one; nothing else is written.
-/
import Derived.Test.YtnpeojlhjbdjiaaGreatDoorDrL
import Derived.Test.YtnpeojlhjbdjiaaGreatDoorDrawLab
import Derived.Test.YtnpeojlhjbdjiaaGreatDoorSpecLab
import Derived.Test.YtnpeojlhjbdjiaaGreatDoorMem
namespace Go.Proofs.YtnpeojlhjbdjiaaGreatDoor
set_option maxRecDepth 100000
open Go.RowKit

set_option maxHeartbeats 8000000 in
theorem draw_send (p : Nat) (a : Option Addr) (len cap : Nat) (zs : List Int) (w : World) (hl : len ≤ 4096) (hc : IsCur p a len cap w) (hr : CurRow w p a len cap zs) :
    Calls Tryz.prog 77 #[.pointer (some ⟨p, 0, none⟩)] w (DrawnLab 8 p a len cap w) := by
  have hp := hc.lt
  go_enter Tryz.func77, Tryz.ntmps77
  go_wp2_with fail
  generalize hW : w.alloc (.cells #[.int .i64 0, .slice none 0 0] 26) = x0
  obtain ⟨rb, hsz, bel⟩ := laid1 (ps := [.int .i64 0, .slice none 0 0]) hW
  clear hW
  refine (spec_plain 2 _).mono ?_
  rintro e w1 ⟨v1, rfl, own, hb⟩
  have hf : (plainL 2).parts.length ≤ 8 := by simp [plainL, lvOk]
  generalize plainL 2 = l at own hf
  obtain ⟨A, n, c, rfl, -, -, -⟩ := id own
  go_wp2_with fail
  generalize hW : w1.alloc (.cells #[.int .i64 l.base, .slice A n c] 26) = w2
  obtain ⟨gb, hsz2, bel2⟩ := laid1 (ps := [.int .i64 l.base, .slice A n c]) hW
  have HD : Hid (DrL 8 p a len cap w1.heap.size w w2 l A n c) := Lib.hid (by
    have b1 := below_more bel hb
    have b2 := below_more b1 bel2
    have hs := hb.size
    exact ⟨⟨hc.block (b2.block p hp), gb_of_below b2 _, by omega, (rb.below hb).below bel2, gb⟩, (own.off (by omega) (.inr (Nat.le_refl _))).below bel2, hf⟩)
  clear hW gb hsz2 bel2 own hf hb rb bel hsz
  obtain ⟨g, hg⟩ : ∃ g, g = w1.heap.size := ⟨_, rfl⟩
  rw [← hg] at HD ⊢
  clear hg
  refine (below_any p a len cap zs _ _ hl (by omega) (by omega) HD.out.cur (hr.kept HD.out.grown)).mono ?_
  rintro e w3 ⟨y, hy0, hy1, rfl, hcq, hgq⟩
  have HE := Lib.hid (HD.out.gbr hp hcq hgq)
  clear HD hcq hgq
  obtain ⟨y', rfl⟩ := Int.eq_ofNat_of_zero_le hy0
  go_wp2
  go_loopw [4] (fun i wr => ∃ (j : Nat) (l : Lab) (A : Option Addr) (n c : Nat), j ≤ 4 ∧ i = .int .i64 j ∧ Hid (DrL 8 p a len cap g w wr l A n c)) (fun i _ => (intOf i).toNat)
  case atStart => exact ⟨y', l, A, n, c, by omega, rfl, HE⟩
  case round =>
    clear HE
    obtain ⟨j, l, A, n, c, hj, rfl, HD⟩ := hrel
    by_cases hj0 : 0 < (j : Int)
    · go_wp2
      refine wp_region_late 11 (fun w' => w'.cell? ⟨g, 0, none⟩ = some (.int .i64 l.base) ∧ w'.cell? ⟨g, 1, none⟩ = some (.slice A n c)) (by kernel_rfl) ?_
      obtain ⟨wx, hwx⟩ : ∃ wx, wx = wr.drew := ⟨_, rfl⟩
      have HD' := Lib.hid (HD.out.drew hp)
      rw [← hwx] at HD' ⊢
      clear HD hwx
      have HD := HD'
      clear HD'
      refine WpLate.take (i := 0) (v := .agg #[.int .i64 l.base, .slice A n c]) rfl (by kernel_rfl) (by kernel_rfl) (by kernel_rfl) (by kernel_rfl) (by kernel_rfl) (fun _ _ _ h => h) (Or.inl ⟨by rfl, fun w' hw => ?_⟩) ⟨HD.out.1.gb.cell 0 rfl, HD.out.1.gb.cell 1 rfl⟩ ?_
      · obtain ⟨hw1, hw2⟩ := hw; go_simp
      try simp only [Act.put]
      try simp only [List.setIfInBounds_toArray]
      try simp only [List.set_cons_succ, List.set_cons_zero]
      refine WpLate.take (i := 2) (v := .pointer (some ⟨p, 0, none⟩)) rfl (by kernel_rfl) (by kernel_rfl) (by kernel_rfl) (by kernel_rfl) (by kernel_rfl) (fun _ _ _ h => h) (Or.inl ⟨by rfl, fun w' hw => ?_⟩) ⟨HD.out.1.gb.cell 0 rfl, HD.out.1.gb.cell 1 rfl⟩ ?_
      · go_simp
      try simp only [Act.put]
      try simp only [List.setIfInBounds_toArray]
      try simp only [List.set_cons_succ, List.set_cons_zero]
      refine WpLate.take (i := 7) (v := .pointer (some ⟨p, 0, none⟩)) rfl (by kernel_rfl) (by kernel_rfl) (by kernel_rfl) (by kernel_rfl) (by kernel_rfl) (fun _ _ _ h => h) (Or.inl ⟨by rfl, fun w' hw => ?_⟩) ⟨HD.out.1.gb.cell 0 rfl, HD.out.1.gb.cell 1 rfl⟩ ?_
      · go_simp
      try simp only [Act.put]
      try simp only [List.setIfInBounds_toArray]
      try simp only [List.set_cons_succ, List.set_cons_zero]
      refine WpLate.each (rs := [1, 3, 6]) (by kernel_rfl) (by simp) (LateEach.cons rfl (fun K hK => ?_) (LateEach.cons rfl (fun K hK => ?_) (LateEach.cons rfl (fun K hK => ?_) LateEach.nil)))
      · skip
        go_simp
        have HM21 := Lib.hid (HD.out.alloc hp (.cells #[.int .i64 0, .int .i64 1, .int .i64 100, .int .i64 101, .int .i64 301] 2))
        have gz21 := HD.out.1.gb.lt
        have pz21 := HD.out.1.cur.lt
        have HN21_0 : Hid (Has (wx.alloc (.cells #[.int .i64 0, .int .i64 1, .int .i64 100, .int .i64 101, .int .i64 301] 2)) wx.heap.size [.int .i64 0, .int .i64 1, .int .i64 100, .int .i64 101, .int .i64 301]) := Lib.hid Has.one
        obtain ⟨w21, hw21⟩ : ∃ x, x = wx.alloc (.cells #[.int .i64 0, .int .i64 1, .int .i64 100, .int .i64 101, .int .i64 301] 2) := ⟨_, rfl⟩
        rw [← hw21] at HM21 HN21_0 ⊢
        clear hw21
        have HD21 := HM21
        clear HM21
        refine hK.out _ _ (fun _ => ⟨HD21.out.1.gb.cell 0 rfl, HD21.out.1.gb.cell 1 rfl⟩) ?_
        try simp only [Act.put]
        try simp only [List.setIfInBounds_toArray]
        try simp only [List.set_cons_succ, List.set_cons_zero]
        refine WpLate.each (rs := [3, 6]) (by kernel_rfl) (by simp) (LateEach.cons rfl (fun K hK => ?_) (LateEach.cons rfl (fun K hK => ?_) LateEach.nil))
        · skip
          go_simp
          refine (below_any p a len cap zs _ _ hl (by omega) (by omega) HD21.out.cur (hr.kept HD21.out.grown)).mono ?_
          rintro e w22 ⟨z0, hz00, hz01, rfl, hc22, hg22⟩
          have HD22 := Lib.hid (HD21.out.gbr hp hc22 hg22)
          have HN22_0 := Lib.hid (HN21_0.out.gbr hg22 (by have := HD21.out.1.cur.lt; omega))
          obtain ⟨zk0, rfl⟩ := Int.eq_ofNat_of_zero_le hz00
          obtain ⟨tv0, hb0⟩ : ∃ tv : Int, ([Value.int .i64 0, .int .i64 1, .int .i64 100, .int .i64 101, .int .i64 301] : List Value)[zk0]? = some (.int .i64 tv) := pick5 (by omega)
          have ha0 := Lib.hid hb0
          clear hb0
          clear hg22 hc22
          try dsimp only
          refine hK.out _ _ (fun _ => ⟨HD22.out.1.gb.cell 0 rfl, HD22.out.1.gb.cell 1 rfl⟩) ?_
          try simp only [Act.put]
          try simp only [List.setIfInBounds_toArray]
          try simp only [List.set_cons_succ, List.set_cons_zero]
          refine WpLate.take (i := 4) (v := .pointer (some ⟨wx.heap.size, zk0, none⟩)) rfl (by kernel_rfl) (by kernel_rfl) (by kernel_rfl) (by kernel_rfl) (by kernel_rfl) (fun _ _ _ h => h) (Or.inl ⟨by rfl, fun w' hw => ?_⟩) ⟨HD22.out.1.gb.cell 0 rfl, HD22.out.1.gb.cell 1 rfl⟩ ?_
          · go_simp
          try simp only [Act.put]
          try simp only [List.setIfInBounds_toArray]
          try simp only [List.set_cons_succ, List.set_cons_zero]
          refine WpLate.mono (S' := fun w' => w'.cell? ⟨g, 0, none⟩ = some (.int .i64 l.base) ∧ w'.cell? ⟨g, 1, none⟩ = some (.slice A n c) ∧ w'.cell? ⟨wx.heap.size, zk0, none⟩ = some (.int .i64 tv0)) (fun _ h => ⟨h.1, h.2.1⟩) ?_
          refine WpLate.take (i := 5) (v := .int .i64 tv0) rfl (by kernel_rfl) (by kernel_rfl) (by kernel_rfl) (by kernel_rfl) (by kernel_rfl) (fun _ _ _ h => h) (Or.inl ⟨by rfl, fun w' hw => ?_⟩) ⟨HD22.out.1.gb.cell 0 rfl, HD22.out.1.gb.cell 1 rfl, HN22_0.out zk0 _ ha0.out⟩ ?_
          · obtain ⟨hw0, hw1, hw2⟩ := hw; go_simp
          try simp only [Act.put]
          try simp only [List.setIfInBounds_toArray]
          try simp only [List.set_cons_succ, List.set_cons_zero]
          refine WpLate.each (rs := [6, 8]) (by kernel_rfl) (by simp) (LateEach.cons rfl (fun K hK => ?_) (LateEach.cons rfl (fun K hK => ?_) LateEach.nil))
          · skip
            go_simp
            have HM23 := Lib.hid (HD22.out.alloc hp (.cells #[.int .i64 0, .int .i64 0, .int .i64 1, .int .i64 3, .int .i64 4] 2))
            have gz23 := HD22.out.1.gb.lt
            have pz23 := HD22.out.1.cur.lt
            have HN23_0 := Lib.hid (HN22_0.out.alloc (.cells #[.int .i64 0, .int .i64 0, .int .i64 1, .int .i64 3, .int .i64 4] 2))
            have HN23_1 : Hid (Has (w22.alloc (.cells #[.int .i64 0, .int .i64 0, .int .i64 1, .int .i64 3, .int .i64 4] 2)) w22.heap.size [.int .i64 0, .int .i64 0, .int .i64 1, .int .i64 3, .int .i64 4]) := Lib.hid Has.one
            obtain ⟨w23, hw23⟩ : ∃ x, x = w22.alloc (.cells #[.int .i64 0, .int .i64 0, .int .i64 1, .int .i64 3, .int .i64 4] 2) := ⟨_, rfl⟩
            rw [← hw23] at HM23 HN23_0 HN23_1 ⊢
            clear hw23
            have HD23 := HM23
            clear HM23
            refine hK.out _ _ (fun _ => ⟨HD23.out.1.gb.cell 0 rfl, HD23.out.1.gb.cell 1 rfl, HN23_0.out zk0 _ ha0.out⟩) ?_
            try simp only [Act.put]
            try simp only [List.setIfInBounds_toArray]
            try simp only [List.set_cons_succ, List.set_cons_zero]
            refine WpLate.each (rs := [8]) (by kernel_rfl) (by simp) (LateEach.cons rfl (fun K hK => ?_) LateEach.nil)
            go_simp
            refine (below_any p a len cap zs _ _ hl (by omega) (by omega) HD23.out.cur (hr.kept HD23.out.grown)).mono ?_
            rintro e w24 ⟨z1, hz10, hz11, rfl, hc24, hg24⟩
            have HD24 := Lib.hid (HD23.out.gbr hp hc24 hg24)
            have HN24_0 := Lib.hid (HN23_0.out.gbr hg24 (by have := HD23.out.1.cur.lt; omega))
            have HN24_1 := Lib.hid (HN23_1.out.gbr hg24 (by have := HD23.out.1.cur.lt; omega))
            obtain ⟨zk1, rfl⟩ := Int.eq_ofNat_of_zero_le hz10
            obtain ⟨tv1, hb1⟩ : ∃ tv : Int, ([Value.int .i64 0, .int .i64 0, .int .i64 1, .int .i64 3, .int .i64 4] : List Value)[zk1]? = some (.int .i64 tv) := pick5 (by omega)
            have ha1 := Lib.hid hb1
            clear hb1
            clear hg24 hc24
            try dsimp only
            refine hK.out _ _ (fun _ => ⟨HD24.out.1.gb.cell 0 rfl, HD24.out.1.gb.cell 1 rfl, HN24_0.out zk0 _ ha0.out⟩) ?_
            try simp only [Act.put]
            try simp only [List.setIfInBounds_toArray]
            try simp only [List.set_cons_succ, List.set_cons_zero]
            refine WpLate.take (i := 9) (v := .pointer (some ⟨w22.heap.size, zk1, none⟩)) rfl (by kernel_rfl) (by kernel_rfl) (by kernel_rfl) (by kernel_rfl) (by kernel_rfl) (fun _ _ _ h => h) (Or.inl ⟨by rfl, fun w' hw => ?_⟩) ⟨HD24.out.1.gb.cell 0 rfl, HD24.out.1.gb.cell 1 rfl, HN24_0.out zk0 _ ha0.out⟩ ?_
            · go_simp
            try simp only [Act.put]
            try simp only [List.setIfInBounds_toArray]
            try simp only [List.set_cons_succ, List.set_cons_zero]
            refine WpLate.mono (S' := fun w' => w'.cell? ⟨g, 0, none⟩ = some (.int .i64 l.base) ∧ w'.cell? ⟨g, 1, none⟩ = some (.slice A n c) ∧ w'.cell? ⟨wx.heap.size, zk0, none⟩ = some (.int .i64 tv0) ∧ w'.cell? ⟨w22.heap.size, zk1, none⟩ = some (.int .i64 tv1)) (fun _ h => ⟨h.1, h.2.1, h.2.2.1⟩) ?_
            refine WpLate.take (i := 10) (v := .int .i64 tv1) rfl (by kernel_rfl) (by kernel_rfl) (by kernel_rfl) (by kernel_rfl) (by kernel_rfl) (fun _ _ _ h => h) (Or.inl ⟨by rfl, fun w' hw => ?_⟩) ⟨HD24.out.1.gb.cell 0 rfl, HD24.out.1.gb.cell 1 rfl, HN24_0.out zk0 _ ha0.out, HN24_1.out zk1 _ ha1.out⟩ ?_
            · obtain ⟨hw0, hw1, hw2, hw3⟩ := hw; go_simp
            try simp only [Act.put]
            try simp only [List.setIfInBounds_toArray]
            try simp only [List.set_cons_succ, List.set_cons_zero]
            refine WpLate.each (rs := [11]) (by kernel_rfl) (by simp) (LateEach.cons rfl (fun K hK => ?_) LateEach.nil)
            go_simp
            refine (spec_with0 _ l _ _ _ HD24.out.rd HD24.out.2.2).mono ?_
            rintro e w25 ⟨v5, rfl, own5, hb5⟩
            have HG := Lib.hid (HD24.out.below hp hb5)
            have OL : Hid (OffLab (w.heap.size + 1) g w25 v5 (withL l tv0 tv1).1) := Lib.hid (own5.off (by have := HD24.out.1.hg; have := HD24.out.1.gb.lt; omega) (.inl HD24.out.1.gb.lt))
            obtain ⟨A5, n5, c5, rfl, -, -, -⟩ := own5
            have gk0 := HG.out.1.gb.cell 0 rfl
            have gk1 := HG.out.1.gb.cell 1 rfl
            have gf0 := HG.out.1.gb.free 0
            have gf1 := HG.out.1.gb.free 1
            have HH := Lib.hid (HG.out.put hp OL.out (withL_le _ _ _))
            clear HG OL hb5
            try dsimp only
            refine hK.out _ _ (fun h => absurd h (by omega)) ?_
            try simp only [Act.put]
            try simp only [List.setIfInBounds_toArray]
            try simp only [List.set_cons_succ, List.set_cons_zero]
            refine WpLate.takeLate (i := 12) (v := .tuple #[.agg #[.int .i64 (withL l tv0 tv1).1.base, .slice A5 n5 c5], .bool (withL l tv0 tv1).2]) rfl (by kernel_rfl) (by kernel_rfl) (by kernel_rfl) (by kernel_rfl) (by kernel_rfl) (fun _ _ _ h => h) (Or.inl ⟨by rfl, fun w' hw => ?_⟩) ?_
            · go_simp
            try simp only [Act.put]
            try simp only [List.setIfInBounds_toArray]
            try simp only [List.set_cons_succ, List.set_cons_zero]
            refine WpLate.takeLate (i := 13) (v := .agg #[.int .i64 (withL l tv0 tv1).1.base, .slice A5 n5 c5]) rfl (by kernel_rfl) (by kernel_rfl) (by kernel_rfl) (by kernel_rfl) (by kernel_rfl) (fun _ _ _ h => h) (Or.inl ⟨by rfl, fun w' hw => ?_⟩) ?_
            · go_simp
            try simp only [Act.put]
            try simp only [List.setIfInBounds_toArray]
            try simp only [List.set_cons_succ, List.set_cons_zero]
            refine WpLate.takeLate (i := 14) (v := .bool (withL l tv0 tv1).2) rfl (by kernel_rfl) (by kernel_rfl) (by kernel_rfl) (by kernel_rfl) (by kernel_rfl) (fun _ _ _ h => h) (Or.inl ⟨by rfl, fun w' hw => ?_⟩) ?_
            · go_simp
            try simp only [Act.put]
            try simp only [List.setIfInBounds_toArray]
            try simp only [List.set_cons_succ, List.set_cons_zero]
            refine WpLate.each (rs := [15]) (by kernel_rfl) (by simp) (LateEach.cons rfl (fun K hK => ?_) LateEach.nil)
            go_simp
            refine hK.out _ _ (fun h => absurd h (by omega)) ?_
            try simp only [Act.put]
            try simp only [List.setIfInBounds_toArray]
            try simp only [List.set_cons_succ, List.set_cons_zero]
            refine WpLate.done (by kernel_rfl) ?_ _
            go_wp2
            go_roundw
            case rel => exact ⟨j - 1, _, A5, n5, c5, by omega, by simp; omega, HH⟩
            case measure => simp [intOf]; omega
          · skip
            go_simp
            refine (below_any p a len cap zs _ _ hl (by omega) (by omega) HD22.out.cur (hr.kept HD22.out.grown)).mono ?_
            rintro e w23 ⟨z1, hz10, hz11, rfl, hc23, hg23⟩
            have HD23 := Lib.hid (HD22.out.gbr hp hc23 hg23)
            have HN23_0 := Lib.hid (HN22_0.out.gbr hg23 (by have := HD22.out.1.cur.lt; omega))
            obtain ⟨zk1, rfl⟩ := Int.eq_ofNat_of_zero_le hz10
            obtain ⟨tv1, hb1⟩ : ∃ tv : Int, ([Value.int .i64 0, .int .i64 0, .int .i64 1, .int .i64 3, .int .i64 4] : List Value)[zk1]? = some (.int .i64 tv) := pick5 (by omega)
            have ha1 := Lib.hid hb1
            clear hb1
            clear hg23 hc23
            try dsimp only
            refine hK.out _ _ (fun _ => ⟨HD23.out.1.gb.cell 0 rfl, HD23.out.1.gb.cell 1 rfl, HN23_0.out zk0 _ ha0.out⟩) ?_
            try simp only [Act.put]
            try simp only [List.setIfInBounds_toArray]
            try simp only [List.set_cons_succ, List.set_cons_zero]
            refine WpLate.each (rs := [6]) (by kernel_rfl) (by simp) (LateEach.cons rfl (fun K hK => ?_) LateEach.nil)
            go_simp
            have HM24 := Lib.hid (HD23.out.alloc hp (.cells #[.int .i64 0, .int .i64 0, .int .i64 1, .int .i64 3, .int .i64 4] 2))
            have gz24 := HD23.out.1.gb.lt
            have pz24 := HD23.out.1.cur.lt
            have HN24_0 := Lib.hid (HN23_0.out.alloc (.cells #[.int .i64 0, .int .i64 0, .int .i64 1, .int .i64 3, .int .i64 4] 2))
            have HN24_1 : Hid (Has (w23.alloc (.cells #[.int .i64 0, .int .i64 0, .int .i64 1, .int .i64 3, .int .i64 4] 2)) w23.heap.size [.int .i64 0, .int .i64 0, .int .i64 1, .int .i64 3, .int .i64 4]) := Lib.hid Has.one
            obtain ⟨w24, hw24⟩ : ∃ x, x = w23.alloc (.cells #[.int .i64 0, .int .i64 0, .int .i64 1, .int .i64 3, .int .i64 4] 2) := ⟨_, rfl⟩
            rw [← hw24] at HM24 HN24_0 HN24_1 ⊢
            clear hw24
            have HD24 := HM24
            clear HM24
            refine hK.out _ _ (fun _ => ⟨HD24.out.1.gb.cell 0 rfl, HD24.out.1.gb.cell 1 rfl, HN24_0.out zk0 _ ha0.out⟩) ?_
            try simp only [Act.put]
            try simp only [List.setIfInBounds_toArray]
            try simp only [List.set_cons_succ, List.set_cons_zero]
            refine WpLate.take (i := 9) (v := .pointer (some ⟨w23.heap.size, zk1, none⟩)) rfl (by kernel_rfl) (by kernel_rfl) (by kernel_rfl) (by kernel_rfl) (by kernel_rfl) (fun _ _ _ h => h) (Or.inl ⟨by rfl, fun w' hw => ?_⟩) ⟨HD24.out.1.gb.cell 0 rfl, HD24.out.1.gb.cell 1 rfl, HN24_0.out zk0 _ ha0.out⟩ ?_
            · go_simp
            try simp only [Act.put]
            try simp only [List.setIfInBounds_toArray]
            try simp only [List.set_cons_succ, List.set_cons_zero]
            refine WpLate.mono (S' := fun w' => w'.cell? ⟨g, 0, none⟩ = some (.int .i64 l.base) ∧ w'.cell? ⟨g, 1, none⟩ = some (.slice A n c) ∧ w'.cell? ⟨wx.heap.size, zk0, none⟩ = some (.int .i64 tv0) ∧ w'.cell? ⟨w23.heap.size, zk1, none⟩ = some (.int .i64 tv1)) (fun _ h => ⟨h.1, h.2.1, h.2.2.1⟩) ?_
            refine WpLate.take (i := 10) (v := .int .i64 tv1) rfl (by kernel_rfl) (by kernel_rfl) (by kernel_rfl) (by kernel_rfl) (by kernel_rfl) (fun _ _ _ h => h) (Or.inl ⟨by rfl, fun w' hw => ?_⟩) ⟨HD24.out.1.gb.cell 0 rfl, HD24.out.1.gb.cell 1 rfl, HN24_0.out zk0 _ ha0.out, HN24_1.out zk1 _ ha1.out⟩ ?_
            · obtain ⟨hw0, hw1, hw2, hw3⟩ := hw; go_simp
            try simp only [Act.put]
            try simp only [List.setIfInBounds_toArray]
            try simp only [List.set_cons_succ, List.set_cons_zero]
            refine WpLate.each (rs := [11]) (by kernel_rfl) (by simp) (LateEach.cons rfl (fun K hK => ?_) LateEach.nil)
            go_simp
            refine (spec_with0 _ l _ _ _ HD24.out.rd HD24.out.2.2).mono ?_
            rintro e w25 ⟨v5, rfl, own5, hb5⟩
            have HG := Lib.hid (HD24.out.below hp hb5)
            have OL : Hid (OffLab (w.heap.size + 1) g w25 v5 (withL l tv0 tv1).1) := Lib.hid (own5.off (by have := HD24.out.1.hg; have := HD24.out.1.gb.lt; omega) (.inl HD24.out.1.gb.lt))
            obtain ⟨A5, n5, c5, rfl, -, -, -⟩ := own5
            have gk0 := HG.out.1.gb.cell 0 rfl
            have gk1 := HG.out.1.gb.cell 1 rfl
            have gf0 := HG.out.1.gb.free 0
            have gf1 := HG.out.1.gb.free 1
            have HH := Lib.hid (HG.out.put hp OL.out (withL_le _ _ _))
            clear HG OL hb5
            try dsimp only
            refine hK.out _ _ (fun h => absurd h (by omega)) ?_
            try simp only [Act.put]
            try simp only [List.setIfInBounds_toArray]
            try simp only [List.set_cons_succ, List.set_cons_zero]
            refine WpLate.takeLate (i := 12) (v := .tuple #[.agg #[.int .i64 (withL l tv0 tv1).1.base, .slice A5 n5 c5], .bool (withL l tv0 tv1).2]) rfl (by kernel_rfl) (by kernel_rfl) (by kernel_rfl) (by kernel_rfl) (by kernel_rfl) (fun _ _ _ h => h) (Or.inl ⟨by rfl, fun w' hw => ?_⟩) ?_
            · go_simp
            try simp only [Act.put]
            try simp only [List.setIfInBounds_toArray]
            try simp only [List.set_cons_succ, List.set_cons_zero]
            refine WpLate.takeLate (i := 13) (v := .agg #[.int .i64 (withL l tv0 tv1).1.base, .slice A5 n5 c5]) rfl (by kernel_rfl) (by kernel_rfl) (by kernel_rfl) (by kernel_rfl) (by kernel_rfl) (fun _ _ _ h => h) (Or.inl ⟨by rfl, fun w' hw => ?_⟩) ?_
            · go_simp
            try simp only [Act.put]
            try simp only [List.setIfInBounds_toArray]
            try simp only [List.set_cons_succ, List.set_cons_zero]
            refine WpLate.takeLate (i := 14) (v := .bool (withL l tv0 tv1).2) rfl (by kernel_rfl) (by kernel_rfl) (by kernel_rfl) (by kernel_rfl) (by kernel_rfl) (fun _ _ _ h => h) (Or.inl ⟨by rfl, fun w' hw => ?_⟩) ?_
            · go_simp
            try simp only [Act.put]
            try simp only [List.setIfInBounds_toArray]
            try simp only [List.set_cons_succ, List.set_cons_zero]
            refine WpLate.each (rs := [15]) (by kernel_rfl) (by simp) (LateEach.cons rfl (fun K hK => ?_) LateEach.nil)
            go_simp
            refine hK.out _ _ (fun h => absurd h (by omega)) ?_
            try simp only [Act.put]
            try simp only [List.setIfInBounds_toArray]
            try simp only [List.set_cons_succ, List.set_cons_zero]
            refine WpLate.done (by kernel_rfl) ?_ _
            go_wp2
            go_roundw
            case rel => exact ⟨j - 1, _, A5, n5, c5, by omega, by simp; omega, HH⟩
            case measure => simp [intOf]; omega
        · skip
          go_simp
          have HM22 := Lib.hid (HD21.out.alloc hp (.cells #[.int .i64 0, .int .i64 0, .int .i64 1, .int .i64 3, .int .i64 4] 2))
          have gz22 := HD21.out.1.gb.lt
          have pz22 := HD21.out.1.cur.lt
          have HN22_0 := Lib.hid (HN21_0.out.alloc (.cells #[.int .i64 0, .int .i64 0, .int .i64 1, .int .i64 3, .int .i64 4] 2))
          have HN22_1 : Hid (Has (w21.alloc (.cells #[.int .i64 0, .int .i64 0, .int .i64 1, .int .i64 3, .int .i64 4] 2)) w21.heap.size [.int .i64 0, .int .i64 0, .int .i64 1, .int .i64 3, .int .i64 4]) := Lib.hid Has.one
          obtain ⟨w22, hw22⟩ : ∃ x, x = w21.alloc (.cells #[.int .i64 0, .int .i64 0, .int .i64 1, .int .i64 3, .int .i64 4] 2) := ⟨_, rfl⟩
          rw [← hw22] at HM22 HN22_0 HN22_1 ⊢
          clear hw22
          have HD22 := HM22
          clear HM22
          refine hK.out _ _ (fun _ => ⟨HD22.out.1.gb.cell 0 rfl, HD22.out.1.gb.cell 1 rfl⟩) ?_
          try simp only [Act.put]
          try simp only [List.setIfInBounds_toArray]
          try simp only [List.set_cons_succ, List.set_cons_zero]
          refine WpLate.each (rs := [3]) (by kernel_rfl) (by simp) (LateEach.cons rfl (fun K hK => ?_) LateEach.nil)
          go_simp
          refine (below_any p a len cap zs _ _ hl (by omega) (by omega) HD22.out.cur (hr.kept HD22.out.grown)).mono ?_
          rintro e w23 ⟨z0, hz00, hz01, rfl, hc23, hg23⟩
          have HD23 := Lib.hid (HD22.out.gbr hp hc23 hg23)
          have HN23_0 := Lib.hid (HN22_0.out.gbr hg23 (by have := HD22.out.1.cur.lt; omega))
          have HN23_1 := Lib.hid (HN22_1.out.gbr hg23 (by have := HD22.out.1.cur.lt; omega))
          obtain ⟨zk0, rfl⟩ := Int.eq_ofNat_of_zero_le hz00
          obtain ⟨tv0, hb0⟩ : ∃ tv : Int, ([Value.int .i64 0, .int .i64 1, .int .i64 100, .int .i64 101, .int .i64 301] : List Value)[zk0]? = some (.int .i64 tv) := pick5 (by omega)
          have ha0 := Lib.hid hb0
          clear hb0
          clear hg23 hc23
          try dsimp only
          refine hK.out _ _ (fun _ => ⟨HD23.out.1.gb.cell 0 rfl, HD23.out.1.gb.cell 1 rfl⟩) ?_
          try simp only [Act.put]
          try simp only [List.setIfInBounds_toArray]
          try simp only [List.set_cons_succ, List.set_cons_zero]
          refine WpLate.take (i := 4) (v := .pointer (some ⟨wx.heap.size, zk0, none⟩)) rfl (by kernel_rfl) (by kernel_rfl) (by kernel_rfl) (by kernel_rfl) (by kernel_rfl) (fun _ _ _ h => h) (Or.inl ⟨by rfl, fun w' hw => ?_⟩) ⟨HD23.out.1.gb.cell 0 rfl, HD23.out.1.gb.cell 1 rfl⟩ ?_
          · go_simp
          try simp only [Act.put]
          try simp only [List.setIfInBounds_toArray]
          try simp only [List.set_cons_succ, List.set_cons_zero]
          refine WpLate.mono (S' := fun w' => w'.cell? ⟨g, 0, none⟩ = some (.int .i64 l.base) ∧ w'.cell? ⟨g, 1, none⟩ = some (.slice A n c) ∧ w'.cell? ⟨wx.heap.size, zk0, none⟩ = some (.int .i64 tv0)) (fun _ h => ⟨h.1, h.2.1⟩) ?_
          refine WpLate.take (i := 5) (v := .int .i64 tv0) rfl (by kernel_rfl) (by kernel_rfl) (by kernel_rfl) (by kernel_rfl) (by kernel_rfl) (fun _ _ _ h => h) (Or.inl ⟨by rfl, fun w' hw => ?_⟩) ⟨HD23.out.1.gb.cell 0 rfl, HD23.out.1.gb.cell 1 rfl, HN23_0.out zk0 _ ha0.out⟩ ?_
          · obtain ⟨hw0, hw1, hw2⟩ := hw; go_simp
          try simp only [Act.put]
          try simp only [List.setIfInBounds_toArray]
          try simp only [List.set_cons_succ, List.set_cons_zero]
          refine WpLate.each (rs := [8]) (by kernel_rfl) (by simp) (LateEach.cons rfl (fun K hK => ?_) LateEach.nil)
          go_simp
          refine (below_any p a len cap zs _ _ hl (by omega) (by omega) HD23.out.cur (hr.kept HD23.out.grown)).mono ?_
          rintro e w24 ⟨z1, hz10, hz11, rfl, hc24, hg24⟩
          have HD24 := Lib.hid (HD23.out.gbr hp hc24 hg24)
          have HN24_0 := Lib.hid (HN23_0.out.gbr hg24 (by have := HD23.out.1.cur.lt; omega))
          have HN24_1 := Lib.hid (HN23_1.out.gbr hg24 (by have := HD23.out.1.cur.lt; omega))
          obtain ⟨zk1, rfl⟩ := Int.eq_ofNat_of_zero_le hz10
          obtain ⟨tv1, hb1⟩ : ∃ tv : Int, ([Value.int .i64 0, .int .i64 0, .int .i64 1, .int .i64 3, .int .i64 4] : List Value)[zk1]? = some (.int .i64 tv) := pick5 (by omega)
          have ha1 := Lib.hid hb1
          clear hb1
          clear hg24 hc24
          try dsimp only
          refine hK.out _ _ (fun _ => ⟨HD24.out.1.gb.cell 0 rfl, HD24.out.1.gb.cell 1 rfl, HN24_0.out zk0 _ ha0.out⟩) ?_
          try simp only [Act.put]
          try simp only [List.setIfInBounds_toArray]
          try simp only [List.set_cons_succ, List.set_cons_zero]
          refine WpLate.take (i := 9) (v := .pointer (some ⟨w21.heap.size, zk1, none⟩)) rfl (by kernel_rfl) (by kernel_rfl) (by kernel_rfl) (by kernel_rfl) (by kernel_rfl) (fun _ _ _ h => h) (Or.inl ⟨by rfl, fun w' hw => ?_⟩) ⟨HD24.out.1.gb.cell 0 rfl, HD24.out.1.gb.cell 1 rfl, HN24_0.out zk0 _ ha0.out⟩ ?_
          · go_simp
          try simp only [Act.put]
          try simp only [List.setIfInBounds_toArray]
          try simp only [List.set_cons_succ, List.set_cons_zero]
          refine WpLate.mono (S' := fun w' => w'.cell? ⟨g, 0, none⟩ = some (.int .i64 l.base) ∧ w'.cell? ⟨g, 1, none⟩ = some (.slice A n c) ∧ w'.cell? ⟨wx.heap.size, zk0, none⟩ = some (.int .i64 tv0) ∧ w'.cell? ⟨w21.heap.size, zk1, none⟩ = some (.int .i64 tv1)) (fun _ h => ⟨h.1, h.2.1, h.2.2.1⟩) ?_
          refine WpLate.take (i := 10) (v := .int .i64 tv1) rfl (by kernel_rfl) (by kernel_rfl) (by kernel_rfl) (by kernel_rfl) (by kernel_rfl) (fun _ _ _ h => h) (Or.inl ⟨by rfl, fun w' hw => ?_⟩) ⟨HD24.out.1.gb.cell 0 rfl, HD24.out.1.gb.cell 1 rfl, HN24_0.out zk0 _ ha0.out, HN24_1.out zk1 _ ha1.out⟩ ?_
          · obtain ⟨hw0, hw1, hw2, hw3⟩ := hw; go_simp
          try simp only [Act.put]
          try simp only [List.setIfInBounds_toArray]
          try simp only [List.set_cons_succ, List.set_cons_zero]
          refine WpLate.each (rs := [11]) (by kernel_rfl) (by simp) (LateEach.cons rfl (fun K hK => ?_) LateEach.nil)
          go_simp
          refine (spec_with0 _ l _ _ _ HD24.out.rd HD24.out.2.2).mono ?_
          rintro e w25 ⟨v5, rfl, own5, hb5⟩
          have HG := Lib.hid (HD24.out.below hp hb5)
          have OL : Hid (OffLab (w.heap.size + 1) g w25 v5 (withL l tv0 tv1).1) := Lib.hid (own5.off (by have := HD24.out.1.hg; have := HD24.out.1.gb.lt; omega) (.inl HD24.out.1.gb.lt))
          obtain ⟨A5, n5, c5, rfl, -, -, -⟩ := own5
          have gk0 := HG.out.1.gb.cell 0 rfl
          have gk1 := HG.out.1.gb.cell 1 rfl
          have gf0 := HG.out.1.gb.free 0
          have gf1 := HG.out.1.gb.free 1
          have HH := Lib.hid (HG.out.put hp OL.out (withL_le _ _ _))
          clear HG OL hb5
          try dsimp only
          refine hK.out _ _ (fun h => absurd h (by omega)) ?_
          try simp only [Act.put]
          try simp only [List.setIfInBounds_toArray]
          try simp only [List.set_cons_succ, List.set_cons_zero]
          refine WpLate.takeLate (i := 12) (v := .tuple #[.agg #[.int .i64 (withL l tv0 tv1).1.base, .slice A5 n5 c5], .bool (withL l tv0 tv1).2]) rfl (by kernel_rfl) (by kernel_rfl) (by kernel_rfl) (by kernel_rfl) (by kernel_rfl) (fun _ _ _ h => h) (Or.inl ⟨by rfl, fun w' hw => ?_⟩) ?_
          · go_simp
          try simp only [Act.put]
          try simp only [List.setIfInBounds_toArray]
          try simp only [List.set_cons_succ, List.set_cons_zero]
          refine WpLate.takeLate (i := 13) (v := .agg #[.int .i64 (withL l tv0 tv1).1.base, .slice A5 n5 c5]) rfl (by kernel_rfl) (by kernel_rfl) (by kernel_rfl) (by kernel_rfl) (by kernel_rfl) (fun _ _ _ h => h) (Or.inl ⟨by rfl, fun w' hw => ?_⟩) ?_
          · go_simp
          try simp only [Act.put]
          try simp only [List.setIfInBounds_toArray]
          try simp only [List.set_cons_succ, List.set_cons_zero]
          refine WpLate.takeLate (i := 14) (v := .bool (withL l tv0 tv1).2) rfl (by kernel_rfl) (by kernel_rfl) (by kernel_rfl) (by kernel_rfl) (by kernel_rfl) (fun _ _ _ h => h) (Or.inl ⟨by rfl, fun w' hw => ?_⟩) ?_
          · go_simp
          try simp only [Act.put]
          try simp only [List.setIfInBounds_toArray]
          try simp only [List.set_cons_succ, List.set_cons_zero]
          refine WpLate.each (rs := [15]) (by kernel_rfl) (by simp) (LateEach.cons rfl (fun K hK => ?_) LateEach.nil)
          go_simp
          refine hK.out _ _ (fun h => absurd h (by omega)) ?_
          try simp only [Act.put]
          try simp only [List.setIfInBounds_toArray]
          try simp only [List.set_cons_succ, List.set_cons_zero]
          refine WpLate.done (by kernel_rfl) ?_ _
          go_wp2
          go_roundw
          case rel => exact ⟨j - 1, _, A5, n5, c5, by omega, by simp; omega, HH⟩
          case measure => simp [intOf]; omega
      · skip
        go_simp
        refine (below_any p a len cap zs _ _ hl (by omega) (by omega) HD.out.cur (hr.kept HD.out.grown)).mono ?_
        rintro e w21 ⟨z0, hz00, hz01, rfl, hc21, hg21⟩
        have HD21 := Lib.hid (HD.out.gbr hp hc21 hg21)
        obtain ⟨zk0, rfl⟩ := Int.eq_ofNat_of_zero_le hz00
        obtain ⟨tv0, hb0⟩ : ∃ tv : Int, ([Value.int .i64 0, .int .i64 1, .int .i64 100, .int .i64 101, .int .i64 301] : List Value)[zk0]? = some (.int .i64 tv) := pick5 (by omega)
        have ha0 := Lib.hid hb0
        clear hb0
        clear hg21 hc21
        try dsimp only
        refine hK.out _ _ (fun _ => ⟨HD21.out.1.gb.cell 0 rfl, HD21.out.1.gb.cell 1 rfl⟩) ?_
        try simp only [Act.put]
        try simp only [List.setIfInBounds_toArray]
        try simp only [List.set_cons_succ, List.set_cons_zero]
        refine WpLate.each (rs := [1, 6, 8]) (by kernel_rfl) (by simp) (LateEach.cons rfl (fun K hK => ?_) (LateEach.cons rfl (fun K hK => ?_) (LateEach.cons rfl (fun K hK => ?_) LateEach.nil)))
        · skip
          go_simp
          have HM22 := Lib.hid (HD21.out.alloc hp (.cells #[.int .i64 0, .int .i64 1, .int .i64 100, .int .i64 101, .int .i64 301] 2))
          have gz22 := HD21.out.1.gb.lt
          have pz22 := HD21.out.1.cur.lt
          have HN22_0 : Hid (Has (w21.alloc (.cells #[.int .i64 0, .int .i64 1, .int .i64 100, .int .i64 101, .int .i64 301] 2)) w21.heap.size [.int .i64 0, .int .i64 1, .int .i64 100, .int .i64 101, .int .i64 301]) := Lib.hid Has.one
          obtain ⟨w22, hw22⟩ : ∃ x, x = w21.alloc (.cells #[.int .i64 0, .int .i64 1, .int .i64 100, .int .i64 101, .int .i64 301] 2) := ⟨_, rfl⟩
          rw [← hw22] at HM22 HN22_0 ⊢
          clear hw22
          have HD22 := HM22
          clear HM22
          refine hK.out _ _ (fun _ => ⟨HD22.out.1.gb.cell 0 rfl, HD22.out.1.gb.cell 1 rfl⟩) ?_
          try simp only [Act.put]
          try simp only [List.setIfInBounds_toArray]
          try simp only [List.set_cons_succ, List.set_cons_zero]
          refine WpLate.take (i := 4) (v := .pointer (some ⟨w21.heap.size, zk0, none⟩)) rfl (by kernel_rfl) (by kernel_rfl) (by kernel_rfl) (by kernel_rfl) (by kernel_rfl) (fun _ _ _ h => h) (Or.inl ⟨by rfl, fun w' hw => ?_⟩) ⟨HD22.out.1.gb.cell 0 rfl, HD22.out.1.gb.cell 1 rfl⟩ ?_
          · go_simp
          try simp only [Act.put]
          try simp only [List.setIfInBounds_toArray]
          try simp only [List.set_cons_succ, List.set_cons_zero]
          refine WpLate.mono (S' := fun w' => w'.cell? ⟨g, 0, none⟩ = some (.int .i64 l.base) ∧ w'.cell? ⟨g, 1, none⟩ = some (.slice A n c) ∧ w'.cell? ⟨w21.heap.size, zk0, none⟩ = some (.int .i64 tv0)) (fun _ h => ⟨h.1, h.2.1⟩) ?_
          refine WpLate.take (i := 5) (v := .int .i64 tv0) rfl (by kernel_rfl) (by kernel_rfl) (by kernel_rfl) (by kernel_rfl) (by kernel_rfl) (fun _ _ _ h => h) (Or.inl ⟨by rfl, fun w' hw => ?_⟩) ⟨HD22.out.1.gb.cell 0 rfl, HD22.out.1.gb.cell 1 rfl, HN22_0.out zk0 _ ha0.out⟩ ?_
          · obtain ⟨hw0, hw1, hw2⟩ := hw; go_simp
          try simp only [Act.put]
          try simp only [List.setIfInBounds_toArray]
          try simp only [List.set_cons_succ, List.set_cons_zero]
          refine WpLate.each (rs := [6, 8]) (by kernel_rfl) (by simp) (LateEach.cons rfl (fun K hK => ?_) (LateEach.cons rfl (fun K hK => ?_) LateEach.nil))
          · skip
            go_simp
            have HM23 := Lib.hid (HD22.out.alloc hp (.cells #[.int .i64 0, .int .i64 0, .int .i64 1, .int .i64 3, .int .i64 4] 2))
            have gz23 := HD22.out.1.gb.lt
            have pz23 := HD22.out.1.cur.lt
            have HN23_0 := Lib.hid (HN22_0.out.alloc (.cells #[.int .i64 0, .int .i64 0, .int .i64 1, .int .i64 3, .int .i64 4] 2))
            have HN23_1 : Hid (Has (w22.alloc (.cells #[.int .i64 0, .int .i64 0, .int .i64 1, .int .i64 3, .int .i64 4] 2)) w22.heap.size [.int .i64 0, .int .i64 0, .int .i64 1, .int .i64 3, .int .i64 4]) := Lib.hid Has.one
            obtain ⟨w23, hw23⟩ : ∃ x, x = w22.alloc (.cells #[.int .i64 0, .int .i64 0, .int .i64 1, .int .i64 3, .int .i64 4] 2) := ⟨_, rfl⟩
            rw [← hw23] at HM23 HN23_0 HN23_1 ⊢
            clear hw23
            have HD23 := HM23
            clear HM23
            refine hK.out _ _ (fun _ => ⟨HD23.out.1.gb.cell 0 rfl, HD23.out.1.gb.cell 1 rfl, HN23_0.out zk0 _ ha0.out⟩) ?_
            try simp only [Act.put]
            try simp only [List.setIfInBounds_toArray]
            try simp only [List.set_cons_succ, List.set_cons_zero]
            refine WpLate.each (rs := [8]) (by kernel_rfl) (by simp) (LateEach.cons rfl (fun K hK => ?_) LateEach.nil)
            go_simp
            refine (below_any p a len cap zs _ _ hl (by omega) (by omega) HD23.out.cur (hr.kept HD23.out.grown)).mono ?_
            rintro e w24 ⟨z1, hz10, hz11, rfl, hc24, hg24⟩
            have HD24 := Lib.hid (HD23.out.gbr hp hc24 hg24)
            have HN24_0 := Lib.hid (HN23_0.out.gbr hg24 (by have := HD23.out.1.cur.lt; omega))
            have HN24_1 := Lib.hid (HN23_1.out.gbr hg24 (by have := HD23.out.1.cur.lt; omega))
            obtain ⟨zk1, rfl⟩ := Int.eq_ofNat_of_zero_le hz10
            obtain ⟨tv1, hb1⟩ : ∃ tv : Int, ([Value.int .i64 0, .int .i64 0, .int .i64 1, .int .i64 3, .int .i64 4] : List Value)[zk1]? = some (.int .i64 tv) := pick5 (by omega)
            have ha1 := Lib.hid hb1
            clear hb1
            clear hg24 hc24
            try dsimp only
            refine hK.out _ _ (fun _ => ⟨HD24.out.1.gb.cell 0 rfl, HD24.out.1.gb.cell 1 rfl, HN24_0.out zk0 _ ha0.out⟩) ?_
            try simp only [Act.put]
            try simp only [List.setIfInBounds_toArray]
            try simp only [List.set_cons_succ, List.set_cons_zero]
            refine WpLate.take (i := 9) (v := .pointer (some ⟨w22.heap.size, zk1, none⟩)) rfl (by kernel_rfl) (by kernel_rfl) (by kernel_rfl) (by kernel_rfl) (by kernel_rfl) (fun _ _ _ h => h) (Or.inl ⟨by rfl, fun w' hw => ?_⟩) ⟨HD24.out.1.gb.cell 0 rfl, HD24.out.1.gb.cell 1 rfl, HN24_0.out zk0 _ ha0.out⟩ ?_
            · go_simp
            try simp only [Act.put]
            try simp only [List.setIfInBounds_toArray]
            try simp only [List.set_cons_succ, List.set_cons_zero]
            refine WpLate.mono (S' := fun w' => w'.cell? ⟨g, 0, none⟩ = some (.int .i64 l.base) ∧ w'.cell? ⟨g, 1, none⟩ = some (.slice A n c) ∧ w'.cell? ⟨w21.heap.size, zk0, none⟩ = some (.int .i64 tv0) ∧ w'.cell? ⟨w22.heap.size, zk1, none⟩ = some (.int .i64 tv1)) (fun _ h => ⟨h.1, h.2.1, h.2.2.1⟩) ?_
            refine WpLate.take (i := 10) (v := .int .i64 tv1) rfl (by kernel_rfl) (by kernel_rfl) (by kernel_rfl) (by kernel_rfl) (by kernel_rfl) (fun _ _ _ h => h) (Or.inl ⟨by rfl, fun w' hw => ?_⟩) ⟨HD24.out.1.gb.cell 0 rfl, HD24.out.1.gb.cell 1 rfl, HN24_0.out zk0 _ ha0.out, HN24_1.out zk1 _ ha1.out⟩ ?_
            · obtain ⟨hw0, hw1, hw2, hw3⟩ := hw; go_simp
            try simp only [Act.put]
            try simp only [List.setIfInBounds_toArray]
            try simp only [List.set_cons_succ, List.set_cons_zero]
            refine WpLate.each (rs := [11]) (by kernel_rfl) (by simp) (LateEach.cons rfl (fun K hK => ?_) LateEach.nil)
            go_simp
            refine (spec_with0 _ l _ _ _ HD24.out.rd HD24.out.2.2).mono ?_
            rintro e w25 ⟨v5, rfl, own5, hb5⟩
            have HG := Lib.hid (HD24.out.below hp hb5)
            have OL : Hid (OffLab (w.heap.size + 1) g w25 v5 (withL l tv0 tv1).1) := Lib.hid (own5.off (by have := HD24.out.1.hg; have := HD24.out.1.gb.lt; omega) (.inl HD24.out.1.gb.lt))
            obtain ⟨A5, n5, c5, rfl, -, -, -⟩ := own5
            have gk0 := HG.out.1.gb.cell 0 rfl
            have gk1 := HG.out.1.gb.cell 1 rfl
            have gf0 := HG.out.1.gb.free 0
            have gf1 := HG.out.1.gb.free 1
            have HH := Lib.hid (HG.out.put hp OL.out (withL_le _ _ _))
            clear HG OL hb5
            try dsimp only
            refine hK.out _ _ (fun h => absurd h (by omega)) ?_
            try simp only [Act.put]
            try simp only [List.setIfInBounds_toArray]
            try simp only [List.set_cons_succ, List.set_cons_zero]
            refine WpLate.takeLate (i := 12) (v := .tuple #[.agg #[.int .i64 (withL l tv0 tv1).1.base, .slice A5 n5 c5], .bool (withL l tv0 tv1).2]) rfl (by kernel_rfl) (by kernel_rfl) (by kernel_rfl) (by kernel_rfl) (by kernel_rfl) (fun _ _ _ h => h) (Or.inl ⟨by rfl, fun w' hw => ?_⟩) ?_
            · go_simp
            try simp only [Act.put]
            try simp only [List.setIfInBounds_toArray]
            try simp only [List.set_cons_succ, List.set_cons_zero]
            refine WpLate.takeLate (i := 13) (v := .agg #[.int .i64 (withL l tv0 tv1).1.base, .slice A5 n5 c5]) rfl (by kernel_rfl) (by kernel_rfl) (by kernel_rfl) (by kernel_rfl) (by kernel_rfl) (fun _ _ _ h => h) (Or.inl ⟨by rfl, fun w' hw => ?_⟩) ?_
            · go_simp
            try simp only [Act.put]
            try simp only [List.setIfInBounds_toArray]
            try simp only [List.set_cons_succ, List.set_cons_zero]
            refine WpLate.takeLate (i := 14) (v := .bool (withL l tv0 tv1).2) rfl (by kernel_rfl) (by kernel_rfl) (by kernel_rfl) (by kernel_rfl) (by kernel_rfl) (fun _ _ _ h => h) (Or.inl ⟨by rfl, fun w' hw => ?_⟩) ?_
            · go_simp
            try simp only [Act.put]
            try simp only [List.setIfInBounds_toArray]
            try simp only [List.set_cons_succ, List.set_cons_zero]
            refine WpLate.each (rs := [15]) (by kernel_rfl) (by simp) (LateEach.cons rfl (fun K hK => ?_) LateEach.nil)
            go_simp
            refine hK.out _ _ (fun h => absurd h (by omega)) ?_
            try simp only [Act.put]
            try simp only [List.setIfInBounds_toArray]
            try simp only [List.set_cons_succ, List.set_cons_zero]
            refine WpLate.done (by kernel_rfl) ?_ _
            go_wp2
            go_roundw
            case rel => exact ⟨j - 1, _, A5, n5, c5, by omega, by simp; omega, HH⟩
            case measure => simp [intOf]; omega
          · skip
            go_simp
            refine (below_any p a len cap zs _ _ hl (by omega) (by omega) HD22.out.cur (hr.kept HD22.out.grown)).mono ?_
            rintro e w23 ⟨z1, hz10, hz11, rfl, hc23, hg23⟩
            have HD23 := Lib.hid (HD22.out.gbr hp hc23 hg23)
            have HN23_0 := Lib.hid (HN22_0.out.gbr hg23 (by have := HD22.out.1.cur.lt; omega))
            obtain ⟨zk1, rfl⟩ := Int.eq_ofNat_of_zero_le hz10
            obtain ⟨tv1, hb1⟩ : ∃ tv : Int, ([Value.int .i64 0, .int .i64 0, .int .i64 1, .int .i64 3, .int .i64 4] : List Value)[zk1]? = some (.int .i64 tv) := pick5 (by omega)
            have ha1 := Lib.hid hb1
            clear hb1
            clear hg23 hc23
            try dsimp only
            refine hK.out _ _ (fun _ => ⟨HD23.out.1.gb.cell 0 rfl, HD23.out.1.gb.cell 1 rfl, HN23_0.out zk0 _ ha0.out⟩) ?_
            try simp only [Act.put]
            try simp only [List.setIfInBounds_toArray]
            try simp only [List.set_cons_succ, List.set_cons_zero]
            refine WpLate.each (rs := [6]) (by kernel_rfl) (by simp) (LateEach.cons rfl (fun K hK => ?_) LateEach.nil)
            go_simp
            have HM24 := Lib.hid (HD23.out.alloc hp (.cells #[.int .i64 0, .int .i64 0, .int .i64 1, .int .i64 3, .int .i64 4] 2))
            have gz24 := HD23.out.1.gb.lt
            have pz24 := HD23.out.1.cur.lt
            have HN24_0 := Lib.hid (HN23_0.out.alloc (.cells #[.int .i64 0, .int .i64 0, .int .i64 1, .int .i64 3, .int .i64 4] 2))
            have HN24_1 : Hid (Has (w23.alloc (.cells #[.int .i64 0, .int .i64 0, .int .i64 1, .int .i64 3, .int .i64 4] 2)) w23.heap.size [.int .i64 0, .int .i64 0, .int .i64 1, .int .i64 3, .int .i64 4]) := Lib.hid Has.one
            obtain ⟨w24, hw24⟩ : ∃ x, x = w23.alloc (.cells #[.int .i64 0, .int .i64 0, .int .i64 1, .int .i64 3, .int .i64 4] 2) := ⟨_, rfl⟩
            rw [← hw24] at HM24 HN24_0 HN24_1 ⊢
            clear hw24
            have HD24 := HM24
            clear HM24
            refine hK.out _ _ (fun _ => ⟨HD24.out.1.gb.cell 0 rfl, HD24.out.1.gb.cell 1 rfl, HN24_0.out zk0 _ ha0.out⟩) ?_
            try simp only [Act.put]
            try simp only [List.setIfInBounds_toArray]
            try simp only [List.set_cons_succ, List.set_cons_zero]
            refine WpLate.take (i := 9) (v := .pointer (some ⟨w23.heap.size, zk1, none⟩)) rfl (by kernel_rfl) (by kernel_rfl) (by kernel_rfl) (by kernel_rfl) (by kernel_rfl) (fun _ _ _ h => h) (Or.inl ⟨by rfl, fun w' hw => ?_⟩) ⟨HD24.out.1.gb.cell 0 rfl, HD24.out.1.gb.cell 1 rfl, HN24_0.out zk0 _ ha0.out⟩ ?_
            · go_simp
            try simp only [Act.put]
            try simp only [List.setIfInBounds_toArray]
            try simp only [List.set_cons_succ, List.set_cons_zero]
            refine WpLate.mono (S' := fun w' => w'.cell? ⟨g, 0, none⟩ = some (.int .i64 l.base) ∧ w'.cell? ⟨g, 1, none⟩ = some (.slice A n c) ∧ w'.cell? ⟨w21.heap.size, zk0, none⟩ = some (.int .i64 tv0) ∧ w'.cell? ⟨w23.heap.size, zk1, none⟩ = some (.int .i64 tv1)) (fun _ h => ⟨h.1, h.2.1, h.2.2.1⟩) ?_
            refine WpLate.take (i := 10) (v := .int .i64 tv1) rfl (by kernel_rfl) (by kernel_rfl) (by kernel_rfl) (by kernel_rfl) (by kernel_rfl) (fun _ _ _ h => h) (Or.inl ⟨by rfl, fun w' hw => ?_⟩) ⟨HD24.out.1.gb.cell 0 rfl, HD24.out.1.gb.cell 1 rfl, HN24_0.out zk0 _ ha0.out, HN24_1.out zk1 _ ha1.out⟩ ?_
            · obtain ⟨hw0, hw1, hw2, hw3⟩ := hw; go_simp
            try simp only [Act.put]
            try simp only [List.setIfInBounds_toArray]
            try simp only [List.set_cons_succ, List.set_cons_zero]
            refine WpLate.each (rs := [11]) (by kernel_rfl) (by simp) (LateEach.cons rfl (fun K hK => ?_) LateEach.nil)
            go_simp
            refine (spec_with0 _ l _ _ _ HD24.out.rd HD24.out.2.2).mono ?_
            rintro e w25 ⟨v5, rfl, own5, hb5⟩
            have HG := Lib.hid (HD24.out.below hp hb5)
            have OL : Hid (OffLab (w.heap.size + 1) g w25 v5 (withL l tv0 tv1).1) := Lib.hid (own5.off (by have := HD24.out.1.hg; have := HD24.out.1.gb.lt; omega) (.inl HD24.out.1.gb.lt))
            obtain ⟨A5, n5, c5, rfl, -, -, -⟩ := own5
            have gk0 := HG.out.1.gb.cell 0 rfl
            have gk1 := HG.out.1.gb.cell 1 rfl
            have gf0 := HG.out.1.gb.free 0
            have gf1 := HG.out.1.gb.free 1
            have HH := Lib.hid (HG.out.put hp OL.out (withL_le _ _ _))
            clear HG OL hb5
            try dsimp only
            refine hK.out _ _ (fun h => absurd h (by omega)) ?_
            try simp only [Act.put]
            try simp only [List.setIfInBounds_toArray]
            try simp only [List.set_cons_succ, List.set_cons_zero]
            refine WpLate.takeLate (i := 12) (v := .tuple #[.agg #[.int .i64 (withL l tv0 tv1).1.base, .slice A5 n5 c5], .bool (withL l tv0 tv1).2]) rfl (by kernel_rfl) (by kernel_rfl) (by kernel_rfl) (by kernel_rfl) (by kernel_rfl) (fun _ _ _ h => h) (Or.inl ⟨by rfl, fun w' hw => ?_⟩) ?_
            · go_simp
            try simp only [Act.put]
            try simp only [List.setIfInBounds_toArray]
            try simp only [List.set_cons_succ, List.set_cons_zero]
            refine WpLate.takeLate (i := 13) (v := .agg #[.int .i64 (withL l tv0 tv1).1.base, .slice A5 n5 c5]) rfl (by kernel_rfl) (by kernel_rfl) (by kernel_rfl) (by kernel_rfl) (by kernel_rfl) (fun _ _ _ h => h) (Or.inl ⟨by rfl, fun w' hw => ?_⟩) ?_
            · go_simp
            try simp only [Act.put]
            try simp only [List.setIfInBounds_toArray]
            try simp only [List.set_cons_succ, List.set_cons_zero]
            refine WpLate.takeLate (i := 14) (v := .bool (withL l tv0 tv1).2) rfl (by kernel_rfl) (by kernel_rfl) (by kernel_rfl) (by kernel_rfl) (by kernel_rfl) (fun _ _ _ h => h) (Or.inl ⟨by rfl, fun w' hw => ?_⟩) ?_
            · go_simp
            try simp only [Act.put]
            try simp only [List.setIfInBounds_toArray]
            try simp only [List.set_cons_succ, List.set_cons_zero]
            refine WpLate.each (rs := [15]) (by kernel_rfl) (by simp) (LateEach.cons rfl (fun K hK => ?_) LateEach.nil)
            go_simp
            refine hK.out _ _ (fun h => absurd h (by omega)) ?_
            try simp only [Act.put]
            try simp only [List.setIfInBounds_toArray]
            try simp only [List.set_cons_succ, List.set_cons_zero]
            refine WpLate.done (by kernel_rfl) ?_ _
            go_wp2
            go_roundw
            case rel => exact ⟨j - 1, _, A5, n5, c5, by omega, by simp; omega, HH⟩
            case measure => simp [intOf]; omega
        · skip
          go_simp
          have HM22 := Lib.hid (HD21.out.alloc hp (.cells #[.int .i64 0, .int .i64 0, .int .i64 1, .int .i64 3, .int .i64 4] 2))
          have gz22 := HD21.out.1.gb.lt
          have pz22 := HD21.out.1.cur.lt
          have HN22_1 : Hid (Has (w21.alloc (.cells #[.int .i64 0, .int .i64 0, .int .i64 1, .int .i64 3, .int .i64 4] 2)) w21.heap.size [.int .i64 0, .int .i64 0, .int .i64 1, .int .i64 3, .int .i64 4]) := Lib.hid Has.one
          obtain ⟨w22, hw22⟩ : ∃ x, x = w21.alloc (.cells #[.int .i64 0, .int .i64 0, .int .i64 1, .int .i64 3, .int .i64 4] 2) := ⟨_, rfl⟩
          rw [← hw22] at HM22 HN22_1 ⊢
          clear hw22
          have HD22 := HM22
          clear HM22
          refine hK.out _ _ (fun _ => ⟨HD22.out.1.gb.cell 0 rfl, HD22.out.1.gb.cell 1 rfl⟩) ?_
          try simp only [Act.put]
          try simp only [List.setIfInBounds_toArray]
          try simp only [List.set_cons_succ, List.set_cons_zero]
          refine WpLate.each (rs := [1, 8]) (by kernel_rfl) (by simp) (LateEach.cons rfl (fun K hK => ?_) (LateEach.cons rfl (fun K hK => ?_) LateEach.nil))
          · skip
            go_simp
            have HM23 := Lib.hid (HD22.out.alloc hp (.cells #[.int .i64 0, .int .i64 1, .int .i64 100, .int .i64 101, .int .i64 301] 2))
            have gz23 := HD22.out.1.gb.lt
            have pz23 := HD22.out.1.cur.lt
            have HN23_1 := Lib.hid (HN22_1.out.alloc (.cells #[.int .i64 0, .int .i64 1, .int .i64 100, .int .i64 101, .int .i64 301] 2))
            have HN23_0 : Hid (Has (w22.alloc (.cells #[.int .i64 0, .int .i64 1, .int .i64 100, .int .i64 101, .int .i64 301] 2)) w22.heap.size [.int .i64 0, .int .i64 1, .int .i64 100, .int .i64 101, .int .i64 301]) := Lib.hid Has.one
            obtain ⟨w23, hw23⟩ : ∃ x, x = w22.alloc (.cells #[.int .i64 0, .int .i64 1, .int .i64 100, .int .i64 101, .int .i64 301] 2) := ⟨_, rfl⟩
            rw [← hw23] at HM23 HN23_1 HN23_0 ⊢
            clear hw23
            have HD23 := HM23
            clear HM23
            refine hK.out _ _ (fun _ => ⟨HD23.out.1.gb.cell 0 rfl, HD23.out.1.gb.cell 1 rfl⟩) ?_
            try simp only [Act.put]
            try simp only [List.setIfInBounds_toArray]
            try simp only [List.set_cons_succ, List.set_cons_zero]
            refine WpLate.take (i := 4) (v := .pointer (some ⟨w22.heap.size, zk0, none⟩)) rfl (by kernel_rfl) (by kernel_rfl) (by kernel_rfl) (by kernel_rfl) (by kernel_rfl) (fun _ _ _ h => h) (Or.inl ⟨by rfl, fun w' hw => ?_⟩) ⟨HD23.out.1.gb.cell 0 rfl, HD23.out.1.gb.cell 1 rfl⟩ ?_
            · go_simp
            try simp only [Act.put]
            try simp only [List.setIfInBounds_toArray]
            try simp only [List.set_cons_succ, List.set_cons_zero]
            refine WpLate.mono (S' := fun w' => w'.cell? ⟨g, 0, none⟩ = some (.int .i64 l.base) ∧ w'.cell? ⟨g, 1, none⟩ = some (.slice A n c) ∧ w'.cell? ⟨w22.heap.size, zk0, none⟩ = some (.int .i64 tv0)) (fun _ h => ⟨h.1, h.2.1⟩) ?_
            refine WpLate.take (i := 5) (v := .int .i64 tv0) rfl (by kernel_rfl) (by kernel_rfl) (by kernel_rfl) (by kernel_rfl) (by kernel_rfl) (fun _ _ _ h => h) (Or.inl ⟨by rfl, fun w' hw => ?_⟩) ⟨HD23.out.1.gb.cell 0 rfl, HD23.out.1.gb.cell 1 rfl, HN23_0.out zk0 _ ha0.out⟩ ?_
            · obtain ⟨hw0, hw1, hw2⟩ := hw; go_simp
            try simp only [Act.put]
            try simp only [List.setIfInBounds_toArray]
            try simp only [List.set_cons_succ, List.set_cons_zero]
            refine WpLate.each (rs := [8]) (by kernel_rfl) (by simp) (LateEach.cons rfl (fun K hK => ?_) LateEach.nil)
            go_simp
            refine (below_any p a len cap zs _ _ hl (by omega) (by omega) HD23.out.cur (hr.kept HD23.out.grown)).mono ?_
            rintro e w24 ⟨z1, hz10, hz11, rfl, hc24, hg24⟩
            have HD24 := Lib.hid (HD23.out.gbr hp hc24 hg24)
            have HN24_1 := Lib.hid (HN23_1.out.gbr hg24 (by have := HD23.out.1.cur.lt; omega))
            have HN24_0 := Lib.hid (HN23_0.out.gbr hg24 (by have := HD23.out.1.cur.lt; omega))
            obtain ⟨zk1, rfl⟩ := Int.eq_ofNat_of_zero_le hz10
            obtain ⟨tv1, hb1⟩ : ∃ tv : Int, ([Value.int .i64 0, .int .i64 0, .int .i64 1, .int .i64 3, .int .i64 4] : List Value)[zk1]? = some (.int .i64 tv) := pick5 (by omega)
            have ha1 := Lib.hid hb1
            clear hb1
            clear hg24 hc24
            try dsimp only
            refine hK.out _ _ (fun _ => ⟨HD24.out.1.gb.cell 0 rfl, HD24.out.1.gb.cell 1 rfl, HN24_0.out zk0 _ ha0.out⟩) ?_
            try simp only [Act.put]
            try simp only [List.setIfInBounds_toArray]
            try simp only [List.set_cons_succ, List.set_cons_zero]
            refine WpLate.take (i := 9) (v := .pointer (some ⟨w21.heap.size, zk1, none⟩)) rfl (by kernel_rfl) (by kernel_rfl) (by kernel_rfl) (by kernel_rfl) (by kernel_rfl) (fun _ _ _ h => h) (Or.inl ⟨by rfl, fun w' hw => ?_⟩) ⟨HD24.out.1.gb.cell 0 rfl, HD24.out.1.gb.cell 1 rfl, HN24_0.out zk0 _ ha0.out⟩ ?_
            · go_simp
            try simp only [Act.put]
            try simp only [List.setIfInBounds_toArray]
            try simp only [List.set_cons_succ, List.set_cons_zero]
            refine WpLate.mono (S' := fun w' => w'.cell? ⟨g, 0, none⟩ = some (.int .i64 l.base) ∧ w'.cell? ⟨g, 1, none⟩ = some (.slice A n c) ∧ w'.cell? ⟨w22.heap.size, zk0, none⟩ = some (.int .i64 tv0) ∧ w'.cell? ⟨w21.heap.size, zk1, none⟩ = some (.int .i64 tv1)) (fun _ h => ⟨h.1, h.2.1, h.2.2.1⟩) ?_
            refine WpLate.take (i := 10) (v := .int .i64 tv1) rfl (by kernel_rfl) (by kernel_rfl) (by kernel_rfl) (by kernel_rfl) (by kernel_rfl) (fun _ _ _ h => h) (Or.inl ⟨by rfl, fun w' hw => ?_⟩) ⟨HD24.out.1.gb.cell 0 rfl, HD24.out.1.gb.cell 1 rfl, HN24_0.out zk0 _ ha0.out, HN24_1.out zk1 _ ha1.out⟩ ?_
            · obtain ⟨hw0, hw1, hw2, hw3⟩ := hw; go_simp
            try simp only [Act.put]
            try simp only [List.setIfInBounds_toArray]
            try simp only [List.set_cons_succ, List.set_cons_zero]
            refine WpLate.each (rs := [11]) (by kernel_rfl) (by simp) (LateEach.cons rfl (fun K hK => ?_) LateEach.nil)
            go_simp
            refine (spec_with0 _ l _ _ _ HD24.out.rd HD24.out.2.2).mono ?_
            rintro e w25 ⟨v5, rfl, own5, hb5⟩
            have HG := Lib.hid (HD24.out.below hp hb5)
            have OL : Hid (OffLab (w.heap.size + 1) g w25 v5 (withL l tv0 tv1).1) := Lib.hid (own5.off (by have := HD24.out.1.hg; have := HD24.out.1.gb.lt; omega) (.inl HD24.out.1.gb.lt))
            obtain ⟨A5, n5, c5, rfl, -, -, -⟩ := own5
            have gk0 := HG.out.1.gb.cell 0 rfl
            have gk1 := HG.out.1.gb.cell 1 rfl
            have gf0 := HG.out.1.gb.free 0
            have gf1 := HG.out.1.gb.free 1
            have HH := Lib.hid (HG.out.put hp OL.out (withL_le _ _ _))
            clear HG OL hb5
            try dsimp only
            refine hK.out _ _ (fun h => absurd h (by omega)) ?_
            try simp only [Act.put]
            try simp only [List.setIfInBounds_toArray]
            try simp only [List.set_cons_succ, List.set_cons_zero]
            refine WpLate.takeLate (i := 12) (v := .tuple #[.agg #[.int .i64 (withL l tv0 tv1).1.base, .slice A5 n5 c5], .bool (withL l tv0 tv1).2]) rfl (by kernel_rfl) (by kernel_rfl) (by kernel_rfl) (by kernel_rfl) (by kernel_rfl) (fun _ _ _ h => h) (Or.inl ⟨by rfl, fun w' hw => ?_⟩) ?_
            · go_simp
            try simp only [Act.put]
            try simp only [List.setIfInBounds_toArray]
            try simp only [List.set_cons_succ, List.set_cons_zero]
            refine WpLate.takeLate (i := 13) (v := .agg #[.int .i64 (withL l tv0 tv1).1.base, .slice A5 n5 c5]) rfl (by kernel_rfl) (by kernel_rfl) (by kernel_rfl) (by kernel_rfl) (by kernel_rfl) (fun _ _ _ h => h) (Or.inl ⟨by rfl, fun w' hw => ?_⟩) ?_
            · go_simp
            try simp only [Act.put]
            try simp only [List.setIfInBounds_toArray]
            try simp only [List.set_cons_succ, List.set_cons_zero]
            refine WpLate.takeLate (i := 14) (v := .bool (withL l tv0 tv1).2) rfl (by kernel_rfl) (by kernel_rfl) (by kernel_rfl) (by kernel_rfl) (by kernel_rfl) (fun _ _ _ h => h) (Or.inl ⟨by rfl, fun w' hw => ?_⟩) ?_
            · go_simp
            try simp only [Act.put]
            try simp only [List.setIfInBounds_toArray]
            try simp only [List.set_cons_succ, List.set_cons_zero]
            refine WpLate.each (rs := [15]) (by kernel_rfl) (by simp) (LateEach.cons rfl (fun K hK => ?_) LateEach.nil)
            go_simp
            refine hK.out _ _ (fun h => absurd h (by omega)) ?_
            try simp only [Act.put]
            try simp only [List.setIfInBounds_toArray]
            try simp only [List.set_cons_succ, List.set_cons_zero]
            refine WpLate.done (by kernel_rfl) ?_ _
            go_wp2
            go_roundw
            case rel => exact ⟨j - 1, _, A5, n5, c5, by omega, by simp; omega, HH⟩
            case measure => simp [intOf]; omega
          · skip
            go_simp
            refine (below_any p a len cap zs _ _ hl (by omega) (by omega) HD22.out.cur (hr.kept HD22.out.grown)).mono ?_
            rintro e w23 ⟨z1, hz10, hz11, rfl, hc23, hg23⟩
            have HD23 := Lib.hid (HD22.out.gbr hp hc23 hg23)
            have HN23_1 := Lib.hid (HN22_1.out.gbr hg23 (by have := HD22.out.1.cur.lt; omega))
            obtain ⟨zk1, rfl⟩ := Int.eq_ofNat_of_zero_le hz10
            obtain ⟨tv1, hb1⟩ : ∃ tv : Int, ([Value.int .i64 0, .int .i64 0, .int .i64 1, .int .i64 3, .int .i64 4] : List Value)[zk1]? = some (.int .i64 tv) := pick5 (by omega)
            have ha1 := Lib.hid hb1
            clear hb1
            clear hg23 hc23
            try dsimp only
            refine hK.out _ _ (fun _ => ⟨HD23.out.1.gb.cell 0 rfl, HD23.out.1.gb.cell 1 rfl⟩) ?_
            try simp only [Act.put]
            try simp only [List.setIfInBounds_toArray]
            try simp only [List.set_cons_succ, List.set_cons_zero]
            refine WpLate.take (i := 9) (v := .pointer (some ⟨w21.heap.size, zk1, none⟩)) rfl (by kernel_rfl) (by kernel_rfl) (by kernel_rfl) (by kernel_rfl) (by kernel_rfl) (fun _ _ _ h => h) (Or.inl ⟨by rfl, fun w' hw => ?_⟩) ⟨HD23.out.1.gb.cell 0 rfl, HD23.out.1.gb.cell 1 rfl⟩ ?_
            · go_simp
            try simp only [Act.put]
            try simp only [List.setIfInBounds_toArray]
            try simp only [List.set_cons_succ, List.set_cons_zero]
            refine WpLate.mono (S' := fun w' => w'.cell? ⟨g, 0, none⟩ = some (.int .i64 l.base) ∧ w'.cell? ⟨g, 1, none⟩ = some (.slice A n c) ∧ w'.cell? ⟨w21.heap.size, zk1, none⟩ = some (.int .i64 tv1)) (fun _ h => ⟨h.1, h.2.1⟩) ?_
            refine WpLate.take (i := 10) (v := .int .i64 tv1) rfl (by kernel_rfl) (by kernel_rfl) (by kernel_rfl) (by kernel_rfl) (by kernel_rfl) (fun _ _ _ h => h) (Or.inl ⟨by rfl, fun w' hw => ?_⟩) ⟨HD23.out.1.gb.cell 0 rfl, HD23.out.1.gb.cell 1 rfl, HN23_1.out zk1 _ ha1.out⟩ ?_
            · obtain ⟨hw0, hw1, hw2⟩ := hw; go_simp
            try simp only [Act.put]
            try simp only [List.setIfInBounds_toArray]
            try simp only [List.set_cons_succ, List.set_cons_zero]
            refine WpLate.each (rs := [1]) (by kernel_rfl) (by simp) (LateEach.cons rfl (fun K hK => ?_) LateEach.nil)
            go_simp
            have HM24 := Lib.hid (HD23.out.alloc hp (.cells #[.int .i64 0, .int .i64 1, .int .i64 100, .int .i64 101, .int .i64 301] 2))
            have gz24 := HD23.out.1.gb.lt
            have pz24 := HD23.out.1.cur.lt
            have HN24_1 := Lib.hid (HN23_1.out.alloc (.cells #[.int .i64 0, .int .i64 1, .int .i64 100, .int .i64 101, .int .i64 301] 2))
            have HN24_0 : Hid (Has (w23.alloc (.cells #[.int .i64 0, .int .i64 1, .int .i64 100, .int .i64 101, .int .i64 301] 2)) w23.heap.size [.int .i64 0, .int .i64 1, .int .i64 100, .int .i64 101, .int .i64 301]) := Lib.hid Has.one
            obtain ⟨w24, hw24⟩ : ∃ x, x = w23.alloc (.cells #[.int .i64 0, .int .i64 1, .int .i64 100, .int .i64 101, .int .i64 301] 2) := ⟨_, rfl⟩
            rw [← hw24] at HM24 HN24_1 HN24_0 ⊢
            clear hw24
            have HD24 := HM24
            clear HM24
            refine hK.out _ _ (fun _ => ⟨HD24.out.1.gb.cell 0 rfl, HD24.out.1.gb.cell 1 rfl, HN24_1.out zk1 _ ha1.out⟩) ?_
            try simp only [Act.put]
            try simp only [List.setIfInBounds_toArray]
            try simp only [List.set_cons_succ, List.set_cons_zero]
            refine WpLate.take (i := 4) (v := .pointer (some ⟨w23.heap.size, zk0, none⟩)) rfl (by kernel_rfl) (by kernel_rfl) (by kernel_rfl) (by kernel_rfl) (by kernel_rfl) (fun _ _ _ h => h) (Or.inl ⟨by rfl, fun w' hw => ?_⟩) ⟨HD24.out.1.gb.cell 0 rfl, HD24.out.1.gb.cell 1 rfl, HN24_1.out zk1 _ ha1.out⟩ ?_
            · go_simp
            try simp only [Act.put]
            try simp only [List.setIfInBounds_toArray]
            try simp only [List.set_cons_succ, List.set_cons_zero]
            refine WpLate.mono (S' := fun w' => w'.cell? ⟨g, 0, none⟩ = some (.int .i64 l.base) ∧ w'.cell? ⟨g, 1, none⟩ = some (.slice A n c) ∧ w'.cell? ⟨w21.heap.size, zk1, none⟩ = some (.int .i64 tv1) ∧ w'.cell? ⟨w23.heap.size, zk0, none⟩ = some (.int .i64 tv0)) (fun _ h => ⟨h.1, h.2.1, h.2.2.1⟩) ?_
            refine WpLate.take (i := 5) (v := .int .i64 tv0) rfl (by kernel_rfl) (by kernel_rfl) (by kernel_rfl) (by kernel_rfl) (by kernel_rfl) (fun _ _ _ h => h) (Or.inl ⟨by rfl, fun w' hw => ?_⟩) ⟨HD24.out.1.gb.cell 0 rfl, HD24.out.1.gb.cell 1 rfl, HN24_1.out zk1 _ ha1.out, HN24_0.out zk0 _ ha0.out⟩ ?_
            · obtain ⟨hw0, hw1, hw2, hw3⟩ := hw; go_simp
            try simp only [Act.put]
            try simp only [List.setIfInBounds_toArray]
            try simp only [List.set_cons_succ, List.set_cons_zero]
            refine WpLate.each (rs := [11]) (by kernel_rfl) (by simp) (LateEach.cons rfl (fun K hK => ?_) LateEach.nil)
            go_simp
            refine (spec_with0 _ l _ _ _ HD24.out.rd HD24.out.2.2).mono ?_
            rintro e w25 ⟨v5, rfl, own5, hb5⟩
            have HG := Lib.hid (HD24.out.below hp hb5)
            have OL : Hid (OffLab (w.heap.size + 1) g w25 v5 (withL l tv0 tv1).1) := Lib.hid (own5.off (by have := HD24.out.1.hg; have := HD24.out.1.gb.lt; omega) (.inl HD24.out.1.gb.lt))
            obtain ⟨A5, n5, c5, rfl, -, -, -⟩ := own5
            have gk0 := HG.out.1.gb.cell 0 rfl
            have gk1 := HG.out.1.gb.cell 1 rfl
            have gf0 := HG.out.1.gb.free 0
            have gf1 := HG.out.1.gb.free 1
            have HH := Lib.hid (HG.out.put hp OL.out (withL_le _ _ _))
            clear HG OL hb5
            try dsimp only
            refine hK.out _ _ (fun h => absurd h (by omega)) ?_
            try simp only [Act.put]
            try simp only [List.setIfInBounds_toArray]
            try simp only [List.set_cons_succ, List.set_cons_zero]
            refine WpLate.takeLate (i := 12) (v := .tuple #[.agg #[.int .i64 (withL l tv0 tv1).1.base, .slice A5 n5 c5], .bool (withL l tv0 tv1).2]) rfl (by kernel_rfl) (by kernel_rfl) (by kernel_rfl) (by kernel_rfl) (by kernel_rfl) (fun _ _ _ h => h) (Or.inl ⟨by rfl, fun w' hw => ?_⟩) ?_
            · go_simp
            try simp only [Act.put]
            try simp only [List.setIfInBounds_toArray]
            try simp only [List.set_cons_succ, List.set_cons_zero]
            refine WpLate.takeLate (i := 13) (v := .agg #[.int .i64 (withL l tv0 tv1).1.base, .slice A5 n5 c5]) rfl (by kernel_rfl) (by kernel_rfl) (by kernel_rfl) (by kernel_rfl) (by kernel_rfl) (fun _ _ _ h => h) (Or.inl ⟨by rfl, fun w' hw => ?_⟩) ?_
            · go_simp
            try simp only [Act.put]
            try simp only [List.setIfInBounds_toArray]
            try simp only [List.set_cons_succ, List.set_cons_zero]
            refine WpLate.takeLate (i := 14) (v := .bool (withL l tv0 tv1).2) rfl (by kernel_rfl) (by kernel_rfl) (by kernel_rfl) (by kernel_rfl) (by kernel_rfl) (fun _ _ _ h => h) (Or.inl ⟨by rfl, fun w' hw => ?_⟩) ?_
            · go_simp
            try simp only [Act.put]
            try simp only [List.setIfInBounds_toArray]
            try simp only [List.set_cons_succ, List.set_cons_zero]
            refine WpLate.each (rs := [15]) (by kernel_rfl) (by simp) (LateEach.cons rfl (fun K hK => ?_) LateEach.nil)
            go_simp
            refine hK.out _ _ (fun h => absurd h (by omega)) ?_
            try simp only [Act.put]
            try simp only [List.setIfInBounds_toArray]
            try simp only [List.set_cons_succ, List.set_cons_zero]
            refine WpLate.done (by kernel_rfl) ?_ _
            go_wp2
            go_roundw
            case rel => exact ⟨j - 1, _, A5, n5, c5, by omega, by simp; omega, HH⟩
            case measure => simp [intOf]; omega
        · skip
          go_simp
          refine (below_any p a len cap zs _ _ hl (by omega) (by omega) HD21.out.cur (hr.kept HD21.out.grown)).mono ?_
          rintro e w22 ⟨z1, hz10, hz11, rfl, hc22, hg22⟩
          have HD22 := Lib.hid (HD21.out.gbr hp hc22 hg22)
          obtain ⟨zk1, rfl⟩ := Int.eq_ofNat_of_zero_le hz10
          obtain ⟨tv1, hb1⟩ : ∃ tv : Int, ([Value.int .i64 0, .int .i64 0, .int .i64 1, .int .i64 3, .int .i64 4] : List Value)[zk1]? = some (.int .i64 tv) := pick5 (by omega)
          have ha1 := Lib.hid hb1
          clear hb1
          clear hg22 hc22
          try dsimp only
          refine hK.out _ _ (fun _ => ⟨HD22.out.1.gb.cell 0 rfl, HD22.out.1.gb.cell 1 rfl⟩) ?_
          try simp only [Act.put]
          try simp only [List.setIfInBounds_toArray]
          try simp only [List.set_cons_succ, List.set_cons_zero]
          refine WpLate.each (rs := [1, 6]) (by kernel_rfl) (by simp) (LateEach.cons rfl (fun K hK => ?_) (LateEach.cons rfl (fun K hK => ?_) LateEach.nil))
          · skip
            go_simp
            have HM23 := Lib.hid (HD22.out.alloc hp (.cells #[.int .i64 0, .int .i64 1, .int .i64 100, .int .i64 101, .int .i64 301] 2))
            have gz23 := HD22.out.1.gb.lt
            have pz23 := HD22.out.1.cur.lt
            have HN23_0 : Hid (Has (w22.alloc (.cells #[.int .i64 0, .int .i64 1, .int .i64 100, .int .i64 101, .int .i64 301] 2)) w22.heap.size [.int .i64 0, .int .i64 1, .int .i64 100, .int .i64 101, .int .i64 301]) := Lib.hid Has.one
            obtain ⟨w23, hw23⟩ : ∃ x, x = w22.alloc (.cells #[.int .i64 0, .int .i64 1, .int .i64 100, .int .i64 101, .int .i64 301] 2) := ⟨_, rfl⟩
            rw [← hw23] at HM23 HN23_0 ⊢
            clear hw23
            have HD23 := HM23
            clear HM23
            refine hK.out _ _ (fun _ => ⟨HD23.out.1.gb.cell 0 rfl, HD23.out.1.gb.cell 1 rfl⟩) ?_
            try simp only [Act.put]
            try simp only [List.setIfInBounds_toArray]
            try simp only [List.set_cons_succ, List.set_cons_zero]
            refine WpLate.take (i := 4) (v := .pointer (some ⟨w22.heap.size, zk0, none⟩)) rfl (by kernel_rfl) (by kernel_rfl) (by kernel_rfl) (by kernel_rfl) (by kernel_rfl) (fun _ _ _ h => h) (Or.inl ⟨by rfl, fun w' hw => ?_⟩) ⟨HD23.out.1.gb.cell 0 rfl, HD23.out.1.gb.cell 1 rfl⟩ ?_
            · go_simp
            try simp only [Act.put]
            try simp only [List.setIfInBounds_toArray]
            try simp only [List.set_cons_succ, List.set_cons_zero]
            refine WpLate.mono (S' := fun w' => w'.cell? ⟨g, 0, none⟩ = some (.int .i64 l.base) ∧ w'.cell? ⟨g, 1, none⟩ = some (.slice A n c) ∧ w'.cell? ⟨w22.heap.size, zk0, none⟩ = some (.int .i64 tv0)) (fun _ h => ⟨h.1, h.2.1⟩) ?_
            refine WpLate.take (i := 5) (v := .int .i64 tv0) rfl (by kernel_rfl) (by kernel_rfl) (by kernel_rfl) (by kernel_rfl) (by kernel_rfl) (fun _ _ _ h => h) (Or.inl ⟨by rfl, fun w' hw => ?_⟩) ⟨HD23.out.1.gb.cell 0 rfl, HD23.out.1.gb.cell 1 rfl, HN23_0.out zk0 _ ha0.out⟩ ?_
            · obtain ⟨hw0, hw1, hw2⟩ := hw; go_simp
            try simp only [Act.put]
            try simp only [List.setIfInBounds_toArray]
            try simp only [List.set_cons_succ, List.set_cons_zero]
            refine WpLate.each (rs := [6]) (by kernel_rfl) (by simp) (LateEach.cons rfl (fun K hK => ?_) LateEach.nil)
            go_simp
            have HM24 := Lib.hid (HD23.out.alloc hp (.cells #[.int .i64 0, .int .i64 0, .int .i64 1, .int .i64 3, .int .i64 4] 2))
            have gz24 := HD23.out.1.gb.lt
            have pz24 := HD23.out.1.cur.lt
            have HN24_0 := Lib.hid (HN23_0.out.alloc (.cells #[.int .i64 0, .int .i64 0, .int .i64 1, .int .i64 3, .int .i64 4] 2))
            have HN24_1 : Hid (Has (w23.alloc (.cells #[.int .i64 0, .int .i64 0, .int .i64 1, .int .i64 3, .int .i64 4] 2)) w23.heap.size [.int .i64 0, .int .i64 0, .int .i64 1, .int .i64 3, .int .i64 4]) := Lib.hid Has.one
            obtain ⟨w24, hw24⟩ : ∃ x, x = w23.alloc (.cells #[.int .i64 0, .int .i64 0, .int .i64 1, .int .i64 3, .int .i64 4] 2) := ⟨_, rfl⟩
            rw [← hw24] at HM24 HN24_0 HN24_1 ⊢
            clear hw24
            have HD24 := HM24
            clear HM24
            refine hK.out _ _ (fun _ => ⟨HD24.out.1.gb.cell 0 rfl, HD24.out.1.gb.cell 1 rfl, HN24_0.out zk0 _ ha0.out⟩) ?_
            try simp only [Act.put]
            try simp only [List.setIfInBounds_toArray]
            try simp only [List.set_cons_succ, List.set_cons_zero]
            refine WpLate.take (i := 9) (v := .pointer (some ⟨w23.heap.size, zk1, none⟩)) rfl (by kernel_rfl) (by kernel_rfl) (by kernel_rfl) (by kernel_rfl) (by kernel_rfl) (fun _ _ _ h => h) (Or.inl ⟨by rfl, fun w' hw => ?_⟩) ⟨HD24.out.1.gb.cell 0 rfl, HD24.out.1.gb.cell 1 rfl, HN24_0.out zk0 _ ha0.out⟩ ?_
            · go_simp
            try simp only [Act.put]
            try simp only [List.setIfInBounds_toArray]
            try simp only [List.set_cons_succ, List.set_cons_zero]
            refine WpLate.mono (S' := fun w' => w'.cell? ⟨g, 0, none⟩ = some (.int .i64 l.base) ∧ w'.cell? ⟨g, 1, none⟩ = some (.slice A n c) ∧ w'.cell? ⟨w22.heap.size, zk0, none⟩ = some (.int .i64 tv0) ∧ w'.cell? ⟨w23.heap.size, zk1, none⟩ = some (.int .i64 tv1)) (fun _ h => ⟨h.1, h.2.1, h.2.2.1⟩) ?_
            refine WpLate.take (i := 10) (v := .int .i64 tv1) rfl (by kernel_rfl) (by kernel_rfl) (by kernel_rfl) (by kernel_rfl) (by kernel_rfl) (fun _ _ _ h => h) (Or.inl ⟨by rfl, fun w' hw => ?_⟩) ⟨HD24.out.1.gb.cell 0 rfl, HD24.out.1.gb.cell 1 rfl, HN24_0.out zk0 _ ha0.out, HN24_1.out zk1 _ ha1.out⟩ ?_
            · obtain ⟨hw0, hw1, hw2, hw3⟩ := hw; go_simp
            try simp only [Act.put]
            try simp only [List.setIfInBounds_toArray]
            try simp only [List.set_cons_succ, List.set_cons_zero]
            refine WpLate.each (rs := [11]) (by kernel_rfl) (by simp) (LateEach.cons rfl (fun K hK => ?_) LateEach.nil)
            go_simp
            refine (spec_with0 _ l _ _ _ HD24.out.rd HD24.out.2.2).mono ?_
            rintro e w25 ⟨v5, rfl, own5, hb5⟩
            have HG := Lib.hid (HD24.out.below hp hb5)
            have OL : Hid (OffLab (w.heap.size + 1) g w25 v5 (withL l tv0 tv1).1) := Lib.hid (own5.off (by have := HD24.out.1.hg; have := HD24.out.1.gb.lt; omega) (.inl HD24.out.1.gb.lt))
            obtain ⟨A5, n5, c5, rfl, -, -, -⟩ := own5
            have gk0 := HG.out.1.gb.cell 0 rfl
            have gk1 := HG.out.1.gb.cell 1 rfl
            have gf0 := HG.out.1.gb.free 0
            have gf1 := HG.out.1.gb.free 1
            have HH := Lib.hid (HG.out.put hp OL.out (withL_le _ _ _))
            clear HG OL hb5
            try dsimp only
            refine hK.out _ _ (fun h => absurd h (by omega)) ?_
            try simp only [Act.put]
            try simp only [List.setIfInBounds_toArray]
            try simp only [List.set_cons_succ, List.set_cons_zero]
            refine WpLate.takeLate (i := 12) (v := .tuple #[.agg #[.int .i64 (withL l tv0 tv1).1.base, .slice A5 n5 c5], .bool (withL l tv0 tv1).2]) rfl (by kernel_rfl) (by kernel_rfl) (by kernel_rfl) (by kernel_rfl) (by kernel_rfl) (fun _ _ _ h => h) (Or.inl ⟨by rfl, fun w' hw => ?_⟩) ?_
            · go_simp
            try simp only [Act.put]
            try simp only [List.setIfInBounds_toArray]
            try simp only [List.set_cons_succ, List.set_cons_zero]
            refine WpLate.takeLate (i := 13) (v := .agg #[.int .i64 (withL l tv0 tv1).1.base, .slice A5 n5 c5]) rfl (by kernel_rfl) (by kernel_rfl) (by kernel_rfl) (by kernel_rfl) (by kernel_rfl) (fun _ _ _ h => h) (Or.inl ⟨by rfl, fun w' hw => ?_⟩) ?_
            · go_simp
            try simp only [Act.put]
            try simp only [List.setIfInBounds_toArray]
            try simp only [List.set_cons_succ, List.set_cons_zero]
            refine WpLate.takeLate (i := 14) (v := .bool (withL l tv0 tv1).2) rfl (by kernel_rfl) (by kernel_rfl) (by kernel_rfl) (by kernel_rfl) (by kernel_rfl) (fun _ _ _ h => h) (Or.inl ⟨by rfl, fun w' hw => ?_⟩) ?_
            · go_simp
            try simp only [Act.put]
            try simp only [List.setIfInBounds_toArray]
            try simp only [List.set_cons_succ, List.set_cons_zero]
            refine WpLate.each (rs := [15]) (by kernel_rfl) (by simp) (LateEach.cons rfl (fun K hK => ?_) LateEach.nil)
            go_simp
            refine hK.out _ _ (fun h => absurd h (by omega)) ?_
            try simp only [Act.put]
            try simp only [List.setIfInBounds_toArray]
            try simp only [List.set_cons_succ, List.set_cons_zero]
            refine WpLate.done (by kernel_rfl) ?_ _
            go_wp2
            go_roundw
            case rel => exact ⟨j - 1, _, A5, n5, c5, by omega, by simp; omega, HH⟩
            case measure => simp [intOf]; omega
          · skip
            go_simp
            have HM23 := Lib.hid (HD22.out.alloc hp (.cells #[.int .i64 0, .int .i64 0, .int .i64 1, .int .i64 3, .int .i64 4] 2))
            have gz23 := HD22.out.1.gb.lt
            have pz23 := HD22.out.1.cur.lt
            have HN23_1 : Hid (Has (w22.alloc (.cells #[.int .i64 0, .int .i64 0, .int .i64 1, .int .i64 3, .int .i64 4] 2)) w22.heap.size [.int .i64 0, .int .i64 0, .int .i64 1, .int .i64 3, .int .i64 4]) := Lib.hid Has.one
            obtain ⟨w23, hw23⟩ : ∃ x, x = w22.alloc (.cells #[.int .i64 0, .int .i64 0, .int .i64 1, .int .i64 3, .int .i64 4] 2) := ⟨_, rfl⟩
            rw [← hw23] at HM23 HN23_1 ⊢
            clear hw23
            have HD23 := HM23
            clear HM23
            refine hK.out _ _ (fun _ => ⟨HD23.out.1.gb.cell 0 rfl, HD23.out.1.gb.cell 1 rfl⟩) ?_
            try simp only [Act.put]
            try simp only [List.setIfInBounds_toArray]
            try simp only [List.set_cons_succ, List.set_cons_zero]
            refine WpLate.take (i := 9) (v := .pointer (some ⟨w22.heap.size, zk1, none⟩)) rfl (by kernel_rfl) (by kernel_rfl) (by kernel_rfl) (by kernel_rfl) (by kernel_rfl) (fun _ _ _ h => h) (Or.inl ⟨by rfl, fun w' hw => ?_⟩) ⟨HD23.out.1.gb.cell 0 rfl, HD23.out.1.gb.cell 1 rfl⟩ ?_
            · go_simp
            try simp only [Act.put]
            try simp only [List.setIfInBounds_toArray]
            try simp only [List.set_cons_succ, List.set_cons_zero]
            refine WpLate.mono (S' := fun w' => w'.cell? ⟨g, 0, none⟩ = some (.int .i64 l.base) ∧ w'.cell? ⟨g, 1, none⟩ = some (.slice A n c) ∧ w'.cell? ⟨w22.heap.size, zk1, none⟩ = some (.int .i64 tv1)) (fun _ h => ⟨h.1, h.2.1⟩) ?_
            refine WpLate.take (i := 10) (v := .int .i64 tv1) rfl (by kernel_rfl) (by kernel_rfl) (by kernel_rfl) (by kernel_rfl) (by kernel_rfl) (fun _ _ _ h => h) (Or.inl ⟨by rfl, fun w' hw => ?_⟩) ⟨HD23.out.1.gb.cell 0 rfl, HD23.out.1.gb.cell 1 rfl, HN23_1.out zk1 _ ha1.out⟩ ?_
            · obtain ⟨hw0, hw1, hw2⟩ := hw; go_simp
            try simp only [Act.put]
            try simp only [List.setIfInBounds_toArray]
            try simp only [List.set_cons_succ, List.set_cons_zero]
            refine WpLate.each (rs := [1]) (by kernel_rfl) (by simp) (LateEach.cons rfl (fun K hK => ?_) LateEach.nil)
            go_simp
            have HM24 := Lib.hid (HD23.out.alloc hp (.cells #[.int .i64 0, .int .i64 1, .int .i64 100, .int .i64 101, .int .i64 301] 2))
            have gz24 := HD23.out.1.gb.lt
            have pz24 := HD23.out.1.cur.lt
            have HN24_1 := Lib.hid (HN23_1.out.alloc (.cells #[.int .i64 0, .int .i64 1, .int .i64 100, .int .i64 101, .int .i64 301] 2))
            have HN24_0 : Hid (Has (w23.alloc (.cells #[.int .i64 0, .int .i64 1, .int .i64 100, .int .i64 101, .int .i64 301] 2)) w23.heap.size [.int .i64 0, .int .i64 1, .int .i64 100, .int .i64 101, .int .i64 301]) := Lib.hid Has.one
            obtain ⟨w24, hw24⟩ : ∃ x, x = w23.alloc (.cells #[.int .i64 0, .int .i64 1, .int .i64 100, .int .i64 101, .int .i64 301] 2) := ⟨_, rfl⟩
            rw [← hw24] at HM24 HN24_1 HN24_0 ⊢
            clear hw24
            have HD24 := HM24
            clear HM24
            refine hK.out _ _ (fun _ => ⟨HD24.out.1.gb.cell 0 rfl, HD24.out.1.gb.cell 1 rfl, HN24_1.out zk1 _ ha1.out⟩) ?_
            try simp only [Act.put]
            try simp only [List.setIfInBounds_toArray]
            try simp only [List.set_cons_succ, List.set_cons_zero]
            refine WpLate.take (i := 4) (v := .pointer (some ⟨w23.heap.size, zk0, none⟩)) rfl (by kernel_rfl) (by kernel_rfl) (by kernel_rfl) (by kernel_rfl) (by kernel_rfl) (fun _ _ _ h => h) (Or.inl ⟨by rfl, fun w' hw => ?_⟩) ⟨HD24.out.1.gb.cell 0 rfl, HD24.out.1.gb.cell 1 rfl, HN24_1.out zk1 _ ha1.out⟩ ?_
            · go_simp
            try simp only [Act.put]
            try simp only [List.setIfInBounds_toArray]
            try simp only [List.set_cons_succ, List.set_cons_zero]
            refine WpLate.mono (S' := fun w' => w'.cell? ⟨g, 0, none⟩ = some (.int .i64 l.base) ∧ w'.cell? ⟨g, 1, none⟩ = some (.slice A n c) ∧ w'.cell? ⟨w22.heap.size, zk1, none⟩ = some (.int .i64 tv1) ∧ w'.cell? ⟨w23.heap.size, zk0, none⟩ = some (.int .i64 tv0)) (fun _ h => ⟨h.1, h.2.1, h.2.2.1⟩) ?_
            refine WpLate.take (i := 5) (v := .int .i64 tv0) rfl (by kernel_rfl) (by kernel_rfl) (by kernel_rfl) (by kernel_rfl) (by kernel_rfl) (fun _ _ _ h => h) (Or.inl ⟨by rfl, fun w' hw => ?_⟩) ⟨HD24.out.1.gb.cell 0 rfl, HD24.out.1.gb.cell 1 rfl, HN24_1.out zk1 _ ha1.out, HN24_0.out zk0 _ ha0.out⟩ ?_
            · obtain ⟨hw0, hw1, hw2, hw3⟩ := hw; go_simp
            try simp only [Act.put]
            try simp only [List.setIfInBounds_toArray]
            try simp only [List.set_cons_succ, List.set_cons_zero]
            refine WpLate.each (rs := [11]) (by kernel_rfl) (by simp) (LateEach.cons rfl (fun K hK => ?_) LateEach.nil)
            go_simp
            refine (spec_with0 _ l _ _ _ HD24.out.rd HD24.out.2.2).mono ?_
            rintro e w25 ⟨v5, rfl, own5, hb5⟩
            have HG := Lib.hid (HD24.out.below hp hb5)
            have OL : Hid (OffLab (w.heap.size + 1) g w25 v5 (withL l tv0 tv1).1) := Lib.hid (own5.off (by have := HD24.out.1.hg; have := HD24.out.1.gb.lt; omega) (.inl HD24.out.1.gb.lt))
            obtain ⟨A5, n5, c5, rfl, -, -, -⟩ := own5
            have gk0 := HG.out.1.gb.cell 0 rfl
            have gk1 := HG.out.1.gb.cell 1 rfl
            have gf0 := HG.out.1.gb.free 0
            have gf1 := HG.out.1.gb.free 1
            have HH := Lib.hid (HG.out.put hp OL.out (withL_le _ _ _))
            clear HG OL hb5
            try dsimp only
            refine hK.out _ _ (fun h => absurd h (by omega)) ?_
            try simp only [Act.put]
            try simp only [List.setIfInBounds_toArray]
            try simp only [List.set_cons_succ, List.set_cons_zero]
            refine WpLate.takeLate (i := 12) (v := .tuple #[.agg #[.int .i64 (withL l tv0 tv1).1.base, .slice A5 n5 c5], .bool (withL l tv0 tv1).2]) rfl (by kernel_rfl) (by kernel_rfl) (by kernel_rfl) (by kernel_rfl) (by kernel_rfl) (fun _ _ _ h => h) (Or.inl ⟨by rfl, fun w' hw => ?_⟩) ?_
            · go_simp
            try simp only [Act.put]
            try simp only [List.setIfInBounds_toArray]
            try simp only [List.set_cons_succ, List.set_cons_zero]
            refine WpLate.takeLate (i := 13) (v := .agg #[.int .i64 (withL l tv0 tv1).1.base, .slice A5 n5 c5]) rfl (by kernel_rfl) (by kernel_rfl) (by kernel_rfl) (by kernel_rfl) (by kernel_rfl) (fun _ _ _ h => h) (Or.inl ⟨by rfl, fun w' hw => ?_⟩) ?_
            · go_simp
            try simp only [Act.put]
            try simp only [List.setIfInBounds_toArray]
            try simp only [List.set_cons_succ, List.set_cons_zero]
            refine WpLate.takeLate (i := 14) (v := .bool (withL l tv0 tv1).2) rfl (by kernel_rfl) (by kernel_rfl) (by kernel_rfl) (by kernel_rfl) (by kernel_rfl) (fun _ _ _ h => h) (Or.inl ⟨by rfl, fun w' hw => ?_⟩) ?_
            · go_simp
            try simp only [Act.put]
            try simp only [List.setIfInBounds_toArray]
            try simp only [List.set_cons_succ, List.set_cons_zero]
            refine WpLate.each (rs := [15]) (by kernel_rfl) (by simp) (LateEach.cons rfl (fun K hK => ?_) LateEach.nil)
            go_simp
            refine hK.out _ _ (fun h => absurd h (by omega)) ?_
            try simp only [Act.put]
            try simp only [List.setIfInBounds_toArray]
            try simp only [List.set_cons_succ, List.set_cons_zero]
            refine WpLate.done (by kernel_rfl) ?_ _
            go_wp2
            go_roundw
            case rel => exact ⟨j - 1, _, A5, n5, c5, by omega, by simp; omega, HH⟩
            case measure => simp [intOf]; omega
      · skip
        go_simp
        have HM21 := Lib.hid (HD.out.alloc hp (.cells #[.int .i64 0, .int .i64 0, .int .i64 1, .int .i64 3, .int .i64 4] 2))
        have gz21 := HD.out.1.gb.lt
        have pz21 := HD.out.1.cur.lt
        have HN21_1 : Hid (Has (wx.alloc (.cells #[.int .i64 0, .int .i64 0, .int .i64 1, .int .i64 3, .int .i64 4] 2)) wx.heap.size [.int .i64 0, .int .i64 0, .int .i64 1, .int .i64 3, .int .i64 4]) := Lib.hid Has.one
        obtain ⟨w21, hw21⟩ : ∃ x, x = wx.alloc (.cells #[.int .i64 0, .int .i64 0, .int .i64 1, .int .i64 3, .int .i64 4] 2) := ⟨_, rfl⟩
        rw [← hw21] at HM21 HN21_1 ⊢
        clear hw21
        have HD21 := HM21
        clear HM21
        refine hK.out _ _ (fun _ => ⟨HD21.out.1.gb.cell 0 rfl, HD21.out.1.gb.cell 1 rfl⟩) ?_
        try simp only [Act.put]
        try simp only [List.setIfInBounds_toArray]
        try simp only [List.set_cons_succ, List.set_cons_zero]
        refine WpLate.each (rs := [1, 3]) (by kernel_rfl) (by simp) (LateEach.cons rfl (fun K hK => ?_) (LateEach.cons rfl (fun K hK => ?_) LateEach.nil))
        · skip
          go_simp
          have HM22 := Lib.hid (HD21.out.alloc hp (.cells #[.int .i64 0, .int .i64 1, .int .i64 100, .int .i64 101, .int .i64 301] 2))
          have gz22 := HD21.out.1.gb.lt
          have pz22 := HD21.out.1.cur.lt
          have HN22_1 := Lib.hid (HN21_1.out.alloc (.cells #[.int .i64 0, .int .i64 1, .int .i64 100, .int .i64 101, .int .i64 301] 2))
          have HN22_0 : Hid (Has (w21.alloc (.cells #[.int .i64 0, .int .i64 1, .int .i64 100, .int .i64 101, .int .i64 301] 2)) w21.heap.size [.int .i64 0, .int .i64 1, .int .i64 100, .int .i64 101, .int .i64 301]) := Lib.hid Has.one
          obtain ⟨w22, hw22⟩ : ∃ x, x = w21.alloc (.cells #[.int .i64 0, .int .i64 1, .int .i64 100, .int .i64 101, .int .i64 301] 2) := ⟨_, rfl⟩
          rw [← hw22] at HM22 HN22_1 HN22_0 ⊢
          clear hw22
          have HD22 := HM22
          clear HM22
          refine hK.out _ _ (fun _ => ⟨HD22.out.1.gb.cell 0 rfl, HD22.out.1.gb.cell 1 rfl⟩) ?_
          try simp only [Act.put]
          try simp only [List.setIfInBounds_toArray]
          try simp only [List.set_cons_succ, List.set_cons_zero]
          refine WpLate.each (rs := [3]) (by kernel_rfl) (by simp) (LateEach.cons rfl (fun K hK => ?_) LateEach.nil)
          go_simp
          refine (below_any p a len cap zs _ _ hl (by omega) (by omega) HD22.out.cur (hr.kept HD22.out.grown)).mono ?_
          rintro e w23 ⟨z0, hz00, hz01, rfl, hc23, hg23⟩
          have HD23 := Lib.hid (HD22.out.gbr hp hc23 hg23)
          have HN23_1 := Lib.hid (HN22_1.out.gbr hg23 (by have := HD22.out.1.cur.lt; omega))
          have HN23_0 := Lib.hid (HN22_0.out.gbr hg23 (by have := HD22.out.1.cur.lt; omega))
          obtain ⟨zk0, rfl⟩ := Int.eq_ofNat_of_zero_le hz00
          obtain ⟨tv0, hb0⟩ : ∃ tv : Int, ([Value.int .i64 0, .int .i64 1, .int .i64 100, .int .i64 101, .int .i64 301] : List Value)[zk0]? = some (.int .i64 tv) := pick5 (by omega)
          have ha0 := Lib.hid hb0
          clear hb0
          clear hg23 hc23
          try dsimp only
          refine hK.out _ _ (fun _ => ⟨HD23.out.1.gb.cell 0 rfl, HD23.out.1.gb.cell 1 rfl⟩) ?_
          try simp only [Act.put]
          try simp only [List.setIfInBounds_toArray]
          try simp only [List.set_cons_succ, List.set_cons_zero]
          refine WpLate.take (i := 4) (v := .pointer (some ⟨w21.heap.size, zk0, none⟩)) rfl (by kernel_rfl) (by kernel_rfl) (by kernel_rfl) (by kernel_rfl) (by kernel_rfl) (fun _ _ _ h => h) (Or.inl ⟨by rfl, fun w' hw => ?_⟩) ⟨HD23.out.1.gb.cell 0 rfl, HD23.out.1.gb.cell 1 rfl⟩ ?_
          · go_simp
          try simp only [Act.put]
          try simp only [List.setIfInBounds_toArray]
          try simp only [List.set_cons_succ, List.set_cons_zero]
          refine WpLate.mono (S' := fun w' => w'.cell? ⟨g, 0, none⟩ = some (.int .i64 l.base) ∧ w'.cell? ⟨g, 1, none⟩ = some (.slice A n c) ∧ w'.cell? ⟨w21.heap.size, zk0, none⟩ = some (.int .i64 tv0)) (fun _ h => ⟨h.1, h.2.1⟩) ?_
          refine WpLate.take (i := 5) (v := .int .i64 tv0) rfl (by kernel_rfl) (by kernel_rfl) (by kernel_rfl) (by kernel_rfl) (by kernel_rfl) (fun _ _ _ h => h) (Or.inl ⟨by rfl, fun w' hw => ?_⟩) ⟨HD23.out.1.gb.cell 0 rfl, HD23.out.1.gb.cell 1 rfl, HN23_0.out zk0 _ ha0.out⟩ ?_
          · obtain ⟨hw0, hw1, hw2⟩ := hw; go_simp
          try simp only [Act.put]
          try simp only [List.setIfInBounds_toArray]
          try simp only [List.set_cons_succ, List.set_cons_zero]
          refine WpLate.each (rs := [8]) (by kernel_rfl) (by simp) (LateEach.cons rfl (fun K hK => ?_) LateEach.nil)
          go_simp
          refine (below_any p a len cap zs _ _ hl (by omega) (by omega) HD23.out.cur (hr.kept HD23.out.grown)).mono ?_
          rintro e w24 ⟨z1, hz10, hz11, rfl, hc24, hg24⟩
          have HD24 := Lib.hid (HD23.out.gbr hp hc24 hg24)
          have HN24_1 := Lib.hid (HN23_1.out.gbr hg24 (by have := HD23.out.1.cur.lt; omega))
          have HN24_0 := Lib.hid (HN23_0.out.gbr hg24 (by have := HD23.out.1.cur.lt; omega))
          obtain ⟨zk1, rfl⟩ := Int.eq_ofNat_of_zero_le hz10
          obtain ⟨tv1, hb1⟩ : ∃ tv : Int, ([Value.int .i64 0, .int .i64 0, .int .i64 1, .int .i64 3, .int .i64 4] : List Value)[zk1]? = some (.int .i64 tv) := pick5 (by omega)
          have ha1 := Lib.hid hb1
          clear hb1
          clear hg24 hc24
          try dsimp only
          refine hK.out _ _ (fun _ => ⟨HD24.out.1.gb.cell 0 rfl, HD24.out.1.gb.cell 1 rfl, HN24_0.out zk0 _ ha0.out⟩) ?_
          try simp only [Act.put]
          try simp only [List.setIfInBounds_toArray]
          try simp only [List.set_cons_succ, List.set_cons_zero]
          refine WpLate.take (i := 9) (v := .pointer (some ⟨wx.heap.size, zk1, none⟩)) rfl (by kernel_rfl) (by kernel_rfl) (by kernel_rfl) (by kernel_rfl) (by kernel_rfl) (fun _ _ _ h => h) (Or.inl ⟨by rfl, fun w' hw => ?_⟩) ⟨HD24.out.1.gb.cell 0 rfl, HD24.out.1.gb.cell 1 rfl, HN24_0.out zk0 _ ha0.out⟩ ?_
          · go_simp
          try simp only [Act.put]
          try simp only [List.setIfInBounds_toArray]
          try simp only [List.set_cons_succ, List.set_cons_zero]
          refine WpLate.mono (S' := fun w' => w'.cell? ⟨g, 0, none⟩ = some (.int .i64 l.base) ∧ w'.cell? ⟨g, 1, none⟩ = some (.slice A n c) ∧ w'.cell? ⟨w21.heap.size, zk0, none⟩ = some (.int .i64 tv0) ∧ w'.cell? ⟨wx.heap.size, zk1, none⟩ = some (.int .i64 tv1)) (fun _ h => ⟨h.1, h.2.1, h.2.2.1⟩) ?_
          refine WpLate.take (i := 10) (v := .int .i64 tv1) rfl (by kernel_rfl) (by kernel_rfl) (by kernel_rfl) (by kernel_rfl) (by kernel_rfl) (fun _ _ _ h => h) (Or.inl ⟨by rfl, fun w' hw => ?_⟩) ⟨HD24.out.1.gb.cell 0 rfl, HD24.out.1.gb.cell 1 rfl, HN24_0.out zk0 _ ha0.out, HN24_1.out zk1 _ ha1.out⟩ ?_
          · obtain ⟨hw0, hw1, hw2, hw3⟩ := hw; go_simp
          try simp only [Act.put]
          try simp only [List.setIfInBounds_toArray]
          try simp only [List.set_cons_succ, List.set_cons_zero]
          refine WpLate.each (rs := [11]) (by kernel_rfl) (by simp) (LateEach.cons rfl (fun K hK => ?_) LateEach.nil)
          go_simp
          refine (spec_with0 _ l _ _ _ HD24.out.rd HD24.out.2.2).mono ?_
          rintro e w25 ⟨v5, rfl, own5, hb5⟩
          have HG := Lib.hid (HD24.out.below hp hb5)
          have OL : Hid (OffLab (w.heap.size + 1) g w25 v5 (withL l tv0 tv1).1) := Lib.hid (own5.off (by have := HD24.out.1.hg; have := HD24.out.1.gb.lt; omega) (.inl HD24.out.1.gb.lt))
          obtain ⟨A5, n5, c5, rfl, -, -, -⟩ := own5
          have gk0 := HG.out.1.gb.cell 0 rfl
          have gk1 := HG.out.1.gb.cell 1 rfl
          have gf0 := HG.out.1.gb.free 0
          have gf1 := HG.out.1.gb.free 1
          have HH := Lib.hid (HG.out.put hp OL.out (withL_le _ _ _))
          clear HG OL hb5
          try dsimp only
          refine hK.out _ _ (fun h => absurd h (by omega)) ?_
          try simp only [Act.put]
          try simp only [List.setIfInBounds_toArray]
          try simp only [List.set_cons_succ, List.set_cons_zero]
          refine WpLate.takeLate (i := 12) (v := .tuple #[.agg #[.int .i64 (withL l tv0 tv1).1.base, .slice A5 n5 c5], .bool (withL l tv0 tv1).2]) rfl (by kernel_rfl) (by kernel_rfl) (by kernel_rfl) (by kernel_rfl) (by kernel_rfl) (fun _ _ _ h => h) (Or.inl ⟨by rfl, fun w' hw => ?_⟩) ?_
          · go_simp
          try simp only [Act.put]
          try simp only [List.setIfInBounds_toArray]
          try simp only [List.set_cons_succ, List.set_cons_zero]
          refine WpLate.takeLate (i := 13) (v := .agg #[.int .i64 (withL l tv0 tv1).1.base, .slice A5 n5 c5]) rfl (by kernel_rfl) (by kernel_rfl) (by kernel_rfl) (by kernel_rfl) (by kernel_rfl) (fun _ _ _ h => h) (Or.inl ⟨by rfl, fun w' hw => ?_⟩) ?_
          · go_simp
          try simp only [Act.put]
          try simp only [List.setIfInBounds_toArray]
          try simp only [List.set_cons_succ, List.set_cons_zero]
          refine WpLate.takeLate (i := 14) (v := .bool (withL l tv0 tv1).2) rfl (by kernel_rfl) (by kernel_rfl) (by kernel_rfl) (by kernel_rfl) (by kernel_rfl) (fun _ _ _ h => h) (Or.inl ⟨by rfl, fun w' hw => ?_⟩) ?_
          · go_simp
          try simp only [Act.put]
          try simp only [List.setIfInBounds_toArray]
          try simp only [List.set_cons_succ, List.set_cons_zero]
          refine WpLate.each (rs := [15]) (by kernel_rfl) (by simp) (LateEach.cons rfl (fun K hK => ?_) LateEach.nil)
          go_simp
          refine hK.out _ _ (fun h => absurd h (by omega)) ?_
          try simp only [Act.put]
          try simp only [List.setIfInBounds_toArray]
          try simp only [List.set_cons_succ, List.set_cons_zero]
          refine WpLate.done (by kernel_rfl) ?_ _
          go_wp2
          go_roundw
          case rel => exact ⟨j - 1, _, A5, n5, c5, by omega, by simp; omega, HH⟩
          case measure => simp [intOf]; omega
        · skip
          go_simp
          refine (below_any p a len cap zs _ _ hl (by omega) (by omega) HD21.out.cur (hr.kept HD21.out.grown)).mono ?_
          rintro e w22 ⟨z0, hz00, hz01, rfl, hc22, hg22⟩
          have HD22 := Lib.hid (HD21.out.gbr hp hc22 hg22)
          have HN22_1 := Lib.hid (HN21_1.out.gbr hg22 (by have := HD21.out.1.cur.lt; omega))
          obtain ⟨zk0, rfl⟩ := Int.eq_ofNat_of_zero_le hz00
          obtain ⟨tv0, hb0⟩ : ∃ tv : Int, ([Value.int .i64 0, .int .i64 1, .int .i64 100, .int .i64 101, .int .i64 301] : List Value)[zk0]? = some (.int .i64 tv) := pick5 (by omega)
          have ha0 := Lib.hid hb0
          clear hb0
          clear hg22 hc22
          try dsimp only
          refine hK.out _ _ (fun _ => ⟨HD22.out.1.gb.cell 0 rfl, HD22.out.1.gb.cell 1 rfl⟩) ?_
          try simp only [Act.put]
          try simp only [List.setIfInBounds_toArray]
          try simp only [List.set_cons_succ, List.set_cons_zero]
          refine WpLate.each (rs := [1, 8]) (by kernel_rfl) (by simp) (LateEach.cons rfl (fun K hK => ?_) (LateEach.cons rfl (fun K hK => ?_) LateEach.nil))
          · skip
            go_simp
            have HM23 := Lib.hid (HD22.out.alloc hp (.cells #[.int .i64 0, .int .i64 1, .int .i64 100, .int .i64 101, .int .i64 301] 2))
            have gz23 := HD22.out.1.gb.lt
            have pz23 := HD22.out.1.cur.lt
            have HN23_1 := Lib.hid (HN22_1.out.alloc (.cells #[.int .i64 0, .int .i64 1, .int .i64 100, .int .i64 101, .int .i64 301] 2))
            have HN23_0 : Hid (Has (w22.alloc (.cells #[.int .i64 0, .int .i64 1, .int .i64 100, .int .i64 101, .int .i64 301] 2)) w22.heap.size [.int .i64 0, .int .i64 1, .int .i64 100, .int .i64 101, .int .i64 301]) := Lib.hid Has.one
            obtain ⟨w23, hw23⟩ : ∃ x, x = w22.alloc (.cells #[.int .i64 0, .int .i64 1, .int .i64 100, .int .i64 101, .int .i64 301] 2) := ⟨_, rfl⟩
            rw [← hw23] at HM23 HN23_1 HN23_0 ⊢
            clear hw23
            have HD23 := HM23
            clear HM23
            refine hK.out _ _ (fun _ => ⟨HD23.out.1.gb.cell 0 rfl, HD23.out.1.gb.cell 1 rfl⟩) ?_
            try simp only [Act.put]
            try simp only [List.setIfInBounds_toArray]
            try simp only [List.set_cons_succ, List.set_cons_zero]
            refine WpLate.take (i := 4) (v := .pointer (some ⟨w22.heap.size, zk0, none⟩)) rfl (by kernel_rfl) (by kernel_rfl) (by kernel_rfl) (by kernel_rfl) (by kernel_rfl) (fun _ _ _ h => h) (Or.inl ⟨by rfl, fun w' hw => ?_⟩) ⟨HD23.out.1.gb.cell 0 rfl, HD23.out.1.gb.cell 1 rfl⟩ ?_
            · go_simp
            try simp only [Act.put]
            try simp only [List.setIfInBounds_toArray]
            try simp only [List.set_cons_succ, List.set_cons_zero]
            refine WpLate.mono (S' := fun w' => w'.cell? ⟨g, 0, none⟩ = some (.int .i64 l.base) ∧ w'.cell? ⟨g, 1, none⟩ = some (.slice A n c) ∧ w'.cell? ⟨w22.heap.size, zk0, none⟩ = some (.int .i64 tv0)) (fun _ h => ⟨h.1, h.2.1⟩) ?_
            refine WpLate.take (i := 5) (v := .int .i64 tv0) rfl (by kernel_rfl) (by kernel_rfl) (by kernel_rfl) (by kernel_rfl) (by kernel_rfl) (fun _ _ _ h => h) (Or.inl ⟨by rfl, fun w' hw => ?_⟩) ⟨HD23.out.1.gb.cell 0 rfl, HD23.out.1.gb.cell 1 rfl, HN23_0.out zk0 _ ha0.out⟩ ?_
            · obtain ⟨hw0, hw1, hw2⟩ := hw; go_simp
            try simp only [Act.put]
            try simp only [List.setIfInBounds_toArray]
            try simp only [List.set_cons_succ, List.set_cons_zero]
            refine WpLate.each (rs := [8]) (by kernel_rfl) (by simp) (LateEach.cons rfl (fun K hK => ?_) LateEach.nil)
            go_simp
            refine (below_any p a len cap zs _ _ hl (by omega) (by omega) HD23.out.cur (hr.kept HD23.out.grown)).mono ?_
            rintro e w24 ⟨z1, hz10, hz11, rfl, hc24, hg24⟩
            have HD24 := Lib.hid (HD23.out.gbr hp hc24 hg24)
            have HN24_1 := Lib.hid (HN23_1.out.gbr hg24 (by have := HD23.out.1.cur.lt; omega))
            have HN24_0 := Lib.hid (HN23_0.out.gbr hg24 (by have := HD23.out.1.cur.lt; omega))
            obtain ⟨zk1, rfl⟩ := Int.eq_ofNat_of_zero_le hz10
            obtain ⟨tv1, hb1⟩ : ∃ tv : Int, ([Value.int .i64 0, .int .i64 0, .int .i64 1, .int .i64 3, .int .i64 4] : List Value)[zk1]? = some (.int .i64 tv) := pick5 (by omega)
            have ha1 := Lib.hid hb1
            clear hb1
            clear hg24 hc24
            try dsimp only
            refine hK.out _ _ (fun _ => ⟨HD24.out.1.gb.cell 0 rfl, HD24.out.1.gb.cell 1 rfl, HN24_0.out zk0 _ ha0.out⟩) ?_
            try simp only [Act.put]
            try simp only [List.setIfInBounds_toArray]
            try simp only [List.set_cons_succ, List.set_cons_zero]
            refine WpLate.take (i := 9) (v := .pointer (some ⟨wx.heap.size, zk1, none⟩)) rfl (by kernel_rfl) (by kernel_rfl) (by kernel_rfl) (by kernel_rfl) (by kernel_rfl) (fun _ _ _ h => h) (Or.inl ⟨by rfl, fun w' hw => ?_⟩) ⟨HD24.out.1.gb.cell 0 rfl, HD24.out.1.gb.cell 1 rfl, HN24_0.out zk0 _ ha0.out⟩ ?_
            · go_simp
            try simp only [Act.put]
            try simp only [List.setIfInBounds_toArray]
            try simp only [List.set_cons_succ, List.set_cons_zero]
            refine WpLate.mono (S' := fun w' => w'.cell? ⟨g, 0, none⟩ = some (.int .i64 l.base) ∧ w'.cell? ⟨g, 1, none⟩ = some (.slice A n c) ∧ w'.cell? ⟨w22.heap.size, zk0, none⟩ = some (.int .i64 tv0) ∧ w'.cell? ⟨wx.heap.size, zk1, none⟩ = some (.int .i64 tv1)) (fun _ h => ⟨h.1, h.2.1, h.2.2.1⟩) ?_
            refine WpLate.take (i := 10) (v := .int .i64 tv1) rfl (by kernel_rfl) (by kernel_rfl) (by kernel_rfl) (by kernel_rfl) (by kernel_rfl) (fun _ _ _ h => h) (Or.inl ⟨by rfl, fun w' hw => ?_⟩) ⟨HD24.out.1.gb.cell 0 rfl, HD24.out.1.gb.cell 1 rfl, HN24_0.out zk0 _ ha0.out, HN24_1.out zk1 _ ha1.out⟩ ?_
            · obtain ⟨hw0, hw1, hw2, hw3⟩ := hw; go_simp
            try simp only [Act.put]
            try simp only [List.setIfInBounds_toArray]
            try simp only [List.set_cons_succ, List.set_cons_zero]
            refine WpLate.each (rs := [11]) (by kernel_rfl) (by simp) (LateEach.cons rfl (fun K hK => ?_) LateEach.nil)
            go_simp
            refine (spec_with0 _ l _ _ _ HD24.out.rd HD24.out.2.2).mono ?_
            rintro e w25 ⟨v5, rfl, own5, hb5⟩
            have HG := Lib.hid (HD24.out.below hp hb5)
            have OL : Hid (OffLab (w.heap.size + 1) g w25 v5 (withL l tv0 tv1).1) := Lib.hid (own5.off (by have := HD24.out.1.hg; have := HD24.out.1.gb.lt; omega) (.inl HD24.out.1.gb.lt))
            obtain ⟨A5, n5, c5, rfl, -, -, -⟩ := own5
            have gk0 := HG.out.1.gb.cell 0 rfl
            have gk1 := HG.out.1.gb.cell 1 rfl
            have gf0 := HG.out.1.gb.free 0
            have gf1 := HG.out.1.gb.free 1
            have HH := Lib.hid (HG.out.put hp OL.out (withL_le _ _ _))
            clear HG OL hb5
            try dsimp only
            refine hK.out _ _ (fun h => absurd h (by omega)) ?_
            try simp only [Act.put]
            try simp only [List.setIfInBounds_toArray]
            try simp only [List.set_cons_succ, List.set_cons_zero]
            refine WpLate.takeLate (i := 12) (v := .tuple #[.agg #[.int .i64 (withL l tv0 tv1).1.base, .slice A5 n5 c5], .bool (withL l tv0 tv1).2]) rfl (by kernel_rfl) (by kernel_rfl) (by kernel_rfl) (by kernel_rfl) (by kernel_rfl) (fun _ _ _ h => h) (Or.inl ⟨by rfl, fun w' hw => ?_⟩) ?_
            · go_simp
            try simp only [Act.put]
            try simp only [List.setIfInBounds_toArray]
            try simp only [List.set_cons_succ, List.set_cons_zero]
            refine WpLate.takeLate (i := 13) (v := .agg #[.int .i64 (withL l tv0 tv1).1.base, .slice A5 n5 c5]) rfl (by kernel_rfl) (by kernel_rfl) (by kernel_rfl) (by kernel_rfl) (by kernel_rfl) (fun _ _ _ h => h) (Or.inl ⟨by rfl, fun w' hw => ?_⟩) ?_
            · go_simp
            try simp only [Act.put]
            try simp only [List.setIfInBounds_toArray]
            try simp only [List.set_cons_succ, List.set_cons_zero]
            refine WpLate.takeLate (i := 14) (v := .bool (withL l tv0 tv1).2) rfl (by kernel_rfl) (by kernel_rfl) (by kernel_rfl) (by kernel_rfl) (by kernel_rfl) (fun _ _ _ h => h) (Or.inl ⟨by rfl, fun w' hw => ?_⟩) ?_
            · go_simp
            try simp only [Act.put]
            try simp only [List.setIfInBounds_toArray]
            try simp only [List.set_cons_succ, List.set_cons_zero]
            refine WpLate.each (rs := [15]) (by kernel_rfl) (by simp) (LateEach.cons rfl (fun K hK => ?_) LateEach.nil)
            go_simp
            refine hK.out _ _ (fun h => absurd h (by omega)) ?_
            try simp only [Act.put]
            try simp only [List.setIfInBounds_toArray]
            try simp only [List.set_cons_succ, List.set_cons_zero]
            refine WpLate.done (by kernel_rfl) ?_ _
            go_wp2
            go_roundw
            case rel => exact ⟨j - 1, _, A5, n5, c5, by omega, by simp; omega, HH⟩
            case measure => simp [intOf]; omega
          · skip
            go_simp
            refine (below_any p a len cap zs _ _ hl (by omega) (by omega) HD22.out.cur (hr.kept HD22.out.grown)).mono ?_
            rintro e w23 ⟨z1, hz10, hz11, rfl, hc23, hg23⟩
            have HD23 := Lib.hid (HD22.out.gbr hp hc23 hg23)
            have HN23_1 := Lib.hid (HN22_1.out.gbr hg23 (by have := HD22.out.1.cur.lt; omega))
            obtain ⟨zk1, rfl⟩ := Int.eq_ofNat_of_zero_le hz10
            obtain ⟨tv1, hb1⟩ : ∃ tv : Int, ([Value.int .i64 0, .int .i64 0, .int .i64 1, .int .i64 3, .int .i64 4] : List Value)[zk1]? = some (.int .i64 tv) := pick5 (by omega)
            have ha1 := Lib.hid hb1
            clear hb1
            clear hg23 hc23
            try dsimp only
            refine hK.out _ _ (fun _ => ⟨HD23.out.1.gb.cell 0 rfl, HD23.out.1.gb.cell 1 rfl⟩) ?_
            try simp only [Act.put]
            try simp only [List.setIfInBounds_toArray]
            try simp only [List.set_cons_succ, List.set_cons_zero]
            refine WpLate.take (i := 9) (v := .pointer (some ⟨wx.heap.size, zk1, none⟩)) rfl (by kernel_rfl) (by kernel_rfl) (by kernel_rfl) (by kernel_rfl) (by kernel_rfl) (fun _ _ _ h => h) (Or.inl ⟨by rfl, fun w' hw => ?_⟩) ⟨HD23.out.1.gb.cell 0 rfl, HD23.out.1.gb.cell 1 rfl⟩ ?_
            · go_simp
            try simp only [Act.put]
            try simp only [List.setIfInBounds_toArray]
            try simp only [List.set_cons_succ, List.set_cons_zero]
            refine WpLate.mono (S' := fun w' => w'.cell? ⟨g, 0, none⟩ = some (.int .i64 l.base) ∧ w'.cell? ⟨g, 1, none⟩ = some (.slice A n c) ∧ w'.cell? ⟨wx.heap.size, zk1, none⟩ = some (.int .i64 tv1)) (fun _ h => ⟨h.1, h.2.1⟩) ?_
            refine WpLate.take (i := 10) (v := .int .i64 tv1) rfl (by kernel_rfl) (by kernel_rfl) (by kernel_rfl) (by kernel_rfl) (by kernel_rfl) (fun _ _ _ h => h) (Or.inl ⟨by rfl, fun w' hw => ?_⟩) ⟨HD23.out.1.gb.cell 0 rfl, HD23.out.1.gb.cell 1 rfl, HN23_1.out zk1 _ ha1.out⟩ ?_
            · obtain ⟨hw0, hw1, hw2⟩ := hw; go_simp
            try simp only [Act.put]
            try simp only [List.setIfInBounds_toArray]
            try simp only [List.set_cons_succ, List.set_cons_zero]
            refine WpLate.each (rs := [1]) (by kernel_rfl) (by simp) (LateEach.cons rfl (fun K hK => ?_) LateEach.nil)
            go_simp
            have HM24 := Lib.hid (HD23.out.alloc hp (.cells #[.int .i64 0, .int .i64 1, .int .i64 100, .int .i64 101, .int .i64 301] 2))
            have gz24 := HD23.out.1.gb.lt
            have pz24 := HD23.out.1.cur.lt
            have HN24_1 := Lib.hid (HN23_1.out.alloc (.cells #[.int .i64 0, .int .i64 1, .int .i64 100, .int .i64 101, .int .i64 301] 2))
            have HN24_0 : Hid (Has (w23.alloc (.cells #[.int .i64 0, .int .i64 1, .int .i64 100, .int .i64 101, .int .i64 301] 2)) w23.heap.size [.int .i64 0, .int .i64 1, .int .i64 100, .int .i64 101, .int .i64 301]) := Lib.hid Has.one
            obtain ⟨w24, hw24⟩ : ∃ x, x = w23.alloc (.cells #[.int .i64 0, .int .i64 1, .int .i64 100, .int .i64 101, .int .i64 301] 2) := ⟨_, rfl⟩
            rw [← hw24] at HM24 HN24_1 HN24_0 ⊢
            clear hw24
            have HD24 := HM24
            clear HM24
            refine hK.out _ _ (fun _ => ⟨HD24.out.1.gb.cell 0 rfl, HD24.out.1.gb.cell 1 rfl, HN24_1.out zk1 _ ha1.out⟩) ?_
            try simp only [Act.put]
            try simp only [List.setIfInBounds_toArray]
            try simp only [List.set_cons_succ, List.set_cons_zero]
            refine WpLate.take (i := 4) (v := .pointer (some ⟨w23.heap.size, zk0, none⟩)) rfl (by kernel_rfl) (by kernel_rfl) (by kernel_rfl) (by kernel_rfl) (by kernel_rfl) (fun _ _ _ h => h) (Or.inl ⟨by rfl, fun w' hw => ?_⟩) ⟨HD24.out.1.gb.cell 0 rfl, HD24.out.1.gb.cell 1 rfl, HN24_1.out zk1 _ ha1.out⟩ ?_
            · go_simp
            try simp only [Act.put]
            try simp only [List.setIfInBounds_toArray]
            try simp only [List.set_cons_succ, List.set_cons_zero]
            refine WpLate.mono (S' := fun w' => w'.cell? ⟨g, 0, none⟩ = some (.int .i64 l.base) ∧ w'.cell? ⟨g, 1, none⟩ = some (.slice A n c) ∧ w'.cell? ⟨wx.heap.size, zk1, none⟩ = some (.int .i64 tv1) ∧ w'.cell? ⟨w23.heap.size, zk0, none⟩ = some (.int .i64 tv0)) (fun _ h => ⟨h.1, h.2.1, h.2.2.1⟩) ?_
            refine WpLate.take (i := 5) (v := .int .i64 tv0) rfl (by kernel_rfl) (by kernel_rfl) (by kernel_rfl) (by kernel_rfl) (by kernel_rfl) (fun _ _ _ h => h) (Or.inl ⟨by rfl, fun w' hw => ?_⟩) ⟨HD24.out.1.gb.cell 0 rfl, HD24.out.1.gb.cell 1 rfl, HN24_1.out zk1 _ ha1.out, HN24_0.out zk0 _ ha0.out⟩ ?_
            · obtain ⟨hw0, hw1, hw2, hw3⟩ := hw; go_simp
            try simp only [Act.put]
            try simp only [List.setIfInBounds_toArray]
            try simp only [List.set_cons_succ, List.set_cons_zero]
            refine WpLate.each (rs := [11]) (by kernel_rfl) (by simp) (LateEach.cons rfl (fun K hK => ?_) LateEach.nil)
            go_simp
            refine (spec_with0 _ l _ _ _ HD24.out.rd HD24.out.2.2).mono ?_
            rintro e w25 ⟨v5, rfl, own5, hb5⟩
            have HG := Lib.hid (HD24.out.below hp hb5)
            have OL : Hid (OffLab (w.heap.size + 1) g w25 v5 (withL l tv0 tv1).1) := Lib.hid (own5.off (by have := HD24.out.1.hg; have := HD24.out.1.gb.lt; omega) (.inl HD24.out.1.gb.lt))
            obtain ⟨A5, n5, c5, rfl, -, -, -⟩ := own5
            have gk0 := HG.out.1.gb.cell 0 rfl
            have gk1 := HG.out.1.gb.cell 1 rfl
            have gf0 := HG.out.1.gb.free 0
            have gf1 := HG.out.1.gb.free 1
            have HH := Lib.hid (HG.out.put hp OL.out (withL_le _ _ _))
            clear HG OL hb5
            try dsimp only
            refine hK.out _ _ (fun h => absurd h (by omega)) ?_
            try simp only [Act.put]
            try simp only [List.setIfInBounds_toArray]
            try simp only [List.set_cons_succ, List.set_cons_zero]
            refine WpLate.takeLate (i := 12) (v := .tuple #[.agg #[.int .i64 (withL l tv0 tv1).1.base, .slice A5 n5 c5], .bool (withL l tv0 tv1).2]) rfl (by kernel_rfl) (by kernel_rfl) (by kernel_rfl) (by kernel_rfl) (by kernel_rfl) (fun _ _ _ h => h) (Or.inl ⟨by rfl, fun w' hw => ?_⟩) ?_
            · go_simp
            try simp only [Act.put]
            try simp only [List.setIfInBounds_toArray]
            try simp only [List.set_cons_succ, List.set_cons_zero]
            refine WpLate.takeLate (i := 13) (v := .agg #[.int .i64 (withL l tv0 tv1).1.base, .slice A5 n5 c5]) rfl (by kernel_rfl) (by kernel_rfl) (by kernel_rfl) (by kernel_rfl) (by kernel_rfl) (fun _ _ _ h => h) (Or.inl ⟨by rfl, fun w' hw => ?_⟩) ?_
            · go_simp
            try simp only [Act.put]
            try simp only [List.setIfInBounds_toArray]
            try simp only [List.set_cons_succ, List.set_cons_zero]
            refine WpLate.takeLate (i := 14) (v := .bool (withL l tv0 tv1).2) rfl (by kernel_rfl) (by kernel_rfl) (by kernel_rfl) (by kernel_rfl) (by kernel_rfl) (fun _ _ _ h => h) (Or.inl ⟨by rfl, fun w' hw => ?_⟩) ?_
            · go_simp
            try simp only [Act.put]
            try simp only [List.setIfInBounds_toArray]
            try simp only [List.set_cons_succ, List.set_cons_zero]
            refine WpLate.each (rs := [15]) (by kernel_rfl) (by simp) (LateEach.cons rfl (fun K hK => ?_) LateEach.nil)
            go_simp
            refine hK.out _ _ (fun h => absurd h (by omega)) ?_
            try simp only [Act.put]
            try simp only [List.setIfInBounds_toArray]
            try simp only [List.set_cons_succ, List.set_cons_zero]
            refine WpLate.done (by kernel_rfl) ?_ _
            go_wp2
            go_roundw
            case rel => exact ⟨j - 1, _, A5, n5, c5, by omega, by simp; omega, HH⟩
            case measure => simp [intOf]; omega
    · obtain rfl : j = 0 := by omega
      have r0 := HD.out.1.rb.cell 0 rfl
      have r1 := HD.out.1.rb.cell 1 rfl
      have f0 := HD.out.1.rb.free 0
      have f1 := HD.out.1.rb.free 1
      have g0 := HD.out.1.gb.cell 0 rfl
      have g1 := HD.out.1.gb.cell 1 rfl
      go_wp2
      refine bodyPost_ret (v := .agg #[.int .i64 l.base, .slice A n c]) (by simp [results, Tryz.results77, go_sem, r0, r1]) rfl ?_
      exact HD.out.done hp
end Go.Proofs.YtnpeojlhjbdjiaaGreatDoor
