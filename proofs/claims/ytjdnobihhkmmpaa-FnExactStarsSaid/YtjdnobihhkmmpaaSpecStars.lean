/-
  Chapter 4 of the model: Stars.
-/
import Derived.Test.YtjdnobihhkmmpaaSpecOrd
import Derived.Test.YtjdnobihhkmmpaaSpecLab
namespace Go.Proofs.Ytjdnobihhkmmpaa
set_option maxRecDepth 100000
open Go.RowKit

theorem spec_star (x : Int) (w : World) : Calls Try.prog 37 #[.int .i64 x] w (RetS (.int .i64 (star x)) w) := by
  by_cases h : x = 0
  · have HE : Hid (star x = 0) := Lib.hid (by simp [star, h])
    have h1 : (x == 0) = true := by simpa using h
    clear h
    go_enter Try.func37, Try.ntmps37
    go_wp2
    go_ret
    exact .mk (by rw [HE.out]; rfl)
  · have HE : Hid (star x = 4) := Lib.hid (by simp [star, h])
    have h1 : (x == 0) = false := by simpa using h
    clear h
    go_enter Try.func37, Try.ntmps37
    go_wp2
    go_ret
    exact .mk (by rw [HE.out]; rfl)

/-- Of each part. -/
def starParts (b : Int) (ps : List (Int × Int)) : List (Int × Int) := ps.filterMap fun p => if star p.2 = b then none else some (p.1, star p.2)
theorem starParts_take {b : Int} {ps : List (Int × Int)} {k : Nat} {x y : Int} (hx : ps[k]? = some (x, y)) : starParts b (ps.take (k + 1)) = starParts b (ps.take k) ++ (if star y = b then [] else [(x, star y)]) := by
  unfold starParts
  rw [take_at hx, List.filterMap_append]
  congr 1
  by_cases e : star y = b <;> simp [e]
theorem starParts_mk {b c : Int} : ∀ {p : Int} {ps : List (Int × Int)}, partsOk b p ps = true → ∀ f : Int → Int, (∀ q ∈ ps, f q.1 = star q.2) → mkParts c f (ps.map (·.1)) = starParts c ps
  | _, [], _, _, _ => rfl
  | p, (a, v) :: ps, h, f, hf => by
    simp only [partsOk, Bool.and_eq_true, decide_eq_true_eq] at h
    have ih := starParts_mk (c := c) h.2 f (fun q hq => hf q (List.mem_cons_of_mem _ hq))
    have ha := hf (a, v) (by simp)
    simp only [] at ha
    simp only [List.map_cons, mkParts, ha, ih]
    by_cases e : star v = c <;> simp [starParts, e]
theorem starsL_parts {l : Lab} (h : labOk l = true) : starsL l = (⟨star l.base, starParts (star l.base) l.parts⟩, true) := by
  unfold starsL
  rw [if_pos h]
  have e := starParts_mk (c := star l.base) (labOk_partsOk h) (fun x => star (lev l x)) (fun q hq => by simp only [lev_part h hq])
  refine ofLev_short e ?_
  have h1 : (starParts (star l.base) l.parts).length ≤ l.parts.length := List.length_filterMap_le _ _
  have := labOk_short h
  omega
theorem starsL_no {l : Lab} (h : labOk l = false) : starsL l = (noLab, false) := by simp [starsL, h]

set_option maxHeartbeats 4000000 in
theorem spec_stars (v : Value) (l : Lab) (w : World) (hr : RdLab w v l) : Calls Try.prog 12 #[v] w (RetLab2 (starsL l).1 (starsL l).2 w) := by
  have hr0 := hr
  obtain ⟨A, n, c, rfl, hn, hnl, hnc, hcm, ha⟩ := hr
  cases hl : labOk l
  · have HR := Lib.hid (starsL_no hl)
    clear hn hnc hcm ha
    go_enter Try.func12, Try.ntmps12
    go_wp2_with fail
    refine (spec_labok _ l _ ((hr0.alloc _).alloc _)).mono ?_
    rintro e w1 ⟨rfl, hb1⟩
    obtain ⟨⟨c0, c1⟩, ⟨r0, r1⟩, hz, hbel⟩ := box4 hb1
    have q0 : w1.frozen? ⟨w.heap.size + 1, 0, none⟩ = false := (hb1.frozen (by simp)).trans (by simp [go_sem])
    have q1 : w1.frozen? ⟨w.heap.size + 1, 1, none⟩ = false := (hb1.frozen (by simp)).trans (by simp [go_sem])
    clear hb1
    go_wp2
    refine bodyPost_ret (v := .tuple #[.agg #[.int .i64 0, .slice none 0 0], .bool false]) (by simp [results, Try.results12, go_sem, r0, r1]) rfl ?_
    rw [HR.out]
    exact ⟨_, rfl, own_nil _ _ _, (hbel.setCell (by simp only []; omega) _).setCell (by simp only []; omega) _⟩
  · have HR := Lib.hid (starsL_parts hl)
    have HN := Lib.hid hn
    have s1 : n ≤ 8 := by have := labOk_short hl; omega
    have HA := Lib.hid ha
    clear hn hnc hcm ha
    go_enter Try.func12, Try.ntmps12
    go_wp2_with fail
    refine (spec_labok _ l _ ((hr0.alloc _).alloc _)).mono ?_
    rintro e w1 ⟨rfl, hb1⟩
    obtain ⟨⟨c0, c1⟩, ⟨r0, r1⟩, hz, hbel⟩ := box4 hb1
    have q0 : w1.frozen? ⟨w.heap.size + 1, 0, none⟩ = false := (hb1.frozen (by simp)).trans (by simp [go_sem])
    have q1 : w1.frozen? ⟨w.heap.size + 1, 1, none⟩ = false := (hb1.frozen (by simp)).trans (by simp [go_sem])
    have BL := Lib.hid (Has.new2 hb1)
    have BR := Lib.hid (Has.new3 hb1)
    clear hb1
    go_wp2_with (go_at_call 37; refine (spec_star _ _).mono ?_; rintro e w' ⟨rfl, rfl⟩)
    generalize hW : w1.alloc (.cells #[.int .i64 (star l.base), .slice none 0 0] 26) = w2
    have hbW : Below w1.heap.size w1 w2 := by rw [← hW]; exact (Below.refl _ _).alloc (Nat.le_refl _) _
    have hs2 : w2.heap.size = w1.heap.size + 1 := by rw [← hW]; simp
    have HBG : Hid (Bld w2 w1.heap.size (star l.base) w2 none 0 0 []) := Lib.hid (.begin (by rw [← hW]; simp) (by rw [← hW]; simp) (by rw [← hW]; simp))
    have BLz := Lib.hid (BL.out.below hbW)
    have BRz := Lib.hid (BR.out.below hbW)
    have FR0 : Hid (w2.frozen? ⟨w.heap.size + 1, 0, none⟩ = false) := Lib.hid ((hbW.frozen hz).trans q0)
    have FR1 : Hid (w2.frozen? ⟨w.heap.size + 1, 1, none⟩ = false) := Lib.hid ((hbW.frozen hz).trans q1)
    have BELz := Lib.hid (below_more hbel hbW)
    have HAz := Lib.hid (HA.out.below BELz.out)
    clear hW hbW c0 c1 r0 r1 q0 q1 BL BR
    obtain ⟨g, hg⟩ : ∃ g, g = w1.heap.size := ⟨_, rfl⟩
    rw [← hg] at HBG hs2 hz ⊢
    clear hg
    go_loopw [5] (fun i wr => ∃ (k n9 c9 : Nat) (A9 : Option Addr) (out : List (Int × Int)), k ≤ n ∧ n9 ≤ k ∧ i = .int .i64 k ∧ Hid (starParts (star l.base) (l.parts.take k) = out) ∧ Hid (Bld w2 g (star l.base) wr A9 n9 c9 out)) (fun i _ => n - (intOf i).toNat)
    case atStart => exact ⟨0, 0, 0, none, [], by omega, by omega, rfl, Lib.hid rfl, HBG⟩
    case round =>
      clear HBG
      obtain ⟨k, n9, c9, A9, out, hk, hn9, rfl, HS, HB⟩ := hrel
      have BELr := Lib.hid (HB.out.under BELz.out (by omega))
      have b0 := HB.out.has (by omega) BLz.out 0 _ rfl
      have b1 := HB.out.has (by omega) BLz.out 1 _ rfl
      have h0 := HB.out.g0
      have h1 := HB.out.g1
      have qf := HB.out.f1
      have hszr := HB.out.kept.size
      by_cases hlt : k < n
      · obtain ⟨b, o, x, y, rfl, hx, cx, cy⟩ := ptat (HA.out.below BELr.out) (k := k) (by have := HN.out; omega)
        by_cases hne : star y = star l.base
        · have hd : (star y != star l.base) = false := by simpa using hne
          have HS1 : Hid (starParts (star l.base) (l.parts.take (k + 1)) = out) := Lib.hid (by rw [starParts_take hx, HS.out, if_pos hne, List.append_nil])
          clear hne hx HS
          go_wp2_with (go_at_call 37; refine (spec_star _ _).mono ?_; rintro e w' ⟨rfl, rfl⟩)
          go_roundw
          case rel => exact ⟨k + 1, n9, c9, A9, out, by omega, by omega, by go_num, HS1, HB⟩
          case measure => simp [intOf]; omega
        · have hd : (star y != star l.base) = true := by simpa using hne
          have HS1 : Hid (starParts (star l.base) (l.parts.take (k + 1)) = out ++ [(x, star y)]) := Lib.hid (by rw [starParts_take hx, HS.out, if_neg hne])
          clear hne hx HS
          go_wp2_with (go_at_call 37; refine (spec_star _ _).mono ?_; rintro e w' ⟨rfl, rfl⟩)
          have gsz : g < wr.heap.size := block_lt_of_cell h1
          have bsz : w.heap.size < wr.heap.size := block_lt_of_cell b0
          have xsz : b < wr.heap.size := block_lt_of_cell cx
          go_region_law
            (first
            | (refine step_app elemPart2 rfl (.tmp 34) (.tmp 43) rfl w2.heap.size (.slice A9 n9 c9) n9 (ptcells out) rfl (by first | exact HB.out.own.alloc _ | exact (HB.out.drew.own).alloc _) (some ⟨wr.heap.size, 0, none⟩) 1 1 (ptcells [(x, star y)]) rfl (by first | exact At.new wr #[Value.int .i64 x, Value.int .i64 (star y)] 56 _ rfl | exact At.new wr.drew #[Value.int .i64 x, Value.int .i64 (star y)] 56 _ rfl) rfl (ptcells_one _) (by omega) (by omega) (by first | (simp; omega) | omega) ?_
               intro v6 w6 hap
               obtain ⟨A6, c6, rfl, -, -, -⟩ := own_at hap.own
               have HB6 : Hid (Bld w2 g (star l.base) (w6.setCell ⟨g, 1, none⟩ (.slice A6 (n9 + 1) c6)) A6 (n9 + 1) c6 (out ++ [(x, star y)])) := Lib.hid (Bld.store (by first | exact HB.out.alloc _ | exact HB.out.drew.alloc _ | exact (HB.out.alloc _).drew) hap rfl)
               have hne6 : (Value.slice A9 n9 c9).ownBlock ≠ some g := fun e => by have := (HB.out.own.lt _ e).1; have := HB.out.gl; omega
               have u1 : w6.cell? ⟨g, 1, none⟩ = some (.slice A9 n9 c9) := hap.grown.cell (by first | exact (HB.out.alloc _).g1 | exact (HB.out.drew.alloc _).g1 | exact (HB.out.alloc _).drew.g1) (fun e => hne6 e.symm)
               have u2 : w6.frozen? ⟨g, 1, none⟩ = false := (World.frozen?_of_block (hap.grown.block g (by simp; omega) (fun e => hne6 e.symm))).trans (by first | exact (HB.out.alloc _).f1 | exact (HB.out.drew.alloc _).f1 | exact (HB.out.alloc _).drew.f1)
               clear hap hne6))
          all_goals
            go_wp2
            go_roundw
            case rel => exact ⟨k + 1, n9 + 1, c6, A6, out ++ [(x, star y)], by omega, by omega, by go_num, HS1, HB6⟩
            case measure => simp [intOf]; omega
      · obtain rfl : k = n := by omega
        have HS1 : Hid (starParts (star l.base) l.parts = out) := Lib.hid (by have := HS.out; rwa [List.take_of_length_le (by have := HN.out; omega)] at this)
        have HL := Lib.hid HB.out.len
        have r0 := HB.out.has (by omega) BRz.out 0 _ rfl
        have r1 := HB.out.has (by omega) BRz.out 1 _ rfl
        have q0 := (HB.out.frozen (k := w.heap.size + 1) (i := 0) (by omega) (by omega)).trans FR0.out
        have q1 := (HB.out.frozen (k := w.heap.size + 1) (i := 1) (by omega) (by omega)).trans FR1.out
        have hzz : w.heap.size ≤ w2.heap.size := BELz.out.size
        have hgl := HB.out.gl
        clear HS
        go_wp2
        refine bodyPost_ret (v := .tuple #[.agg #[.int .i64 (star l.base), .slice A9 n9 c9], .bool true]) (by simp [results, Try.results12, go_sem, r0, r1]) rfl ?_
        rw [HR.out, HS1.out]
        exact ⟨_, rfl, ⟨A9, n9, c9, rfl, HL.out, by omega, own_lower (ownsRow_setCell_below (ownsRow_setCell_below HB.out.own (by simp only []; omega) _) (by simp only []; omega) _) hzz⟩, (BELr.out.setCell (by simp only []; omega) _).setCell (by simp only []; omega) _⟩
end Go.Proofs.Ytjdnobihhkmmpaa
