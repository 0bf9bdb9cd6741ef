/-
  Chapter 2 of the program: without a key, with a part put in; the label with a level.
-/
import Derived.Test.YtjdnobihhkmmpaaImplLab4
namespace Go.Proofs.Ytjdnobihhkmmpaa
set_option maxRecDepth 100000
open Go.RowKit

def woList (h : Int) (ps : List (Int × Int)) : List (Int × Int) := ps.take (placeK h ps) ++ ps.drop (behindK h ps)
def putList (h v : Int) (ps : List (Int × Int)) : List (Int × Int) := ps.take (placeK h ps) ++ [(h, v)] ++ ps.drop (behindK h ps)
theorem woList_length (h : Int) (ps : List (Int × Int)) : (woList h ps).length ≤ ps.length := by
  have := placeK_le h ps
  have := behindK_le h ps
  have h3 : placeK h ps ≤ behindK h ps := by unfold behindK; split <;> omega
  unfold woList
  simp only [List.length_append, List.length_take, List.length_drop]; omega
theorem putList_length (h v : Int) (ps : List (Int × Int)) : (putList h v ps).length ≤ ps.length + 1 := by
  have := woList_length h ps
  unfold woList at this
  unfold putList
  simp only [List.length_append, List.length_cons, List.length_nil] at this ⊢; omega

theorem RdRow.alloc {w : World} {v : Value} {ps : List (Int × Int)} (h : RdRow w v ps) (o : Obj) : RdRow (w.alloc o) v ps := h.below ((Below.refl _ _).alloc (Nat.le_refl _) o)
theorem impl_without (A : Option Addr) (n c : Nat) (ps : List (Int × Int)) (h : Int) (w : World) (ha : At w A (ptcells ps)) (hn : ps.length = n) (hl : n ≤ 1048000) (hc : n ≤ c) (hm : c ≤ maxLen) :
    Calls Try.prog 76 #[.slice A n c, .int .i64 h] w (RetOwn 56 2 (woList h ps).length (ptcells (woList h ps)) w) := by
  have HA := Lib.hid (impl_around A n c ps h w ha hn (by omega) hc hm)
  have HL := Lib.hid (woList_length h ps)
  have HN := Lib.hid hn
  clear ha hn
  go_enter Try.func76, Try.ntmps76
  go_wp2_with fail
  refine (HA.out).mono ?_
  rintro e w1 ⟨v, u, rfl, hv, hu, hb1⟩
  have HV := Lib.hid hv
  have HU := Lib.hid hu
  have HB := Lib.hid hb1
  obtain ⟨A1, n1, c1, rfl, -⟩ := hv
  obtain ⟨A2, n2, c2, rfl, -⟩ := hu
  clear hb1 HA
  go_wp2_with fail
  refine (impl_concat w1.heap.size 2 2 [.slice A1 n1 c1, .slice A2 n2 c2] [ps.take (placeK h ps), ps.drop (behindK h ps)] _ rfl rfl (by omega) (by
      have h1 := HL.out
      have h2 := HN.out
      have e : [ps.take (placeK h ps), ps.drop (behindK h ps)].flatten = woList h ps := by simp [woList]
      rw [e]; omega) (fun i x hx => ?_) (fun i x qs hx hq => ?_)).mono ?_
  · rw [World.cell?_alloc_new]; simpa using hx
  · match i with
    | 0 => cases hx; cases hq; exact HV.out.alloc _
    | 1 => cases hx; cases hq; exact HU.out.alloc _
    | i + 2 => simp at hx
  · rintro e w2 ⟨v2, rfl, hown, hb2⟩
    go_wp2
    go_ret
    have e : [ps.take (placeK h ps), ps.drop (behindK h ps)].flatten = woList h ps := by simp [woList]
    rw [e] at hown
    exact ⟨_, rfl, own_lower hown (by have := HB.out.size; simp; omega), below_more (HB.out.alloc HB.out.size _) hb2⟩

theorem impl_put (A : Option Addr) (n c : Nat) (ps : List (Int × Int)) (h y : Int) (w : World) (ha : At w A (ptcells ps)) (hn : ps.length = n) (hl : n ≤ 1048000) (hc : n ≤ c) (hm : c ≤ maxLen) :
    Calls Try.prog 77 #[.slice A n c, .agg #[.int .i64 h, .int .i64 y]] w (RetOwn 56 2 (putList h y ps).length (ptcells (putList h y ps)) w) := by
  have HA := Lib.hid ha
  have HL := Lib.hid (putList_length h y ps)
  have HN := Lib.hid hn
  clear ha hn
  go_enter Try.func77, Try.ntmps77
  go_wp2_with (go_at_call 119; refine (impl_key _ _ _).mono ?_; rintro e w1 ⟨rfl, hb0⟩; have c0 : w1.cell? ⟨w.heap.size, 0, none⟩ = some (.int .i64 h) := (hb0.cell (by simp)).trans (World.cell?_alloc_new _ _ _ 0); have c1 : w1.cell? ⟨w.heap.size, 1, none⟩ = some (.int .i64 y) := (hb0.cell (by simp)).trans (World.cell?_alloc_new _ _ _ 1); have HB0 : Hid (Below w.heap.size w w1) := Lib.hid (over_alloc hb0); clear hb0)
  refine (impl_around A n c ps h _ (HA.out.below HB0.out) HN.out (by omega) hc hm).mono ?_
  rintro e w2 ⟨v, u, rfl, hv, hu, hb1⟩
  have c0' := (hb1.cell (block_lt_of_cell c0)).trans c0
  have c1' := (hb1.cell (block_lt_of_cell c1)).trans c1
  have HV := Lib.hid hv
  have HU := Lib.hid hu
  have HB := Lib.hid (below_more HB0.out hb1)
  obtain ⟨A1, n1, k1, rfl, -⟩ := hv
  obtain ⟨A2, n2, k2, rfl, -⟩ := hu
  clear hb1 HA c0 c1 HB0
  go_wp2_with fail
  refine (impl_concat (w2.heap.size + 1) 3 3 [.slice A1 n1 k1, .slice (some ⟨w2.heap.size, 0, none⟩) 1 1, .slice A2 n2 k2] [ps.take (placeK h ps), [(h, y)], ps.drop (behindK h ps)] _ rfl rfl (by omega) (by
      have h1 := HL.out
      have h2 := HN.out
      have e : [ps.take (placeK h ps), [(h, y)], ps.drop (behindK h ps)].flatten = putList h y ps := by simp [putList]
      rw [e]; omega) (fun i x hx => ?_) (fun i x qs hx hq => ?_)).mono ?_
  · rw [show (w2.heap.size + 1) = (w2.alloc (.cells #[Value.int .i64 h, Value.int .i64 y] 56)).heap.size by simp, World.cell?_alloc_new]; simpa using hx
  · match i with
    | 0 => cases hx; cases hq; exact (HV.out.alloc _).alloc _
    | 1 =>
      cases hx; cases hq
      refine ⟨_, 1, 1, rfl, rfl, by omega, by unfold maxLen; omega, ?_⟩
      have hn := At.new w2 #[Value.int .i64 h, Value.int .i64 y] 56 w2.heap.size rfl
      exact At.alloc hn _
    | 2 => cases hx; cases hq; exact (HU.out.alloc _).alloc _
    | i + 3 => simp at hx
  · rintro e w3 ⟨v2, rfl, hown, hb2⟩
    go_wp2
    go_ret
    have e : [ps.take (placeK h ps), [(h, y)], ps.drop (behindK h ps)].flatten = putList h y ps := by simp [putList]
    rw [e] at hown
    exact ⟨_, rfl, own_lower hown (by have := HB.out.size; simp; omega), below_more ((HB.out.alloc HB.out.size _).alloc (by have := HB.out.size; simp; omega) _) hb2⟩
end Go.Proofs.Ytjdnobihhkmmpaa
