/-
  Chapter 4 of the program: the stars of a label, gone through by a range over a function: the iterator.
-/
import Derived.RangeFuncFrom
import Derived.RangeFuncCalls
import Derived.RangeFuncLeaves
import Derived.OwnWalkIn
import Derived.TacticsInMore
import Derived.LoopNIn
import Derived.LoopIn
import Derived.Test.YtjdnobihhkmmpaaImplLab3
import Derived.Test.YtjdnobihhkmmpaaPure
import Derived.Test.YtjdnobihhkmmpaaHas

namespace Go.Proofs.Ytjdnobihhkmmpaa
set_option maxRecDepth 100000
open Go.RowKit
attribute [local go_sem] Oper.semAt_some

/-- A handle. -/
abbrev Hd := { h : Int // hOk h = true }
def encHd (x : Hd) : Array Value := #[.int .i64 x.1]
theorem gbb {w w' : World} (row : Option Nat) (h : Below w.heap.size w w') : w.grownBy w' row := ⟨h.os, h.tape, h.output, h.size, fun k hk _ => h.block k hk⟩

theorem impl_stars0 (v : Value) (b : Int) (A : Option Addr) (n c : Nat) (B : Option Addr) (m d : Nat) (w : World) (hv : v = .agg #[.int .i64 b, .slice A n c]) :
    Calls Try.prog 59 #[v, .slice B m d] w fun e w' => e = .returned (.func (.func 78) #[] #[.pointer (some ⟨w.heap.size + 1, 0, none⟩), .pointer (some ⟨w.heap.size, 0, none⟩)]) ∧
      w' = (w.alloc (.cells #[.int .i64 b, .slice A n c] 26)).alloc (.cells #[.slice B m d] 34) := by
  subst hv
  go_enter Try.func59, Try.ntmps59
  go_wp2
  go_ret
  exact ⟨rfl, rfl⟩

set_option maxHeartbeats 4000000 in
/-- The iterator, over whatever body keeps what it reads. -/
theorem stars1_in (nn : Nat) (hnn : 1 ≤ nn) (lp Bh Bl : Nat) (A : Option Addr) (n c : Nat) (B : Option Addr) (m d : Nat) (l : Lab) (hs : List Int) (ho : ∀ h ∈ hs, hOk h = true) (hlen : hs.length = n) (hn : n ≤ 1048576) (hri : Rises (-1) l.parts)
    (Rd : World → Prop) (Kp : World → World → Prop)
    (hRd : ∀ W, Rd W → W.cell? ⟨Bh, 0, none⟩ = some (.slice A n c) ∧ W.cell? ⟨Bl, 0, none⟩ = some (.int .i64 l.base) ∧ W.cell? ⟨Bl, 1, none⟩ = some (.slice B m d) ∧ At W A (nmcells hs) ∧ RdLab W (.agg #[.int .i64 l.base, .slice B m d]) l)
    (hRB : ∀ W W', Rd W → Below W.heap.size W W' → Rd W') (hRK : ∀ W W', Rd W → Kp W W' → Rd W')
    (J Jx : List Hd → World → Prop) (W : World) (hJ : ∀ pre A B, J pre A → Below A.heap.size A B → J pre B)
    (hY : ∀ pre x W1, J pre W1 → pre.length < n → YieldAt Fence.wide (nn - 1) Try.prog lp (encHd x) W1 fun e W' => (e = .returned (.bool true) ∧ J (pre ++ [x]) W' ∧ Kp W1 W') ∨ (e = .returned (.bool false) ∧ Jx (pre ++ [x]) W'))
    (hW : Rd W) (h0 : J [] W) :
    CallsIn Fence.wide nn Try.prog 78 #[.func (.yield lp) #[] #[], .pointer (some ⟨Bh, 0, none⟩), .pointer (some ⟨Bl, 0, none⟩)] W fun e W' => (∃ v, e = .returned v) ∧
      ((∃ xs : List Hd, xs.map (·.1) = starsIn l hs ∧ J xs W') ∨ (∃ pre, True ∧ Jx pre W')) := by
  have HL := Lib.hid hlen
  have HRD := Lib.hid hRd
  have HRB := Lib.hid hRB
  have HRK := Lib.hid hRK
  have HRI := Lib.hid hri
  have HJ := Lib.hid hJ
  have HO := Lib.hid ho
  have HY := Lib.hid hY
  have HW := Lib.hid hW
  obtain ⟨f0, -⟩ := hRd W hW
  clear hRd hRB hRK hri hJ ho hY hlen hW
  refine callsIn_of_wp Try.func78 rfl trivial ?_ rfl
  simp only [Try.ntmps78, List.size_toArray, List.length_cons, List.length_nil, Nat.reduceAdd, Nat.reduceSub, Array.replicate_succ, Array.replicate_zero, List.push_toArray, List.append_toArray, List.nil_append, List.cons_append]
  gi_wp2
  gi_loopw [8] (fun i wr => ∃ (k : Nat) (pre : List Hd), k ≤ n ∧ pre.length ≤ k ∧ i = .int .i64 k ∧ Hid (pre.map (·.1) = starsIn l (hs.take k)) ∧ Hid (J pre wr) ∧ Hid (Rd wr)) (fun i _ => n - (intOf i).toNat)
  case atStart => exact ⟨0, [], by omega, by simp, rfl, Lib.hid rfl, Lib.hid h0, HW⟩
  case round =>
    clear f0 h0
    obtain ⟨k, pre, hk, hpk, rfl, HP, HJS, HR⟩ := hrel
    obtain ⟨f0, f1, f2, fa, fr⟩ := HRD.out wr HR.out
    have FA := Lib.hid fa
    have FR := Lib.hid fr
    clear fa fr
    by_cases hlt : k < n
    · obtain ⟨b9, o9, x, rfl, hx, cx⟩ := nmat FA.out (k := k) (by have := HL.out; omega)
      have hox : hOk x = true := HO.out x (List.mem_of_getElem? hx)
      by_cases hs0 : lev l x = 0
      · have HP1 : Hid (pre.map (·.1) ++ [x] = starsIn l (hs.take (k + 1))) := Lib.hid (by rw [starsIn_yes hx hs0, HP.out])
        have hd : (lev l x == 0) = true := by simpa using hs0
        clear hx hs0
        gi_wp2_with (refine ⟨trivial, ?_⟩; gi_at_call 33; refine (callsIn_wide.2 (impl_lev _ l x _ FR.out HRI.out)).mono ?_; rintro e w2 ⟨rfl, hb2⟩; have HJ2 := Lib.hid (HJ.out _ _ _ HJS.out hb2); have HR2 := Lib.hid (HRB.out _ _ HR.out hb2); obtain ⟨fn, tmps, assign, body, hy, hR⟩ := HY.out pre ⟨x, hox⟩ w2 HJ2.out (by omega); dsimp only [encHd] at hy; clear hb2)
        refine hR.mono ?_
        rintro e w3 (⟨rfl, hJ3, hk3⟩ | ⟨rfl, hJx3⟩)
        · have HJ3 := Lib.hid hJ3
          have HR3 := Lib.hid (HRK.out _ _ HR2.out hk3)
          clear hJ3 hk3 hy hR
          gi_wp2
          go_roundw
          case rel => exact ⟨k + 1, pre ++ [⟨x, hox⟩], by omega, by simp; omega, by go_num, Lib.hid (by rw [← HP1.out]; simp), HJ3, HR3⟩
          case measure => simp [intOf]; omega
        · clear hy hR
          gi_wp2
          refine bodyPost_ret (results_none rfl _ _ _) rfl ?_
          exact ⟨⟨_, rfl⟩, .inr ⟨_, trivial, hJx3⟩⟩
      · have HP1 : Hid (pre.map (·.1) = starsIn l (hs.take (k + 1))) := Lib.hid (by rw [starsIn_no hx hs0, HP.out])
        have hd : (lev l x == 0) = false := by simpa using hs0
        clear hx hs0
        gi_wp2_with (refine ⟨trivial, ?_⟩; gi_at_call 33; refine (callsIn_wide.2 (impl_lev _ l x _ FR.out HRI.out)).mono ?_; rintro e w2 ⟨rfl, hb2⟩; have HJ2 := Lib.hid (HJ.out _ _ _ HJS.out hb2); have HR2 := Lib.hid (HRB.out _ _ HR.out hb2); clear hb2)
        refine ⟨fun _ h => (by cases h), ?_⟩
        gi_wp2
        go_roundw
        case rel => exact ⟨k + 1, pre, by omega, by omega, by go_num, HP1, HJ2, HR2⟩
        case measure => simp [intOf]; omega
    · obtain rfl : k = n := by omega
      gi_wp2
      go_end0
      exact ⟨⟨_, rfl⟩, .inl ⟨pre, by rw [HP.out, List.take_of_length_le (by have := HL.out; omega)], HJS.out⟩⟩

/-- The iterator's contract, as a loop over it asks for it. -/
theorem stars_stops (nn : Nat) (hnn : 1 ≤ nn) (g Bh Bl : Nat) (A : Option Addr) (n c : Nat) (B : Option Addr) (m d : Nat) (l : Lab) (hs : List Int) (ho : ∀ h ∈ hs, hOk h = true) (hlen : hs.length = n) (hn : n ≤ 1048576) (hri : Rises (-1) l.parts)
    (w wF : World) (hbw : Below w.heap.size w wF) (hg : w.heap.size ≤ g) (hgh : Bh ≠ g) (hgl : Bl ≠ g) (c0 : wF.cell? ⟨Bh, 0, none⟩ = some (.slice A n c)) (c1 : wF.cell? ⟨Bl, 0, none⟩ = some (.int .i64 l.base)) (c2 : wF.cell? ⟨Bl, 1, none⟩ = some (.slice B m d))
    (ha : At w A (nmcells hs)) (hr : RdLab w (.agg #[.int .i64 l.base, .slice B m d]) l) :
    SeqStopsK Fence.wide nn Try.prog 78 #[.pointer (some ⟨Bh, 0, none⟩), .pointer (some ⟨Bl, 0, none⟩)] encHd (KeepBut g wF.heap.size) (fun xs : List Hd => xs.map (·.1) = starsIn l hs) (fun _ => True) n wF :=
  fun lp J Jx W hW hJ _ hY h0 => stars1_in nn hnn lp Bh Bl A n c B m d l hs ho hlen hn hri (fun W => wF.grownBy W (some g)) (KeepBut g wF.heap.size)
    (fun W hR => by
      have hb : Below w.heap.size w W := hbw.grown hR hbw.size (fun k hk => by have := Option.some.inj hk; omega)
      exact ⟨hR.cell c0 (fun e => hgh (Option.some.inj e)), hR.cell c1 (fun e => hgl (Option.some.inj e)), hR.cell c2 (fun e => hgl (Option.some.inj e)), ha.below hb, hr.below hb⟩)
    (fun W W' hR hb => gb_trans hR (gbb _ hb))
    (fun W W' hR hk => ⟨hk.os.trans hR.os, hk.tape.trans hR.tape, hk.output.trans hR.output, Nat.le_trans hR.size hk.size, fun k hkl hne => (hk.block k hkl (fun e => hne (by rw [e]))).trans (hR.block k hkl hne)⟩)
    J Jx W (fun pre X Y h hb => hJ pre X Y none h (gbb none hb) (fun r e => by cases e)) hY (gbb _ hW) h0
end Go.Proofs.Ytjdnobihhkmmpaa
