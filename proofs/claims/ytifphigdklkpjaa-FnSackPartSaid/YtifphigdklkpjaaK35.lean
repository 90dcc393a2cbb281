/- The contracts of the program's chapter 12: the blocks of a receipt, one after the other, out of an iterator that moves the reader's place. -/
import Derived.RangeFuncNested
import Derived.RangeFuncBound
import Derived.RangeFuncCalls
import Derived.RangeFuncLeaves
import Derived.Shelf.Abstract
import Derived.Shelf.RegionOpen
import Derived.WalkKit
import Derived.OwnWalkIn
import Derived.TacticsInMore
import Derived.LoopNIn
import Derived.LoopIn
import Derived.Sort.QuietTacIn
import Derived.Test.YtifphigdklkpjaaK26c
import Derived.Test.YtifphigdklkpjaaG12
namespace Go.Proofs.Ytifphigdklkpjaa
open Go.RowKit Go.PlainAid Go.Shelf
attribute [local go_sem] Oper.semAt_some

/-- What the k-th reading of two numbers hands back. -/
def Next (c : Nat) (s : ByteArray) (K k : Nat) (v : Value) (W : World) : Prop :=
  (k < K ∧ ∃ d, v = .slice (some ⟨d, 0, none⟩) 2 2 ∧ VarN d [.int .i64 (be s (2 + 4 * k) 2), .int .i64 (be s (4 + 4 * k) 2)] W ∧ Cur c s (2 + 4 * ((k + 1 : Nat) : Int)) W) ∨ (k = K ∧ v = .slice none 0 0 ∧ Cur c s (2 + 4 * (K : Int)) W)
theorem words_next (c : Nat) (s : ByteArray) (K k : Nat) (w : World) (hs : s.size ≤ 100000000) (h2 : 2 ≤ s.size) (hK : K = (s.size - 2) / 4) (hk : k ≤ K) (hc : Cur c s (2 + 4 * (k : Int)) w) (B : Nat) (hB : B ≤ c) :
    Calls Try.prog 42 #[.pointer (some ⟨c, 0, none⟩), .int .i64 2] w fun e w' => ∃ v, e = .returned (.tuple #[v, .bool (decide (k < K))]) ∧ Next c s K k v w' ∧ Fr B c w w' := by
  by_cases h : k < K
  · refine (words_two c s (2 + 4 * k) w hs (hc.go (by omega)) (by omega) B hB).mono ?_
    rintro e w' ⟨d, rfl, hd, hv, hcur, hf⟩
    refine ⟨_, by rw [decide_eq_true h], .inl ⟨h, d, rfl, ?_, hcur.go (by omega)⟩, hf⟩
    rw [show 4 + 4 * k = 2 + 4 * k + 2 by omega]
    exact hv
  · obtain rfl : k = K := by omega
    refine (words_two_no c s _ w hs hc (by omega)).mono ?_
    rintro e w' ⟨rfl, q, rfl⟩
    exact ⟨_, by rw [decide_eq_false h], .inr ⟨rfl, rfl, hc.drewN q⟩, (Fr.refl B c w).drewN q⟩
theorem wide_fn (f : FuncId) : Fence.wide.fn f = True := eq_true trivial
attribute [local go_sem] wide_fn
theorem Cur.keepZ {c Z : Nat} {s : ByteArray} {p : Int} {w w' : World} (h : Cur c s p w) (hb : Below Z w w') (hZ : c < Z) : Cur c s p w' :=
  ⟨Nat.lt_of_lt_of_le h.1 hb.size, kept_cell hb hZ h.2.1, kept_cell hb hZ h.2.2.1, kept_frozen hb hZ h.2.2.2⟩
def posOf (c : Nat) (W : World) : Nat := match W.cell? ⟨c, 1, none⟩ with
  | some v => (intOf v).toNat
  | none => 0
theorem Cur.pos {c : Nat} {s : ByteArray} {p : Int} {W : World} (h : Cur c s p W) : posOf c W = p.toNat := by
  unfold posOf
  rw [h.2.2.1]
  rfl
def tick (v : Value) : Nat := match v with
  | .bool true => 1
  | _ => 0

set_option maxRecDepth 100000 in
set_option maxHeartbeats 2000000 in
/-- The iterator over the blocks: every block that is there is handed to yield, in order. -/
theorem blocks_walk (l c Bc B Z K : Nat) (s : ByteArray) (hs : s.size ≤ 100000000) (h2 : 2 ≤ s.size) (hK : K = (s.size - 2) / 4) (hB : B ≤ c) (hcZ : c < Z) (hbZ : Bc < Z) (hbc : Bc ≠ c) (J : Nat → World → Prop)
    (hJ : ∀ k W W', J k W → Fr B c W W' → J k W')
    (hY : ∀ k W, k < K → J k W → YieldAt Fence.wide 2 Try.prog l #[.agg #[.int .i64 (be s (2 + 4 * k) 2), .int .i64 (be s (4 + 4 * k) 2)]] W fun e W' => e = .returned (.bool true) ∧ J (k + 1) W' ∧ Below Z W W')
    (W : World) (hcur : Cur c s 2 W) (hbox : W.cell? ⟨Bc, 0, none⟩ = some (.pointer (some ⟨c, 0, none⟩))) (h0 : J 0 W) :
    CallsIn Fence.wide 3 Try.prog 41 #[.func (.yield l) #[] #[], .pointer (some ⟨Bc, 0, none⟩)] W fun e W' => (∃ v, e = .returned v) ∧ J K W' ∧ Cur c s (2 + 4 * (K : Int)) W' := by
  have HK := Lib.hid hK
  clear hK
  have hro : Fence.wide.round = none := rfl
  have hmx : Try.prog.follows .mixedOrders = true := by kernel_rfl
  refine callsIn_of_wp Try.func41 rfl trivial ?_ hro
  simp only [Try.ntmps41, List.size_toArray, List.length_cons, List.length_nil, Nat.reduceAdd, Nat.reduceSub, Array.replicate_succ, Array.replicate_zero, List.push_toArray, List.append_toArray, List.nil_append, List.cons_append]
  gi_wp2_with (gi_at_call 42; refine (callsIn_wide.2 (words_next c s K 0 _ hs h2 HK.out (Nat.zero_le _) (hcur.go (by omega)) B hB)).mono ?_; rintro e w1 ⟨v1, rfl, hn1, hf1⟩)
  have hbox1 : w1.cell? ⟨Bc, 0, none⟩ = some (.pointer (some ⟨c, 0, none⟩)) := hf1.aside.cell (lt_of_cell hbox) hbc hbox
  gi_loopw [3, 4] (fun p o wr => ∃ k, k ≤ K ∧ o = .bool (decide (k < K)) ∧ Next c s K k p wr ∧ J k wr ∧ wr.cell? ⟨Bc, 0, none⟩ = some (.pointer (some ⟨c, 0, none⟩))) (fun _ o wr => s.size + 10 - posOf c wr + tick o)
  case atStart => exact ⟨0, Nat.zero_le _, rfl, hn1, hJ _ _ _ h0 hf1, hbox1⟩
  case round =>
    obtain ⟨k, hk, rfl, hn, hj, hb⟩ := hrel
    rcases hn with ⟨hlt, d, rfl, hv, hc⟩ | ⟨rfl, rfl, hc⟩
    · have dt : decide (k < K) = true := decide_eq_true hlt
      have v0 := (hv 0 _ rfl).1
      have v1 := (hv 1 _ rfl).1
      obtain ⟨fn, tmps, assign, body, hy, hR⟩ := hY k wr.drew hlt (hJ _ _ _ hj ((Fr.refl B c wr).drewN 1))
      gi_wp2
      gi_region_with_o (refine hR.mono ?_; rintro e w2 ⟨rfl, hJ2, hb2⟩; have hc2 : Cur c s (2 + 4 * ((k + 1 : Nat) : Int)) w2 := (hc.drewN 1).keepZ hb2 hcZ; have hx2 : w2.cell? ⟨Bc, 0, none⟩ = some (.pointer (some ⟨c, 0, none⟩)) := kept_cell hb2 hbZ hb)
      all_goals
        clear hR hy
        gi_wp2_with (gi_at_call 42; refine (callsIn_wide.2 (words_next c s K (k + 1) _ hs h2 HK.out (by omega) hc2 B hB)).mono ?_; rintro e w3 ⟨v3, rfl, hn3, hf3⟩)
        go_roundw
        case rel => exact ⟨k + 1, by omega, rfl, hn3, hJ _ _ _ hJ2 hf3, hf3.aside.cell (lt_of_cell hx2) hbc hx2⟩
        case measure =>
          have hkk := HK.out
          have e0 := hc.pos
          rcases hn3 with ⟨h3, _, _, _, hc3⟩ | ⟨h3, _, hc3⟩
          · have e1 := hc3.pos
            rw [e0, e1]
            simp only [decide_eq_true h3, decide_eq_true hlt, tick]
            omega
          · have e1 := hc3.pos
            rw [e0, e1]
            simp only [decide_eq_false (show ¬ k + 1 < K by omega), decide_eq_true hlt, tick]
            omega
    · have dt : decide (k < k) = false := decide_eq_false (by omega)
      gi_wp2
      gi_quiet_th (fail)
      gi_wp2
      go_end0
      exact ⟨⟨_, rfl⟩, hJ _ _ _ hj ((Fr.refl B c wr).drewN _), hc.drewN _⟩

end Go.Proofs.Ytifphigdklkpjaa
