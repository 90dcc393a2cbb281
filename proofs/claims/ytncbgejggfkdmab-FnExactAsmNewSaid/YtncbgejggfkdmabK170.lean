/- The laws' marks in a new assembly, and whether they are still there. -/
import Derived.Test.YtncbgejggfkdmabK119a
import Derived.Test.YtncbgejggfkdmabK168
namespace Go.Proofs.Ytncbgejggfkdmab
open Go.RowKit Go.PlainAid

set_option maxHeartbeats 400000 in
theorem markDataS_none (p : Option Addr) (cap : Nat) (z : Int) (w : World) :
    Calls Try.prog 34 #[.slice p 0 cap, .int .i64 z] w fun e w' => e = .returned (.int .i64 z) ∧ w' = w := by
  go_enter Try.func34, Try.ntmps34
  go_wp2
  go_loopw [1, 5] (fun m i wr => m = .int .i64 z ∧ i = .int .i64 0 ∧ wr = w) (fun _ _ _ => 0)
  case atStart => exact ⟨rfl, rfl, rfl⟩
  case round =>
    obtain ⟨rfl, rfl, rfl⟩ := hrel
    go_wp2
    go_ret
    exact ⟨rfl, rfl⟩

set_option maxHeartbeats 400000 in
theorem heldDataS_none (p : Option Addr) (cap : Nat) (z : Int) (w : World) :
    Calls Try.prog 60 #[.slice p 0 cap, .int .i64 z] w fun e w' => e = .returned (.int .i64 z) ∧ w' = w := by
  go_enter Try.func60, Try.ntmps60
  go_wp2
  go_loopw [1, 5] (fun m i wr => m = .int .i64 z ∧ i = .int .i64 0 ∧ wr = w) (fun _ _ _ => 0)
  case atStart => exact ⟨rfl, rfl, rfl⟩
  case round =>
    obtain ⟨rfl, rfl, rfl⟩ := hrel
    go_wp2
    go_ret
    exact ⟨rfl, rfl⟩

set_option maxHeartbeats 1000000 in
/-- A new assembly is marked. -/
theorem markNewA {C k : Nat} {a : Option Addr} {cap : Nat} {es : List Int} {W : World} (p : Option Addr) (h : W.ownsRow C 3 1 (.slice a k cap) k (flatN es)) (hC : C ≤ W.heap.size) (hk : k ≤ 1048576) :
    Calls Try.prog 26 #[.agg #[.slice a k cap, .slice p 0 0], .int .i64 1] W fun e w' => e = .returned (.int .i64 (1 + (k : Int))) ∧ Ns w' a k cap (marksN k) ∧ W.heap.size ≤ w'.heap.size ∧ Mg C (Value.slice a k cap).ownBlock W w' := by
  have BX := Lib.hid (below_box (w := W) (.cells #[.slice a k cap, .slice p 0 0] 27) (Nat.le_refl _))
  have VX := Lib.hid (VarN.new W [.slice a k cap, .slice p 0 0] 27)
  rcases h.2 with ⟨h1, h2⟩ | ⟨g, cap', cur, h1, _⟩
  · obtain ⟨rfl, rfl, rfl⟩ : a = none ∧ k = 0 ∧ cap = 0 := by simpa using h1
    go_enter Try.func26, Try.ntmps26
    go_wp2_with fail
    refine (markIntS_none _).mono ?_
    rintro e w1 ⟨rfl, rfl⟩
    go_wp2_with fail
    refine (markDataS_none p 0 1 _).mono ?_
    rintro e w1 ⟨rfl, rfl⟩
    go_wp2
    go_ret
    exact ⟨rfl, Ns.nil _, BX.out.size, BX.out.mono hC, fun x hx _ => BX.out.block x hx⟩
  · obtain ⟨rfl, rfl⟩ : a = some ⟨g, 0, none⟩ ∧ cap = cap' := by simpa using h1
    obtain ⟨f1, f2, f3, f4, f5, f6⟩ := own_filN (marksN k) h
    have F1 := Lib.hid (f1.below BX.out)
    have R1 := Lib.hid (f2.below f6 BX.out)
    have hz := Lib.hid (And.intro f5 f6)
    clear h h1 f1 f2 f5 f6
    go_enter Try.func26, Try.ntmps26
    go_wp2_with fail
    refine (markIntS_any g k cap _ hk (Nat.lt_of_lt_of_le hz.out.2 BX.out.size) F1.out R1.out).mono ?_
    rintro e w1 ⟨rfl, hf, _, hm⟩
    have HF := Lib.hid (hf.ns (marksN_length k) f3 f4)
    have HM := Lib.hid hm
    have v1 := ((VX.out.blk (hm.a W.heap.size (by simp) (by have := hz.out.2; omega))) 1 _ rfl).1
    clear hf hm
    go_wp2_with fail
    refine (markDataS_none p 0 _ _).mono ?_
    rintro e w2 ⟨rfl, rfl⟩
    clear v1
    go_wp2
    go_ret
    exact ⟨rfl, HF.out, Nat.le_trans BX.out.size HM.out.z, (BX.out.mono hC).trans (HM.out.b.mono hz.out.1), fun x hx hne => (HM.out.a x (Nat.lt_of_lt_of_le hx BX.out.size) fun e => hne (by rw [e]; rfl)).trans (BX.out.block x hx)⟩

set_option maxHeartbeats 1000000 in
theorem heldNewA (a : Option Addr) (k cap : Nat) (p : Option Addr) (w : World) (hk : k ≤ 1048576) (h : Ns w a k cap (marksN k)) :
    Calls Try.prog 27 #[.agg #[.slice a k cap, .slice p 0 0], .int .i64 1] w fun e w' => e = .returned (.int .i64 (1 + (k : Int))) ∧ Below w.heap.size w w' := by
  have BX := Lib.hid (below_box (w := w) (.cells #[.slice a k cap, .slice p 0 0] 27) (Nat.le_refl _))
  have VX := Lib.hid (VarN.new w [.slice a k cap, .slice p 0 0] 27)
  have G1 := Lib.hid (h.below BX.out)
  have kn : ¬ 1 + (k : Int) < 0 := by omega
  clear h
  go_enter Try.func27, Try.ntmps27
  go_wp2_with fail
  refine (heldIntS_any a k cap _ hk G1.out).mono ?_
  rintro e w1 ⟨rfl, hb1⟩
  have v1 := ((VX.out.below hb1 (by simp)) 1 _ rfl).1
  have B1 := Lib.hid (BX.out.trans (hb1.mono BX.out.size))
  clear hb1
  go_wp2_with fail
  refine (heldDataS_none p 0 _ _).mono ?_
  rintro e w2 ⟨rfl, rfl⟩
  clear v1
  go_wp2
  go_ret
  exact ⟨rfl, B1.out⟩

end Go.Proofs.Ytncbgejggfkdmab
