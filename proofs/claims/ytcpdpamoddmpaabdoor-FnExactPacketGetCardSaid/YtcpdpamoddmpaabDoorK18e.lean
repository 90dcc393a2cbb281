/- The contracts of the program's chapter 11: the bytes behind the body, the chunk at a place. -/
import Derived.Test.YtcpdpamoddmpaabDoorK18b
import Derived.Test.YtcpdpamoddmpaabDoorK18d
namespace Go.Proofs.YtcpdpamoddmpaabDoor
open Go.RowKit Go.PlainAid

theorem assert_whole (v : Value) (w : World) : (Instr.typeAssert (.iface 86 v) 70 86 true).run Tryd.prog w = .ok (.tuple #[v, .bool true]) w := by kernel_rfl
theorem assert_other (v : Value) (w : World) : (Instr.typeAssert (.iface 88 v) 70 86 true).run Tryd.prog w = .ok (.tuple #[.agg #[.int .i64 0, .int .i64 0, .string (ByteArray.mk #[])], .bool false]) w := by kernel_rfl
theorem assert_filled (v : Value) (w : World) : (Instr.typeAssert (.iface 88 v) 70 88 true).run Tryd.prog w = .ok (.tuple #[v, .bool true]) w := by kernel_rfl

set_option maxHeartbeats 400000 in
theorem filling_whole (c : Nat) (k f : Int) (b : ByteArray) (w : World) :
    Calls Tryd.prog 74 #[.pointer (some ⟨c, 0, none⟩), .iface 86 (.agg #[.int .i64 k, .int .i64 f, .string b])] w fun e w' => e = .returned (.bool true) ∧ Below w.heap.size w w' := by
  have a0 := assert_whole
  go_enter Tryd.func74, Tryd.ntmps74
  go_wp2
  go_ret
  exact ⟨rfl, below_box _ (Nat.le_refl _)⟩

set_option maxHeartbeats 400000 in
theorem filling_yes (c : Nat) (k f : Int) (b s : ByteArray) (p n : Nat) (w : World) (hs : s.size ≤ 100000000) (hn : n ≤ 3)
    (hc : Cur c s p w) (h : p + n ≤ s.size) (hx : s.extract p (p + n) = strOfNums (List.replicate n 0)) (B : Nat) (hB : B ≤ c) :
    Calls Tryd.prog 74 #[.pointer (some ⟨c, 0, none⟩), .iface 88 (.agg #[.int .i64 k, .int .i64 f, .string b, .int .i64 n])] w fun e w' => e = .returned (.bool true) ∧ Cur c s ((p : Int) + n) w' ∧ Fr B c w w' := by
  have HX := Lib.hid hx
  have hBw : B ≤ w.heap.size := Nat.le_trans hB (Nat.le_of_lt hc.1)
  have C0 := Lib.hid (hc.alloc (.cells #[.int .i64 k, .int .i64 f, .string b, .int .i64 n] 88))
  have F0 := Lib.hid ((Fr.refl B c w).alloc hBw (.cells #[.int .i64 k, .int .i64 f, .string b, .int .i64 n] 88))
  clear hx hc
  have a0 := assert_other
  have a1 := assert_filled
  go_enter Tryd.func74, Tryd.ntmps74
  go_wp2_with fail
  refine (zeros_yes c s p n _ hs hn C0.out h HX.out B hB).mono ?_
  rintro e w1 ⟨rfl, hc1, hf1⟩
  go_wp2
  go_ret
  exact ⟨rfl, hc1, F0.out.trans hf1⟩

set_option maxHeartbeats 400000 in
theorem filling_no (c : Nat) (k f : Int) (b s : ByteArray) (p n : Nat) (w : World) (hs : s.size ≤ 100000000) (hn : n ≤ 3)
    (hc : Cur c s p w) (h : ¬ (p + n ≤ s.size ∧ s.extract p (p + n) = strOfNums (List.replicate n 0))) (B : Nat) (hB : B ≤ c) :
    Calls Tryd.prog 74 #[.pointer (some ⟨c, 0, none⟩), .iface 88 (.agg #[.int .i64 k, .int .i64 f, .string b, .int .i64 n])] w fun e w' => e = .returned (.bool false) ∧ Fr B c w w' := by
  have HX := Lib.hid h
  have hBw : B ≤ w.heap.size := Nat.le_trans hB (Nat.le_of_lt hc.1)
  have C0 := Lib.hid (hc.alloc (.cells #[.int .i64 k, .int .i64 f, .string b, .int .i64 n] 88))
  have F0 := Lib.hid ((Fr.refl B c w).alloc hBw (.cells #[.int .i64 k, .int .i64 f, .string b, .int .i64 n] 88))
  clear h hc
  have a0 := assert_other
  have a1 := assert_filled
  go_enter Tryd.func74, Tryd.ntmps74
  go_wp2_with fail
  refine (zeros_no c s p n _ hs hn C0.out HX.out B hB).mono ?_
  rintro e w1 ⟨rfl, hf1⟩
  go_wp2
  go_ret
  exact ⟨rfl, F0.out.trans hf1⟩

end Go.Proofs.YtcpdpamoddmpaabDoor
