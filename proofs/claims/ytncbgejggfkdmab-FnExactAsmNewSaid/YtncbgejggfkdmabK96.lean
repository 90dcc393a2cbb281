/- The laws' exact helpers on what has arrived: copy, equality, marks. -/
import Derived.Test.YtncbgejggfkdmabK95
import Derived.Deep.RegionHeldLaw
import Derived.Handy
namespace Go.Proofs.Ytncbgejggfkdmab
open Go.RowKit Go.PlainAid

set_option maxHeartbeats 1000000 in
theorem eqIntS_same (a b : Option Addr) (len cap cap2 : Nat) (es : List Int) (w : World) (h : Ns w a len cap es) (k : Ns w b len cap2 es) :
    Calls Try.prog 57 #[.slice a len cap, .slice b len cap2] w fun e w' => e = .returned (.bool true) ∧ Below w.heap.size w w' := by
  have hl := h.length
  have hm := h.len_int
  have HG := Lib.hid h
  have HK := Lib.hid k
  clear h k
  go_enter Try.func57, Try.ntmps57
  go_wp2
  go_loopw [5] (fun i wr => ∃ k : Nat, k ≤ len ∧ i = .int .i64 k ∧ Hid (Below w.heap.size w wr)) (fun i _ => len - (intOf i).toNat)
  case atStart => exact ⟨0, Nat.zero_le _, rfl, Lib.hid (Below.refl _ _)⟩
  case round =>
    obtain ⟨k, hk, rfl, hbel⟩ := hrel
    by_cases hlt : k < len
    · obtain ⟨x, rfl⟩ := HG.out.addr hlt
      obtain ⟨y, rfl⟩ := HK.out.addr hlt
      have p0 := HG.out.at hbel.out hlt
      have m0 := HK.out.at hbel.out hlt
      obtain ⟨c1, hc1⟩ : ∃ c1, nAt es k = c1 := ⟨_, rfl⟩
      rw [hc1] at p0 m0
      clear hc1
      go_wp2_with fail
      go_quiet (fail)
      go_wp2
      go_roundw
      case rel => exact ⟨k + 1, by omega, by go_num, Lib.hid (below_drewN hbel.out _)⟩
      case measure => simp [intOf]; omega
    · obtain rfl : k = len := by omega
      go_wp2
      go_ret
      exact ⟨rfl, hbel.out⟩

set_option maxHeartbeats 1000000 in
theorem markIntS_any (g n cap : Nat) (w : World) (hn : n ≤ 1048576) (hg : g < w.heap.size) (h : FilN g n 0 (marksN n) w) (hf : FreeN g w) :
    Calls Try.prog 58 #[.slice (some ⟨g, 0, none⟩) n cap, .int .i64 1] w fun e w' => e = .returned (.int .i64 (1 + (n : Int))) ∧ FilN g n n (marksN n) w' ∧ FreeN g w' ∧ MwN g w w' := by
  have HF := Lib.hid (And.intro h (And.intro hf (show MwN g w w from ⟨Aside.refl _ _ _, Below.refl _ _, Nat.le_refl _, hg⟩)))
  clear h hf
  go_enter Try.func58, Try.ntmps58
  go_wp2
  go_loopw [1, 5] (fun m i wr => ∃ j : Nat, j ≤ n ∧ i = .int .i64 j ∧ m = .int .i64 (1 + (j : Int)) ∧ Hid (FilN g n j (marksN n) wr ∧ FreeN g wr ∧ MwN g w wr)) (fun _ i _ => n - (intOf i).toNat)
  case atStart => exact ⟨0, Nat.zero_le _, rfl, rfl, HF⟩
  case round =>
    obtain ⟨j, hj, rfl, rfl, hfi⟩ := hrel
    clear HF
    by_cases hlt : j < n
    · obtain ⟨F0, R0, M0⟩ := hfi.out
      obtain ⟨u, s0, _⟩ := F0 j hlt
      have r0 := R0 j
      have HN := Lib.hid (show FilN g n (j + 1) (marksN n) (wr.setCell ⟨g, j, none⟩ (.int .i64 (1 + (j : Int)))) ∧ FreeN g (wr.setCell ⟨g, j, none⟩ (.int .i64 (1 + (j : Int)))) ∧ MwN g w (wr.setCell ⟨g, j, none⟩ (.int .i64 (1 + (j : Int)))) from ⟨F0.put hlt (marksN_at n j hlt), R0.set _, M0.set _⟩)
      have k1 : IntKind.i64.wrap (1 + (j : Int) + 1) = 1 + (j : Int) + 1 := IntWalk.i64_in _ (by omega)
      clear F0 R0 M0 hfi
      go_wp2
      go_roundw
      case rel => exact ⟨j + 1, by omega, by go_num, by go_num, HN⟩
      case measure => simp [intOf]; omega
    · obtain rfl : j = n := by omega
      go_wp2
      go_ret
      exact ⟨rfl, hfi.out.1, hfi.out.2.1, hfi.out.2.2⟩

set_option maxHeartbeats 1000000 in
theorem heldIntS_any (a : Option Addr) (n cap : Nat) (w : World) (hn : n ≤ 1048576) (h : Ns w a n cap (marksN n)) :
    Calls Try.prog 59 #[.slice a n cap, .int .i64 1] w fun e w' => e = .returned (.int .i64 (1 + (n : Int))) ∧ Below w.heap.size w w' := by
  have HG := Lib.hid h
  clear h
  go_enter Try.func59, Try.ntmps59
  go_wp2
  go_loopw [1, 5] (fun m i wr => ∃ j : Nat, j ≤ n ∧ i = .int .i64 j ∧ m = .int .i64 (1 + (j : Int)) ∧ Hid (Below w.heap.size w wr)) (fun _ i _ => n - (intOf i).toNat)
  case atStart => exact ⟨0, Nat.zero_le _, rfl, rfl, Lib.hid (Below.refl _ _)⟩
  case round =>
    obtain ⟨j, hj, rfl, rfl, hbel⟩ := hrel
    by_cases hlt : j < n
    · obtain ⟨x, rfl⟩ := HG.out.addr hlt
      have p0 := HG.out.at hbel.out hlt
      rw [marksN_at n j hlt] at p0
      have k1 : IntKind.i64.wrap (1 + (j : Int) + 1) = 1 + (j : Int) + 1 := IntWalk.i64_in _ (by omega)
      go_wp2_with fail
      try (go_quiet (fail); go_wp2)
      go_roundw
      case rel => exact ⟨j + 1, by omega, by go_num, by go_num, Lib.hid (by first | exact hbel.out | exact below_drewN hbel.out _)⟩
      case measure => simp [intOf]; omega
    · obtain rfl : j = n := by omega
      go_wp2
      go_ret
      exact ⟨rfl, hbel.out⟩

set_option maxHeartbeats 400000 in
theorem markIntS_none (w : World) :
    Calls Try.prog 58 #[.slice none 0 0, .int .i64 1] w fun e w' => e = .returned (.int .i64 1) ∧ w' = w := by
  go_enter Try.func58, Try.ntmps58
  go_wp2
  go_loopw [1, 5] (fun m i wr => m = .int .i64 1 ∧ i = .int .i64 0 ∧ wr = w) (fun _ _ _ => 0)
  case atStart => exact ⟨rfl, rfl, rfl⟩
  case round =>
    obtain ⟨rfl, rfl, rfl⟩ := hrel
    go_wp2
    go_ret
    exact ⟨rfl, rfl⟩

end Go.Proofs.Ytncbgejggfkdmab
