/- The laws' exact helpers on what has arrived: copy, equality, marks. -/
import Derived.Test.YtcjabomcndahbaaK95
import Derived.Deep.RegionHeldLaw
import Derived.Handy
namespace Go.Proofs.Ytcjabomcndahbaa
open Go.RowKit Go.PlainAid

set_option maxHeartbeats 1000000 in
theorem toSeen_any (c : Int) (a : Option Addr) (len cap : Nat) (es : List Int) (w : World) (h : Ns w a len cap es) (hn : len ≤ 1048576) :
    Calls Try.prog 39 #[.agg #[.int .i64 c, .slice a len cap]] w fun e w' => (∃ d, e = .returned (.agg #[.int .i64 c, .slice (some ⟨d, 0, none⟩) len len]) ∧ w.heap.size ≤ d ∧ FilN d len len es w' ∧ FreeN d w' ∧ d < w'.heap.size) ∧ Below w.heap.size w w' := by
  have G1 := Lib.hid (((h.below (below_box (.cells #[.int .i64 c, .slice a len cap] 53) (Nat.le_refl _))).below (below_box (.cells #[.int .i64 0, .slice none 0 0] 26) (Nat.le_refl _))).below (below_box (.cells #[.int .i64 c, .slice none 0 0] 26) (Nat.le_refl _)))
  have R0 := Lib.hid ((VarN.new_at (w := w.alloc (.cells #[.int .i64 c, .slice a len cap] 53)) (d := w.heap.size + 1) (by simp) [.int .i64 0, .slice none 0 0] 26).alloc (.cells #[.int .i64 c, .slice none 0 0] 26) (by simp))
  have O0 := Lib.hid (VarN.new_at (w := (w.alloc (.cells #[.int .i64 c, .slice a len cap] 53)).alloc (.cells #[.int .i64 0, .slice none 0 0] 26)) (d := w.heap.size + 1 + 1) (by simp) [.int .i64 c, .slice none 0 0] 26)
  have B0 := Lib.hid (((below_box (.cells #[.int .i64 c, .slice a len cap] 53) (Nat.le_refl w.heap.size)).alloc (by simp) (.cells #[.int .i64 0, .slice none 0 0] 26)).alloc (by simp; omega) (.cells #[.int .i64 c, .slice none 0 0] 26))
  clear h
  go_enter Try.func39, Try.ntmps39
  go_wp2_with fail
  refine (toIntS_any a len cap es _ G1.out hn).mono ?_
  rintro e w1 ⟨⟨d, rfl, hd, hF, hfr, hdl⟩, hb1⟩
  have hd2 : w.heap.size + 1 + 1 < d := by simp at hd; omega
  have R1 := R0.out.below hb1 (by simp)
  have O1 := O0.out.below hb1 (by simp)
  have B1 := B0.out.trans (hb1.mono (by simp; omega))
  have FF := Lib.hid (((hF.far (e := w.heap.size + 1 + 1) (i := 1) (by omega) (.slice (some ⟨d, 0, none⟩) len len)).far (e := w.heap.size + 1) (i := 0) (by omega) (.int .i64 c)).far (e := w.heap.size + 1) (i := 1) (by omega) (.slice (some ⟨d, 0, none⟩) len len))
  have RR := Lib.hid (((hfr.set (e := w.heap.size + 1 + 1) (i := 1) (.slice (some ⟨d, 0, none⟩) len len)).set (e := w.heap.size + 1) (i := 0) (.int .i64 c)).set (e := w.heap.size + 1) (i := 1) (.slice (some ⟨d, 0, none⟩) len len))
  have BB := Lib.hid (((B1.setCell (p := ⟨w.heap.size + 1 + 1, 1, none⟩) (by show w.heap.size ≤ w.heap.size + 1 + 1; omega) (.slice (some ⟨d, 0, none⟩) len len)).setCell (p := ⟨w.heap.size + 1, 0, none⟩) (Nat.le_succ _) (.int .i64 c)).setCell (p := ⟨w.heap.size + 1, 1, none⟩) (Nat.le_succ _) (.slice (some ⟨d, 0, none⟩) len len))
  have r0 := (R1 0 _ rfl).1
  have r1 := (R1 1 _ rfl).1
  have g0 := (R1 0 _ rfl).2
  have g1 := (R1 1 _ rfl).2
  have o0 := (O1 0 _ rfl).1
  have o1 := (O1 1 _ rfl).1
  have og1 := (O1 1 _ rfl).2
  have HD := Lib.hid hd2
  have HL := Lib.hid hdl
  clear hb1 hd hF hfr hdl R1 O1 B1 hd2 G1 R0 O0 B0
  go_wp2
  refine bodyPost_ret (v := .agg #[.int .i64 c, .slice (some ⟨d, 0, none⟩) len len]) ?_ rfl ?_
  · simp [results, Try.results39, go_sem, r0, r1]
  · exact ⟨⟨d, rfl, by have := HD.out; omega, FF.out, RR.out, by simpa using HL.out⟩, BB.out⟩

set_option maxHeartbeats 1000000 in
theorem eqIntS_same (a b : Option Addr) (len cap cap2 : Nat) (es : List Int) (w : World) (h : Ns w a len cap es) (k : Ns w b len cap2 es) :
    Calls Try.prog 72 #[.slice a len cap, .slice b len cap2] w fun e w' => e = .returned (.bool true) ∧ Below w.heap.size w w' := by
  have hl := h.length
  have hm := h.len_int
  have HG := Lib.hid h
  have HK := Lib.hid k
  clear h k
  go_enter Try.func72, Try.ntmps72
  go_wp2
  go_loopw [5] (fun i wr => ∃ k : Nat, k ≤ len ∧ i = .int .i64 k ∧ Hid (Below w.heap.size w wr)) (fun i _ => len - (intOf i).toNat)
  case atStart => exact ⟨0, Nat.zero_le _, rfl, Lib.hid (Below.refl _ _)⟩
  case round =>
    obtain ⟨k, hk, rfl, hbel⟩ := hrel
    by_cases hlt : k < len
    · obtain ⟨x, rfl⟩ := HG.out.addr hlt
      obtain ⟨y, rfl⟩ := HK.out.addr hlt
      have p0 := HG.out.at hbel.out hlt
      have m0 := HK.out.at hbel.out hlt
      obtain ⟨c1, hc1⟩ : ∃ c1, nAt es k = c1 := ⟨_, rfl⟩
      rw [hc1] at p0 m0
      clear hc1
      go_wp2_with fail
      go_quiet (fail)
      go_wp2
      go_roundw
      case rel => exact ⟨k + 1, by omega, by go_num, Lib.hid (below_drewN hbel.out _)⟩
      case measure => simp [intOf]; omega
    · obtain rfl : k = len := by omega
      go_wp2
      go_ret
      exact ⟨rfl, hbel.out⟩

set_option maxHeartbeats 1000000 in
theorem eqSeen_same (c : Int) (a b : Option Addr) (len cap cap2 : Nat) (es : List Int) (w : World) (h : Ns w a len cap es) (k : Ns w b len cap2 es) :
    Calls Try.prog 40 #[.agg #[.int .i64 c, .slice a len cap], .agg #[.int .i64 c, .slice b len cap2]] w fun e w' => e = .returned (.bool true) ∧ Below w.heap.size w w' := by
  have G1 := Lib.hid ((h.below (below_box (.cells #[.int .i64 c, .slice a len cap] 26) (Nat.le_refl _))).below (below_box (.cells #[.int .i64 c, .slice b len cap2] 26) (Nat.le_refl _)))
  have K1 := Lib.hid ((k.below (below_box (.cells #[.int .i64 c, .slice a len cap] 26) (Nat.le_refl _))).below (below_box (.cells #[.int .i64 c, .slice b len cap2] 26) (Nat.le_refl _)))
  clear h k
  go_enter Try.func40, Try.ntmps40
  go_wp2_with fail
  refine (eqIntS_same a b len cap cap2 es _ G1.out K1.out).mono ?_
  rintro e w1 ⟨rfl, hb1⟩
  go_wp2
  go_ret
  exact ⟨rfl, ((below_box _ (Nat.le_refl _)).alloc (by simp) _).trans (hb1.mono (by simp; omega))⟩

set_option maxHeartbeats 1000000 in
theorem markIntS_any (g n cap : Nat) (w : World) (hn : n ≤ 1048576) (hg : g < w.heap.size) (h : FilN g n 0 (marksN n) w) (hf : FreeN g w) :
    Calls Try.prog 73 #[.slice (some ⟨g, 0, none⟩) n cap, .int .i64 1] w fun e w' => e = .returned (.int .i64 (1 + (n : Int))) ∧ FilN g n n (marksN n) w' ∧ FreeN g w' ∧ MwN g w w' := by
  have HF := Lib.hid (And.intro h (And.intro hf (show MwN g w w from ⟨Aside.refl _ _ _, Below.refl _ _, Nat.le_refl _, hg⟩)))
  clear h hf
  go_enter Try.func73, Try.ntmps73
  go_wp2
  go_loopw [1, 5] (fun m i wr => ∃ j : Nat, j ≤ n ∧ i = .int .i64 j ∧ m = .int .i64 (1 + (j : Int)) ∧ Hid (FilN g n j (marksN n) wr ∧ FreeN g wr ∧ MwN g w wr)) (fun _ i _ => n - (intOf i).toNat)
  case atStart => exact ⟨0, Nat.zero_le _, rfl, rfl, HF⟩
  case round =>
    obtain ⟨j, hj, rfl, rfl, hfi⟩ := hrel
    clear HF
    by_cases hlt : j < n
    · obtain ⟨F0, R0, M0⟩ := hfi.out
      obtain ⟨u, s0, _⟩ := F0 j hlt
      have r0 := R0 j
      have HN := Lib.hid (show FilN g n (j + 1) (marksN n) (wr.setCell ⟨g, j, none⟩ (.int .i64 (1 + (j : Int)))) ∧ FreeN g (wr.setCell ⟨g, j, none⟩ (.int .i64 (1 + (j : Int)))) ∧ MwN g w (wr.setCell ⟨g, j, none⟩ (.int .i64 (1 + (j : Int)))) from ⟨F0.put hlt (marksN_at n j hlt), R0.set _, M0.set _⟩)
      have k1 : IntKind.i64.wrap (1 + (j : Int) + 1) = 1 + (j : Int) + 1 := IntWalk.i64_in _ (by omega)
      clear F0 R0 M0 hfi
      go_wp2
      go_roundw
      case rel => exact ⟨j + 1, by omega, by go_num, by go_num, HN⟩
      case measure => simp [intOf]; omega
    · obtain rfl : j = n := by omega
      go_wp2
      go_ret
      exact ⟨rfl, hfi.out.1, hfi.out.2.1, hfi.out.2.2⟩

set_option maxHeartbeats 1000000 in
theorem heldIntS_any (a : Option Addr) (n cap : Nat) (w : World) (hn : n ≤ 1048576) (h : Ns w a n cap (marksN n)) :
    Calls Try.prog 74 #[.slice a n cap, .int .i64 1] w fun e w' => e = .returned (.int .i64 (1 + (n : Int))) ∧ Below w.heap.size w w' := by
  have HG := Lib.hid h
  clear h
  go_enter Try.func74, Try.ntmps74
  go_wp2
  go_loopw [1, 5] (fun m i wr => ∃ j : Nat, j ≤ n ∧ i = .int .i64 j ∧ m = .int .i64 (1 + (j : Int)) ∧ Hid (Below w.heap.size w wr)) (fun _ i _ => n - (intOf i).toNat)
  case atStart => exact ⟨0, Nat.zero_le _, rfl, rfl, Lib.hid (Below.refl _ _)⟩
  case round =>
    obtain ⟨j, hj, rfl, rfl, hbel⟩ := hrel
    by_cases hlt : j < n
    · obtain ⟨x, rfl⟩ := HG.out.addr hlt
      have p0 := HG.out.at hbel.out hlt
      rw [marksN_at n j hlt] at p0
      have k1 : IntKind.i64.wrap (1 + (j : Int) + 1) = 1 + (j : Int) + 1 := IntWalk.i64_in _ (by omega)
      go_wp2_with fail
      try (go_quiet (fail); go_wp2)
      go_roundw
      case rel => exact ⟨j + 1, by omega, by go_num, by go_num, Lib.hid (by first | exact hbel.out | exact below_drewN hbel.out _)⟩
      case measure => simp [intOf]; omega
    · obtain rfl : j = n := by omega
      go_wp2
      go_ret
      exact ⟨rfl, hbel.out⟩

set_option maxHeartbeats 400000 in
theorem markIntS_none (w : World) :
    Calls Try.prog 73 #[.slice none 0 0, .int .i64 1] w fun e w' => e = .returned (.int .i64 1) ∧ w' = w := by
  go_enter Try.func73, Try.ntmps73
  go_wp2
  go_loopw [1, 5] (fun m i wr => m = .int .i64 1 ∧ i = .int .i64 0 ∧ wr = w) (fun _ _ _ => 0)
  case atStart => exact ⟨rfl, rfl, rfl⟩
  case round =>
    obtain ⟨rfl, rfl, rfl⟩ := hrel
    go_wp2
    go_ret
    exact ⟨rfl, rfl⟩

/-- A value of one's own is marked. -/
theorem markOwnN {k : Nat} {a : Option Addr} {cap : Nat} {es : List Int} {w W : World} (c : Int) (h : OwnN k (.slice a k cap) es w W) (hk : k ≤ 1048576) :
    Calls Try.prog 41 #[.agg #[.int .i64 c, .slice a k cap], .int .i64 1] W fun e w' => e = .returned (.int .i64 (1 + (k : Int))) ∧ Ns w' a k cap (marksN k) ∧ Below w.heap.size W w' ∧ (∀ x, x < W.heap.size → some x ≠ (Value.slice a k cap).ownBlock → w'.heap[x]? = W.heap[x]?) := by
  have BX := Lib.hid (below_box (w := W) (.cells #[.int .i64 c, .slice a k cap] 26) (Nat.le_refl _))
  have hbw := h.b.size
  rcases h.own.2 with ⟨h1, h2⟩ | ⟨g, cap', cur, h1, _⟩
  · obtain ⟨rfl, rfl, rfl⟩ : a = none ∧ k = 0 ∧ cap = 0 := by simpa using h1
    go_enter Try.func41, Try.ntmps41
    go_wp2_with fail
    refine (markIntS_none _).mono ?_
    rintro e w1 ⟨rfl, rfl⟩
    go_wp2
    go_ret
    exact ⟨rfl, Ns.nil _, BX.out.mono hbw, fun x hx _ => BX.out.block x hx⟩
  · obtain ⟨rfl, rfl⟩ : a = some ⟨g, 0, none⟩ ∧ cap = cap' := by simpa using h1
    obtain ⟨f1, f2, f3, f4, f5, f6⟩ := own_filN (marksN k) h.own
    have F1 := Lib.hid (f1.below BX.out)
    have R1 := Lib.hid (f2.below f6 BX.out)
    have hz := Lib.hid (And.intro f5 f6)
    clear h h1 f1 f2 f5 f6
    go_enter Try.func41, Try.ntmps41
    go_wp2_with fail
    refine (markIntS_any g k cap _ hk (Nat.lt_of_lt_of_le hz.out.2 BX.out.size) F1.out R1.out).mono ?_
    rintro e w1 ⟨rfl, hf, _, hm⟩
    have HF := Lib.hid (hf.ns (marksN_length k) f3 f4)
    have HM := Lib.hid hm
    clear hf hm
    go_wp2
    go_ret
    exact ⟨rfl, HF.out, (BX.out.mono hbw).trans (HM.out.b.mono hz.out.1), fun x hx hne => (HM.out.a x (Nat.lt_of_lt_of_le hx BX.out.size) fun e => hne (by rw [e]; rfl)).trans (BX.out.block x hx)⟩

set_option maxHeartbeats 400000 in
theorem heldSeen_any (c : Int) (a : Option Addr) (n cap : Nat) (w : World) (hn : n ≤ 1048576) (h : Ns w a n cap (marksN n)) :
    Calls Try.prog 42 #[.agg #[.int .i64 c, .slice a n cap], .int .i64 1] w fun e w' => e = .returned (.int .i64 (1 + (n : Int))) ∧ Below w.heap.size w w' := by
  have G1 := Lib.hid (h.below (below_box (.cells #[.int .i64 c, .slice a n cap] 26) (Nat.le_refl _)))
  have hq : ¬ 1 + (n : Int) < 0 := by omega
  clear h
  go_enter Try.func42, Try.ntmps42
  go_wp2_with fail
  refine (heldIntS_any a n cap _ hn G1.out).mono ?_
  rintro e w1 ⟨rfl, hb⟩
  have HB := Lib.hid ((below_box (w := w) (.cells #[.int .i64 c, .slice a n cap] 26) (Nat.le_refl _)).trans (hb.mono (by simp)))
  clear hb
  go_wp2
  go_ret
  exact ⟨rfl, HB.out⟩

end Go.Proofs.Ytcjabomcndahbaa
