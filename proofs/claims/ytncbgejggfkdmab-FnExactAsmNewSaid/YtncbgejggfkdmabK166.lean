/- The contracts of the laws' helpers on assemblies: equality of parts, of messages, of assemblies. -/
import Derived.Test.YtncbgejggfkdmabK94
import Derived.Test.YtncbgejggfkdmabK130
import Derived.Laws.StructEq
namespace Go.Proofs.Ytncbgejggfkdmab
open Go.RowKit Go.PlainAid

set_option maxHeartbeats 2000000 in
theorem sameParts_same (a b : Option Addr) (len cap cap2 : Nat) (ps : List Part) (w : World) (h : Pts w a len cap ps) (k : Pts w b len cap2 ps) :
    Calls Try.prog 41 #[.slice a len cap, .slice b len cap2] w fun e w' => e = .returned (.bool true) ∧ Below w.heap.size w w' := by
  have hl := h.length
  have hm := h.len_int
  have HG := Lib.hid h
  have HK := Lib.hid k
  clear h k
  go_enter Try.func41, Try.ntmps41
  go_wp2
  go_loopw [5] (fun i wr => ∃ k : Nat, k ≤ len ∧ i = .int .i64 k ∧ Hid (Below w.heap.size w wr)) (fun i _ => len - (intOf i).toNat)
  case atStart => exact ⟨0, Nat.zero_le _, rfl, Lib.hid (Below.refl _ _)⟩
  case round =>
    obtain ⟨k, hk, rfl, hbel⟩ := hrel
    by_cases hlt : k < len
    · obtain ⟨x, rfl⟩ := HG.out.addr hlt
      obtain ⟨y, rfl⟩ := HK.out.addr hlt
      obtain ⟨p0, p1, p2, p3, p4, p5, p6⟩ := HG.out.at hbel.out hlt
      obtain ⟨m0, m1, m2, m3, m4, m5, m6⟩ := HK.out.at hbel.out hlt
      obtain ⟨⟨t, s, q, fi, la, lo, tx⟩, hc1⟩ : ∃ c1, pAt ps k = c1 := ⟨_, rfl⟩
      rw [hc1] at p0 p1 p2 p3 p4 p5 p6 m0 m1 m2 m3 m4 m5 m6
      dsimp only at p0 p1 p2 p3 p4 p5 p6 m0 m1 m2 m3 m4 m5 m6
      clear hc1
      have hneq : ∀ w, (binOp .neq 43 (.agg #[.int .i64 t, .int .i64 s, .int .i64 q, .bool fi, .bool la, .bool lo, .string tx]) (.agg #[.int .i64 t, .int .i64 s, .int .i64 q, .bool fi, .bool la, .bool lo, .string tx])).run Try.prog w = .ok (.bool false) w := fun w => by go_simp
      go_wp2_with fail
      go_quiet (fail)
      go_wp2
      go_roundw
      case rel => exact ⟨k + 1, by omega, by go_num, Lib.hid (below_drewN hbel.out _)⟩
      case measure => simp [intOf]; omega
    · obtain rfl : k = len := by omega
      go_wp2
      go_ret
      exact ⟨rfl, hbel.out⟩

set_option maxHeartbeats 1000000 in
theorem sameAsm_same (an ap bn bp : Option Addr) (n c1 c2 l c3 c4 : Nat) (es : List Int) (ps : List Part) (w : World) (h1 : Ns w an n c1 es) (h2 : Ns w bn n c2 es) (h3 : Pts w ap l c3 ps) (h4 : Pts w bp l c4 ps) :
    Calls Try.prog 15 #[.agg #[.slice an n c1, .slice ap l c3], .agg #[.slice bn n c2, .slice bp l c4]] w fun e w' => e = .returned (.bool true) ∧ Below w.heap.size w w' := by
  have B2 := Lib.hid (show Below w.heap.size w ((w.alloc (.cells #[.slice an n c1, .slice ap l c3] 27)).alloc (.cells #[.slice bn n c2, .slice bp l c4] 27)) from (below_box _ (Nat.le_refl _)).alloc (by simp) _)
  have N1 := Lib.hid (h1.below B2.out)
  have N2 := Lib.hid (h2.below B2.out)
  have P1 := Lib.hid (h3.below B2.out)
  have P2 := Lib.hid (h4.below B2.out)
  have VA := Lib.hid ((VarN.new w [.slice an n c1, .slice ap l c3] 27).alloc (.cells #[.slice bn n c2, .slice bp l c4] 27) (by simp))
  have VB := Lib.hid (VarN.new_at (w := w.alloc (.cells #[.slice an n c1, .slice ap l c3] 27)) (d := w.heap.size + 1) (by simp) [.slice bn n c2, .slice bp l c4] 27)
  clear h1 h2 h3 h4
  go_enter Try.func15, Try.ntmps15
  go_wp2_with fail
  refine (sameInts_same an bn n c1 c2 es _ N1.out N2.out).mono ?_
  rintro e w1 ⟨rfl, hb1⟩
  have a1 := ((VA.out.below hb1 (by simp; omega)) 1 _ rfl).1
  have b1 := ((VB.out.below hb1 (by simp)) 1 _ rfl).1
  have Q1 := Lib.hid (P1.out.below hb1)
  have Q2 := Lib.hid (P2.out.below hb1)
  have B3 := Lib.hid (B2.out.trans (hb1.mono B2.out.size))
  clear hb1
  go_wp2_with fail
  refine (sameParts_same ap bp l c3 c4 ps _ Q1.out Q2.out).mono ?_
  rintro e w2 ⟨rfl, hb2⟩
  have B4 := Lib.hid (B3.out.trans (hb2.mono B3.out.size))
  clear hb2
  go_wp2
  go_ret
  exact ⟨rfl, B4.out⟩

end Go.Proofs.Ytncbgejggfkdmab
