/- The walk of the law on what has arrived. -/
import Derived.Test.YtcjabomcndahbaaK105
import Derived.Test.YtcjabomcndahbaaK92
import Derived.Test.YtcjabomcndahbaaK94
import Derived.Test.YtcjabomcndahbaaK100
import Derived.Test.YtcjabomcndahbaaK10
import Derived.Handy
namespace Go.Proofs.Ytcjabomcndahbaa
open Go.RowKit Go.PlainAid

set_option maxHeartbeats 4000000 in
theorem walk_fnSeenHas (a0 : Option Addr) (len0 cap0 : Nat) (z0 : List Int) (w : World) (w0 : IsRow .u8 w a0 len0 cap0 z0) :
    Calls Try.prog 5 #[.slice a0 len0 cap0] w fun e w' => e = .returned (.bool true) ∧ Below w.heap.size w w' := by
  have H := Lib.hid w0
  clear w0
  by_cases hl : (1048576 : Int) < len0
  · go_enter Try.func5, Try.ntmps5
    go_wp2
    go_ret
    exact ⟨rfl, Below.refl _ _⟩
  · go_enter Try.func5, Try.ntmps5
    go_wp2_with fail
    refine (drawSeenHas_any a0 len0 cap0 z0 _ H.out).mono ?_
    rintro e w1 ⟨c, a, k, cap, es, t, rfl, nk, nc, ne, nt, hown⟩
    have hb1 := hown.b
    have GA := Lib.hid hown.ns
    clear hown ne nt nc
    obtain ⟨z, hz⟩ : ∃ z, hasSV c es t = z := ⟨_, rfl⟩
    have HZ := Lib.hid hz
    clear hz
    by_cases hs : SeenOk c es
    · have HV := Lib.hid (seenV_yes hs)
      have HO := Lib.hid hs
      go_wp2_with fail
      refine (seenHas_any c a k cap es t _ ((GA.out).below (below_box (.cells (List.toArray [.int .i64 c, .slice a k cap]) 26) (Nat.le_refl _)))).mono ?_
      rw [HZ.out]
      rintro e w2 ⟨rfl, hb2⟩
      have Vs := Lib.hid ((VarN.new_at (w := w1) (d := w1.heap.size) (by simp) [.int .i64 c, .slice a k cap] 26).below hb2 (by simp))
      have HB2 := Lib.hid (((hb1).alloc (Nat.le_trans hb1.size (by exact Nat.le_refl _)) (.cells (List.toArray [.int .i64 c, .slice a k cap]) 26)).trans (hb2.mono (Nat.le_trans hb1.size (by simp <;> omega))))
      have lts : w1.heap.size < w2.heap.size := lt_of_cell (Vs.out 0 _ rfl).1
      have nes : ¬ w1.heap.size = w2.heap.size := by omega
      have GA := Lib.hid (((GA.out).below (below_box (.cells (List.toArray [.int .i64 c, .slice a k cap]) 26) (Nat.le_refl _))).below hb2)
      clear hb2
      have s0 := (Vs.out 0 _ rfl).1
      have sf0 := (Vs.out 0 _ rfl).2
      have s1 := (Vs.out 1 _ rfl).1
      have sf1 := (Vs.out 1 _ rfl).2
      go_wp2_with fail
      refine (sSeenHas_any c a k cap es t _ GA.out).mono ?_
      rw [HZ.out]
      rintro e w3 ⟨rfl, hb3⟩
      clear s0 sf0 s1 sf1
      have Vs := Lib.hid ((Vs.out).below hb3 lts)
      have HB3 := Lib.hid (HB2.out.trans (hb3.mono HB2.out.size))
      have lts : w1.heap.size < w3.heap.size := lt_of_cell (Vs.out 0 _ rfl).1
      have nes : ¬ w1.heap.size = w3.heap.size := by omega
      have GA := Lib.hid ((GA.out).below hb3)
      clear hb3
      have s0 := (Vs.out 0 _ rfl).1
      have sf0 := (Vs.out 0 _ rfl).2
      have s1 := (Vs.out 1 _ rfl).1
      have sf1 := (Vs.out 1 _ rfl).2
      go_wp2_with fail
      refine (sSeenValid_any c a k cap es _ GA.out).mono ?_
      rw [HV.out]
      rintro e w4 ⟨rfl, hb4⟩
      clear s0 sf0 s1 sf1
      have Vs := Lib.hid ((Vs.out).below hb4 lts)
      have HB4 := Lib.hid (HB3.out.trans (hb4.mono HB3.out.size))
      have lts : w1.heap.size < w4.heap.size := lt_of_cell (Vs.out 0 _ rfl).1
      have nes : ¬ w1.heap.size = w4.heap.size := by omega
      have GA := Lib.hid ((GA.out).below hb4)
      clear hb4
      by_cases ht : Ser t
      · have HI := Lib.hid (inV_self ht)
        obtain ⟨d, hd⟩ : ∃ d, diffS c t = d := ⟨_, rfl⟩
        have HD := Lib.hid ((diffV_yes (seen_ser HO.out) ht).trans hd)
        have HE := Lib.hid (show z = decide (d ≤ 0 ∨ d ∈ es) by rw [← HZ.out, ← hd]; unfold hasSV; exact decide_eq_decide.2 ⟨fun h => h.2.2, fun h => ⟨HO.out, ht, h⟩⟩)
        clear hd
        have s0 := (Vs.out 0 _ rfl).1
        have sf0 := (Vs.out 0 _ rfl).2
        have s1 := (Vs.out 1 _ rfl).1
        have sf1 := (Vs.out 1 _ rfl).2
        go_wp2_with fail
        refine (sSerialIn_any t t 1 _).mono ?_
        rw [HI.out]
        rintro e w' ⟨rfl, rfl⟩
        have s0 := (Vs.out 0 _ rfl).1
        have sf0 := (Vs.out 0 _ rfl).2
        have s1 := (Vs.out 1 _ rfl).1
        have sf1 := (Vs.out 1 _ rfl).2
        go_wp2_with fail
        refine (serialDiff_any c t _).mono ?_
        rw [HD.out]
        rintro e w5 ⟨rfl, hb5⟩
        clear s0 sf0 s1 sf1
        have Vs := Lib.hid ((Vs.out).below hb5 lts)
        have HB5 := Lib.hid (HB4.out.trans (hb5.mono HB4.out.size))
        have lts : w1.heap.size < w5.heap.size := lt_of_cell (Vs.out 0 _ rfl).1
        have nes : ¬ w1.heap.size = w5.heap.size := by omega
        have GA := Lib.hid ((GA.out).below hb5)
        clear hb5
        by_cases hd0 : d ≤ 0
        · obtain rfl : z = true := by rw [HE.out]; exact decide_eq_true (.inl hd0)
          have s0 := (Vs.out 0 _ rfl).1
          have sf0 := (Vs.out 0 _ rfl).2
          have s1 := (Vs.out 1 _ rfl).1
          have sf1 := (Vs.out 1 _ rfl).2
          go_wp2
          go_ret
          exact ⟨rfl, HB5.out⟩
        · obtain rfl : z = decide (d ∈ es) := by rw [HE.out]; exact decide_eq_decide.2 ⟨fun h => h.elim (fun h => absurd h hd0) (fun h => h), .inr⟩
          have hd1 : decide (d ≤ 0) = false := decide_eq_false hd0
          have s0 := (Vs.out 0 _ rfl).1
          have sf0 := (Vs.out 0 _ rfl).2
          have s1 := (Vs.out 1 _ rfl).1
          have sf1 := (Vs.out 1 _ rfl).2
          go_wp2_with fail
          refine (hasInt_any a k cap es d _ GA.out).mono ?_
          rintro e w6 ⟨rfl, hb6⟩
          clear s0 sf0 s1 sf1
          have Vs := Lib.hid ((Vs.out).below hb6 lts)
          have HB6 := Lib.hid (HB5.out.trans (hb6.mono HB5.out.size))
          have lts : w1.heap.size < w6.heap.size := lt_of_cell (Vs.out 0 _ rfl).1
          have nes : ¬ w1.heap.size = w6.heap.size := by omega
          have GA := Lib.hid ((GA.out).below hb6)
          clear hb6
          have s0 := (Vs.out 0 _ rfl).1
          have sf0 := (Vs.out 0 _ rfl).2
          have s1 := (Vs.out 1 _ rfl).1
          have sf1 := (Vs.out 1 _ rfl).2
          go_wp2
          go_ret
          exact ⟨ret_b (by simp), HB6.out⟩
      · have HI := Lib.hid (inV_self_no ht)
        have s0 := (Vs.out 0 _ rfl).1
        have sf0 := (Vs.out 0 _ rfl).2
        have s1 := (Vs.out 1 _ rfl).1
        have sf1 := (Vs.out 1 _ rfl).2
        go_wp2_with fail
        refine (sSerialIn_any t t 1 _).mono ?_
        rw [HI.out]
        rintro e w' ⟨rfl, rfl⟩
        have s0 := (Vs.out 0 _ rfl).1
        have sf0 := (Vs.out 0 _ rfl).2
        have s1 := (Vs.out 1 _ rfl).1
        have sf1 := (Vs.out 1 _ rfl).2
        go_wp2
        go_ret
        exact ⟨ret_b (by simp), HB4.out⟩
    · have HV := Lib.hid (seenV_no hs)
      go_wp2_with fail
      refine (seenHas_any c a k cap es t _ ((GA.out).below (below_box (.cells (List.toArray [.int .i64 c, .slice a k cap]) 26) (Nat.le_refl _)))).mono ?_
      rw [HZ.out]
      rintro e w2 ⟨rfl, hb2⟩
      have Vs := Lib.hid ((VarN.new_at (w := w1) (d := w1.heap.size) (by simp) [.int .i64 c, .slice a k cap] 26).below hb2 (by simp))
      have HB2 := Lib.hid (((hb1).alloc (Nat.le_trans hb1.size (by exact Nat.le_refl _)) (.cells (List.toArray [.int .i64 c, .slice a k cap]) 26)).trans (hb2.mono (Nat.le_trans hb1.size (by simp <;> omega))))
      have lts : w1.heap.size < w2.heap.size := lt_of_cell (Vs.out 0 _ rfl).1
      have nes : ¬ w1.heap.size = w2.heap.size := by omega
      have GA := Lib.hid (((GA.out).below (below_box (.cells (List.toArray [.int .i64 c, .slice a k cap]) 26) (Nat.le_refl _))).below hb2)
      clear hb2
      have s0 := (Vs.out 0 _ rfl).1
      have sf0 := (Vs.out 0 _ rfl).2
      have s1 := (Vs.out 1 _ rfl).1
      have sf1 := (Vs.out 1 _ rfl).2
      go_wp2_with fail
      refine (sSeenHas_any c a k cap es t _ GA.out).mono ?_
      rw [HZ.out]
      rintro e w3 ⟨rfl, hb3⟩
      clear s0 sf0 s1 sf1
      have Vs := Lib.hid ((Vs.out).below hb3 lts)
      have HB3 := Lib.hid (HB2.out.trans (hb3.mono HB2.out.size))
      have lts : w1.heap.size < w3.heap.size := lt_of_cell (Vs.out 0 _ rfl).1
      have nes : ¬ w1.heap.size = w3.heap.size := by omega
      have GA := Lib.hid ((GA.out).below hb3)
      clear hb3
      have s0 := (Vs.out 0 _ rfl).1
      have sf0 := (Vs.out 0 _ rfl).2
      have s1 := (Vs.out 1 _ rfl).1
      have sf1 := (Vs.out 1 _ rfl).2
      go_wp2_with fail
      refine (sSeenValid_any c a k cap es _ GA.out).mono ?_
      rw [HV.out]
      rintro e w4 ⟨rfl, hb4⟩
      clear s0 sf0 s1 sf1
      have Vs := Lib.hid ((Vs.out).below hb4 lts)
      have HB4 := Lib.hid (HB3.out.trans (hb4.mono HB3.out.size))
      have lts : w1.heap.size < w4.heap.size := lt_of_cell (Vs.out 0 _ rfl).1
      have nes : ¬ w1.heap.size = w4.heap.size := by omega
      have GA := Lib.hid ((GA.out).below hb4)
      clear hb4
      have s0 := (Vs.out 0 _ rfl).1
      have sf0 := (Vs.out 0 _ rfl).2
      have s1 := (Vs.out 1 _ rfl).1
      have sf1 := (Vs.out 1 _ rfl).2
      go_wp2
      go_ret
      exact ⟨ret_b (by simp), HB4.out⟩

end Go.Proofs.Ytcjabomcndahbaa
