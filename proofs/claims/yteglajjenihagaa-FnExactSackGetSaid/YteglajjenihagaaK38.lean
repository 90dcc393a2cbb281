/- The contract of the drawing function of the law on receipts that are read. -/
import Derived.Test.YteglajjenihagaaK22
import Derived.Test.YteglajjenihagaaK29
import Derived.Test.YteglajjenihagaaK33
namespace Go.Proofs.Yteglajjenihagaa
open Go.RowKit Go.PlainAid

theorem sSackPut_made (c : Int) (a : Option Addr) (len cap : Nat) (gs : List (Int × Int)) (w : World) (h : Gaps w a len cap gs) :
    Calls Try.prog 10 #[.agg #[.int .i64 c, .slice a len cap]] w (MadeC w) := by
  by_cases hc : SackOk c gs
  · refine (sSackPut_yes c a len cap gs w h hc).mono ?_
    rintro e w' ⟨rfl, hb⟩
    have h8 := sack_few hc
    exact ⟨_, _, _, _, rfl, ⟨⟨by omega, by omega⟩, ⟨by omega, by omega⟩, by rw [sackS_size]; omega⟩, hb⟩
  · refine (sSackPut_no c a len cap gs w h hc).mono ?_
    rintro e w' ⟨rfl, hb⟩
    exact ⟨_, _, _, _, rfl, ⟨⟨by omega, by omega⟩, ⟨by omega, by omega⟩, by decide⟩, hb⟩

set_option maxHeartbeats 2000000 in
theorem drawSackGet_any (a0 : Option Addr) (len0 cap0 : Nat) (zs : List Int) (w : World) (h : IsRow .u8 w a0 len0 cap0 zs) :
    Calls Try.prog 13 #[.slice a0 len0 cap0] w (DrewCh w) := by
  have H := Lib.hid h
  clear h
  go_enter Try.func13, Try.ntmps13
  go_wp2_with fail
  refine (l6Open_any a0 len0 cap0 zs _ (H.out.keep (below_box _ (Nat.le_refl _)))).mono ?_
  rintro e w1 ⟨r, rfl, hr1, hb1⟩
  go_wp2_with fail
  refine (l91Sack_any _ r 0 _ hr1 (by omega)).mono ?_
  rintro e w2 ⟨c, g, n, cap, gs, rfl, hc, hk, hg, hG, hs, hr2, hb2⟩
  have hb2' := hb1.trans hb2
  have HG := Lib.hid hG
  clear hr1 hb1 hb2 hG
  go_wp2_with fail
  refine (sSackPut_made c _ n cap gs _ HG.out).mono ?_
  rintro e w3 ⟨k, f, s, ok, rfl, ⟨hk, hf, hs⟩, hb3⟩
  have hr3 := hr2.keep hb3 hr2.2.1
  have hb3' := hb2'.trans (hb3.mono hb2'.size)
  clear hr2 hb2' hb3 HG
  have R := (VarN.new w [.int .i64 0, .int .i64 0, .string (ByteArray.mk #[])] 28).below hb3' (by simp)
  have HR := Lib.hid R
  clear R
  have hw3 : w.heap.size < w3.heap.size := lt_of_cell (HR.out 0 _ rfl).1
  go_wp2_with fail
  refine (l91Any_fr _ r (0 + 60) k f s _ (hr3.alloc _) (by omega) ⟨by omega, by omega⟩ ⟨by omega, by omega⟩ (by omega)).mono ?_
  rintro e w4 ⟨⟨k', f', b', rfl, hp', _, hb4⟩, _⟩
  have R4 := (HR.out.alloc (.cells #[.int .i64 k, .int .i64 f, .string s] 28) hw3).below hb4 (by simp)
  have hB3 : Below w.heap.size w w3 := (below_box _ (Nat.le_refl _)).trans (hb3'.mono (by simp))
  have hb : Below w.heap.size w w4 := (hB3.alloc hB3.size _).trans (hb4.mono (by simp))
  clear hb3' hb4 hr3 HR hB3 hw3
  have r0 := (R4 0 _ rfl).1
  have r1 := (R4 1 _ rfl).1
  have r2 := (R4 2 _ rfl).1
  have g0 := (R4 0 _ rfl).2
  have g1 := (R4 1 _ rfl).2
  have g2 := (R4 2 _ rfl).2
  clear R4
  go_wp2
  refine bodyPost_ret (v := .agg #[.int .i64 k', .int .i64 f', .string b']) ?_ rfl ?_
  · simp [results, Try.results13, go_sem, r0, r1, r2]
  · exact ⟨k', f', b', rfl, hp', by
      repeat (first | with_reducible exact hb | refine Below.setCell ?_ (by exact Nat.le_refl _) _)⟩

end Go.Proofs.Yteglajjenihagaa
