/- The draws of captures: arguments of the laws. -/
import Derived.Test.YtodpbjomiplphabK71
import Derived.Test.YtodpbjomiplphabK75
import Derived.Test.YtodpbjomiplphabK15
namespace Go.Proofs.Ytodpbjomiplphab
open Go.RowKit Go.PlainAid

/-- Drawn records, as an argument of a law. -/
def DrewRc (w : World) (e : Ending) (w' : World) : Prop :=
  ∃ (g k cap : Nat) (rs : List (Int × ByteArray)), e = .returned (.slice (some ⟨g, 0, none⟩) k cap) ∧ k ≤ 62 ∧ w.heap.size ≤ g ∧ Rcs w' (some ⟨g, 0, none⟩) k cap rs ∧ (∀ j, w'.frozen? ⟨g, j, none⟩ = false) ∧ SmallR rs ∧ Below w.heap.size w w'

set_option maxHeartbeats 1000000 in
theorem drawCaptureValid_any (a : Option Addr) (len cap : Nat) (zs : List Int) (w : World) (h : IsRow .u8 w a len cap zs) :
    Calls Try.prog 14 #[.slice a len cap] w (DrewRc w) := by
  go_enter Try.func14, Try.ntmps14
  go_wp2_with fail
  refine (l6Open_any a len cap zs _ h).mono ?_
  rintro e w1 ⟨r, rfl, hr1, hb1⟩
  go_wp2_with fail
  refine (l91Records_any _ r 0 _ hr1 (by omega)).mono ?_
  rintro e w2 ⟨g, k, cap2, rs, rfl, hk, hg, hc, hf, hs, _, hb2⟩
  have hb := hb1.trans hb2
  have hg2 : w.heap.size ≤ g := Nat.le_trans hb1.size hg
  have K := Lib.hid (show DrewRc w (.returned (.slice (some ⟨g, 0, none⟩) k cap2)) w2 from ⟨g, k, cap2, rs, rfl, hk, hg2, hc, hf, hs, hb⟩)
  clear hr1 hb1 hb2 hc hf hs hb
  go_wp2
  go_ret
  exact K.out

theorem capS_le {rs : List (Int × ByteArray)} (h : CapOk rs) : (capS rs).size ≤ 7564 := by
  have h1 := recsS_le h.1
  have h2 := h.2
  rw [capS_size]
  omega
/-- What the model writes of drawn records is small. -/
theorem sCapturePut_some (a : Option Addr) (len cap : Nat) (rs : List (Int × ByteArray)) (w : World) (h : Rcs w a len cap rs) (hz : SmallR rs) :
    Calls Try.prog 20 #[.slice a len cap] w fun e w' => ∃ s : ByteArray, e = .returned (.string s) ∧ s.size ≤ 7564 ∧ Below w.heap.size w w' := by
  by_cases hok : CapOk rs
  · exact (sCapturePut_yes a len cap rs w h hok).mono fun e w' ⟨h1, h2⟩ => ⟨_, h1, capS_le hok, h2⟩
  · exact (sCapturePut_no a len cap rs w h (fun r hr => Nat.le_trans (hz r hr).2 (by decide)) hok).mono fun e w' ⟨h1, h2⟩ => ⟨_, h1, by decide, h2⟩

/-- A drawn text of a capture. -/
def DrewCx (w : World) (e : Ending) (w' : World) : Prop := ∃ s : ByteArray, e = .returned (.string s) ∧ s.size ≤ 7565 ∧ Below w.heap.size w w'

set_option maxHeartbeats 2000000 in
theorem drawCaptureGet_any (a : Option Addr) (len cap : Nat) (zs : List Int) (w : World) (h : IsRow .u8 w a len cap zs) :
    Calls Try.prog 26 #[.slice a len cap] w (DrewCx w) := by
  go_enter Try.func26, Try.ntmps26
  go_wp2_with fail
  refine (l6Open_any a len cap zs _ h).mono ?_
  rintro e w1 ⟨r, rfl, hr1, hb1⟩
  go_wp2_with fail
  refine (l91Records_any _ r 0 _ hr1 (by omega)).mono ?_
  rintro e w2 ⟨g, k, cap2, rs, rfl, _, _, hc, _, hs, hr2, hb2⟩
  have hb2' := hb1.trans hb2
  have HCh := Lib.hid hc
  have HSm := Lib.hid hs
  clear hr1 hb1 hb2 hc hs
  go_wp2_with fail
  refine (sCapturePut_some _ k cap2 rs _ HCh.out HSm.out).mono ?_
  rintro e w3 ⟨x, rfl, hx, hb3⟩
  have hr3 := hr2.keep hb3 hr2.2.1
  have hb3' := hb2'.trans (hb3.mono hb2'.size)
  clear hr2 hb2' hb3 HCh
  go_wp2_with fail
  refine (l91Spoil_any _ r _ x _ hr3 (by omega) (by omega)).mono ?_
  rintro e w4 ⟨s, rfl, hs, hr4, hb4⟩
  have hb4' := Lib.hid (hb3'.trans hb4)
  have hs2 : s.size ≤ 7565 := by omega
  clear hr3 hb3' hb4 hs hx hr4
  go_wp2
  go_ret
  exact ⟨s, rfl, hs2, hb4'.out⟩
set_option maxHeartbeats 1000000 in
theorem drawCaptureBegin_any (a : Option Addr) (len cap : Nat) (zs : List Int) (w : World) (h : IsRow .u8 w a len cap zs) :
    Calls Try.prog 10 #[.slice a len cap] w (DrewCx w) := by
  go_enter Try.func10, Try.ntmps10
  go_wp2_with fail
  refine (drawCaptureGet_any a len cap zs _ h).mono ?_
  rintro e w1 ⟨s, rfl, hs, hb⟩
  have HB := Lib.hid hb
  clear hb
  go_wp2
  go_ret
  exact ⟨s, rfl, hs, HB.out⟩

end Go.Proofs.Ytodpbjomiplphab
