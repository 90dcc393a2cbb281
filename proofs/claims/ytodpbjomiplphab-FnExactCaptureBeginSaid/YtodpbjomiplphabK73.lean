/- The contract of chapter 14's model: the records of a capture's bytes. -/
import Derived.Test.YtodpbjomiplphabK72
namespace Go.Proofs.Ytodpbjomiplphab
open Go.RowKit Go.PlainAid

/-- What CaptureGet answers. -/
def GotR (w : World) (s : ByteArray) (e : Ending) (w' : World) : Prop :=
  (∃ rs x k cap, BeginIs s rs s.size ∧ e = .returned (.tuple #[.slice (some ⟨x, 0, none⟩) k cap, .bool true]) ∧ Rbg k x cap rs w w')
  ∨ ((∀ rs, ¬ BeginIs s rs s.size) ∧ ∃ x, e = .returned (.tuple #[.slice (some ⟨x, 0, none⟩) 0 0, .bool false]) ∧ Rbg 0 x 0 [] w w')
theorem rbg_new {w W : World} (hb : Below w.heap.size w W) : Rbg 0 W.heap.size 0 [] w (W.alloc (.cells #[] 33)) :=
  ⟨World.ownsRow_lit (base := w.heap.size) (e := 33) (size := 2) W #[] 0 hb.size (by decide) rfl, hb.alloc hb.size _⟩

set_option maxHeartbeats 1000000 in
theorem sCaptureGet_any (s : ByteArray) (w : World) (hs : s.size ≤ 100000000) :
    Calls Try.prog 22 #[.string s] w fun e w' => GotR w s e w' := by
  have hm : s.size ≤ maxLen := Nat.le_trans hs (by decide)
  go_enter Try.func22, Try.ntmps22
  go_wp2_with fail
  refine (sCaptureBegin_any s _ hs).mono ?_
  rintro e w1 (⟨rs, q, x, k, cap, hI, rfl, hr⟩ | ⟨hn, x, rfl, hr⟩)
  · have HI := Lib.hid hI
    have HR := Lib.hid hr
    have hq := (begin_back hI).2.2
    clear hI hr
    by_cases he : q = s.size
    · subst he
      have c1 : ((s.size : Int) == 0) = false := by simpa using (by omega : s.size ≠ 0)
      have c0 : ¬ ((s.size : Int) = 0) := by omega
      go_wp2
      go_ret2
      exact .inl ⟨rs, x, k, cap, HI.out, rfl, HR.out⟩
    · have c0 : ¬ ((q : Int) = (s.size : Int)) := by omega
      have NB := Lib.hid (show ∀ rs, ¬ BeginIs s rs s.size from fun ds h => he (begin_one HI.out h).2)
      have R0 := Lib.hid (rbg_new HR.out.b)
      go_wp2
      go_ret2
      exact .inr ⟨NB.out, w1.heap.size, rfl, R0.out⟩
  · have NB := Lib.hid (show ∀ rs, ¬ BeginIs s rs s.size from fun ds h => hn h.1)
    have R0 := Lib.hid (rbg_new hr.b)
    clear hn hr
    by_cases he : s.size = 0
    · have c0 : (s.size : Int) = 0 := by omega
      go_wp2
      go_ret2
      exact .inr ⟨NB.out, w1.heap.size, rfl, R0.out⟩
    · have c0 : ¬ ((0 : Int) = (s.size : Int)) := by omega
      have c1 : ¬ ((s.size : Int) = 0) := by omega
      go_wp2
      go_ret2
      exact .inr ⟨NB.out, w1.heap.size, rfl, R0.out⟩

end Go.Proofs.Ytodpbjomiplphab
