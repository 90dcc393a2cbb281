/- The program's chapter 14: the records of a capture's bytes. -/
import Derived.Test.YtodpbjomiplphabK85
namespace Go.Proofs.Ytodpbjomiplphab
open Go.RowKit Go.PlainAid

/-- What CaptureGet answers. -/
def GotG (w : World) (s : ByteArray) (e : Ending) (w' : World) : Prop :=
  (∃ rs k a cap, BeginIs s rs s.size ∧ e = .returned (.tuple #[.slice a k cap, .bool true]) ∧ rs.length = k ∧ Own k (.slice a k cap) rs w w')
  ∨ ((∀ rs, ¬ BeginIs s rs s.size) ∧ e = .returned (.tuple #[.slice none 0 0, .bool false]) ∧ Below w.heap.size w w')

set_option maxHeartbeats 1000000 in
theorem captureGet_any (s : ByteArray) (w : World) (hs : s.size ≤ 100000000) :
    Calls Try.prog 23 #[.string s] w fun e w' => GotG w s e w' := by
  go_enter Try.func23, Try.ntmps23
  go_wp2_with fail
  refine (captureBegin_any s _ hs).mono ?_
  rintro e w1 (⟨rs, q, k, a, cap, hI, rfl, hk, ho⟩ | ⟨hn, rfl, hb⟩)
  · have HI := Lib.hid hI
    have HO := Lib.hid ho
    have hq := (begin_back hI).2.2
    clear hI ho
    have c0 : ((q : Int) == 0) = false := by simpa using (by omega : q ≠ 0)
    by_cases he : q = s.size
    · have c1 : ¬ q < s.size := by omega
      have HI := Lib.hid (show BeginIs s rs s.size from he ▸ HI.out)
      clear he
      go_wp2
      go_ret2
      exact .inl ⟨rs, k, a, cap, HI.out, rfl, hk, HO.out⟩
    · have c1 : q < s.size := by omega
      have NB := Lib.hid (show ∀ rs, ¬ BeginIs s rs s.size from fun ds h => he (begin_one HI.out h).2)
      go_wp2
      go_ret2
      exact .inr ⟨NB.out, rfl, HO.out.b⟩
  · have NB := Lib.hid (show ∀ rs, ¬ BeginIs s rs s.size from fun ds h => hn h.1)
    clear hn
    go_wp2
    go_ret2
    exact .inr ⟨NB.out, rfl, hb⟩

end Go.Proofs.Ytodpbjomiplphab
