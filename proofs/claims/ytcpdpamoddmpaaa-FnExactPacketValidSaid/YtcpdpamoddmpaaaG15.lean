/- Packets, plain: what the parts of the program's chapter 13 come to. -/
import Derived.Test.YtcpdpamoddmpaaaG14
namespace Go.Proofs.Ytcpdpamoddmpaaa
open Go.RowKit Go.PlainAid

theorem longS_zero : longS 0 = zero4 := rfl
theorem sumNext_both (a b : ByteArray) : sumNext (sumNext 1 a) b = sumNext 1 (a ++ b) := by
  have := sumNext_join 1 (nums a) (nums b) (by omega)
  rw [← nums_append] at this
  exact this
/-- The checksum of a packet of the bytes ahead of its checksum and those behind it. -/
theorem sumNext_pack (a b : ByteArray) : sumNext (sumNext 1 (a ++ longS 0)) b = sumNext 1 (a ++ zero4 ++ b) := by
  rw [sumNext_both, longS_zero]
theorem sum13_parts (s : ByteArray) : sumNext 1 (s.extract 0 8 ++ zero4 ++ s.extract 12 s.size) = sum13 s := rfl
/-- No more chunks than were read lead no further. -/
theorem run_short {s : ByteArray} : ∀ {cs ds : List (Int × Int × ByteArray)} {p q r : Nat}, Run s p cs q → Run s p ds r → ds.length ≤ cs.length → r ≤ q
  | cs, [], p, q, r, h, k, _ => by
    have := (run_le h).1
    obtain rfl : p = r := k
    omega
  | [], d :: ds, p, q, r, h, k, hl => by simp at hl
  | c :: cs, d :: ds, p, q, r, ⟨h1, h2, h3⟩, ⟨k1, k2, k3⟩, hl => run_short h3 k3 (by simpa using hl)
theorem noPack_more {s : ByteArray} {cs : List (Int × Int × ByteArray)} {q : Nat} (hr : Run s 12 cs q) (h4 : 4 ≤ cs.length) (hz : q < s.size) : ∀ f t g ds, ¬ PackIs s f t g ds := fun _ _ _ _ h2 => by
  have h5 := h2.2.2.2.2.2.2.1.2
  have := run_short hr h2.2.2.2.1 (by omega)
  omega

end Go.Proofs.Ytcpdpamoddmpaaa
