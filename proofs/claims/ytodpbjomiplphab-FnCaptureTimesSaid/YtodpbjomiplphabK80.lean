/- The program's chain of a list of records; whether a capture is valid. -/
import Derived.Test.YtodpbjomiplphabK79
namespace Go.Proofs.Ytodpbjomiplphab
open Go.RowKit Go.PlainAid

/-- While a list is linked. -/
structure Lnk (w : World) (k : Nat) (rs : List (Int × ByteArray)) (W : World) : Prop where
  ch : ∃ b, Chain W w.heap.size k b rs
  ok : RecsOk 0 rs
  b : Below w.heap.size w W
theorem new_below (W : World) (o : Obj) : Below W.heap.size W (W.alloc o) := below_box _ (Nat.le_refl _)

set_option maxHeartbeats 2000000 in
theorem chainOf_any (a : Option Addr) (len cap : Nat) (rs : List (Int × ByteArray)) (w : World) (h : Rcs w a len cap rs) (hz : ∀ r ∈ rs, r.2.size ≤ maxLen) :
    Calls Try.prog 35 #[.slice a len cap] w fun e w' => ((CapOk rs ∧ ∃ C b, e = .returned (.tuple #[.pointer (some ⟨C, 0, none⟩), .bool true]) ∧ Chain w' C len b rs) ∨ (¬ CapOk rs ∧ e = .returned (.tuple #[.pointer none, .bool false]))) ∧ Below w.heap.size w w' := by
  have hl := h.length
  have hm := h.len_int
  have HG := Lib.hid h
  have HZ := Lib.hid hz
  have L0 := Lib.hid (show Lnk w 0 [] (w.alloc (.cells #[.pointer none, .pointer none, .int .i64 0] 48)) from ⟨⟨_, Chain.new w 48 fun _ => 0⟩, trivial, below_box _ (Nat.le_refl _)⟩)
  clear h hz
  go_enter Try.func35, Try.ntmps35
  go_wp2
  go_loopw [11] (fun i wr => ∃ k : Nat, k ≤ len ∧ i = .int .i64 k ∧ k ≤ 60 ∧ Hid (Lnk w k (rs.take k) wr)) (fun i _ => len - (intOf i).toNat)
  case atStart => exact ⟨0, Nat.zero_le _, rfl, by omega, L0⟩
  case round =>
    obtain ⟨k, hk, rfl, hk6, hr⟩ := hrel
    clear L0
    by_cases hlt : k < len
    · obtain ⟨x, rfl⟩ := HG.out.addr hlt
      obtain ⟨p0, p1⟩ := HG.out.at hr.out.b hlt
      have hkl : k < rs.length := by omega
      have hzk := HZ.out _ (rcAt_mem hkl)
      obtain ⟨t, ht⟩ : ∃ t, (rcAt rs k).1 = t := ⟨_, rfl⟩
      obtain ⟨y, hy⟩ : ∃ b, (rcAt rs k).2 = b := ⟨_, rfl⟩
      have N := Lib.hid (recsOk_next hkl ht hy hr.out.ok)
      have ET := Lib.hid (show rs.take (k + 1) = rs.take k ++ [(t, y)] by rw [take_rcAt hkl, show rcAt rs k = (t, y) from Prod.ext ht hy])
      rw [ht] at p0
      rw [hy] at p1 hzk
      unfold maxLen at hzk
      clear ht hy
      obtain ⟨b, hch⟩ := hr.out.ch
      have HC := Lib.hid hch
      clear hch
      by_cases hc : k < 60 ∧ RecOk (lastT 0 (rs.take k)) (t, y)
      · have HV := Lib.hid hc
        have h6 := hc.1
        have NK := Lib.hid (N.out.1 hc.2)
        clear hc
        go_wp2_with fail
        refine (add_yes w.heap.size k b (rs.take k) t y _ (HC.out.below ?_) hr.out.ok (by omega) HV.out).mono ?_
        · exact new_below wr _
        rintro e w2 ⟨rfl, ⟨b2, hc2⟩, hb2, _⟩
        have LN := Lib.hid (show Lnk w (k + 1) (rs.take (k + 1)) w2 from ⟨⟨b2, by rw [ET.out]; exact hc2⟩, NK.out, (hr.out.b.trans ((new_below wr _).mono hr.out.b.size)).trans hb2⟩)
        clear hc2 hb2 HC N NK
        go_wp2
        go_roundw
        case rel => exact ⟨k + 1, by omega, by go_num, by omega, LN⟩
        case measure => simp [intOf]; omega
      · have HN := Lib.hid (show ¬ CapOk rs from fun h => hc ⟨by have := h.2; omega, Classical.byContradiction fun h2 => N.out.2.1 h2 h.1⟩)
        have HV := Lib.hid hc
        clear hc
        go_wp2_with fail
        refine (add_no w.heap.size k b (rs.take k) t y _ (HC.out.below ?_) hr.out.ok (by omega) (by omega) HV.out).mono ?_
        · exact new_below wr _
        rintro e w2 ⟨rfl, hb2⟩
        have HB := Lib.hid ((hr.out.b.trans ((new_below wr _).mono hr.out.b.size)).trans (hb2.mono (Nat.le_trans hr.out.b.size (new_below wr _).size)))
        clear hb2 HC N
        go_wp2
        go_ret2
        exact ⟨.inr ⟨HN.out, rfl⟩, HB.out⟩
    · obtain rfl : k = len := by omega
      have e : rs.take k = rs := List.take_of_length_le (by omega)
      have L := hr.out
      rw [e] at L
      have HL := Lib.hid L
      clear L hr
      go_wp2
      go_ret2
      obtain ⟨b, hb⟩ := HL.out.ch
      exact ⟨.inl ⟨⟨HL.out.ok, by omega⟩, _, b, rfl, hb⟩, HL.out.b⟩

set_option maxHeartbeats 400000 in
theorem captureValid_any (a : Option Addr) (len cap : Nat) (rs : List (Int × ByteArray)) (w : World) (h : Rcs w a len cap rs) (hz : ∀ r ∈ rs, r.2.size ≤ maxLen) :
    Calls Try.prog 15 #[.slice a len cap] w fun e w' => e = .returned (.bool (capV rs)) ∧ Below w.heap.size w w' := by
  go_enter Try.func15, Try.ntmps15
  go_wp2_with fail
  refine (chainOf_any a len cap rs _ h hz).mono ?_
  rintro e w1 ⟨⟨hok, C, b, rfl, _⟩ | ⟨hok, rfl⟩, hb⟩
  · have V := Lib.hid (capV_yes hok)
    go_wp2
    go_ret
    exact ⟨ret_b V.out.symm, hb⟩
  · have V := Lib.hid (capV_no hok)
    go_wp2
    go_ret
    exact ⟨ret_b V.out.symm, hb⟩

end Go.Proofs.Ytodpbjomiplphab
