/- The contracts of the program's chapter 12: numbers of two bytes one after the other, written and read. -/
import Derived.Test.YtcjabomcndahbaaK18r
import Derived.Test.YtcjabomcndahbaaK20v
import Derived.Test.YtcjabomcndahbaaG11
namespace Go.Proofs.Ytcjabomcndahbaa
open Go.RowKit Go.PlainAid

/-- Numbers of two bytes, one after the other. -/
def wordsS (ns : List Int) : ByteArray := ns.foldl (fun o n => o ++ wordS n) (ByteArray.mk #[])
theorem wordsS_snoc (ns : List Int) (n : Int) : wordsS (ns ++ [n]) = wordsS ns ++ wordS n := by
  unfold wordsS
  rw [List.foldl_append]
  rfl
theorem wordsS_take (ns : List Int) (k : Nat) (h : k < ns.length) : wordsS (ns.take (k + 1)) = wordsS (ns.take k) ++ wordS ns[k] := by
  rw [← wordsS_snoc, List.take_add_one, List.getElem?_eq_getElem h]
  rfl
theorem wordsS_from (ns : List Int) (o : ByteArray) : (ns.foldl (fun o n => o ++ wordS n) o).size = o.size + 2 * ns.length := by
  induction ns generalizing o with
  | nil => rfl
  | cons x xs ih =>
    rw [List.foldl_cons, ih, ByteArray.size_append, wordS_size, List.length_cons]
    omega
theorem wordsS_size (ns : List Int) : (wordsS ns).size = 2 * ns.length := by
  unfold wordsS
  rw [wordsS_from]
  show 0 + _ = _
  omega
theorem wordsS_three (a b c : Int) : wordsS [a, b, c] = wordS a ++ wordS b ++ wordS c := by
  show ByteArray.mk #[] ++ wordS a ++ wordS b ++ wordS c = _
  rw [show ByteArray.mk #[] ++ wordS a = wordS a from ByteArray.empty_append]
theorem wordsS_two (a b : Int) : wordsS [a, b] = wordS a ++ wordS b := by
  show ByteArray.mk #[] ++ wordS a ++ wordS b = _
  rw [show ByteArray.mk #[] ++ wordS a = wordS a from ByteArray.empty_append]
theorem wordsS_one (a : Int) : wordsS [a] = wordS a := by
  show ByteArray.mk #[] ++ wordS a = _
  rw [show ByteArray.mk #[] ++ wordS a = wordS a from ByteArray.empty_append]

set_option maxHeartbeats 1000000 in
theorem wordsPut_any (ns : List Int) (c cap : Nat) (w : World) (hn : ns.length ≤ 100) (hr : ∀ n ∈ ns, 0 ≤ n ∧ n ≤ 65535) (hv : VarN c (ns.map (Value.int .i64)) w) (hl : c < w.heap.size) :
    Calls Try.prog 67 #[.slice (some ⟨c, 0, none⟩) ns.length cap] w fun e w' => e = .returned (.string (wordsS ns)) ∧ Below w.heap.size w w' := by
  have HV := Lib.hid hv
  have HR := Lib.hid hr
  clear hv hr
  go_enter Try.func67, Try.ntmps67
  go_wp2
  go_loopw [3, 8] (fun o i wr => ∃ k : Nat, k ≤ ns.length ∧ i = .int .i64 k ∧ o = .string (wordsS (ns.take k)) ∧ Hid (Below w.heap.size w wr)) (fun _ i _ => ns.length - (intOf i).toNat)
  case atStart => exact ⟨0, Nat.zero_le _, rfl, rfl, Lib.hid (Below.refl _ _)⟩
  case round =>
    obtain ⟨k, hk, rfl, rfl, hbel⟩ := hrel
    by_cases hlt : k < ns.length
    · have hx : wr.cell? ⟨c, k, none⟩ = some (.int .i64 ns[k]) := kept_cell hbel.out hl (HV.out k _ (by simp [hlt])).1
      have hxr := HR.out ns[k] (List.getElem_mem hlt)
      have E := Lib.hid (wordsS_take ns k hlt)
      have hz1 : (wordsS (ns.take k)).size = 2 * k := by rw [wordsS_size, List.length_take, Nat.min_eq_left hk]
      obtain ⟨x, hxe⟩ : ∃ x, ns[k] = x := ⟨_, rfl⟩
      obtain ⟨T, hT⟩ : ∃ T, wordsS (ns.take k) = T := ⟨_, rfl⟩
      rw [hxe] at hx hxr E
      rw [hT] at hz1 E ⊢
      obtain ⟨x0, x1⟩ := hxr
      have hz2 := wordS_size x
      clear hxe hT
      go_wp2_with fail
      refine (numberPut_two x x0 x1 _).mono ?_
      rintro e w2 ⟨rfl, hb2⟩
      go_wp2
      go_roundw
      case rel => exact ⟨k + 1, by omega, by go_num, by rw [E.out], Lib.hid (hbel.out.trans (hb2.mono hbel.out.size))⟩
      case measure => simp [intOf]; omega
    · obtain rfl : k = ns.length := by omega
      have E : wordsS (ns.take ns.length) = wordsS ns := by rw [List.take_length]
      go_wp2
      go_ret
      exact ⟨by first | rfl | exact ret_s E | simp, hbel.out⟩

theorem Cur.put {c d i : Nat} {s : ByteArray} {p : Int} {w : World} (h : Cur c s p w) (hd : d ≠ c) (v : Value) : Cur c s p (w.setCell ⟨d, i, none⟩ v) := by
  obtain ⟨h0, h1, h2, h3⟩ := h
  exact ⟨by simpa using h0, cell_far hd h1, cell_far hd h2, by rw [World.frozen?_setCell]; exact h3⟩
theorem Cur.go {c : Nat} {s : ByteArray} {p q : Int} {w : World} (h : Cur c s p w) (e : p = q) : Cur c s q w := e ▸ h

end Go.Proofs.Ytcjabomcndahbaa
