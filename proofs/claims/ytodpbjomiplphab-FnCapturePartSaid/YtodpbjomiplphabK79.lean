/- The program's chain: a further record; a list of records as a chain; whether a capture is valid. -/
import Derived.Test.YtodpbjomiplphabK78
namespace Go.Proofs.Ytodpbjomiplphab
open Go.RowKit Go.PlainAid

set_option maxHeartbeats 1000000 in
theorem add_no (C n : Nat) (b : Nat → Nat) (rs : List (Int × ByteArray)) (t : Int) (x : ByteArray) (w : World) (h : Chain w C n b rs) (hok : RecsOk 0 rs) (hn : n ≤ 60) (hx : x.size ≤ 9223372036854775807) (hV : ¬ (n < 60 ∧ RecOk (lastT 0 rs) (t, x))) :
    Calls Try.prog 29 #[.pointer (some ⟨C, 0, none⟩), .agg #[.int .i64 t, .string x]] w fun e w' => e = .returned (.bool false) ∧ Below w.heap.size w w' := by
  have T := fun w (h : Chain w C n b rs) => takes_any C n b rs t x w h hok hn hx false (decide_eq_false hV)
  have HP := Lib.hid (below_box (w := w) (.cells #[.int .i64 t, .string x] 33) (Nat.le_refl _))
  have HC := Lib.hid h
  clear h hV hok
  go_enter Try.func29, Try.ntmps29
  go_wp2_with fail
  refine (T _ ?_).mono ?_
  · first | exact HC.out | exact HC.out.below HP.out
  rintro e w1 ⟨rfl, hb1⟩
  have HB := Lib.hid (show Below w.heap.size w w1 by first | exact hb1 | exact HP.out.trans (hb1.mono HP.out.size))
  clear hb1
  go_wp2
  go_ret
  exact ⟨rfl, HB.out⟩

/-- Blocks that are neither the chain's nor one of its links. -/
def Rest (w w' : World) (C n : Nat) (b : Nat → Nat) : Prop := ∀ x, x < w.heap.size → x ≠ C → (∀ i, i < n → x ≠ b i) → w'.heap[x]? = w.heap[x]?
theorem link_new (w : World) (t : Int) (x : ByteArray) (T : TypeId) : LinkAt (w.alloc (.cells #[.int .i64 t, .string x, .pointer none] T)) w.heap.size (t, x) none := by
  have V := VarN.new w [.int .i64 t, .string x, .pointer none] T
  exact ⟨(V 0 _ rfl).1, (V 1 _ rfl).1, (V 2 _ rfl).1, by simp⟩

set_option maxHeartbeats 2000000 in
theorem add_first (C : Nat) (b : Nat → Nat) (rs : List (Int × ByteArray)) (t : Int) (x : ByteArray) (w : World) (h : Chain w C 0 b rs) (hok : RecsOk 0 rs) (hx : x.size ≤ 9223372036854775807) (hV : 0 < 60 ∧ RecOk (lastT 0 rs) (t, x)) :
    Calls Try.prog 29 #[.pointer (some ⟨C, 0, none⟩), .agg #[.int .i64 t, .string x]] w fun e w' => e = .returned (.bool true) ∧ (∃ b', Chain w' C 1 b' (rs ++ [(t, x)])) ∧ Below C w w' ∧ Rest w w' C 0 b := by
  have T := fun w (h : Chain w C 0 b rs) => takes_any C 0 b rs t x w h hok (by omega) hx true (decide_eq_true hV)
  have HP := Lib.hid (below_box (w := w) (.cells #[.int .i64 t, .string x] 33) (Nat.le_refl _))
  have HC := Lib.hid h
  clear h hV hok
  go_enter Try.func29, Try.ntmps29
  go_wp2_with fail
  refine (T _ (HC.out.below HP.out)).mono ?_
  rintro e w1 ⟨rfl, hb1⟩
  have HB := Lib.hid (HP.out.trans (hb1.mono HP.out.size))
  have VV := (VarN.new_at (w := w) (d := w.heap.size) rfl [.int .i64 t, .string x] 33).below hb1 (by simp)
  have p0 := (VV 0 _ rfl).1
  have p1 := (VV 1 _ rfl).1
  have C1 := HC.out.below HB.out
  have C2 := C1.below (below_box (.cells #[.int .i64 t, .string x, .pointer none] 76) (Nat.le_refl _))
  have hCl := C1.lt
  have L2 := link_new w1 t x 76
  have CN := Lib.hid (C2.first L2 hCl)
  have BN := Lib.hid (show Below C w _ from ((((HB.out.mono (Nat.le_of_lt HC.out.lt)).alloc (Nat.le_of_lt hCl) (.cells #[.int .i64 t, .string x, .pointer none] 76)).setCell (p := ⟨C, 0, none⟩) (Nat.le_refl _) (.pointer (some ⟨w1.heap.size, 0, none⟩))).setCell (p := ⟨C, 1, none⟩) (Nat.le_refl _) (.pointer (some ⟨w1.heap.size, 0, none⟩))).setCell (p := ⟨C, 2, none⟩) (Nat.le_refl _) (.int .i64 1))
  have EN := Lib.hid (show Rest w ((((w1.alloc (.cells #[.int .i64 t, .string x, .pointer none] 76)).setCell ⟨C, 0, none⟩ (.pointer (some ⟨w1.heap.size, 0, none⟩))).setCell ⟨C, 1, none⟩ (.pointer (some ⟨w1.heap.size, 0, none⟩))).setCell ⟨C, 2, none⟩ (.int .i64 1)) C 0 b from fun y h1 h2 _ => by
    rw [Below.heap_setCell _ _ _ _ (by simpa using h2), Below.heap_setCell _ _ _ _ (by simpa using h2), Below.heap_setCell _ _ _ _ (by simpa using h2)]
    exact (HB.out.trans ((below_box _ (Nat.le_refl _)).mono HB.out.size)).block y h1)
  have c0 := C2.c0
  have c1 := C2.c1
  have c2 := C2.c2
  rw [nxt_none (by omega)] at c0 c1
  have f0 := C2.fr 0
  have f1 := C2.fr 1
  have f2 := C2.fr 2
  clear C1 C2 L2 T HB HC HP hCl hb1 VV
  go_wp2
  go_ret
  exact ⟨rfl, ⟨_, CN.out⟩, BN.out, EN.out⟩

set_option maxHeartbeats 2000000 in
theorem add_more (C n : Nat) (b : Nat → Nat) (rs : List (Int × ByteArray)) (t : Int) (x : ByteArray) (w : World) (h : Chain w C (n + 1) b rs) (hok : RecsOk 0 rs) (hx : x.size ≤ 9223372036854775807) (hV : n + 1 < 60 ∧ RecOk (lastT 0 rs) (t, x)) :
    Calls Try.prog 29 #[.pointer (some ⟨C, 0, none⟩), .agg #[.int .i64 t, .string x]] w fun e w' => e = .returned (.bool true) ∧ (∃ b', Chain w' C (n + 2) b' (rs ++ [(t, x)])) ∧ Below C w w' ∧ Rest w w' C (n + 1) b := by
  have hn6 := hV.1
  have T := fun w (h : Chain w C (n + 1) b rs) => takes_any C (n + 1) b rs t x w h hok (by omega) hx true (decide_eq_true hV)
  have HP := Lib.hid (below_box (w := w) (.cells #[.int .i64 t, .string x] 33) (Nat.le_refl _))
  have HC := Lib.hid h
  clear h hV hok
  go_enter Try.func29, Try.ntmps29
  go_wp2_with fail
  refine (T _ (HC.out.below HP.out)).mono ?_
  rintro e w1 ⟨rfl, hb1⟩
  have HB := Lib.hid (HP.out.trans (hb1.mono HP.out.size))
  have VV := (VarN.new_at (w := w) (d := w.heap.size) rfl [.int .i64 t, .string x] 33).below hb1 (by simp)
  have p0 := (VV 0 _ rfl).1
  have p1 := (VV 1 _ rfl).1
  have C1 := HC.out.below HB.out
  have C2 := C1.below (below_box (.cells #[.int .i64 t, .string x, .pointer none] 76) (Nat.le_refl _))
  have hCl := C1.lt
  have L2 := link_new w1 t x 76
  have CN := Lib.hid (C2.more L2 hCl (fun i hi => (C1.links i hi).lt) ((n : Int) + 2) (by omega))
  have hu := C1.up n (by omega)
  have BN := Lib.hid (show Below C w _ from ((((HB.out.mono (Nat.le_of_lt HC.out.lt)).alloc (Nat.le_of_lt hCl) (.cells #[.int .i64 t, .string x, .pointer none] 76)).setCell (p := ⟨b n, 2, none⟩) (Nat.le_of_lt hu) (.pointer (some ⟨w1.heap.size, 0, none⟩))).setCell (p := ⟨C, 1, none⟩) (Nat.le_refl _) (.pointer (some ⟨w1.heap.size, 0, none⟩))).setCell (p := ⟨C, 2, none⟩) (Nat.le_refl _) (.int .i64 ((n : Int) + 2)))
  have EN := Lib.hid (show Rest w ((((w1.alloc (.cells #[.int .i64 t, .string x, .pointer none] 76)).setCell ⟨b n, 2, none⟩ (.pointer (some ⟨w1.heap.size, 0, none⟩))).setCell ⟨C, 1, none⟩ (.pointer (some ⟨w1.heap.size, 0, none⟩))).setCell ⟨C, 2, none⟩ (.int .i64 ((n : Int) + 2))) C (n + 1) b from fun y h1 h2 h3 => by
    rw [Below.heap_setCell _ _ _ _ (by simpa using h2), Below.heap_setCell _ _ _ _ (by simpa using h2), Below.heap_setCell _ _ _ _ (by simpa using h3 n (by omega))]
    exact (HB.out.trans ((below_box _ (Nat.le_refl _)).mono HB.out.size)).block y h1)
  have c0 := C2.c0
  have c1 := C2.c1
  have c2 := C2.c2
  rw [show n + 1 - 1 = n by omega, nxt_some (by omega)] at c1
  have f0 := C2.fr 0
  have f1 := C2.fr 1
  have f2 := C2.fr 2
  have l2 := (C2.links n (by omega)).c2
  have lf := (C2.links n (by omega)).f2
  obtain ⟨d, hd⟩ : ∃ d, b n = d := ⟨_, rfl⟩
  have EN := EN.out
  rw [hd] at c1 l2 lf hu CN BN EN
  have EN := Lib.hid EN
  have ne1 : ¬ d = C := by omega
  have ne2 : ¬ C = d := by omega
  have wn : IntKind.i64.wrap ((n : Int) + 1 + 1) = (n : Int) + 2 := (IntWalk.i64_in _ (by omega)).trans (by omega)
  clear C1 C2 L2 T HB HC HP hd hCl hb1 VV hu
  go_wp2
  go_ret
  exact ⟨rfl, ⟨_, CN.out⟩, BN.out, EN.out⟩

theorem add_yes (C n : Nat) (b : Nat → Nat) (rs : List (Int × ByteArray)) (t : Int) (x : ByteArray) (w : World) (h : Chain w C n b rs) (hok : RecsOk 0 rs) (hx : x.size ≤ 9223372036854775807) (hV : n < 60 ∧ RecOk (lastT 0 rs) (t, x)) :
    Calls Try.prog 29 #[.pointer (some ⟨C, 0, none⟩), .agg #[.int .i64 t, .string x]] w fun e w' => e = .returned (.bool true) ∧ (∃ b', Chain w' C (n + 1) b' (rs ++ [(t, x)])) ∧ Below C w w' ∧ Rest w w' C n b := by
  cases n with
  | zero => exact add_first C b rs t x w h hok hx hV
  | succ n => exact add_more C n b rs t x w h hok hx hV

end Go.Proofs.Ytodpbjomiplphab
