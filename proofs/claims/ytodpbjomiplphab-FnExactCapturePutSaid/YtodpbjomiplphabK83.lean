/- The program's chain as bytes; a capture's bytes. -/
import Derived.Test.YtodpbjomiplphabK80
import Derived.Test.YtodpbjomiplphabB2
import Derived.Test.YtodpbjomiplphabK1
import Derived.Deep.RegionLaw
import Derived.IntWalk
import Derived.Handy
namespace Go.Proofs.Ytodpbjomiplphab
open Go.RowKit Go.PlainAid

theorem strCells_append (a b : ByteArray) : Lib.strCells a ++ Lib.strCells b = Lib.strCells (a ++ b) := by
  rw [Lib.strCells_eq, Lib.strCells_eq, Lib.strCells_eq, ← Lib.byteCells_append, ByteArray.data_append, Array.toList_append]
/-- While a record is written: its cells at block d, the text that the builder has at block c. -/
structure Wri (w : World) (T E : TypeId) (d : Nat) (t : Int) (y X : ByteArray) (W : World) : Prop where
  c0 : W.cell? ⟨d, 0, none⟩ = some (.int .i64 t)
  c1 : W.cell? ⟨d, 1, none⟩ = some (.string y)
  u : Lib.IsBuilder T E w.heap.size w.heap.size (Lib.strCells X) W
  b : Below w.heap.size w W
theorem isBuilder_below {T E : TypeId} {B b : Nat} {bs : List Value} {w w' : World} (h : Lib.IsBuilder T E B b bs w) (hb : Below w.heap.size w w') : Lib.IsBuilder T E B b bs w' := by
  have key : ∀ p, Lib.BuilderAt T E B b p bs w → Lib.BuilderAt T E B b p bs w' := by
    rintro p ⟨hB, v, hbk, hown, hne⟩
    have hlt : b < w.heap.size := (Array.getElem?_eq_some_iff.1 hbk).1
    refine ⟨hB, v, by rw [hb.block b hlt]; exact hbk, ⟨hown.1, ?_⟩, hne⟩
    rcases hown.2 with h1 | ⟨g, cap, cur, h1, h2, h3, h4⟩
    · exact .inl h1
    · have hg : g < w.heap.size := (Array.getElem?_eq_some_iff.1 h3).1
      exact .inr ⟨g, cap, cur, h1, h2, by rw [hb.block g hg]; exact h3, h4⟩
  rcases h with h | h
  · exact .inl (key _ h)
  · exact .inr (key _ h)
theorem Wri.step {w W W' : World} {T E : TypeId} {d : Nat} {t : Int} {y X : ByteArray} (h : Wri w T E d t y X W) (hb : Below W.heap.size W W') : Wri w T E d t y X W' :=
  ⟨kept_cell hb (lt_of_cell h.c0) h.c0, kept_cell hb (lt_of_cell h.c0) h.c1, isBuilder_below h.u hb, h.b.trans (hb.mono h.b.size)⟩

/-- How far it is to the last link. -/
def linkLeft (h : Nat) (v : Value) : Nat := match v with | .pointer (some a) => h - a.block | _ => 0

set_option maxHeartbeats 4000000 in
theorem bytes_any (C n : Nat) (b : Nat → Nat) (rs : List (Int × ByteArray)) (w : World) (h : Chain w C n b rs) (hok : CapOk rs) :
    Calls Try.prog 40 #[.pointer (some ⟨C, 0, none⟩)] w fun e w' => e = .returned (.string (capS rs)) ∧ Below w.heap.size w w' := by
  have HC := Lib.hid h
  have hlen := h.len
  have HK := Lib.hid hok
  have h60 := hok.2
  have hCl := Lib.hid h.lt
  have c0 := h.c0
  have B0 := Lib.hid (Lib.fresh_isBuilder 86 5 w)
  clear h hok
  go_enter Try.func40, Try.ntmps40
  go_wp2_with fail
  refine (writeString_any w.heap.size w.heap.size [] tap1 _ B0.out (by decide) (by simp)).mono ?_
  rintro e w1 ⟨rfl, hbu1, hb1⟩
  have HU := Lib.hid (show Lib.IsBuilder 86 5 w.heap.size w.heap.size (Lib.strCells (capS (rs.take 0))) w1 by
    rw [show capS (rs.take 0) = tap1 from ByteArray.append_empty]
    exact hbu1)
  have HB := Lib.hid (show Below w.heap.size w w1 from (below_box _ (Nat.le_refl _)).trans hb1)
  have c0' := kept_cell HB.out (show C < w.heap.size from hCl.out) c0
  clear hbu1 hb1 B0 c0
  go_wp2
  go_loopw [4] (fun p wr => ∃ (k : Nat) (X : ByteArray), k ≤ n ∧ p = .pointer (nxt b n k) ∧ Hid (capS (rs.take k) = X) ∧ X.size ≤ 4 + 126 * k ∧ Hid (Lib.IsBuilder 86 5 w.heap.size w.heap.size (Lib.strCells X) wr) ∧ Hid (Below w.heap.size w wr)) (fun p _ => linkLeft w.heap.size p)
  case atStart => exact ⟨0, _, Nat.zero_le _, rfl, Lib.hid rfl, by rw [show capS (rs.take 0) = tap1 from ByteArray.append_empty]; decide, HU, HB⟩
  case round =>
    obtain ⟨k, X, hk, rfl, hX, hXz, hbu, hbel⟩ := hrel
    clear HU HB c0'
    by_cases hlt : k < n
    · have lk := HC.out.links k hlt
      have llt := lk.lt
      rw [nxt_some hlt]
      have hkl : k < rs.length := by omega
      obtain ⟨t, ht⟩ : ∃ t, (rcAt rs k).1 = t := ⟨_, rfl⟩
      obtain ⟨y, hy⟩ : ∃ b, (rcAt rs k).2 = b := ⟨_, rfl⟩
      have hr := recsOk_at hkl ht hy HK.out.1
      have hlow := lastT_low (l := 0) (by omega) (recsOk_left (rs := rs.take k) (ds := rs.drop k) (by rw [List.take_append_drop]; exact HK.out.1))
      have t0 : 0 ≤ t := by have := hr.1.1; omega
      have t1 : t ≤ 4294967295 := hr.1.2
      have y1 : y.size ≤ 120 := hr.2
      have N := Lib.hid (show capS (rs.take (k + 1)) = X ++ (longS t ++ wordS (y.size : Int) ++ y) by
        rw [take_rcAt hkl, show rcAt rs k = (t, y) from Prod.ext ht hy, ← hX.out]
        unfold capS
        rw [recsS_snoc, ByteArray.append_assoc]
        rfl)
      have l0 := kept_cell hbel.out llt lk.c0
      have l1 := kept_cell hbel.out llt lk.c1
      have L2 := Lib.hid (show ∀ W, Below w.heap.size w W → W.cell? ⟨b k, 2, none⟩ = some (.pointer (nxt b n (k + 1))) from fun W hW => kept_cell hW llt lk.c2)
      rw [ht] at l0
      rw [hy] at l1
      have HM := Lib.hid (show linkLeft w.heap.size (.pointer (nxt b n (k + 1))) < linkLeft w.heap.size (.pointer (some ⟨b k, 0, none⟩)) by
        by_cases h2 : k + 1 < n
        · rw [nxt_some h2]
          have h3 := HC.out.asc k (k + 1) (by omega) h2
          have h4 := (HC.out.links (k + 1) h2).lt
          show w.heap.size - b (k + 1) < w.heap.size - b k
          omega
        · rw [nxt_none h2]
          show 0 < w.heap.size - b k
          omega)
      obtain ⟨d, hd⟩ : ∃ d, b k = d := ⟨_, rfl⟩
      rw [hd] at l0 l1 L2 llt HM ⊢
      have z1 := longS_size t
      have z2 := wordS_size (y.size : Int)
      have hz1 : ¬ 9223372036854775807 < (longS t).size + (wordS (y.size : Int)).size := by omega
      have hz2 : ¬ 9223372036854775807 < (longS t).size + (wordS (y.size : Int)).size + y.size := by omega
      have hz3 : (longS t ++ wordS (y.size : Int) ++ y).size = 6 + y.size := by rw [ByteArray.size_append, ByteArray.size_append]; omega
      have A4 := fun w => numberPut_four t t0 t1 w
      have A2 := fun w => numberPut_two (y.size : Int) (by omega) (by omega) w
      have hl9 : (Lib.strCells X).length + (longS t ++ wordS (y.size : Int) ++ y).size ≤ 140737488355328 := by rw [Lib.strCells_length, hz3]; omega
      have R0 := Lib.hid (show Wri w 86 5 wr.heap.size t y X (wr.alloc (.cells #[.int .i64 t, .string y] 33)) from
        ⟨((VarN.new wr [.int .i64 t, .string y] 33) 0 _ rfl).1, ((VarN.new wr [.int .i64 t, .string y] 33) 1 _ rfl).1, isBuilder_below hbu.out (below_box _ (Nat.le_refl _)), hbel.out.trans ((below_box _ (Nat.le_refl _)).mono hbel.out.size)⟩)
      have RN := Lib.hid (show Wri w 86 5 wr.heap.size t y X (wr.alloc (.cells #[.int .i64 t, .string y] 33)).drew from R0.out.step (Below.drew (Below.refl _ _)))
      clear ht hy lk hd hr hlow z1 z2 R0 hbu hbel
      go_wp2_with fail
      have e0 := RN.out.c0
      have e1 := RN.out.c1
      go_region_law (first
        | (go_simp; go_at_call 56; with_reducible refine (A4 _).mono ?_; rintro e wa ⟨rfl, hba⟩; have RA := Lib.hid (RN.out.step hba); have a0 := RA.out.c0; have a1 := RA.out.c1; dsimp only)
        | (go_simp; go_at_call 56; with_reducible refine (A2 _).mono ?_; rintro e wb ⟨rfl, hbb⟩; have RB := Lib.hid (RA.out.step hbb); have b0 := RB.out.c0; have b1 := RB.out.c1; dsimp only)
        | (go_simp; go_at_call 55; refine (writeString_any w.heap.size w.heap.size (Lib.strCells X) (longS t ++ wordS (y.size : Int) ++ y) _ RB.out.u hl9 RB.out.b.size).mono ?_; rintro e wc ⟨rfl, hbu, hbc⟩; dsimp only))
      all_goals
        have HU := Lib.hid hbu
        have HB := Lib.hid (RB.out.b.trans hbc)
        have l2 := L2.out wc HB.out
        clear hbu hbc RA RB RN e0 e1 a0 a1 b0 b1
        go_wp2
        go_roundw
        case rel => exact ⟨k + 1, X ++ (longS t ++ wordS (y.size : Int) ++ y), by omega, rfl, N, by rw [ByteArray.size_append, hz3]; omega, Lib.hid (by rw [← strCells_append]; exact HU.out), HB⟩
        case measure => exact HM.out
    · obtain rfl : k = n := by omega
      rw [nxt_none (b := b) (n := k) (i := k) (by omega)]
      have E := Lib.hid (show X = capS rs by rw [← hX.out, List.take_of_length_le (by omega)])
      have HBS := Lib.hid (show Lib.IsBuilder 86 5 w.heap.size w.heap.size (Lib.byteCells X.data.toList) wr from hbu.out)
      go_wp2_with fail
      refine (Try.Builder_String_any w.heap.size w.heap.size _ _ HBS.out hbel.out.size).mono ?_
      rintro e w2 ⟨rfl, hb2⟩
      go_wp2
      go_ret
      exact ⟨ret_s (by rw [← E.out]), hbel.out.trans hb2⟩

set_option maxHeartbeats 400000 in
theorem capturePut_yes (a : Option Addr) (len cap : Nat) (rs : List (Int × ByteArray)) (w : World) (h : Rcs w a len cap rs) (hok : CapOk rs) :
    Calls Try.prog 21 #[.slice a len cap] w fun e w' => e = .returned (.string (capS rs)) ∧ Below w.heap.size w w' := by
  go_enter Try.func21, Try.ntmps21
  go_wp2_with fail
  refine (chainOf_any a len cap rs _ h (recs_small hok.1)).mono ?_
  rintro e w1 ⟨⟨_, C, b, rfl, hch⟩ | ⟨hno, rfl⟩, hb⟩
  · have HC := Lib.hid hch
    have HB := Lib.hid hb
    clear hch hb
    go_wp2_with fail
    refine (bytes_any C len b rs _ HC.out hok).mono ?_
    rintro e w2 ⟨rfl, hb2⟩
    have HB2 := Lib.hid (HB.out.trans (hb2.mono HB.out.size))
    clear hb2
    go_wp2
    go_ret
    exact ⟨rfl, HB2.out⟩
  · exact absurd hok hno

set_option maxHeartbeats 400000 in
theorem capturePut_no (a : Option Addr) (len cap : Nat) (rs : List (Int × ByteArray)) (w : World) (h : Rcs w a len cap rs) (hz : ∀ r ∈ rs, r.2.size ≤ maxLen) (hok : ¬ CapOk rs) :
    Calls Try.prog 21 #[.slice a len cap] w fun e w' => e = .returned (.string (ByteArray.mk #[])) ∧ Below w.heap.size w w' := by
  go_enter Try.func21, Try.ntmps21
  go_wp2_with fail
  refine (chainOf_any a len cap rs _ h hz).mono ?_
  rintro e w1 ⟨⟨hyes, _⟩ | ⟨_, rfl⟩, hb⟩
  · exact absurd hyes hok
  · go_wp2
    go_ret
    exact ⟨rfl, hb⟩

end Go.Proofs.Ytodpbjomiplphab
