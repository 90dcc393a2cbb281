/- The contracts of the program's chapter 13: the checksum of a packet, its bytes. -/
import Derived.Test.YtcpdpamoddmpaaaK50
import Derived.Test.YtcpdpamoddmpaaaG15
import Derived.Test.YtcpdpamoddmpaaaK44
import Derived.Test.YtcpdpamoddmpaaaK18b
import Derived.Test.YtcpdpamoddmpaaaK26c
namespace Go.Proofs.Ytcpdpamoddmpaaa
open Go.RowKit Go.PlainAid

set_option maxHeartbeats 1000000 in
theorem packetSum_any (a b : ByteArray) (w : World) (ha : a.size ≤ 100000000) (hb : b.size ≤ 100000000) :
    Calls Try.prog 33 #[.string a, .string b] w fun e w' => e = .returned (.int .i64 (sumNext 1 (a ++ zero4 ++ b))) ∧ Below w.heap.size w w' := by
  have E := Lib.hid (sumNext_pack a b)
  have S1 := Lib.hid (sumNext_four (a ++ longS 0))
  have HS := Lib.hid (Sum.one.next (a ++ longS 0))
  have lz := longS_size 0
  have hz : ¬ 9223372036854775807 < a.size + (longS 0).size := by omega
  have HZ := Lib.hid (show (a ++ longS 0).size ≤ maxLen by rw [ByteArray.size_append]; unfold maxLen; omega)
  have HZ2 := Lib.hid (show b.size ≤ maxLen by unfold maxLen; omega)
  clear lz
  go_enter Try.func33, Try.ntmps33
  go_wp2_with fail
  refine (numberPut_four 0 (by omega) (by omega) _).mono ?_
  rintro e w1 ⟨rfl, hb1⟩
  go_wp2_with fail
  refine (sumText_any (a ++ longS 0) _ HZ.out).mono ?_
  rintro e w2 ⟨rfl, hb2⟩
  go_wp2_with fail
  refine (sumNext_yes (sumNext 1 (a ++ longS 0)) b _ HZ2.out (by have := S1.out; omega) HS.out).mono ?_
  rintro e w3 ⟨rfl, hb3⟩
  have HB := Lib.hid (hb1.trans ((hb2.trans (hb3.mono hb2.size)).mono hb1.size))
  clear hb1 hb2 hb3
  go_wp2
  go_ret
  exact ⟨ret_i E.out, HB.out⟩

theorem wordsPut_pair (a b : Int) (a0 : 0 ≤ a ∧ a ≤ 65535) (b0 : 0 ≤ b ∧ b ≤ 65535) (d cap : Nat) (w : World) (hv : VarN d [.int .i64 a, .int .i64 b] w) :
    Calls Try.prog 31 #[.slice (some ⟨d, 0, none⟩) 2 cap] w fun e w' => e = .returned (.string (wordS a ++ wordS b)) ∧ Below w.heap.size w w' := by
  rw [← wordsS_two]
  exact wordsPut_any [a, b] d cap w (by simp) (fun n hn => by simp at hn; rcases hn with rfl | rfl <;> assumption) hv (lt_of_cell (hv 0 _ rfl).1)
theorem newDrew (w : World) (vs : List Value) (T : TypeId) : VarN w.heap.size vs (w.alloc (.cells vs.toArray T)).drew := fun i v h => ⟨by simpa using (VarN.new w vs T i v h).1, by simp⟩
theorem belowDrew (w : World) (o : Obj) : Below w.drew.heap.size w.drew (w.alloc o).drew := (Below.refl _ w.drew).alloc (Nat.le_refl _) o
theorem pv_both {w w1 W W' : World} {b : Nat} {x0 x1 x2 x3 : Value} (hb : Below W.heap.size W W') (h : Below w1.heap.size w1 W ∧ W.cell? ⟨b, 0, none⟩ = some x0 ∧ W.cell? ⟨b, 1, none⟩ = some x1 ∧ W.cell? ⟨b, 2, none⟩ = some x2 ∧ W.cell? ⟨b, 3, none⟩ = some x3 ∧ PV w b [x0, x1, x2, x3] W) :
    Below w1.heap.size w1 W' ∧ W'.cell? ⟨b, 0, none⟩ = some x0 ∧ W'.cell? ⟨b, 1, none⟩ = some x1 ∧ W'.cell? ⟨b, 2, none⟩ = some x2 ∧ W'.cell? ⟨b, 3, none⟩ = some x3 ∧ PV w b [x0, x1, x2, x3] W' :=
  ⟨h.1.trans (hb.mono h.1.size), pv_next hb h.2⟩
theorem packetPut_no (f t g : Int) (a : Option Addr) (len cap : Nat) (cs : List (Int × Int × ByteArray)) (w : World) (h : Chs w a len cap cs) (hok : ¬ PackOk f t g cs) :
    Calls Try.prog 14 #[.agg #[.int .i64 f, .int .i64 t, .int .i64 g, .slice a len cap]] w fun e w' => e = .returned (.string (ByteArray.mk #[])) ∧ Below w.heap.size w w' := by
  have HG := Lib.hid (h.below (below_box (.cells #[.int .i64 f, .int .i64 t, .int .i64 g, .slice a len cap] 25) (Nat.le_refl _)))
  have V := Lib.hid (packV_no hok)
  clear h hok
  go_enter Try.func14, Try.ntmps14
  go_wp2_with fail
  refine (packetValid_any f t g a len cap cs _ HG.out).mono ?_
  rintro e w1 ⟨rfl, hb1⟩
  rw [V.out]
  have HB := Lib.hid ((below_box (w := w) (.cells (List.toArray [.int .i64 f, .int .i64 t, .int .i64 g, .slice a len cap]) 25) (Nat.le_refl _)).trans (hb1.mono (by simp)))
  clear hb1
  go_wp2
  go_ret
  exact ⟨rfl, HB.out⟩

set_option maxHeartbeats 4000000 in
theorem packetPut_yes (f t g : Int) (a : Option Addr) (len cap : Nat) (cs : List (Int × Int × ByteArray)) (w : World) (h : Chs w a len cap cs) (hok : PackOk f t g cs) :
    Calls Try.prog 14 #[.agg #[.int .i64 f, .int .i64 t, .int .i64 g, .slice a len cap]] w fun e w' => e = .returned (.string (packS f t g cs)) ∧ Below w.heap.size w w' := by
  have V := Lib.hid (packV_yes hok)
  obtain ⟨⟨hf, ht, hft⟩, hg, hn, hall⟩ := hok
  have hl := h.length
  have hm := h.len_int
  have HA := Lib.hid hall
  have HG := Lib.hid (h.below (below_box (.cells #[.int .i64 f, .int .i64 t, .int .i64 g, .slice a len cap] 25) (Nat.le_refl _)))
  have T0 : PV w w.heap.size [.int .i64 f, .int .i64 t, .int .i64 g, .slice a len cap] (w.alloc (.cells #[.int .i64 f, .int .i64 t, .int .i64 g, .slice a len cap] 25)) := ⟨VarN.new_at (by simp) [.int .i64 f, .int .i64 t, .int .i64 g, .slice a len cap] 25, below_box _ (Nat.le_refl _)⟩
  have hT := Lib.hid T0
  clear h hall T0
  have wz1 := wordS_size f
  have wz2 := wordS_size t
  have wz3 := longS_size g
  have hz1 : ¬ 9223372036854775807 < (wordS f).size + (wordS t).size := by omega
  have hz2 : ¬ 9223372036854775807 < (wordS f).size + (wordS t).size + (longS g).size := by omega
  clear wz1 wz2 wz3
  go_enter Try.func14, Try.ntmps14
  go_wp2_with fail
  refine (packetValid_any f t g a len cap cs _ HG.out).mono ?_
  rintro e w1 ⟨rfl, hb1⟩
  rw [V.out]
  have HG1 := Lib.hid (HG.out.below hb1)
  have P1 := pv_next hb1 (pv_at hT.out)
  have hT1 := Lib.hid (pv_next (Below.drew (Below.refl _ _)) P1)
  have P1' := P1.2.2.2.2
  have hT2 := Lib.hid P1'
  clear hb1 HG hT P1 P1'
  go_upto_region 1 with fail
  go_cut [3] from 10 to 19 (fun o wx => o = .string (headP f t g) ∧ PV w w.heap.size [.int .i64 f, .int .i64 t, .int .i64 g, .slice a len cap] wx ∧ Below w1.heap.size w1 wx)
  case first =>
   have hS0 := Lib.hid (And.intro (Below.drew (Below.refl w1.heap.size w1)) hT1.out)
   go_region_held_law (fun W => Below w1.heap.size w1 W ∧ W.cell? ⟨w.heap.size, 0, none⟩ = some (.int .i64 f) ∧ W.cell? ⟨w.heap.size, 1, none⟩ = some (.int .i64 t) ∧ W.cell? ⟨w.heap.size, 2, none⟩ = some (.int .i64 g) ∧ W.cell? ⟨w.heap.size, 3, none⟩ = some (.slice a len cap) ∧ PV w w.heap.size [.int .i64 f, .int .i64 t, .int .i64 g, .slice a len cap] W)
     (first | with_reducible assumption | with_reducible exact hS0.out | exact pv_both (by first | assumption | exact below_box _ (Nat.le_refl _) | exact belowDrew _ _ | exact Below.drew (Below.refl _ _)) (by assumption))
     (first
       | (go_simp; go_at_call 32; refine (numberPut_four g hg.1 hg.2 _).mono ?_; rintro e w1 ⟨rfl, hb1⟩)
       | (go_simp; go_at_call 31; refine (wordsPut_pair f t (by omega) (by omega) _ _ _ (by first | exact VarN.new _ _ _ | exact newDrew _ _ _ | exact (VarN.new _ _ _).below (by assumption) (by simp) | exact (newDrew _ _ _).below (by assumption) (by simp))).mono ?_; rintro e w1 ⟨rfl, hb1⟩))
   all_goals
     rename_i hHeld
     have HW := hHeld.2.2.2.2.2
     have HW1 := hHeld.1
     go_wp2_with fail
     go_meet
     exact ⟨rfl, HW, HW1⟩
  case rest =>
    obtain ⟨rfl, T8, B8⟩ := hcut
    have HG8 := Lib.hid (HG1.out.below B8)
    have hpk := Lib.hid (show headP f t g ++ longS (sumNext 1 (headP f t g ++ zero4 ++ chunksS cs)) ++ chunksS cs = packS f t g cs from rfl)
    have hH := headP_size f t g
    generalize headP f t g = H at *
    have c3 := (T8.v 3 _ rfl).1
    have hb0 := Lib.hid T8.bel
    clear hT1 hT2 HG1 T8 B8
    go_wp2_with fail
    go_loopw [4, 23] (fun o i wr => ∃ (k : Nat) (X : ByteArray), k ≤ len ∧ o = .string X ∧ i = .int .i64 k ∧ Hid (chunksS (cs.take k) = X) ∧ X.size ≤ 64 * k ∧ Hid (Below wc.heap.size wc wr)) (fun _ i _ => len - (intOf i).toNat)
    case atStart => exact ⟨0, _, Nat.zero_le _, rfl, rfl, Lib.hid rfl, Nat.le_refl _, Lib.hid (Below.refl _ _)⟩
    case round =>
      obtain ⟨k, X, hk, rfl, rfl, hX, hs1, hbel⟩ := hrel
      clear c3
      by_cases hlt : k < len
      · obtain ⟨x, rfl⟩ := HG8.out.some hlt
        obtain ⟨p0, p1, p2⟩ := HG8.out.at hbel.out hlt
        have hkl : k < cs.length := by omega
        have hch := HA.out _ (chAt_mem hkl)
        have N := Lib.hid (show chunksS (cs.take (k + 1)) = X ++ chunkS (chAt cs k).1 (chAt cs k).2.1 (chAt cs k).2.2 by rw [take_chAt hkl, chunksS_snoc, ← hX.out])
        obtain ⟨c1, hc1'⟩ : ∃ c1, (chAt cs k).1 = c1 := ⟨_, rfl⟩
        obtain ⟨c2, hc2'⟩ : ∃ c2, (chAt cs k).2.1 = c2 := ⟨_, rfl⟩
        obtain ⟨c3', hc3'⟩ : ∃ c3, (chAt cs k).2.2 = c3 := ⟨_, rfl⟩
        rw [hc1', hc2', hc3'] at N hch
        rw [hc1'] at p0
        rw [hc2'] at p1
        rw [hc3'] at p2
        have HCH := Lib.hid hch
        have hcz := chunkS_le c1 c2 c3' hch.2.2
        have hz9 : ¬ 9223372036854775807 < X.size + (chunkS c1 c2 c3').size := by omega
        have hB := hbel.out.size
        have HBA := Lib.hid (hbel.out.alloc hB (.cells #[.int .i64 c1, .int .i64 c2, .string c3'] 32))
        clear hc1' hc2' hc3' hch
        go_wp2_with fail
        refine (chunkPut_yes c1 c2 c3' _ HCH.out).mono ?_
        rintro e w3 ⟨rfl, hb3⟩
        have HP := Lib.hid (HBA.out.trans (hb3.mono HBA.out.size))
        clear hb3
        go_wp2
        go_roundw
        case rel => exact ⟨k + 1, _, by omega, rfl, by go_num, N, by rw [ByteArray.size_append]; omega, HP⟩
        case measure => simp [intOf]; omega
      · obtain rfl : k = len := by omega
        have hX' : chunksS cs = X := by
          have := hX.out
          rw [List.take_of_length_le (by omega)] at this
          exact this
        rw [hX'] at hpk
        have z3 := longS_size (sumNext 1 (H ++ zero4 ++ X))
        have sb := sumNext_four (H ++ zero4 ++ X)
        have hz4 : ¬ 9223372036854775807 < H.size + (longS (sumNext 1 (H ++ zero4 ++ X))).size := by omega
        have hz5 : ¬ 9223372036854775807 < H.size + (longS (sumNext 1 (H ++ zero4 ++ X))).size + X.size := by omega
        have hHs : H.size ≤ 100000000 := by omega
        have hXs : X.size ≤ 100000000 := by omega
        clear hX hX' hz1 hz2
        go_wp2_with fail
        refine (packetSum_any H X _ hHs hXs).mono ?_
        rintro e w3 ⟨rfl, hb3⟩
        generalize sumNext 1 (H ++ zero4 ++ X) = S at *
        go_wp2_with fail
        refine (numberPut_four S sb.1 sb.2 _).mono ?_
        rintro e w4 ⟨rfl, hb4⟩
        have HB := Lib.hid (hb0.out.trans ((hbel.out.trans ((hb3.trans (hb4.mono hb3.size)).mono hbel.out.size)).mono hb0.out.size))
        clear hb3 hb4
        go_wp2
        go_ret
        exact ⟨ret_s hpk.out, HB.out⟩

end Go.Proofs.Ytcpdpamoddmpaaa
