/- The walks of the laws on packets that are written: PutBad, Size, Head. -/
import Derived.Test.YtcpdpamoddmpaaaK51
import Derived.Test.YtcpdpamoddmpaaaK47
import Derived.Test.YtcpdpamoddmpaaaK2
import Derived.Deep.RegionHeldLaw
import Derived.Handy
namespace Go.Proofs.Ytcpdpamoddmpaaa
open Go.RowKit Go.PlainAid

theorem pack_tail {f t g : Int} {cs : List (Int × Int × ByteArray)} {S : ByteArray} (h : packS f t g cs = S) : S.extract 12 S.size = chunksS cs := by
  subst h
  have hz : (headP f t g ++ longS (sumNext 1 (headP f t g ++ zero4 ++ chunksS cs))).size = 12 := by rw [ByteArray.size_append, headP_size, longS_size]
  have hp := packS_size f t g cs
  refine same_bt (by rw [size_cut _ _ _ (Nat.le_refl _)]; omega) fun i hi => ?_
  rw [size_cut _ _ _ (Nat.le_refl _)] at hi
  rw [bt_cut _ _ _ _ (by omega)]
  unfold packS
  rw [bt_right _ _ _ (by omega), hz, show 12 + i - 12 = i by omega]
theorem pack_fields {f t g : Int} {cs : List (Int × Int × ByteArray)} {S : ByteArray} (h : packS f t g cs = S) (hok : PackOk f t g cs) : be S 0 2 = f ∧ be S 2 2 = t ∧ be S 4 4 = g ∧ be S 8 4 = sum13 S := by
  subst h
  obtain ⟨_, h2, ⟨h3, h4, h5⟩, _⟩ := pack_is hok
  exact ⟨h3.symm, h4.symm, h5.symm, h2⟩
theorem keptP {p0 p1 p2 : Addr} {x0 x1 x2 : Value} {w W W' : World} (h : W.cell? p0 = some x0 ∧ W.cell? p1 = some x1 ∧ W.cell? p2 = some x2 ∧ Below w.heap.size w W) (hb : Below W.heap.size W W') :
    W'.cell? p0 = some x0 ∧ W'.cell? p1 = some x1 ∧ W'.cell? p2 = some x2 ∧ Below w.heap.size w W' := by
  obtain ⟨h1, h2, h3, h4⟩ := h
  have go : ∀ (p : Addr) (v : Value), W.cell? p = some v → W'.cell? p = some v := fun p v e => (hb.cell (World.block_lt_of_cell? W _ e)).trans e
  exact ⟨go _ _ h1, go _ _ h2, go _ _ h3, h4.trans (hb.mono h4.size)⟩

set_option maxHeartbeats 4000000 in
theorem walk_fnPacketPutBad (a0 : Option Addr) (len0 cap0 : Nat) (z0 : List Int) (w : World) (w0 : IsRow .u8 w a0 len0 cap0 z0) :
    Calls Try.prog 3 #[.slice a0 len0 cap0] w fun e w' => e = .returned (.bool true) ∧ Below w.heap.size w w' := by
  have H := Lib.hid w0
  clear w0
  by_cases hl : (1048576 : Int) < len0
  · go_enter Try.func3, Try.ntmps3
    go_wp2
    go_ret
    exact ⟨rfl, Below.refl _ _⟩
  · go_enter Try.func3, Try.ntmps3
    go_wp2_with fail
    refine (drawPacketPut_any a0 len0 cap0 z0 _ H.out).mono ?_
    rintro e w1 ⟨f, t, n, g, k, cap, cs, rfl, ⟨nf0, nf1⟩, ⟨nt0, nt1⟩, ⟨nn0, nn1⟩, nk, ng, hch, hb1⟩
    have hcl := hch.length
    have GA := Lib.hid hch
    clear hch
    by_cases hc : PackOk f t n cs
    · have HC := Lib.hid hc
      clear hc
      obtain ⟨S, hS⟩ : ∃ S, packS f t n cs = S := ⟨_, rfl⟩
      have HS := Lib.hid hS
      have sz : S.size ≤ 268 := by rw [← hS]; exact packS_le HC.out
      have sz12 : 12 ≤ S.size := by rw [← hS, packS_size]; omega
      have ne1 := text_some (s := S) (by omega)
      have ne2 : S.toList.isEmpty = false := by simpa using ne1
      clear hS
      go_wp2_with fail
      refine (packetPut_yes f t n _ k cap cs _ ((GA.out).below (below_box (.cells (List.toArray [.int .i64 f, .int .i64 t, .int .i64 n, .slice (some ⟨g, 0, none⟩) k cap]) 25) (Nat.le_refl _))) HC.out).mono ?_
      rw [HS.out]
      rintro e w2 ⟨rfl, hb2⟩
      have Vv := Lib.hid ((VarN.new_at (w := w1) (d := w1.heap.size) (by simp) [.int .i64 f, .int .i64 t, .int .i64 n, .slice (some ⟨g, 0, none⟩) k cap] 25).below hb2 (by simp))
      have HB2 := Lib.hid (((hb1).alloc (Nat.le_trans hb1.size (by exact Nat.le_refl _)) (.cells (List.toArray [.int .i64 f, .int .i64 t, .int .i64 n, .slice (some ⟨g, 0, none⟩) k cap]) 25)).trans (hb2.mono (Nat.le_trans hb1.size (by simp <;> omega))))
      have ltv : w1.heap.size < w2.heap.size := lt_of_cell (Vv.out 0 _ rfl).1
      have nev : ¬ w1.heap.size = w2.heap.size := by omega
      have GA := Lib.hid (((GA.out).below (below_box (.cells (List.toArray [.int .i64 f, .int .i64 t, .int .i64 n, .slice (some ⟨g, 0, none⟩) k cap]) 25) (Nat.le_refl _))).below hb2)
      clear hb2
      have v0 := (Vv.out 0 _ rfl).1
      have vf0 := (Vv.out 0 _ rfl).2
      have v1 := (Vv.out 1 _ rfl).1
      have vf1 := (Vv.out 1 _ rfl).2
      have v2 := (Vv.out 2 _ rfl).1
      have vf2 := (Vv.out 2 _ rfl).2
      have v3 := (Vv.out 3 _ rfl).1
      have vf3 := (Vv.out 3 _ rfl).2
      go_wp2_with fail
      refine (sPacketPut_yes f t n _ k cap cs _ GA.out HC.out).mono ?_
      rw [HS.out]
      rintro e w3 ⟨rfl, hb3⟩
      clear v0 vf0 v1 vf1 v2 vf2 v3 vf3
      have Vv := Lib.hid ((Vv.out).below hb3 ltv)
      have HB3 := Lib.hid (HB2.out.trans (hb3.mono HB2.out.size))
      have ltv : w1.heap.size < w3.heap.size := lt_of_cell (Vv.out 0 _ rfl).1
      have nev : ¬ w1.heap.size = w3.heap.size := by omega
      have GA := Lib.hid ((GA.out).below hb3)
      clear hb3
      have HV := Lib.hid (packV_yes HC.out)
      have v0 := (Vv.out 0 _ rfl).1
      have vf0 := (Vv.out 0 _ rfl).2
      have v1 := (Vv.out 1 _ rfl).1
      have vf1 := (Vv.out 1 _ rfl).2
      have v2 := (Vv.out 2 _ rfl).1
      have vf2 := (Vv.out 2 _ rfl).2
      have v3 := (Vv.out 3 _ rfl).1
      have vf3 := (Vv.out 3 _ rfl).2
      go_wp2_with fail
      refine (packetValid_any f t n _ k cap cs _ GA.out).mono ?_
      rw [HV.out]
      rintro e w4 ⟨rfl, hb4⟩
      clear v0 vf0 v1 vf1 v2 vf2 v3 vf3
      have Vv := Lib.hid ((Vv.out).below hb4 ltv)
      have HB4 := Lib.hid (HB3.out.trans (hb4.mono HB3.out.size))
      have ltv : w1.heap.size < w4.heap.size := lt_of_cell (Vv.out 0 _ rfl).1
      have nev : ¬ w1.heap.size = w4.heap.size := by omega
      have GA := Lib.hid ((GA.out).below hb4)
      clear hb4
      go_wp2
      go_ret
      exact ⟨rfl, HB4.out⟩
    · have HC := Lib.hid hc
      clear hc
      go_wp2_with fail
      refine (packetPut_no f t n _ k cap cs _ ((GA.out).below (below_box (.cells (List.toArray [.int .i64 f, .int .i64 t, .int .i64 n, .slice (some ⟨g, 0, none⟩) k cap]) 25) (Nat.le_refl _))) HC.out).mono ?_
      rintro e w2 ⟨rfl, hb2⟩
      have Vv := Lib.hid ((VarN.new_at (w := w1) (d := w1.heap.size) (by simp) [.int .i64 f, .int .i64 t, .int .i64 n, .slice (some ⟨g, 0, none⟩) k cap] 25).below hb2 (by simp))
      have HB2 := Lib.hid (((hb1).alloc (Nat.le_trans hb1.size (by exact Nat.le_refl _)) (.cells (List.toArray [.int .i64 f, .int .i64 t, .int .i64 n, .slice (some ⟨g, 0, none⟩) k cap]) 25)).trans (hb2.mono (Nat.le_trans hb1.size (by simp <;> omega))))
      have ltv : w1.heap.size < w2.heap.size := lt_of_cell (Vv.out 0 _ rfl).1
      have nev : ¬ w1.heap.size = w2.heap.size := by omega
      have GA := Lib.hid (((GA.out).below (below_box (.cells (List.toArray [.int .i64 f, .int .i64 t, .int .i64 n, .slice (some ⟨g, 0, none⟩) k cap]) 25) (Nat.le_refl _))).below hb2)
      clear hb2
      have v0 := (Vv.out 0 _ rfl).1
      have vf0 := (Vv.out 0 _ rfl).2
      have v1 := (Vv.out 1 _ rfl).1
      have vf1 := (Vv.out 1 _ rfl).2
      have v2 := (Vv.out 2 _ rfl).1
      have vf2 := (Vv.out 2 _ rfl).2
      have v3 := (Vv.out 3 _ rfl).1
      have vf3 := (Vv.out 3 _ rfl).2
      go_wp2_with fail
      refine (sPacketPut_no f t n _ k cap cs _ GA.out HC.out).mono ?_
      rintro e w3 ⟨rfl, hb3⟩
      clear v0 vf0 v1 vf1 v2 vf2 v3 vf3
      have Vv := Lib.hid ((Vv.out).below hb3 ltv)
      have HB3 := Lib.hid (HB2.out.trans (hb3.mono HB2.out.size))
      have ltv : w1.heap.size < w3.heap.size := lt_of_cell (Vv.out 0 _ rfl).1
      have nev : ¬ w1.heap.size = w3.heap.size := by omega
      have GA := Lib.hid ((GA.out).below hb3)
      clear hb3
      have HV := Lib.hid (packV_no HC.out)
      have v0 := (Vv.out 0 _ rfl).1
      have vf0 := (Vv.out 0 _ rfl).2
      have v1 := (Vv.out 1 _ rfl).1
      have vf1 := (Vv.out 1 _ rfl).2
      have v2 := (Vv.out 2 _ rfl).1
      have vf2 := (Vv.out 2 _ rfl).2
      have v3 := (Vv.out 3 _ rfl).1
      have vf3 := (Vv.out 3 _ rfl).2
      go_wp2_with fail
      refine (packetValid_any f t n _ k cap cs _ GA.out).mono ?_
      rw [HV.out]
      rintro e w4 ⟨rfl, hb4⟩
      clear v0 vf0 v1 vf1 v2 vf2 v3 vf3
      have Vv := Lib.hid ((Vv.out).below hb4 ltv)
      have HB4 := Lib.hid (HB3.out.trans (hb4.mono HB3.out.size))
      have ltv : w1.heap.size < w4.heap.size := lt_of_cell (Vv.out 0 _ rfl).1
      have nev : ¬ w1.heap.size = w4.heap.size := by omega
      have GA := Lib.hid ((GA.out).below hb4)
      clear hb4
      go_wp2
      go_ret
      exact ⟨rfl, HB4.out⟩

set_option maxHeartbeats 4000000 in
theorem walk_fnPacketSize (a0 : Option Addr) (len0 cap0 : Nat) (z0 : List Int) (w : World) (w0 : IsRow .u8 w a0 len0 cap0 z0) :
    Calls Try.prog 4 #[.slice a0 len0 cap0] w fun e w' => e = .returned (.bool true) ∧ Below w.heap.size w w' := by
  have H := Lib.hid w0
  clear w0
  by_cases hl : (1048576 : Int) < len0
  · go_enter Try.func4, Try.ntmps4
    go_wp2
    go_ret
    exact ⟨rfl, Below.refl _ _⟩
  · go_enter Try.func4, Try.ntmps4
    go_wp2_with fail
    refine (drawPacketPut_any a0 len0 cap0 z0 _ H.out).mono ?_
    rintro e w1 ⟨f, t, n, g, k, cap, cs, rfl, ⟨nf0, nf1⟩, ⟨nt0, nt1⟩, ⟨nn0, nn1⟩, nk, ng, hch, hb1⟩
    have hcl := hch.length
    have GA := Lib.hid hch
    clear hch
    by_cases hc : PackOk f t n cs
    · have HC := Lib.hid hc
      clear hc
      obtain ⟨S, hS⟩ : ∃ S, packS f t n cs = S := ⟨_, rfl⟩
      have HS := Lib.hid hS
      have sz : S.size ≤ 268 := by rw [← hS]; exact packS_le HC.out
      have sz12 : 12 ≤ S.size := by rw [← hS, packS_size]; omega
      have ne1 := text_some (s := S) (by omega)
      have ne2 : S.toList.isEmpty = false := by simpa using ne1
      clear hS
      go_wp2_with fail
      refine (packetPut_yes f t n _ k cap cs _ ((GA.out).below (below_box (.cells (List.toArray [.int .i64 f, .int .i64 t, .int .i64 n, .slice (some ⟨g, 0, none⟩) k cap]) 25) (Nat.le_refl _))) HC.out).mono ?_
      rw [HS.out]
      rintro e w2 ⟨rfl, hb2⟩
      have Vv := Lib.hid ((VarN.new_at (w := w1) (d := w1.heap.size) (by simp) [.int .i64 f, .int .i64 t, .int .i64 n, .slice (some ⟨g, 0, none⟩) k cap] 25).below hb2 (by simp))
      have HB2 := Lib.hid (((hb1).alloc (Nat.le_trans hb1.size (by exact Nat.le_refl _)) (.cells (List.toArray [.int .i64 f, .int .i64 t, .int .i64 n, .slice (some ⟨g, 0, none⟩) k cap]) 25)).trans (hb2.mono (Nat.le_trans hb1.size (by simp <;> omega))))
      have ltv : w1.heap.size < w2.heap.size := lt_of_cell (Vv.out 0 _ rfl).1
      have nev : ¬ w1.heap.size = w2.heap.size := by omega
      have GA := Lib.hid (((GA.out).below (below_box (.cells (List.toArray [.int .i64 f, .int .i64 t, .int .i64 n, .slice (some ⟨g, 0, none⟩) k cap]) 25) (Nat.le_refl _))).below hb2)
      clear hb2
      have v0 := (Vv.out 0 _ rfl).1
      have vf0 := (Vv.out 0 _ rfl).2
      have v1 := (Vv.out 1 _ rfl).1
      have vf1 := (Vv.out 1 _ rfl).2
      have v2 := (Vv.out 2 _ rfl).1
      have vf2 := (Vv.out 2 _ rfl).2
      have v3 := (Vv.out 3 _ rfl).1
      have vf3 := (Vv.out 3 _ rfl).2
      go_wp2_with fail
      refine (sPacketPut_yes f t n _ k cap cs _ GA.out HC.out).mono ?_
      rw [HS.out]
      rintro e w3 ⟨rfl, hb3⟩
      clear v0 vf0 v1 vf1 v2 vf2 v3 vf3
      have Vv := Lib.hid ((Vv.out).below hb3 ltv)
      have HB3 := Lib.hid (HB2.out.trans (hb3.mono HB2.out.size))
      have ltv : w1.heap.size < w3.heap.size := lt_of_cell (Vv.out 0 _ rfl).1
      have nev : ¬ w1.heap.size = w3.heap.size := by omega
      have GA := Lib.hid ((GA.out).below hb3)
      clear hb3
      have HTL := Lib.hid (pack_tail HS.out)
      have km : k ≤ 9223372036854775807 := by omega
      have k12 : (12 : Int) ≤ (S.size : Int) := by omega
      have v0 := (Vv.out 0 _ rfl).1
      have vf0 := (Vv.out 0 _ rfl).2
      have v1 := (Vv.out 1 _ rfl).1
      have vf1 := (Vv.out 1 _ rfl).2
      have v2 := (Vv.out 2 _ rfl).1
      have vf2 := (Vv.out 2 _ rfl).2
      have v3 := (Vv.out 3 _ rfl).1
      have vf3 := (Vv.out 3 _ rfl).2
      go_wp2
      go_loopw [6, 7] (fun o i wr => ∃ (j : Nat) (X : ByteArray), j ≤ k ∧ o = .string X ∧ i = .int .i64 j ∧ Hid (chunksS (cs.take j) = X) ∧ X.size ≤ 64 * j ∧ wr.cell? ⟨w1.heap.size, 3, none⟩ = some (.slice (some ⟨g, 0, none⟩) k cap) ∧ Hid (Below w3.heap.size w3 wr)) (fun _ i _ => k - (intOf i).toNat)
      case atStart => exact ⟨0, _, Nat.zero_le _, rfl, rfl, Lib.hid rfl, Nat.le_refl _, v3, Lib.hid (Below.refl _ _)⟩
      case round =>
        obtain ⟨j, X, hj, rfl, rfl, hX, hs1, u3, hbel⟩ := hrel
        clear v0 v1 v2 v3 vf0 vf1 vf2 vf3
        by_cases hlt : j < k
        · obtain ⟨p0, p1, p2⟩ := GA.out.at hbel.out hlt
          have hkl : j < cs.length := by omega
          have hch := HC.out.2.2.2 _ (chAt_mem hkl)
          have N := Lib.hid (show chunksS (cs.take (j + 1)) = X ++ chunkS (chAt cs j).1 (chAt cs j).2.1 (chAt cs j).2.2 by rw [take_chAt hkl, chunksS_snoc, ← hX.out])
          obtain ⟨c1, hc1'⟩ : ∃ c1, (chAt cs j).1 = c1 := ⟨_, rfl⟩
          obtain ⟨c2, hc2'⟩ : ∃ c2, (chAt cs j).2.1 = c2 := ⟨_, rfl⟩
          obtain ⟨c3, hc3'⟩ : ∃ c3, (chAt cs j).2.2 = c3 := ⟨_, rfl⟩
          rw [hc1', hc2', hc3'] at N hch
          rw [hc1'] at p0
          rw [hc2'] at p1
          rw [hc3'] at p2
          simp only [ch_add] at p0 p1 p2
          have HCH := Lib.hid hch
          have hcz := chunkS_le c1 c2 c3 hch.2.2
          have hz9 : ¬ 9223372036854775807 < X.size + (chunkS c1 c2 c3).size := by omega
          clear hc1' hc2' hc3' hch
          go_wp2_with fail
          refine (chunkPut_yes c1 c2 c3 _ HCH.out).mono ?_
          rintro e wq ⟨rfl, hbq⟩
          have u3' := kept_cell hbq (lt_of_cell u3) u3
          have HP := Lib.hid (hbel.out.trans (hbq.mono hbel.out.size))
          clear hbq
          go_wp2
          go_roundw
          case rel => exact ⟨j + 1, _, by omega, rfl, by go_num, N, by rw [ByteArray.size_append]; omega, u3', HP⟩
          case measure => simp [intOf]; omega
        · obtain rfl : j = k := by omega
          have E := Lib.hid (show S.extract 12 S.size = X by rw [HTL.out, ← hX.out, List.take_of_length_le (by omega)])
          go_wp2
          go_ret
          exact ⟨ret_b (by rw [E.out]; simp), HB3.out.trans (hbel.out.mono HB3.out.size)⟩
    · have HC := Lib.hid hc
      clear hc
      go_wp2_with fail
      refine (packetPut_no f t n _ k cap cs _ ((GA.out).below (below_box (.cells (List.toArray [.int .i64 f, .int .i64 t, .int .i64 n, .slice (some ⟨g, 0, none⟩) k cap]) 25) (Nat.le_refl _))) HC.out).mono ?_
      rintro e w2 ⟨rfl, hb2⟩
      have Vv := Lib.hid ((VarN.new_at (w := w1) (d := w1.heap.size) (by simp) [.int .i64 f, .int .i64 t, .int .i64 n, .slice (some ⟨g, 0, none⟩) k cap] 25).below hb2 (by simp))
      have HB2 := Lib.hid (((hb1).alloc (Nat.le_trans hb1.size (by exact Nat.le_refl _)) (.cells (List.toArray [.int .i64 f, .int .i64 t, .int .i64 n, .slice (some ⟨g, 0, none⟩) k cap]) 25)).trans (hb2.mono (Nat.le_trans hb1.size (by simp <;> omega))))
      have ltv : w1.heap.size < w2.heap.size := lt_of_cell (Vv.out 0 _ rfl).1
      have nev : ¬ w1.heap.size = w2.heap.size := by omega
      have GA := Lib.hid (((GA.out).below (below_box (.cells (List.toArray [.int .i64 f, .int .i64 t, .int .i64 n, .slice (some ⟨g, 0, none⟩) k cap]) 25) (Nat.le_refl _))).below hb2)
      clear hb2
      have v0 := (Vv.out 0 _ rfl).1
      have vf0 := (Vv.out 0 _ rfl).2
      have v1 := (Vv.out 1 _ rfl).1
      have vf1 := (Vv.out 1 _ rfl).2
      have v2 := (Vv.out 2 _ rfl).1
      have vf2 := (Vv.out 2 _ rfl).2
      have v3 := (Vv.out 3 _ rfl).1
      have vf3 := (Vv.out 3 _ rfl).2
      go_wp2_with fail
      refine (sPacketPut_no f t n _ k cap cs _ GA.out HC.out).mono ?_
      rintro e w3 ⟨rfl, hb3⟩
      clear v0 vf0 v1 vf1 v2 vf2 v3 vf3
      have Vv := Lib.hid ((Vv.out).below hb3 ltv)
      have HB3 := Lib.hid (HB2.out.trans (hb3.mono HB2.out.size))
      have ltv : w1.heap.size < w3.heap.size := lt_of_cell (Vv.out 0 _ rfl).1
      have nev : ¬ w1.heap.size = w3.heap.size := by omega
      have GA := Lib.hid ((GA.out).below hb3)
      clear hb3
      go_wp2
      go_ret
      exact ⟨rfl, HB3.out⟩

set_option maxHeartbeats 4000000 in
theorem walk_fnPacketHead (a0 : Option Addr) (len0 cap0 : Nat) (z0 : List Int) (w : World) (w0 : IsRow .u8 w a0 len0 cap0 z0) :
    Calls Try.prog 5 #[.slice a0 len0 cap0] w fun e w' => e = .returned (.bool true) ∧ Below w.heap.size w w' := by
  have H := Lib.hid w0
  clear w0
  by_cases hl : (1048576 : Int) < len0
  · go_enter Try.func5, Try.ntmps5
    go_wp2
    go_ret
    exact ⟨rfl, Below.refl _ _⟩
  · go_enter Try.func5, Try.ntmps5
    go_wp2_with fail
    refine (drawPacketPut_any a0 len0 cap0 z0 _ H.out).mono ?_
    rintro e w1 ⟨f, t, n, g, k, cap, cs, rfl, ⟨nf0, nf1⟩, ⟨nt0, nt1⟩, ⟨nn0, nn1⟩, nk, ng, hch, hb1⟩
    have hcl := hch.length
    have GA := Lib.hid hch
    clear hch
    by_cases hc : PackOk f t n cs
    · have HC := Lib.hid hc
      clear hc
      obtain ⟨S, hS⟩ : ∃ S, packS f t n cs = S := ⟨_, rfl⟩
      have HS := Lib.hid hS
      have sz : S.size ≤ 268 := by rw [← hS]; exact packS_le HC.out
      have sz12 : 12 ≤ S.size := by rw [← hS, packS_size]; omega
      have ne1 := text_some (s := S) (by omega)
      have ne2 : S.toList.isEmpty = false := by simpa using ne1
      clear hS
      go_wp2_with fail
      refine (packetPut_yes f t n _ k cap cs _ ((GA.out).below (below_box (.cells (List.toArray [.int .i64 f, .int .i64 t, .int .i64 n, .slice (some ⟨g, 0, none⟩) k cap]) 25) (Nat.le_refl _))) HC.out).mono ?_
      rw [HS.out]
      rintro e w2 ⟨rfl, hb2⟩
      have Vv := Lib.hid ((VarN.new_at (w := w1) (d := w1.heap.size) (by simp) [.int .i64 f, .int .i64 t, .int .i64 n, .slice (some ⟨g, 0, none⟩) k cap] 25).below hb2 (by simp))
      have HB2 := Lib.hid (((hb1).alloc (Nat.le_trans hb1.size (by exact Nat.le_refl _)) (.cells (List.toArray [.int .i64 f, .int .i64 t, .int .i64 n, .slice (some ⟨g, 0, none⟩) k cap]) 25)).trans (hb2.mono (Nat.le_trans hb1.size (by simp <;> omega))))
      have ltv : w1.heap.size < w2.heap.size := lt_of_cell (Vv.out 0 _ rfl).1
      have nev : ¬ w1.heap.size = w2.heap.size := by omega
      have GA := Lib.hid (((GA.out).below (below_box (.cells (List.toArray [.int .i64 f, .int .i64 t, .int .i64 n, .slice (some ⟨g, 0, none⟩) k cap]) 25) (Nat.le_refl _))).below hb2)
      clear hb2
      have v0 := (Vv.out 0 _ rfl).1
      have vf0 := (Vv.out 0 _ rfl).2
      have v1 := (Vv.out 1 _ rfl).1
      have vf1 := (Vv.out 1 _ rfl).2
      have v2 := (Vv.out 2 _ rfl).1
      have vf2 := (Vv.out 2 _ rfl).2
      have v3 := (Vv.out 3 _ rfl).1
      have vf3 := (Vv.out 3 _ rfl).2
      go_wp2_with fail
      refine (sPacketPut_yes f t n _ k cap cs _ GA.out HC.out).mono ?_
      rw [HS.out]
      rintro e w3 ⟨rfl, hb3⟩
      clear v0 vf0 v1 vf1 v2 vf2 v3 vf3
      have Vv := Lib.hid ((Vv.out).below hb3 ltv)
      have HB3 := Lib.hid (HB2.out.trans (hb3.mono HB2.out.size))
      have ltv : w1.heap.size < w3.heap.size := lt_of_cell (Vv.out 0 _ rfl).1
      have nev : ¬ w1.heap.size = w3.heap.size := by omega
      have GA := Lib.hid ((GA.out).below hb3)
      clear hb3
      have HF := Lib.hid (pack_fields HS.out HC.out)
      have sm : S.size ≤ maxLen := by unfold maxLen; omega
      go_wp2_with fail
      refine (wordGet_yes S 0 _ sm (by omega)).mono ?_
      rw [HF.out.1]
      rintro e w4 ⟨rfl, hb4⟩
      have Vv := Lib.hid ((Vv.out).below hb4 ltv)
      have HB4 := Lib.hid (HB3.out.trans (hb4.mono HB3.out.size))
      have ltv : w1.heap.size < w4.heap.size := lt_of_cell (Vv.out 0 _ rfl).1
      have nev : ¬ w1.heap.size = w4.heap.size := by omega
      have GA := Lib.hid ((GA.out).below hb4)
      clear hb4
      go_wp2_with fail
      refine (wordGet_yes S 2 _ sm (by omega)).mono ?_
      rw [HF.out.2.1]
      rintro e w5 ⟨rfl, hb5⟩
      have Vv := Lib.hid ((Vv.out).below hb5 ltv)
      have HB5 := Lib.hid (HB4.out.trans (hb5.mono HB4.out.size))
      have ltv : w1.heap.size < w5.heap.size := lt_of_cell (Vv.out 0 _ rfl).1
      have nev : ¬ w1.heap.size = w5.heap.size := by omega
      have GA := Lib.hid ((GA.out).below hb5)
      clear hb5
      go_wp2_with fail
      refine (longGet_yes S 4 _ sm (by omega)).mono ?_
      rw [HF.out.2.2.1]
      rintro e w6 ⟨rfl, hb6⟩
      have Vv := Lib.hid ((Vv.out).below hb6 ltv)
      have HB6 := Lib.hid (HB5.out.trans (hb6.mono HB5.out.size))
      have ltv : w1.heap.size < w6.heap.size := lt_of_cell (Vv.out 0 _ rfl).1
      have nev : ¬ w1.heap.size = w6.heap.size := by omega
      have GA := Lib.hid ((GA.out).below hb6)
      clear hb6
      obtain ⟨z, hz⟩ : ∃ z, sum13 S = z := ⟨_, rfl⟩
      have HZ := Lib.hid hz
      clear hz
      go_wp2_with fail
      refine (longGet_yes S 8 _ sm (by omega)).mono ?_
      rw [HF.out.2.2.2, HZ.out]
      rintro e w7 ⟨rfl, hb7⟩
      have Vv := Lib.hid ((Vv.out).below hb7 ltv)
      have HB7 := Lib.hid (HB6.out.trans (hb7.mono HB6.out.size))
      have ltv : w1.heap.size < w7.heap.size := lt_of_cell (Vv.out 0 _ rfl).1
      have nev : ¬ w1.heap.size = w7.heap.size := by omega
      have GA := Lib.hid ((GA.out).below hb7)
      clear hb7
      have v0 := (Vv.out 0 _ rfl).1
      have vf0 := (Vv.out 0 _ rfl).2
      have v1 := (Vv.out 1 _ rfl).1
      have vf1 := (Vv.out 1 _ rfl).2
      have v2 := (Vv.out 2 _ rfl).1
      have vf2 := (Vv.out 2 _ rfl).2
      have v3 := (Vv.out 3 _ rfl).1
      have vf3 := (Vv.out 3 _ rfl).2
      have hS := Lib.hid (keptP (W := w7) (w := w7) ⟨v0, v1, v2, Below.refl _ _⟩ (Below.drew (Below.refl _ _)))
      have k8 : (8 : Int) ≤ (S.size : Int) := by omega
      have k12 : (12 : Int) ≤ (S.size : Int) := by omega
      have y8 := size_cut S 0 8 (by omega)
      have y12 := size_cut S 12 S.size (Nat.le_refl _)
      have q1 : ¬ 9223372036854775807 < (S.extract 0 8).size + 4 := by omega
      have q2 : ¬ 9223372036854775807 < (S.extract 0 8).size + 4 + (S.extract 12 S.size).size := by omega
      have q3 : (S.extract 0 8 ++ ByteArray.mk #[0, 0, 0, 0] ++ S.extract 12 S.size).size ≤ maxLen := by rw [ByteArray.size_append, ByteArray.size_append]; unfold maxLen; show _ + 4 + _ ≤ _; omega
      have HQ := Lib.hid q3
      have EZ := Lib.hid (show sumNext 1 (S.extract 0 8 ++ ByteArray.mk #[0, 0, 0, 0] ++ S.extract 12 S.size) = z from HZ.out)
      clear y8 y12 q3 v0 v1 v2 v3 vf0 vf1 vf2 vf3
      go_wp2_with fail
      go_region_held_law (fun W => W.cell? ⟨w1.heap.size, 0, none⟩ = some (.int .i64 f) ∧ W.cell? ⟨w1.heap.size, 1, none⟩ = some (.int .i64 t) ∧ W.cell? ⟨w1.heap.size, 2, none⟩ = some (.int .i64 n) ∧ Below w7.heap.size w7 W)
        (first | with_reducible assumption | with_reducible exact hS.out | exact keptP (by assumption) (by assumption))
        (first | (go_simp; go_at_call 20; refine (sumText_any (S.extract 0 8 ++ ByteArray.mk #[0, 0, 0, 0] ++ S.extract 12 S.size) _ HQ.out).mono ?_; rw [EZ.out]; rintro e w' ⟨rfl, hbn⟩))
      all_goals
        rename_i hHeld
        have HW := Lib.hid hHeld.2.2.2
        clear hHeld
        go_wp2
        go_ret
        exact ⟨rfl, HB7.out.trans (HW.out.mono HB7.out.size)⟩
    · have HC := Lib.hid hc
      clear hc
      go_wp2_with fail
      refine (packetPut_no f t n _ k cap cs _ ((GA.out).below (below_box (.cells (List.toArray [.int .i64 f, .int .i64 t, .int .i64 n, .slice (some ⟨g, 0, none⟩) k cap]) 25) (Nat.le_refl _))) HC.out).mono ?_
      rintro e w2 ⟨rfl, hb2⟩
      have Vv := Lib.hid ((VarN.new_at (w := w1) (d := w1.heap.size) (by simp) [.int .i64 f, .int .i64 t, .int .i64 n, .slice (some ⟨g, 0, none⟩) k cap] 25).below hb2 (by simp))
      have HB2 := Lib.hid (((hb1).alloc (Nat.le_trans hb1.size (by exact Nat.le_refl _)) (.cells (List.toArray [.int .i64 f, .int .i64 t, .int .i64 n, .slice (some ⟨g, 0, none⟩) k cap]) 25)).trans (hb2.mono (Nat.le_trans hb1.size (by simp <;> omega))))
      have ltv : w1.heap.size < w2.heap.size := lt_of_cell (Vv.out 0 _ rfl).1
      have nev : ¬ w1.heap.size = w2.heap.size := by omega
      have GA := Lib.hid (((GA.out).below (below_box (.cells (List.toArray [.int .i64 f, .int .i64 t, .int .i64 n, .slice (some ⟨g, 0, none⟩) k cap]) 25) (Nat.le_refl _))).below hb2)
      clear hb2
      have v0 := (Vv.out 0 _ rfl).1
      have vf0 := (Vv.out 0 _ rfl).2
      have v1 := (Vv.out 1 _ rfl).1
      have vf1 := (Vv.out 1 _ rfl).2
      have v2 := (Vv.out 2 _ rfl).1
      have vf2 := (Vv.out 2 _ rfl).2
      have v3 := (Vv.out 3 _ rfl).1
      have vf3 := (Vv.out 3 _ rfl).2
      go_wp2_with fail
      refine (sPacketPut_no f t n _ k cap cs _ GA.out HC.out).mono ?_
      rintro e w3 ⟨rfl, hb3⟩
      clear v0 vf0 v1 vf1 v2 vf2 v3 vf3
      have Vv := Lib.hid ((Vv.out).below hb3 ltv)
      have HB3 := Lib.hid (HB2.out.trans (hb3.mono HB2.out.size))
      have ltv : w1.heap.size < w3.heap.size := lt_of_cell (Vv.out 0 _ rfl).1
      have nev : ¬ w1.heap.size = w3.heap.size := by omega
      have GA := Lib.hid ((GA.out).below hb3)
      clear hb3
      go_wp2
      go_ret
      exact ⟨rfl, HB3.out⟩

end Go.Proofs.Ytcpdpamoddmpaaa
