/- The program's chapter 14: the records at the beginning of bytes, and those of a capture. -/
import Derived.Test.YtodpbjomiplphabK82
import Derived.Test.YtodpbjomiplphabK84
import Derived.Test.YtodpbjomiplphabK71
namespace Go.Proofs.Ytodpbjomiplphab
open Go.RowKit Go.PlainAid

theorem pre_take {s : ByteArray} : (s.extract 0 4).data.toList = s.data.toList.take 4 := by
  rw [ByteArray.data_extract, Array.toList_extract]
  simp [List.extract]
theorem pre_yes {s : ByteArray} (h : 4 ≤ s.size ∧ s.extract 0 4 = tap1) : Lib.hasPrefix s.data.toList [116, 97, 112, 49] = true := by
  have e : s.data.toList.take 4 = [116, 97, 112, 49] := by rw [← pre_take, h.2]; rfl
  unfold Lib.hasPrefix
  rw [List.isPrefixOf_iff_prefix, ← e]
  exact List.take_prefix _ _
theorem pre_no {s : ByteArray} (h : ¬ (4 ≤ s.size ∧ s.extract 0 4 = tap1)) : Lib.hasPrefix s.data.toList [116, 97, 112, 49] = false := by
  refine Bool.eq_false_iff.2 fun k => h ?_
  unfold Lib.hasPrefix at k
  rw [List.isPrefixOf_iff_prefix] at k
  obtain ⟨t, ht⟩ := k
  have hz : s.size = 4 + t.length := by
    have := congrArg List.length ht
    simp at this
    have e : s.data.size = s.size := rfl
    omega
  refine ⟨by omega, ?_⟩
  have e : (s.extract 0 4).data.toList = tap1.data.toList := by
    rw [pre_take, ← ht]
    rfl
  exact ByteArray.ext (Array.toList_inj.1 e)
/-- What was read at a place. -/
def RecIs (s : ByteArray) (p c : Nat) (t : Int) (y : ByteArray) (V : Bool) (W : World) : Prop :=
  (V = true ∧ recEnd s p ≤ s.size ∧ recAt s p = (t, y) ∧ Cur c s (recEnd s p : Nat) W) ∨ (V = false ∧ ¬ recEnd s p ≤ s.size)

set_option maxHeartbeats 400000 in
theorem record_any (c : Nat) (s : ByteArray) (p : Nat) (w : World) (hs : s.size ≤ 100000000) (hc : Cur c s p w) (B : Nat) (hB : B ≤ c) :
    Calls Try.prog 28 #[.pointer (some ⟨c, 0, none⟩)] w fun e w' => ∃ t y V, e = .returned (.tuple #[.agg #[.int .i64 t, .string y], .bool V]) ∧ RecIs s p c t y V w' ∧ Fr B c w w' := by
  by_cases h : recEnd s p ≤ s.size
  · exact (record_yes c s p w hs hc h B hB _ _ _ rfl rfl).mono fun e w' ⟨h1, h2, h3⟩ => ⟨_, _, true, h1, .inl ⟨rfl, h, rfl, h2⟩, h3⟩
  · exact (record_no c s p w hs hc h B hB).mono fun e w' ⟨h1, h2⟩ => ⟨_, _, false, h1, .inr ⟨rfl, h⟩, h2⟩

theorem Chain.apart {w : World} {C n d i : Nat} {b : Nat → Nat} {rs : List (Int × ByteArray)} (h : Chain w C n b rs) (hd : C < d) (hb : ∀ i, i < n → b i < d) (v : Value) : Chain (w.setCell ⟨d, i, none⟩ v) C n b rs := by
  refine ⟨h.len, cell_far (by omega) h.c0, cell_far (by omega) h.c1, cell_far (by omega) h.c2, fun j => by rw [World.frozen?_setCell]; exact h.fr j, h.up, h.asc, fun i hi => (h.links i hi).far (by have := hb i hi; omega) v⟩
/-- While the program reads records: its cursor lies at w's end, its chain behind it, the record that was read at d. -/
structure Rin (w : World) (s : ByteArray) (k q d : Nat) (rs : List (Int × ByteArray)) (t : Int) (y : ByteArray) (V : Bool) (W : World) : Prop where
  ch : ∃ b, Chain W (w.heap.size + 1) k b rs ∧ ∀ i, i < k → b i < d
  run : RunR s 4 0 rs q
  rd : RecIs s q w.heap.size t y V W
  v : VarN d [.int .i64 t, .string y] W
  b : Below w.heap.size w W
  hd : w.heap.size + 1 < d
section
variable {w W : World} {s : ByteArray} {k q d : Nat} {rs : List (Int × ByteArray)} {t : Int} {y : ByteArray} {V : Bool}
/-- The record that was read is laid into a variable. -/
theorem Rin.make {b : Nat → Nat} {u v : Value} (hch : Chain W (w.heap.size + 1) k b rs) (hrun : RunR s 4 0 rs q) (hrec : RecIs s q w.heap.size t y V W) (hbl : Below w.heap.size w W) (hv : VarN d [u, v] W) (hd : w.heap.size + 1 < d) (hb : ∀ i, i < k → b i < d) :
    Rin w s k q d rs t y V ((W.setCell ⟨d, 0, none⟩ (.int .i64 t)).setCell ⟨d, 1, none⟩ (.string y)) := by
  refine ⟨⟨b, (hch.apart hd hb _).apart hd hb _, hb⟩, hrun, ?_, (hv.set (i := 0) (.int .i64 t)).set (i := 1) (.string y), (hbl.setCell (p := ⟨d, 0, none⟩) (by show w.heap.size ≤ d; omega) _).setCell (p := ⟨d, 1, none⟩) (by show w.heap.size ≤ d; omega) _, hd⟩
  rcases hrec with ⟨h1, h2, h3, h4⟩ | h
  · exact .inl ⟨h1, h2, h3, (h4.put (by omega) _).put (by omega) _⟩
  · exact .inr h
end
theorem VarN.block {d : Nat} {vs : List Value} {W W' : World} (h : VarN d vs W) (e : W'.heap[d]? = W.heap[d]?) : VarN d vs W' := fun i v hi => by
  obtain ⟨h1, h2⟩ := h i v hi
  refine ⟨(World.cell?_of_block (w := W) e).trans h1, ?_⟩
  unfold World.frozen? at h2 ⊢
  rw [e]
  exact h2
theorem Own.low {k : Nat} {v : Value} {rs : List (Int × ByteArray)} {w W W' : World} (h : Own k v rs W W') (hb : Below w.heap.size w W) : Own k v rs w W' := by
  refine ⟨⟨h.own.1, ?_⟩, hb.trans (h.b.mono hb.size)⟩
  rcases h.own.2 with h1 | ⟨g, cap, cur, h1, h2, h3⟩
  · exact .inl h1
  · exact .inr ⟨g, cap, cur, h1, Nat.le_trans hb.size h2, h3⟩
/-- What CaptureBegin answers. -/
def GotC (w : World) (s : ByteArray) (e : Ending) (w' : World) : Prop :=
  (∃ rs q k a cap, BeginIs s rs q ∧ e = .returned (.tuple #[.slice a k cap, .int .i64 (q : Nat)]) ∧ rs.length = k ∧ Own k (.slice a k cap) rs w w')
  ∨ (¬ (4 ≤ s.size ∧ s.extract 0 4 = tap1) ∧ e = .returned (.tuple #[.slice none 0 0, .int .i64 0]) ∧ Below w.heap.size w w')

set_option maxHeartbeats 4000000 in
theorem captureBegin_any (s : ByteArray) (w : World) (hs : s.size ≤ 100000000) :
    Calls Try.prog 11 #[.string s] w fun e w' => GotC w s e w' := by
  by_cases hp : 4 ≤ s.size ∧ s.extract 0 4 = tap1
  case neg =>
    have HP := Lib.hid (pre_no hp)
    have HN := Lib.hid hp
    clear hp
    go_enter Try.func11, Try.ntmps11
    go_wp2_with fail
    refine (Try.strings_HasPrefix s (ByteArray.mk #[116, 97, 112, 49]) _).mono ?_
    rw [show Lib.hasPrefix s.data.toList (ByteArray.mk #[116, 97, 112, 49]).data.toList = false from HP.out]
    rintro e w1 ⟨rfl, rfl⟩
    go_wp2
    go_ret2
    exact .inr ⟨HN.out, rfl, Below.refl _ _⟩
  case pos =>
    have HP := Lib.hid (pre_yes hp)
    have HN := Lib.hid hp
    have h4 := hp.1
    have K1 := Chain.new (w.alloc (.cells #[.string s, .int .i64 4] 45)) 48 fun _ => 0
    rw [World.size_alloc] at K1
    have V1 := ((VarN.new_at (w := w) (d := w.heap.size) rfl [.string s, .int .i64 4] 45).alloc (.cells #[.pointer none, .pointer none, .int .i64 0] 48) (by simp))
    have C1 := Lib.hid (show Cur w.heap.size s (4 : Nat) ((w.alloc (.cells #[.string s, .int .i64 4] 45)).alloc (.cells #[.pointer none, .pointer none, .int .i64 0] 48)) from ⟨by simp; omega, (V1 0 _ rfl).1, (V1 1 _ rfl).1, (V1 1 _ rfl).2⟩)
    have B1 := Lib.hid ((below_box (w := w) (.cells #[.string s, .int .i64 4] 45) (Nat.le_refl _)).alloc (by simp) (.cells #[.pointer none, .pointer none, .int .i64 0] 48))
    have K1 := Lib.hid K1
    clear hp V1
    go_enter Try.func11, Try.ntmps11
    go_wp2_with fail
    refine (Try.strings_HasPrefix s (ByteArray.mk #[116, 97, 112, 49]) _).mono ?_
    rw [show Lib.hasPrefix s.data.toList (ByteArray.mk #[116, 97, 112, 49]).data.toList = true from HP.out]
    rintro e w1 ⟨rfl, rfl⟩
    go_wp2_with fail
    refine (record_any w1.heap.size s 4 _ hs C1.out w1.heap.size (Nat.le_refl _)).mono ?_
    rintro e w2 ⟨t, y, V, rfl, hrec, hfr⟩
    have R0 := Lib.hid (show Rin w1 s 0 4 w2.heap.size [] t y V (w2.alloc (.cells #[.int .i64 t, .string y] 33)) from by
      have hz := hfr.size
      simp only [World.size_alloc] at hz
      refine ⟨⟨_, (K1.out.aside hfr.aside (Nat.lt_succ_self _)).below (below_box _ (Nat.le_refl _)), fun i hi => by omega⟩, rfl, ?_, VarN.new_at rfl _ _, ((B1.out.trans hfr.below)).alloc (by omega) _, by omega⟩
      rcases hrec with ⟨h1, h2, h3, h4⟩ | h
      · exact .inl ⟨h1, h2, h3, h4.grow (below_box _ (Nat.le_refl _))⟩
      · exact .inr h)
    clear hrec hfr K1 C1 B1
    go_wp2
    go_loopw [5, 7, 8] (fun e r o wr => ∃ (k q d : Nat) (rs : List (Int × ByteArray)) (t : Int) (y : ByteArray) (V : Bool), e = .int .i64 q ∧ r = .pointer (some ⟨d, 0, none⟩) ∧ o = .bool V ∧ q ≤ s.size ∧ rs.length = k ∧ k ≤ 60 ∧ Hid (Rin w1 s k q d rs t y V wr)) (fun e _ _ _ => s.size + 1 - (intOf e).toNat)
    case atStart => exact ⟨0, 4, w2.heap.size, [], t, y, V, rfl, rfl, rfl, h4, rfl, by omega, R0⟩
    case round =>
      clear R0
      obtain ⟨k, q, d, rs, t, y, V, rfl, rfl, rfl, hq, hk, hk6, hr⟩ := hrel
      obtain ⟨b, hch, hbd⟩ := hr.out.ch
      have HC := Lib.hid hch
      have OK := Lib.hid (runR_ok hr.out.run)
      rcases hr.out.rd with ⟨rfl, hle, hat, hcur⟩ | ⟨rfl, hno⟩
      · have v0 := (hr.out.v 0 _ rfl).1
        have v1 := (hr.out.v 1 _ rfl).1
        have hys : y.size ≤ 9223372036854775807 := by
          have e := recAt_size hle
          have := be_two_bound s (q + 4)
          rw [hat] at e
          rw [show y.size = lenR s q from e]
          unfold lenR
          omega
        by_cases hc : k < 60 ∧ RecOk (lastT 0 rs) (t, y)
        · have h60 := hc.1
          have HV := Lib.hid hc
          have RN := Lib.hid (show RunR s 4 0 (rs ++ [(t, y)]) (recEnd s q) by
            rw [← hat]
            exact runR_snoc hr.out.run ⟨hle, by rw [hat]; exact hc.2⟩)
          have hgt : q < recEnd s q := by unfold recEnd; omega
          obtain ⟨q2, hq2⟩ : ∃ q2, recEnd s q = q2 := ⟨_, rfl⟩
          rw [hq2] at hle hcur RN hgt
          have HCU := Lib.hid hcur
          have HBD := Lib.hid hbd
          clear hc hch hat hq2 hcur hbd
          go_wp2_with fail
          refine (add_yes (w1.heap.size + 1) k b rs t y _ HC.out OK.out hys HV.out).mono ?_
          rintro e w3 ⟨rfl, ⟨b2, hc2⟩, hb2, hrest⟩
          have hdl := lt_of_cell v0
          have V3 := Lib.hid (hr.out.v.block (hrest d hdl (by have := hr.out.hd; omega) fun i hi => by have := HBD.out i hi; omega))
          have C3 : Cur w1.heap.size s q2 w3 := ⟨Nat.lt_of_lt_of_le HCU.out.1 hb2.size, kept_cell hb2 (Nat.lt_succ_self _) HCU.out.2.1, kept_cell hb2 (Nat.lt_succ_self _) HCU.out.2.2.1, kept_frozen hb2 (Nat.lt_succ_self _) HCU.out.2.2.2⟩
          have B3 := Lib.hid (hr.out.b.trans (hb2.mono (Nat.le_succ _)))
          have hlt3 : w1.heap.size + 1 < w3.heap.size := hc2.lt
          have u0 := (V3.out 0 _ rfl).1
          have u1 := (V3.out 1 _ rfl).1
          have c1 := C3.2.2.1
          have C4 := Lib.hid (C3.grow (below_box (.cells #[.int .i64 t, .string y] 33) (Nat.le_refl _)))
          have K3 := Lib.hid hc2
          have W4 := Lib.hid (VarN.new_at (w := w3) (d := w3.heap.size) rfl [.int .i64 t, .string y] 33)
          have HL := Lib.hid hlt3
          clear hb2 hrest hc2 C3 hr HC HCU HBD HV v0 v1 OK hlt3
          go_wp2_with fail
          refine (record_any w1.heap.size s q2 _ hs C4.out w1.heap.size (Nat.le_refl _)).mono ?_
          rintro e w4 ⟨t2, y2, V2, rfl, hrec, hfr⟩
          have hlt3 := HL.out
          have V5 := W4.out.aside hfr.aside (by simp) (by omega)
          have x0 := (V5 0 _ rfl).1
          have x1 := (V5 1 _ rfl).1
          have xf0 := (V5 0 _ rfl).2
          have xf1 := (V5 1 _ rfl).2
          have RR := Lib.hid (Rin.make (k := k + 1) ((K3.out.below (below_box (.cells #[.int .i64 t, .string y] 33) (Nat.le_refl _))).aside hfr.aside (Nat.lt_succ_self _)) RN.out hrec ((B3.out.alloc B3.out.size _).trans hfr.below) V5 (by omega) fun i hi => (K3.out.links i hi).lt)
          clear hrec hfr V5 W4 K3 B3 C4 V3 u0 u1 c1 RN hlt3
          go_wp2
          go_roundw
          case rel => exact ⟨k + 1, q2, w3.heap.size, rs ++ [(t, y)], t2, y2, V2, rfl, rfl, rfl, hle, by rw [List.length_append, hk]; rfl, by omega, RR⟩
          case measure => simp [intOf]; omega
        · have HB := Lib.hid (show BeginIs s rs q from ⟨HN.out, hr.out.run, by omega, fun h h2 => hc ⟨by omega, by rw [← hat]; exact h2.2⟩⟩)
          have HV := Lib.hid hc
          have BW := Lib.hid hr.out.b
          clear hc hch hat hcur hbd hr
          go_wp2_with fail
          refine (add_no (w1.heap.size + 1) k b rs t y _ HC.out OK.out hk6 hys HV.out).mono ?_
          rintro e w3 ⟨rfl, hb3⟩
          have K3 := Lib.hid (HC.out.below hb3)
          have B3 := Lib.hid (BW.out.trans (hb3.mono BW.out.size))
          clear hb3 HC HV v0 v1 OK BW
          go_wp2_with fail
          refine (list_any (w1.heap.size + 1) k b rs _ K3.out hk6).mono ?_
          rintro e w4 ⟨a, cap, rfl, hown⟩
          have OW := Lib.hid (hown.low B3.out)
          clear hown K3 B3
          go_wp2
          go_ret2
          exact .inl ⟨rs, q, k, a, cap, HB.out, rfl, hk, OW.out⟩
      · have HB := Lib.hid (show BeginIs s rs q from ⟨HN.out, hr.out.run, by omega, fun _ h2 => hno h2.1⟩)
        have B3 := Lib.hid hr.out.b
        clear hch hbd hr hno
        go_wp2_with fail
        refine (list_any (w1.heap.size + 1) k b rs _ HC.out hk6).mono ?_
        rintro e w4 ⟨a, cap, rfl, hown⟩
        have OW := Lib.hid (hown.low B3.out)
        clear hown B3 HC OK
        go_wp2
        go_ret2
        exact .inl ⟨rs, q, k, a, cap, HB.out, rfl, hk, OW.out⟩

end Go.Proofs.Ytodpbjomiplphab
