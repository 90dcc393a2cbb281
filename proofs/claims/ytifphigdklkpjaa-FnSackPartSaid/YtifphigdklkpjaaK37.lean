/- The contract of the program's chapter 12: a receipt read out of a chunk. -/
import Derived.Deep.RegionWith
import Derived.Test.YtifphigdklkpjaaK36
import Derived.Test.YtifphigdklkpjaaK31
namespace Go.Proofs.Ytifphigdklkpjaa
open Go.RowKit Go.PlainAid

theorem own_gapsA {W : World} {base k : Nat} {v : Value} {gs : List (Int × Int)} (h : W.ownsRow base 38 2 v k (flat gs)) : ∃ a cap, v = .slice a k cap ∧ Gaps W a k cap gs := by
  have h2 := h
  rcases h.2 with ⟨rfl, rfl⟩ | ⟨g, cap, cur, rfl, _⟩
  · have hl := h.1
    rw [flat_length] at hl
    refine ⟨none, 0, rfl, .inl ⟨rfl, rfl, rfl, List.eq_nil_of_length_eq_zero (by omega)⟩⟩
  · exact ⟨_, cap, rfl, own_gaps h2⟩
theorem own_grow {w w' : World} {base n : Nat} {e : TypeId} {size : Nat} {v : Value} {xs : List Value} (h : w.ownsRow base e size v n xs) (hb : Below w.heap.size w w') : w'.ownsRow base e size v n xs := by
  refine ⟨h.1, ?_⟩
  rcases h.2 with h0 | ⟨g, cap, cur, rfl, h2, h3, h4⟩
  · exact .inl h0
  · exact .inr ⟨g, cap, cur, rfl, h2, by rw [hb.block g (Array.getElem?_eq_some_iff.1 h3).1]; exact h3, h4⟩
theorem own_set_low {w : World} {base n d i : Nat} {e : TypeId} {size : Nat} {v : Value} {xs : List Value} (h : w.ownsRow base e size v n xs) (hd : d < base) (u : Value) : (w.setCell ⟨d, i, none⟩ u).ownsRow base e size v n xs := by
  refine ⟨h.1, ?_⟩
  rcases h.2 with h0 | ⟨g, cap, cur, rfl, h2, h3, h4⟩
  · exact .inl h0
  · exact .inr ⟨g, cap, cur, rfl, h2, by rw [Below.heap_setCell _ _ _ _ (by show g ≠ d; omega)]; exact h3, h4⟩
theorem own_base {w : World} {base C n : Nat} {e : TypeId} {size : Nat} {v : Value} {xs : List Value} (h : w.ownsRow base e size v n xs) (hC : C ≤ base) : w.ownsRow C e size v n xs := by
  refine ⟨h.1, ?_⟩
  rcases h.2 with h0 | ⟨g, cap, cur, rfl, h2, h3, h4⟩
  · exact .inl h0
  · exact .inr ⟨g, cap, cur, rfl, by omega, h3, h4⟩
/-- What the program's reading of a receipt answers: the receipt with its blocks in memory that is new, or none. -/
def GotP (w : World) (c : Int) (k : Nat) (gs : List (Int × Int)) (ok : Bool) (e : Ending) (w' : World) : Prop :=
  if ok then ∃ v, e = .returned (.tuple #[.agg #[.int .i64 c, v], .bool true]) ∧ w'.ownsRow w.heap.size 38 2 v k (flat gs) else e = .returned noSackV
theorem number_short (c : Nat) (s : ByteArray) (p : Int) (w : World) (hs : s.size ≤ maxLen) (hc : Cur c s p w) (h : (s.size : Int) - 2 < p) :
    Calls Try.prog 22 #[.pointer (some ⟨c, 0, none⟩), .int .i64 2] w fun e w' => e = .returned (.tuple #[.int .i64 0, .bool false]) ∧ ∃ q, w' = w.drewN q := by
  obtain ⟨hcl, hc0, hc1, hf1⟩ := hc
  have hs' := hs
  unfold maxLen at hs
  go_enter Try.func22, Try.ntmps22
  go_wp2_with (go_at_call 25; refine (has_no c s p 2 _ hs' (by omega) (by omega) hc0 hc1 (by omega)).mono ?_; rintro e w' ⟨rfl, q, rfl⟩)
  go_ret2
  exact ⟨rfl, q, rfl⟩

set_option maxHeartbeats 2000000 in
theorem sackGet_other (k f : Int) (b : ByteArray) (w : World) (h : ¬ (k = 3 ∧ f = 0)) :
    Calls Try.prog 8 #[.agg #[.int .i64 k, .int .i64 f, .string b]] w fun e w' => e = .returned noSackV ∧ Below w.heap.size w w' := by
  have B1 := Lib.hid ((below_box (.cells #[.int .i64 k, .int .i64 f, .string b] 24) (Nat.le_refl w.heap.size)).alloc (by simp) (.cells #[.int .i64 0, .slice none 0 0] 28))
  by_cases hk : k = 3
  · subst hk
    have hf : ¬ f = 0 := fun x => h ⟨rfl, x⟩
    clear h
    go_enter Try.func8, Try.ntmps8
    go_wp2
    refine bodyPost_ret (v := noSackV) ?_ rfl ?_
    · simp [results, Try.results8, go_sem, noSackV]
    · exact ⟨rfl, by repeat (first | with_reducible exact B1.out | refine Below.setCell ?_ (by exact Nat.le_succ _) _)⟩
  · clear h
    go_enter Try.func8, Try.ntmps8
    go_wp2
    refine bodyPost_ret (v := noSackV) ?_ rfl ?_
    · simp [results, Try.results8, go_sem, noSackV]
    · exact ⟨rfl, by repeat (first | with_reducible exact B1.out | refine Below.setCell ?_ (by exact Nat.le_succ _) _)⟩

set_option maxHeartbeats 2000000 in
theorem sackGet_form (b : ByteArray) (w : World) (hm : b.size ≤ 100000000) (ok : Bool) (hok : Hid ((decide (b.size % 4 = 2) && sackV (be b 0 2) (gapsAt b ((b.size - 2) / 4))) = ok)) :
    Calls Try.prog 8 #[.agg #[.int .i64 3, .int .i64 0, .string b]] w fun e w' => GotP w (be b 0 2) ((b.size - 2) / 4) (gapsAt b ((b.size - 2) / 4)) ok e w' ∧ Below w.heap.size w w' := by
  have hm' : b.size ≤ maxLen := Nat.le_trans hm (by decide)
  have R0 := VarN.new_at (w := w.alloc (.cells #[.int .i64 3, .int .i64 0, .string b] 24)) (d := w.heap.size + 1) (by simp) [.int .i64 0, .slice none 0 0] 28
  have B0 := (below_box (.cells #[.int .i64 3, .int .i64 0, .string b] 24) (Nat.le_refl w.heap.size)).alloc (by simp) (.cells #[.int .i64 0, .slice none 0 0] 28)
  have h01 : Below (w.heap.size + 1 + 1) ((w.alloc (.cells #[.int .i64 3, .int .i64 0, .string b] 24)).alloc (.cells #[.int .i64 0, .slice none 0 0] 28)) (((w.alloc (.cells #[.int .i64 3, .int .i64 0, .string b] 24)).alloc (.cells #[.int .i64 0, .slice none 0 0] 28)).alloc (.cells #[.string b, .int .i64 0] 49)) := (Below.refl _ _).alloc (by simp) _
  have C1 : Cur (w.heap.size + 1 + 1) b ((0 : Nat) : Int) (((w.alloc (.cells #[.int .i64 3, .int .i64 0, .string b] 24)).alloc (.cells #[.int .i64 0, .slice none 0 0] 28)).alloc (.cells #[.string b, .int .i64 0] 49)) := by
    have h := VarN.new_at (w := (w.alloc (.cells #[.int .i64 3, .int .i64 0, .string b] 24)).alloc (.cells #[.int .i64 0, .slice none 0 0] 28)) (d := w.heap.size + 1 + 1) (by simp) [.string b, .int .i64 0] 49
    exact ⟨by simp, (h 0 _ rfl).1, (h 1 _ rfl).1, (h 1 _ rfl).2⟩
  have R1 := Lib.hid (R0.below h01 (by omega))
  have B1 := Lib.hid (B0.trans (h01.mono (by omega)))
  have C1 := Lib.hid C1
  clear R0 B0 h01
  by_cases h2 : b.size < 2
  · have hno : ok = false := by
      rw [← hok.out, decide_eq_false (by omega), Bool.false_and]
    subst hno
    go_enter Try.func8, Try.ntmps8
    go_wp2_with fail
    refine (number_short (w.heap.size + 1 + 1) b ((0 : Nat) : Int) _ hm' C1.out (by omega)).mono ?_
    rintro e w1 ⟨rfl, q, rfl⟩
    have R2 := R1.out.drewN q
    have B2 := below_drewN B1.out q
    have r0 := (R2 0 _ rfl).1
    have r1 := (R2 1 _ rfl).1
    have g0 := (R2 0 _ rfl).2
    have g1 := (R2 1 _ rfl).2
    go_wp2
    refine bodyPost_ret (v := noSackV) ?_ rfl ?_
    · simp [results, Try.results8, go_sem, noSackV, r0, r1]
    · exact ⟨rfl, by repeat (first | with_reducible exact B2 | refine Below.setCell ?_ (by exact Nat.le_succ _) _)⟩
  · obtain ⟨K, hK⟩ : ∃ K, K = (b.size - 2) / 4 := ⟨_, rfl⟩
    rw [← hK] at hok ⊢
    have HK := Lib.hid hK
    clear hK
    go_enter Try.func8, Try.ntmps8
    go_wp2_with fail
    refine (number_cur (w.heap.size + 1 + 1) b 0 2 _ hm' (by omega) C1.out (by omega) (w.heap.size + 1 + 1) (Nat.le_refl _)).mono ?_
    rintro e w1 ⟨rfl, hC2, hF2⟩
    have C2 : Cur (w.heap.size + 1 + 1) b 2 w1 := hC2
    have R2 := Lib.hid (R1.out.below hF2.below (by omega))
    have B2 := Lib.hid (B1.out.trans (hF2.below.mono (by omega)))
    have C2 := Lib.hid C2
    clear hC2 hF2 R1 B1 C1
    go_wp2_with fail
    refine (blocks_any (w.heap.size + 1 + 1) w1).mono ?_
    rintro e w2 ⟨rfl, rfl⟩
    have hs1 := C2.out.1
    have hb2 := (Below.refl w1.heap.size w1).alloc (Nat.le_refl _) (.cells #[.pointer (some ⟨w.heap.size + 1 + 1, 0, none⟩)] 69)
    have X2 := ((VarN.new w1 [.pointer (some ⟨w.heap.size + 1 + 1, 0, none⟩)] 69) 0 _ rfl).1
    have C3 := Lib.hid (C2.out.grow hb2)
    have R3 := Lib.hid (R2.out.below hb2 (by omega))
    have B3 := Lib.hid (B2.out.trans (hb2.mono B2.out.size))
    clear C2 R2 B2
    go_wp2_with fail
    refine (collect_any (w.heap.size + 1 + 1) w1.heap.size (w.heap.size + 1 + 1) K b hm (by omega) HK.out (Nat.le_refl _) (by omega) _ C3.out X2).mono ?_
    rintro e w3 ⟨v, rfl, own3, F3, C4⟩
    obtain ⟨a, cap, rfl, G3⟩ := own_gapsA own3
    have R4 := Lib.hid (R3.out.below F3.below (by omega))
    have B4 := Lib.hid (B3.out.trans (F3.below.mono (by omega)))
    have hz4 := C4.1
    have own4 := Lib.hid (own_base (C := w.heap.size + 1 + 1) own3 (by simp; omega))
    have C4 := Lib.hid C4
    have G4 := Lib.hid G3
    clear own3 F3 C3 R3 B3 X2 hb2 G3
    go_wp2_with fail
    have hb5 := (Below.refl w3.heap.size w3).alloc (Nat.le_refl _) (.cells #[.int .i64 (be b 0 2), .slice a K cap] 28)
    have C5 := C4.out.grow hb5
    have R5 := Lib.hid (R4.out.below hb5 (by omega))
    have B5 := Lib.hid (B4.out.trans (hb5.mono B4.out.size))
    have G5 := Lib.hid (G4.out.below hb5)
    have own5 := Lib.hid (own_grow own4.out hb5)
    have S5 := VarN.new w3 [.int .i64 (be b 0 2), .slice a K cap] 28
    have N5 : w.heap.size + 1 + 1 < w3.heap.size := hz4
    clear hb5 R4 B4 G4 own4 C4 hz4
    have hKK := HK.out
    by_cases hd : b.size % 4 = 2
    · rw [decide_eq_true hd, Bool.true_and] at hok
      have cond : (b.size : Int) - 1 < 2 + 4 * (K : Int) := by omega
      refine (has_no (w.heap.size + 1 + 1) b (2 + 4 * (K : Int)) 1 _ hm' (by omega) (by omega) C5.2.1 C5.2.2.1 (by omega)).mono ?_
      clear hKK
      rintro e w6 ⟨rfl, q, rfl⟩
      have R6 := Lib.hid (R5.out.drewN q)
      have B6 := Lib.hid (below_drewN B5.out q)
      have G6 : Hid (Gaps _ a K cap (gapsAt b K)) := Lib.hid (G5.out.below (below_drewN (Below.refl _ _) q))
      have own6 := Lib.hid (own_drewN own5.out q)
      have S6 := S5.drewN q
      have n6 : w3.heap.size < ((w3.alloc (.cells #[.int .i64 (be b 0 2), .slice a K cap] 28)).drewN q).heap.size := by simp
      clear R5 B5 G5 own5 S5 C5
      have s0 := (S6 0 _ rfl).1
      have s1 := (S6 1 _ rfl).1
      go_wp2_with fail
      refine (sackValid_any (be b 0 2) a K cap (gapsAt b K) _ G6.out).mono ?_
      rw [hok.out]
      rintro e w7 ⟨rfl, hb7⟩
      have R7 := R6.out.below hb7 (by omega)
      have B7 := B6.out.trans (hb7.mono B6.out.size)
      have own7 := Lib.hid (own_grow own6.out hb7)
      have S7 := S6.below hb7 n6
      clear R6 B6 G6 own6 S6 hb7 s0 s1
      have s0 := (S7 0 _ rfl).1
      have s1 := (S7 1 _ rfl).1
      have r0 := (R7 0 _ rfl).1
      have r1 := (R7 1 _ rfl).1
      have g0 := (R7 0 _ rfl).2
      have g1 := (R7 1 _ rfl).2
      cases ok
      · go_wp2
        refine bodyPost_ret (v := noSackV) ?_ rfl ?_
        · simp [results, Try.results8, go_sem, noSackV, r0, r1]
        · exact ⟨rfl, by repeat (first | with_reducible exact B7 | refine Below.setCell ?_ (by exact Nat.le_succ _) _)⟩
      · have OF : ∀ x y : Value, ((w7.setCell ⟨w.heap.size + 1, 0, none⟩ x).setCell ⟨w.heap.size + 1, 1, none⟩ y).ownsRow (w.heap.size + 1 + 1) 38 2 (.slice a K cap) K (flat (gapsAt b K)) := fun x y => own_set_low (own_set_low own7.out (Nat.lt_succ_self _) x) (Nat.lt_succ_self _) y
        have OF := Lib.hid OF
        go_wp2
        refine bodyPost_ret (v := .tuple #[.agg #[.int .i64 (be b 0 2), .slice a K cap], .bool true]) ?_ rfl ?_
        · simp [results, Try.results8, go_sem, r0, r1]
        · refine ⟨?_, by repeat (first | with_reducible exact B7 | refine Below.setCell ?_ (by exact Nat.le_succ _) _)⟩
          exact ⟨.slice a K cap, rfl, own_base (OF.out _ _) (by omega)⟩
    · rw [decide_eq_false hd, Bool.false_and] at hok
      have hno : ok = false := hok.out.symm
      subst hno
      refine (has_yes (w.heap.size + 1 + 1) b (2 + 4 * (K : Int)) 1 _ hm' (by omega) (by omega) C5.2.1 C5.2.2.1 (by omega) (by omega)).mono ?_
      clear hKK
      rintro e w6 ⟨rfl, q, rfl⟩
      have R6 := R5.out.drewN q
      have B6 := below_drewN B5.out q
      have r0 := (R6 0 _ rfl).1
      have r1 := (R6 1 _ rfl).1
      have g0 := (R6 0 _ rfl).2
      have g1 := (R6 1 _ rfl).2
      clear R5 B5 G5 own5 S5 C5
      go_wp2
      refine bodyPost_ret (v := noSackV) ?_ rfl ?_
      · simp [results, Try.results8, go_sem, noSackV, r0, r1]
      · exact ⟨rfl, by repeat (first | with_reducible exact B6 | refine Below.setCell ?_ (by exact Nat.le_succ _) _)⟩

theorem sackGet_any (k f : Int) (b : ByteArray) (w : World) (hm : b.size ≤ 100000000) :
    Calls Try.prog 8 #[.agg #[.int .i64 k, .int .i64 f, .string b]] w fun e w' => GotP w (be b 0 2) ((b.size - 2) / 4) (gapsAt b ((b.size - 2) / 4)) (sackGot k f b) e w' ∧ Below w.heap.size w w' := by
  by_cases h : k = 3 ∧ f = 0
  · obtain ⟨rfl, rfl⟩ := h
    refine sackGet_form b w hm _ (Lib.hid ?_)
    unfold sackGot
    simp
  · refine (sackGet_other k f b w h).mono ?_
    rintro e w' ⟨rfl, hb⟩
    refine ⟨?_, hb⟩
    unfold sackGot GotP
    rw [decide_eq_false fun x => h ⟨x.1, x.2.1⟩, Bool.false_and]
    rfl

end Go.Proofs.Ytifphigdklkpjaa
