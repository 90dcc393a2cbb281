/- The contracts of the program's chapter 13: whether a packet is valid. -/
import Derived.Test.YtcpdpamoddmpaaaK43
import Derived.Test.YtcpdpamoddmpaaaK18v
namespace Go.Proofs.Ytcpdpamoddmpaaa
open Go.RowKit Go.PlainAid

set_option maxHeartbeats 400000 in
theorem portValid_any (n : Int) (w : World) :
    Calls Try.prog 57 #[.int .i64 n] w fun e w' => e = .returned (.bool (decide (1 ≤ n ∧ n ≤ 65535))) ∧ w = w' := by
  by_cases h : 1 ≤ n
  all_goals
    go_enter Try.func57, Try.ntmps57
    go_wp2
    go_ret
    simp [h]
    try omega

def portsOk (f t : Int) : Prop := (1 ≤ f ∧ f ≤ 65535) ∧ (1 ≤ t ∧ t ≤ 65535) ∧ f ≠ t
instance (f t : Int) : Decidable (portsOk f t) := by
  unfold portsOk
  infer_instance

set_option maxHeartbeats 400000 in
theorem portsValid_any (f t : Int) (w : World) :
    Calls Try.prog 35 #[.int .i64 f, .int .i64 t] w fun e w' => e = .returned (.bool (decide (portsOk f t))) ∧ w = w' := by
  have i1 := fun w => portValid_any f w
  have i2 := fun w => portValid_any t w
  by_cases h1 : 1 ≤ f ∧ f ≤ 65535
  · rw [decide_eq_true h1] at i1
    by_cases h2 : 1 ≤ t ∧ t ≤ 65535
    · rw [decide_eq_true h2] at i2
      have V := Lib.hid (show (f != t) = decide (portsOk f t) by
        by_cases h3 : f = t
        · rw [decide_eq_false (fun h : portsOk f t => h.2.2 h3)]
          simp [h3]
        · rw [decide_eq_true (p := portsOk f t) ⟨h1, h2, h3⟩]
          simp [h3])
      clear h1 h2
      go_enter Try.func35, Try.ntmps35
      go_wp2_with fail
      refine (i1 _).mono ?_
      rintro e w1 ⟨rfl, rfl⟩
      go_wp2_with fail
      refine (i2 _).mono ?_
      rintro e w1 ⟨rfl, rfl⟩
      go_wp2
      go_ret
      exact ⟨ret_b V.out, rfl⟩
    · rw [decide_eq_false h2] at i2
      have V := Lib.hid (decide_eq_false (fun h : portsOk f t => h2 h.2.1))
      clear h1 h2
      go_enter Try.func35, Try.ntmps35
      go_wp2_with fail
      refine (i1 _).mono ?_
      rintro e w1 ⟨rfl, rfl⟩
      go_wp2_with fail
      refine (i2 _).mono ?_
      rintro e w1 ⟨rfl, rfl⟩
      go_wp2
      go_ret
      exact ⟨ret_b V.out.symm, rfl⟩
  · rw [decide_eq_false h1] at i1
    have V := Lib.hid (decide_eq_false (fun h : portsOk f t => h1 h.1))
    clear h1
    go_enter Try.func35, Try.ntmps35
    go_wp2_with fail
    refine (i1 _).mono ?_
    rintro e w1 ⟨rfl, rfl⟩
    go_wp2
    go_ret
    exact ⟨ret_b V.out.symm, rfl⟩

def chunksOk (cs : List (Int × Int × ByteArray)) : Prop := (1 ≤ cs.length ∧ cs.length ≤ 4) ∧ allChk cs
instance (cs : List (Int × Int × ByteArray)) : Decidable (chunksOk cs) := by
  unfold chunksOk allChk
  infer_instance
def chunksV (cs : List (Int × Int × ByteArray)) : Bool := decide (chunksOk cs)
theorem chunksV_yes {cs : List (Int × Int × ByteArray)} (h : chunksOk cs) : chunksV cs = true := decide_eq_true h
theorem chunksV_no {cs : List (Int × Int × ByteArray)} (h : ¬ chunksOk cs) : chunksV cs = false := decide_eq_false h

set_option maxHeartbeats 1000000 in
theorem chunksValid_any (a : Option Addr) (len cap : Nat) (cs : List (Int × Int × ByteArray)) (w : World) (h : Chs w a len cap cs) :
    Calls Try.prog 36 #[.slice a len cap] w fun e w' => e = .returned (.bool (chunksV cs)) ∧ Below w.heap.size w w' := by
  have hl := h.length
  have hm := h.len_int
  have HG := Lib.hid h
  clear h
  by_cases h0 : len = 0
  · subst h0
    have V := Lib.hid (chunksV_no (cs := cs) fun h => by have := h.1.1; omega)
    go_enter Try.func36, Try.ntmps36
    go_wp2
    go_ret
    exact ⟨ret_b V.out.symm, Below.refl _ _⟩
  by_cases h4 : 4 < len
  · have V := Lib.hid (chunksV_no (cs := cs) fun h => by have := h.1.2; omega)
    have h0' : ¬ (len : Int) = 0 := by omega
    have h4' : (4 : Int) < len := by omega
    go_enter Try.func36, Try.ntmps36
    go_wp2
    go_ret
    exact ⟨ret_b V.out.symm, Below.refl _ _⟩
  have h0' : ¬ (len : Int) = 0 := by omega
  have h4' : ¬ (4 : Int) < len := by omega
  go_enter Try.func36, Try.ntmps36
  go_wp2
  go_loopw [15] (fun i wr => ∃ k : Nat, k ≤ len ∧ i = .int .i64 k ∧ Hid (allChk (cs.take k)) ∧ Hid (Below w.heap.size w wr)) (fun i _ => len - (intOf i).toNat)
  case atStart => exact ⟨0, Nat.zero_le _, rfl, Lib.hid (fun c hc => by simp at hc), Lib.hid (Below.refl _ _)⟩
  case round =>
    obtain ⟨k, hk, rfl, hok, hbel⟩ := hrel
    by_cases hlt : k < len
    · obtain ⟨x, rfl⟩ := HG.out.some hlt
      obtain ⟨p0, p1, p2⟩ := HG.out.at hbel.out hlt
      have hkl : k < cs.length := by omega
      have N := Lib.hid (allChk_take hkl hok.out)
      have NO := Lib.hid (allChk_not hkl)
      obtain ⟨c1, hc1'⟩ : ∃ c1, (chAt cs k).1 = c1 := ⟨_, rfl⟩
      obtain ⟨c2, hc2'⟩ : ∃ c2, (chAt cs k).2.1 = c2 := ⟨_, rfl⟩
      obtain ⟨c3, hc3'⟩ : ∃ c3, (chAt cs k).2.2 = c3 := ⟨_, rfl⟩
      rw [hc1', hc2', hc3'] at N NO
      rw [hc1'] at p0
      rw [hc2'] at p1
      rw [hc3'] at p2
      have hB := hbel.out.size
      have HBA := Lib.hid (hbel.out.alloc hB (.cells #[.int .i64 c1, .int .i64 c2, .string c3] 32))
      clear hc1' hc2' hc3'
      by_cases hc : Chk c1 c2 c3
      · have CV := Lib.hid (chkV_yes hc)
        have O := Lib.hid (N.out hc)
        clear hc N NO
        go_wp2_with fail
        refine (chunkValid_any c1 c2 c3 _).mono ?_
        rintro e w1 ⟨rfl, hb1⟩
        rw [CV.out]
        have HB := Lib.hid (HBA.out.trans (hb1.mono HBA.out.size))
        clear hb1
        go_wp2
        go_roundw
        case rel => exact ⟨k + 1, by omega, by go_num, O, HB⟩
        case measure => simp [intOf]; omega
      · have CV := Lib.hid (chkV_no hc)
        have V := Lib.hid (chunksV_no fun h => NO.out hc h.2)
        clear hc N NO
        go_wp2_with fail
        refine (chunkValid_any c1 c2 c3 _).mono ?_
        rintro e w1 ⟨rfl, hb1⟩
        rw [CV.out]
        have HB := Lib.hid (HBA.out.trans (hb1.mono HBA.out.size))
        clear hb1
        go_wp2
        go_ret
        exact ⟨ret_b V.out.symm, HB.out⟩
    · obtain rfl : k = len := by omega
      have hall : allChk cs := by
        have := hok.out
        rw [List.take_of_length_le (by omega)] at this
        exact this
      have V := Lib.hid (chunksV_yes ⟨by omega, hall⟩)
      clear hall hok
      go_wp2
      go_ret
      exact ⟨ret_b V.out.symm, hbel.out⟩

set_option maxHeartbeats 1000000 in
theorem packetValid_any (f t g : Int) (a : Option Addr) (len cap : Nat) (cs : List (Int × Int × ByteArray)) (w : World) (h : Chs w a len cap cs) :
    Calls Try.prog 16 #[.agg #[.int .i64 f, .int .i64 t, .int .i64 g, .slice a len cap]] w fun e w' => e = .returned (.bool (packV f t g cs)) ∧ Below w.heap.size w w' := by
  have HG := Lib.hid (h.below (below_box (.cells #[.int .i64 f, .int .i64 t, .int .i64 g, .slice a len cap] 25) (Nat.le_refl _)))
  clear h
  have i1 := fun w => portsValid_any f t w
  by_cases h1 : portsOk f t
  · rw [decide_eq_true h1] at i1
    by_cases h2 : 0 ≤ g
    · by_cases h3 : g ≤ 4294967295
      · have V := Lib.hid (show chunksV cs = packV f t g cs by
          by_cases h4 : chunksOk cs
          · rw [chunksV_yes h4, packV_yes ⟨h1, ⟨h2, h3⟩, h4.1, h4.2⟩]
          · rw [chunksV_no h4, packV_no fun h => h4 ⟨h.2.2.1, h.2.2.2⟩])
        clear h1
        go_enter Try.func16, Try.ntmps16
        go_wp2_with fail
        refine (i1 _).mono ?_
        rintro e w1 ⟨rfl, rfl⟩
        go_wp2_with fail
        refine (chunksValid_any a len cap cs _ HG.out).mono ?_
        rintro e w1 ⟨rfl, hb1⟩
        rw [V.out]
        go_wp2
        go_ret
        exact ⟨rfl, (below_box _ (Nat.le_refl _)).trans (hb1.mono (by simp))⟩
      · have V := Lib.hid (packV_no (f := f) (t := t) (g := g) (cs := cs) fun h => h3 h.2.1.2)
        clear h1
        go_enter Try.func16, Try.ntmps16
        go_wp2_with fail
        refine (i1 _).mono ?_
        rintro e w1 ⟨rfl, rfl⟩
        go_wp2
        go_ret
        exact ⟨ret_b V.out.symm, below_box _ (Nat.le_refl _)⟩
    · have V := Lib.hid (packV_no (f := f) (t := t) (g := g) (cs := cs) fun h => h2 h.2.1.1)
      clear h1
      go_enter Try.func16, Try.ntmps16
      go_wp2_with fail
      refine (i1 _).mono ?_
      rintro e w1 ⟨rfl, rfl⟩
      go_wp2
      go_ret
      exact ⟨ret_b V.out.symm, below_box _ (Nat.le_refl _)⟩
  · rw [decide_eq_false h1] at i1
    have V := Lib.hid (packV_no (f := f) (t := t) (g := g) (cs := cs) fun h => h1 h.1)
    clear h1
    go_enter Try.func16, Try.ntmps16
    go_wp2_with fail
    refine (i1 _).mono ?_
    rintro e w1 ⟨rfl, rfl⟩
    go_wp2
    go_ret
    exact ⟨ret_b V.out.symm, below_box _ (Nat.le_refl _)⟩

end Go.Proofs.Ytcpdpamoddmpaaa
