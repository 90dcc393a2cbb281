/- The draws of packets: arguments of the laws. -/
import Derived.Test.YtcpdpamoddmpaabDoorK46
namespace Go.Proofs.YtcpdpamoddmpaabDoor
open Go.RowKit Go.PlainAid

/-- A drawn packet, as an argument of a law. -/
def DrewPk (w : World) (e : Ending) (w' : World) : Prop :=
  ∃ (f t n : Int) (g k cap : Nat) (cs : List (Int × Int × ByteArray)), e = .returned (.agg #[.int .i64 f, .int .i64 t, .int .i64 n, .slice (some ⟨g, 0, none⟩) k cap]) ∧ (-1 ≤ f ∧ f ≤ 65536) ∧ (-1 ≤ t ∧ t ≤ 65536) ∧ (-1 ≤ n ∧ n ≤ 4294967296) ∧ k ≤ 9 ∧ w.heap.size ≤ g ∧ Chs w' (some ⟨g, 0, none⟩) k cap cs ∧ Below w.heap.size w w'

set_option maxHeartbeats 1000000 in
theorem drawPacketPut_any (a : Option Addr) (len cap : Nat) (zs : List Int) (w : World) (h : IsRow .u8 w a len cap zs) :
    Calls Tryd.prog 10 #[.slice a len cap] w (DrewPk w) := by
  have H := Lib.hid h
  clear h
  go_enter Tryd.func10, Tryd.ntmps10
  go_wp2_with fail
  refine (l6Open_any a len cap zs _ (H.out.keep (below_box _ (Nat.le_refl _)))).mono ?_
  rintro e w1 ⟨r, rfl, hr1, hb1⟩
  go_wp2_with fail
  refine (l91Packet_any _ r 0 _ hr1 (by omega)).mono ?_
  rintro e w2 ⟨f, t, n, g, k, cap2, cs, rfl, hf, ht, hn, hk, hg, hc, _, _, hb2⟩
  have hbW := hb1.trans hb2
  have R2 := (VarN.new w [.int .i64 0, .int .i64 0, .int .i64 0, .slice none 0 0] 25).below hbW (by simp)
  have hb : Below w.heap.size w w2 := (below_box _ (Nat.le_refl _)).trans (hbW.mono (by simp))
  have z1 := hb1.size
  simp at z1
  clear hb1 hb2 hbW hr1
  have r0 := (R2 0 _ rfl).1
  have r1 := (R2 1 _ rfl).1
  have r2 := (R2 2 _ rfl).1
  have r3 := (R2 3 _ rfl).1
  have f0 := (R2 0 _ rfl).2
  have f1 := (R2 1 _ rfl).2
  have f2 := (R2 2 _ rfl).2
  have f3 := (R2 3 _ rfl).2
  have HCh := Lib.hid hc
  have HB := Lib.hid hb
  clear R2 hb hc
  go_wp2
  refine bodyPost_ret (v := .agg #[.int .i64 f, .int .i64 t, .int .i64 n, .slice (some ⟨g, 0, none⟩) k cap2]) ?_ rfl ?_
  · simp [results, Tryd.results10, go_sem, r0, r1, r2, r3]
  · have e : w.heap.size ≠ g := by omega
    exact ⟨f, t, n, g, k, cap2, cs, rfl, hf, ht, hn, hk, by omega, (((HCh.out.far e _).far e _).far e _).far e _, (((HB.out.setCell (Nat.le_refl _) _).setCell (Nat.le_refl _) _).setCell (Nat.le_refl _) _).setCell (Nat.le_refl _) _⟩

theorem packS_le {f t g : Int} {cs : List (Int × Int × ByteArray)} (h : PackOk f t g cs) : (packS f t g cs).size ≤ 268 := by
  rw [packS_size]
  have := chunksS_le h.2.2.2
  have := h.2.2.1
  omega
/-- What the model writes of any packet is small. -/
theorem sPacketPut_some (f t g : Int) (a : Option Addr) (len cap : Nat) (cs : List (Int × Int × ByteArray)) (w : World) (h : Chs w a len cap cs) :
    Calls Tryd.prog 12 #[.agg #[.int .i64 f, .int .i64 t, .int .i64 g, .slice a len cap]] w fun e w' => ∃ s : ByteArray, e = .returned (.string s) ∧ s.size ≤ 268 ∧ Below w.heap.size w w' := by
  by_cases hok : PackOk f t g cs
  · exact (sPacketPut_yes f t g a len cap cs w h hok).mono fun e w' ⟨h1, h2⟩ => ⟨_, h1, packS_le hok, h2⟩
  · exact (sPacketPut_no f t g a len cap cs w h hok).mono fun e w' ⟨h1, h2⟩ => ⟨_, h1, by decide, h2⟩

/-- A drawn text of a packet. -/
def DrewTx (w : World) (e : Ending) (w' : World) : Prop := ∃ s : ByteArray, e = .returned (.string s) ∧ s.size ≤ 300 ∧ Below w.heap.size w w'

set_option maxHeartbeats 2000000 in
theorem drawPacketGet_any (a : Option Addr) (len cap : Nat) (zs : List Int) (w : World) (h : IsRow .u8 w a len cap zs) :
    Calls Tryd.prog 15 #[.slice a len cap] w (DrewTx w) := by
  have H := Lib.hid h
  clear h
  go_enter Tryd.func15, Tryd.ntmps15
  go_wp2_with fail
  refine (l6Open_any a len cap zs _ H.out).mono ?_
  rintro e w1 ⟨r, rfl, hr1, hb1⟩
  go_wp2_with fail
  refine (l91Packet_any _ r 0 _ hr1 (by omega)).mono ?_
  rintro e w2 ⟨f, t, n, g, k, cap2, cs, rfl, _, _, _, _, _, hc, _, hr2, hb2⟩
  have hb2' := hb1.trans hb2
  have HCh := Lib.hid hc
  clear hr1 hb1 hb2 hc
  go_wp2_with fail
  refine (sPacketPut_some f t n _ k cap2 cs _ HCh.out).mono ?_
  rintro e w3 ⟨x, rfl, hx, hb3⟩
  have hr3 := hr2.keep hb3 hr2.2.1
  have hb3' := hb2'.trans (hb3.mono hb2'.size)
  clear hr2 hb2' hb3 HCh
  go_wp2_with fail
  refine (l91Spoil_any _ r _ x _ hr3 (by omega) (by omega)).mono ?_
  rintro e w4 ⟨s, rfl, hs, hr4, hb4⟩
  have hb4' := hb3'.trans hb4
  have hs2 : s.size ≤ 269 := by omega
  clear hr3 hb3' hb4 hs hx
  by_cases h12 : 12 ≤ s.size
  · have c12 : (12 : Int) ≤ (s.size : Int) := by omega
    have c8 : (8 : Int) ≤ (s.size : Int) := by omega
    go_wp2_with fail
    refine (pick_any _ r _ 4 _ hr4 (by omega) (by omega) (by omega)).mono ?_
    rintro e w5 ⟨j, rfl, j0, j1, hr5, ho5⟩
    have hb5 := Lib.hid (hb4'.trans (ho5.below hr4.1))
    clear hb4' ho5 hr4 hr5
    by_cases hj : j = 0
    · subst hj
      have z3 := longS_size (sum13 s)
      have hsum := sumNext_four (bare s)
      have hz4 : ¬ 9223372036854775807 < min 8 s.size + (longS (sum13 s)).size := by omega
      have hz5 : ¬ 9223372036854775807 < min 8 s.size + (longS (sum13 s)).size + (s.size - 12) := by omega
      have hsz : (s.extract 0 8 ++ longS (sum13 s) ++ s.extract 12 s.size).size ≤ 300 := by
        rw [ByteArray.size_append, ByteArray.size_append, size_cut s 0 8 (by omega), size_cut s 12 s.size (Nat.le_refl _), z3]
        omega
      have HZ := Lib.hid hsz
      clear hsz z3
      have hb9 := hb5.out
      go_wp2_with fail
      go_region_held_law (fun W => Below w.heap.size w W) (first | with_reducible assumption | exact Below.drew hb9 | exact (by assumption : Below w.heap.size w _).trans ((by assumption : Below _ _ _).mono (by assumption : Below w.heap.size w _).size))
        (first
          | (go_simp; go_at_call 35; refine (l13Sum_any s _ h12 (by omega)).mono ?_; rintro e w6 ⟨rfl, hb6⟩)
          | (go_simp; go_at_call 34; refine (l1Long_any (sum13 s) hsum.1 hsum.2 _).mono ?_; rintro e w6 ⟨rfl, hb6⟩))
      all_goals
        go_wp2
        go_ret
        exact ⟨_, rfl, HZ.out, by assumption⟩
    · have hj2 : (j == 0) = false := by simpa using hj
      go_wp2
      go_ret
      exact ⟨s, rfl, by omega, hb5.out⟩
  · have c12 : ¬ (12 : Int) ≤ (s.size : Int) := by omega
    have hb4 := Lib.hid hb4'
    clear hb4'
    go_wp2
    go_ret
    exact ⟨s, rfl, by omega, hb4.out⟩

end Go.Proofs.YtcpdpamoddmpaabDoor
