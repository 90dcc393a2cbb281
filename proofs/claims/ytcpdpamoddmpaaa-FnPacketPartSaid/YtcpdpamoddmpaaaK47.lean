/- The draws of packets: arguments of the laws. -/
import Derived.Test.YtcpdpamoddmpaaaK46
namespace Go.Proofs.Ytcpdpamoddmpaaa
open Go.RowKit Go.PlainAid

/-- A drawn packet, as an argument of a law. -/
def DrewPk (w : World) (e : Ending) (w' : World) : Prop :=
  ∃ (f t n : Int) (g k cap : Nat) (cs : List (Int × Int × ByteArray)), e = .returned (.agg #[.int .i64 f, .int .i64 t, .int .i64 n, .slice (some ⟨g, 0, none⟩) k cap]) ∧ (-1 ≤ f ∧ f ≤ 65536) ∧ (-1 ≤ t ∧ t ≤ 65536) ∧ (-1 ≤ n ∧ n ≤ 4294967296) ∧ k ≤ 9 ∧ w.heap.size ≤ g ∧ Chs w' (some ⟨g, 0, none⟩) k cap cs ∧ Below w.heap.size w w'

set_option maxHeartbeats 1000000 in
theorem drawPacketPut_any (a : Option Addr) (len cap : Nat) (zs : List Int) (w : World) (h : IsRow .u8 w a len cap zs) :
    Calls Try.prog 13 #[.slice a len cap] w (DrewPk w) := by
  have H := Lib.hid h
  clear h
  go_enter Try.func13, Try.ntmps13
  go_wp2_with fail
  refine (l6Open_any a len cap zs _ (H.out.keep (below_box _ (Nat.le_refl _)))).mono ?_
  rintro e w1 ⟨r, rfl, hr1, hb1⟩
  go_wp2_with fail
  refine (l91Packet_any _ r 0 _ hr1 (by omega)).mono ?_
  rintro e w2 ⟨f, t, n, g, k, cap2, cs, rfl, hf, ht, hn, hk, hg, hc, _, _, hb2⟩
  have hbW := hb1.trans hb2
  have R2 := (VarN.new w [.int .i64 0, .int .i64 0, .int .i64 0, .slice none 0 0] 25).below hbW (by simp)
  have hb : Below w.heap.size w w2 := (below_box _ (Nat.le_refl _)).trans (hbW.mono (by simp))
  have z1 := hb1.size
  simp at z1
  clear hb1 hb2 hbW hr1
  have r0 := (R2 0 _ rfl).1
  have r1 := (R2 1 _ rfl).1
  have r2 := (R2 2 _ rfl).1
  have r3 := (R2 3 _ rfl).1
  have f0 := (R2 0 _ rfl).2
  have f1 := (R2 1 _ rfl).2
  have f2 := (R2 2 _ rfl).2
  have f3 := (R2 3 _ rfl).2
  have HCh := Lib.hid hc
  have HB := Lib.hid hb
  clear R2 hb hc
  go_wp2
  refine bodyPost_ret (v := .agg #[.int .i64 f, .int .i64 t, .int .i64 n, .slice (some ⟨g, 0, none⟩) k cap2]) ?_ rfl ?_
  · simp [results, Try.results13, go_sem, r0, r1, r2, r3]
  · have e : w.heap.size ≠ g := by omega
    exact ⟨f, t, n, g, k, cap2, cs, rfl, hf, ht, hn, hk, by omega, (((HCh.out.far e _).far e _).far e _).far e _, (((HB.out.setCell (Nat.le_refl _) _).setCell (Nat.le_refl _) _).setCell (Nat.le_refl _) _).setCell (Nat.le_refl _) _⟩

set_option maxHeartbeats 1000000 in
theorem drawPacketValid_any (a : Option Addr) (len cap : Nat) (zs : List Int) (w : World) (h : IsRow .u8 w a len cap zs) :
    Calls Try.prog 21 #[.slice a len cap] w (DrewPk w) := by
  have H := Lib.hid h
  clear h
  go_enter Try.func21, Try.ntmps21
  go_wp2_with fail
  refine (l6Open_any a len cap zs _ (H.out.keep (below_box _ (Nat.le_refl _)))).mono ?_
  rintro e w1 ⟨r, rfl, hr1, hb1⟩
  go_wp2_with fail
  refine (l91Packet_any _ r 0 _ hr1 (by omega)).mono ?_
  rintro e w2 ⟨f, t, n, g, k, cap2, cs, rfl, hf, ht, hn, hk, hg, hc, _, _, hb2⟩
  have hbW := hb1.trans hb2
  have R2 := (VarN.new w [.int .i64 0, .int .i64 0, .int .i64 0, .slice none 0 0] 25).below hbW (by simp)
  have hb : Below w.heap.size w w2 := (below_box _ (Nat.le_refl _)).trans (hbW.mono (by simp))
  have z1 := hb1.size
  simp at z1
  clear hb1 hb2 hbW hr1
  have r0 := (R2 0 _ rfl).1
  have r1 := (R2 1 _ rfl).1
  have r2 := (R2 2 _ rfl).1
  have r3 := (R2 3 _ rfl).1
  have f0 := (R2 0 _ rfl).2
  have f1 := (R2 1 _ rfl).2
  have f2 := (R2 2 _ rfl).2
  have f3 := (R2 3 _ rfl).2
  have HCh := Lib.hid hc
  have HB := Lib.hid hb
  clear R2 hb hc
  go_wp2
  refine bodyPost_ret (v := .agg #[.int .i64 f, .int .i64 t, .int .i64 n, .slice (some ⟨g, 0, none⟩) k cap2]) ?_ rfl ?_
  · simp [results, Try.results21, go_sem, r0, r1, r2, r3]
  · have e : w.heap.size ≠ g := by omega
    exact ⟨f, t, n, g, k, cap2, cs, rfl, hf, ht, hn, hk, by omega, (((HCh.out.far e _).far e _).far e _).far e _, (((HB.out.setCell (Nat.le_refl _) _).setCell (Nat.le_refl _) _).setCell (Nat.le_refl _) _).setCell (Nat.le_refl _) _⟩

theorem packS_le {f t g : Int} {cs : List (Int × Int × ByteArray)} (h : PackOk f t g cs) : (packS f t g cs).size ≤ 268 := by
  rw [packS_size]
  have := chunksS_le h.2.2.2
  have := h.2.2.1
  omega
/-- What the model writes of any packet is small. -/
theorem sPacketPut_some (f t g : Int) (a : Option Addr) (len cap : Nat) (cs : List (Int × Int × ByteArray)) (w : World) (h : Chs w a len cap cs) :
    Calls Try.prog 15 #[.agg #[.int .i64 f, .int .i64 t, .int .i64 g, .slice a len cap]] w fun e w' => ∃ s : ByteArray, e = .returned (.string s) ∧ s.size ≤ 268 ∧ Below w.heap.size w w' := by
  by_cases hok : PackOk f t g cs
  · exact (sPacketPut_yes f t g a len cap cs w h hok).mono fun e w' ⟨h1, h2⟩ => ⟨_, h1, packS_le hok, h2⟩
  · exact (sPacketPut_no f t g a len cap cs w h hok).mono fun e w' ⟨h1, h2⟩ => ⟨_, h1, by decide, h2⟩

/-- A drawn text of a packet. -/
def DrewTx (w : World) (e : Ending) (w' : World) : Prop := ∃ s : ByteArray, e = .returned (.string s) ∧ s.size ≤ 300 ∧ Below w.heap.size w w'

end Go.Proofs.Ytcpdpamoddmpaaa
