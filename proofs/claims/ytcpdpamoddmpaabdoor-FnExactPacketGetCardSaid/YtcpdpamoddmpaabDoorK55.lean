/- The contracts of the program's chapter 13: the code of an error, PacketGet. -/
import Derived.Test.YtcpdpamoddmpaabDoorK54
import Derived.Test.YtcpdpamoddmpaabDoorIs
import Derived.LaidEql
namespace Go.Proofs.YtcpdpamoddmpaabDoor
open Go.RowKit Go.PlainAid

set_option maxHeartbeats 1000000 in
theorem packetCode_nil (w : World) :
    Calls Tryd.prog 30 #[.nilIface] w fun e w' => e = .returned (.int .i64 0) ∧ w = w' := by
  go_enter Tryd.func30, Tryd.ntmps30
  go_wp2
  go_ret
  exact ⟨rfl, rfl⟩

set_option maxHeartbeats 1000000 in
theorem packetCode_short (a0 a1 a2 : Addr) (w : World) (h : Errs a0 a1 a2 w) :
    Calls Tryd.prog 30 #[.iface 137 (.pointer (some a0))] w fun e w' => e = .returned (.int .i64 1) ∧ w = w' := by
  have c0 := h.c0
  go_enter Tryd.func30, Tryd.ntmps30
  go_wp2_with fail
  refine (is_same a0 _).mono ?_
  rintro e w1 ⟨rfl, rfl⟩
  go_wp2
  go_ret
  exact ⟨rfl, rfl⟩

set_option maxHeartbeats 1000000 in
theorem packetCode_sum (a0 a1 a2 : Addr) (w : World) (h : Errs a0 a1 a2 w) :
    Calls Tryd.prog 30 #[.iface 137 (.pointer (some a1))] w fun e w' => e = .returned (.int .i64 2) ∧ w = w' := by
  have c0 := h.c0
  have c1 := h.c1
  obtain ⟨q0, t0, hb0⟩ := h.h0
  obtain ⟨q1, t1, hb1⟩ := h.h1
  have B0 := Lib.hid hb0
  have B1 := Lib.hid hb1
  clear hb0 hb1
  go_enter Tryd.func30, Tryd.ntmps30
  go_wp2_with fail
  refine (is_other a1 a0 q1 q0 t1 t0 _ h.n01.symm B1.out B0.out).mono ?_
  rintro e w1 ⟨rfl, rfl⟩
  go_wp2_with fail
  refine (is_same a1 _).mono ?_
  rintro e w1 ⟨rfl, rfl⟩
  go_wp2
  go_ret
  exact ⟨rfl, rfl⟩

set_option maxHeartbeats 1000000 in
theorem packetCode_bad (a0 a1 a2 : Addr) (w : World) (h : Errs a0 a1 a2 w) :
    Calls Tryd.prog 30 #[.iface 137 (.pointer (some a2))] w fun e w' => e = .returned (.int .i64 3) ∧ w = w' := by
  have c0 := h.c0
  have c1 := h.c1
  obtain ⟨q0, t0, hb0⟩ := h.h0
  obtain ⟨q1, t1, hb1⟩ := h.h1
  obtain ⟨q2, t2, hb2⟩ := h.h2
  have B0 := Lib.hid hb0
  have B1 := Lib.hid hb1
  have B2 := Lib.hid hb2
  clear hb0 hb1 hb2
  go_enter Tryd.func30, Tryd.ntmps30
  go_wp2_with fail
  refine (is_other a2 a0 q2 q0 t2 t0 _ h.n02.symm B2.out B0.out).mono ?_
  rintro e w1 ⟨rfl, rfl⟩
  go_wp2_with fail
  refine (is_other a2 a1 q2 q1 t2 t1 _ h.n12.symm B2.out B1.out).mono ?_
  rintro e w1 ⟨rfl, rfl⟩
  go_wp2
  go_ret
  exact ⟨rfl, rfl⟩

theorem packetCode_err (a0 a1 a2 : Addr) (s : ByteArray) (w : World) (h : Errs a0 a1 a2 w) :
    Calls Tryd.prog 30 #[.iface 137 (.pointer (some (errA a0 a1 a2 s)))] w fun e w' => e = .returned (.int .i64 (codeOf s)) ∧ w = w' := by
  unfold errA codeOf
  by_cases h12 : s.size < 12
  · rw [if_pos h12, if_pos h12]
    exact packetCode_short a0 a1 a2 w h
  · rw [if_neg h12, if_neg h12]
    by_cases hs : be s 8 4 = sum13 s
    · rw [if_pos hs, if_pos hs]
      exact packetCode_bad a0 a1 a2 w h
    · rw [if_neg hs, if_neg hs]
      exact packetCode_sum a0 a1 a2 w h

/-- What the program's PacketGet answers: a packet with its chunks in memory that is new and may be written, or a code. -/
def GotQ (w : World) (s : ByteArray) (e : Ending) (w' : World) : Prop :=
  (∃ f t g cs x k cap, PackIs s f t g cs ∧ e = .returned (.tuple #[.agg #[.int .i64 f, .int .i64 t, .int .i64 g, .slice (some ⟨x, 0, none⟩) k cap], .int .i64 0]) ∧ w'.ownsRow w.heap.size 43 3 (.slice (some ⟨x, 0, none⟩) k cap) k (flatC cs))
  ∨ ((∀ f t g cs, ¬ PackIs s f t g cs) ∧ e = .returned (noPackV (codeOf s)))

set_option maxHeartbeats 2000000 in
theorem packetGet_any (a0 a1 a2 : Addr) (s : ByteArray) (w : World) (hs : s.size ≤ 100000000) (hE : Errs a0 a1 a2 w) :
    Calls Tryd.prog 13 #[.string s] w fun e w' => GotQ w s e w' ∧ Below w.heap.size w w' := by
  have E0 := Lib.hid (hE.under (Nat.le_refl _) (below_box (.cells #[.int .i64 0, .int .i64 0, .int .i64 0, .slice none 0 0] 25) (Nat.le_refl w.heap.size)))
  have HE := Lib.hid hE
  clear hE
  go_enter Tryd.func13, Tryd.ntmps13
  go_wp2_with fail
  refine (packetRead_any a0 a1 a2 s _ hs E0.out).mono ?_
  rintro e w1 ⟨hr, hb1⟩
  have V1 := (VarN.new w [.int .i64 0, .int .i64 0, .int .i64 0, .slice none 0 0] 25).below hb1 (by simp)
  have B1 : Below w.heap.size w w1 := (below_box _ (Nat.le_refl _)).trans (hb1.mono (by simp))
  have r1 : w.heap.size < w1.heap.size := lt_of_cell (V1 0 _ rfl).1
  clear hb1
  rcases hr with ⟨f, t, g, cs, x, k, cap, hp, rfl, hown⟩ | ⟨hn, rfl⟩
  · have PK := Lib.hid hp
    have OW := Lib.hid (rowBase (base' := w.heap.size + 1) (rowUp hown (below_box (.cells (List.toArray [.int .i64 f, .int .i64 t, .int .i64 g, .slice (some ⟨x, 0, none⟩) k cap]) 25) (Nat.le_refl _))) (by simp))
    have V2 := V1.alloc (.cells (List.toArray [.int .i64 f, .int .i64 t, .int .i64 g, .slice (some ⟨x, 0, none⟩) k cap]) 25) r1
    have HB := Lib.hid (B1.alloc (by omega) (.cells (List.toArray [.int .i64 f, .int .i64 t, .int .i64 g, .slice (some ⟨x, 0, none⟩) k cap]) 25))
    have v0 := (V2 0 _ rfl).1
    have v1 := (V2 1 _ rfl).1
    have v2 := (V2 2 _ rfl).1
    have v3 := (V2 3 _ rfl).1
    have f0 := (V2 0 _ rfl).2
    have f1 := (V2 1 _ rfl).2
    have f2 := (V2 2 _ rfl).2
    have f3 := (V2 3 _ rfl).2
    have HR1 := Lib.hid r1
    clear hp hown V1 V2 B1 r1
    go_wp2
    go_region_law (first | (go_simp; go_at_call 30; refine (packetCode_nil _).mono ?_; rintro e w2 ⟨rfl, rfl⟩; dsimp only))
    all_goals
      go_wp2
      refine bodyPost_ret (v := .tuple #[.agg #[.int .i64 f, .int .i64 t, .int .i64 g, .slice (some ⟨x, 0, none⟩) k cap], .int .i64 0]) ?_ rfl ?_
      · simp [results, Tryd.results13, go_sem, v0, v1, v2, v3]
      · refine ⟨.inl ⟨f, t, g, cs, x, k, cap, PK.out, rfl, rowBase (base := w.heap.size + 1) ?_ (Nat.le_succ _)⟩, ?_⟩
        · exact rowUp (ownsRow_setCell_below (ownsRow_setCell_below (ownsRow_setCell_below (ownsRow_setCell_below OW.out (a := ⟨w.heap.size, 0, none⟩) (Nat.lt_succ_self _) _) (a := ⟨w.heap.size, 1, none⟩) (Nat.lt_succ_self _) _) (a := ⟨w.heap.size, 2, none⟩) (Nat.lt_succ_self _) _) (a := ⟨w.heap.size, 3, none⟩) (Nat.lt_succ_self _) _) (Below.drew (Below.refl _ _))
        · repeat (first | with_reducible exact HB.out | refine Below.setCell ?_ (by exact Nat.le_refl _) _ | refine Below.drew ?_)
  · have HN := Lib.hid hn
    have V2 := V1.alloc (.cells (List.toArray [.int .i64 0, .int .i64 0, .int .i64 0, .slice none 0 0]) 25) r1
    have HB := Lib.hid (B1.alloc (by omega) (.cells (List.toArray [.int .i64 0, .int .i64 0, .int .i64 0, .slice none 0 0]) 25))
    have EE := Lib.hid (HE.out.under (Nat.le_refl _) (Below.drew HB.out))
    have v0 := (V2 0 _ rfl).1
    have v1 := (V2 1 _ rfl).1
    have v2 := (V2 2 _ rfl).1
    have v3 := (V2 3 _ rfl).1
    have f0 := (V2 0 _ rfl).2
    have f1 := (V2 1 _ rfl).2
    have f2 := (V2 2 _ rfl).2
    have f3 := (V2 3 _ rfl).2
    obtain ⟨b, hb⟩ : ∃ b, errA a0 a1 a2 s = b := ⟨_, rfl⟩
    have PC := packetCode_err a0 a1 a2 s _ EE.out
    rw [hb] at PC ⊢
    have HPC := Lib.hid PC
    clear hn V1 V2 B1 r1 hb PC
    unfold NOP
    go_wp2
    go_region_law (first | (go_simp; go_at_call 30; refine HPC.out.mono ?_; rintro e w2 ⟨rfl, rfl⟩; dsimp only))
    all_goals
      go_wp2
      refine bodyPost_ret (v := noPackV (codeOf s)) ?_ rfl ?_
      · simp [results, Tryd.results13, go_sem, noPackV, v0, v1, v2, v3]
      · refine ⟨.inr ⟨HN.out, rfl⟩, ?_⟩
        repeat (first | with_reducible exact HB.out | refine Below.setCell ?_ (by exact Nat.le_refl _) _ | refine Below.drew ?_)

end Go.Proofs.YtcpdpamoddmpaabDoor
