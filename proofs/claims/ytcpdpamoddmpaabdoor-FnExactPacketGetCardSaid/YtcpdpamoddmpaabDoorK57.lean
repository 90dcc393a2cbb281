/- PacketGet at bytes that are a packet's, and at others: the program's and the model's. -/
import Derived.Test.YtcpdpamoddmpaabDoorK55
import Derived.Test.YtcpdpamoddmpaabDoorK56
import Derived.Test.YtcpdpamoddmpaabDoorK47
namespace Go.Proofs.YtcpdpamoddmpaabDoor
open Go.RowKit Go.PlainAid

def IsPack (s : ByteArray) : Prop := ∃ f t g cs, PackIs s f t g cs
theorem Errs.below {a0 a1 a2 : Addr} {W W' : World} (h : Errs a0 a1 a2 W) (hb : Below W.heap.size W W') : Errs a0 a1 a2 W' := h.under (Nat.le_refl _) hb
theorem codeOf_ne (s : ByteArray) : codeOf s ≠ 0 := by
  unfold codeOf
  split
  · decide
  · split <;> decide
theorem own_row {W : World} {base g k cap : Nat} {cs : List (Int × Int × ByteArray)} (h : W.ownsRow base 43 3 (.slice (some ⟨g, 0, none⟩) k cap) k (flatC cs)) : cs.length = k := (own_chs h).length
theorem packetGet_is (a0 a1 a2 : Addr) (s : ByteArray) (f t g : Int) (cs : List (Int × Int × ByteArray)) (k : Nat) (w : World) (hs : s.size ≤ 100000000) (hE : Errs a0 a1 a2 w) (h : PackIs s f t g cs) (hk : cs.length = k) :
    Calls Tryd.prog 13 #[.string s] w fun e w' => ∃ x cap, e = .returned (.tuple #[.agg #[.int .i64 f, .int .i64 t, .int .i64 g, .slice (some ⟨x, 0, none⟩) k cap], .int .i64 0]) ∧ Chs w' (some ⟨x, 0, none⟩) k cap cs ∧ Below w.heap.size w w' := by
  refine (packetGet_any a0 a1 a2 s w hs hE).mono ?_
  rintro e w' ⟨⟨f', t', g', cs', x, k', cap, hp, rfl, ho⟩ | ⟨hn, _⟩, hb⟩
  · obtain ⟨rfl, rfl, rfl, rfl⟩ := pack_one h hp
    obtain rfl : k' = k := (own_row ho).symm.trans hk
    exact ⟨x, cap, rfl, own_chs ho, hb⟩
  · exact absurd h (hn f t g cs)
theorem packetGet_not (a0 a1 a2 : Addr) (s : ByteArray) (w : World) (hs : s.size ≤ 100000000) (hE : Errs a0 a1 a2 w) (h : ¬ IsPack s) :
    Calls Tryd.prog 13 #[.string s] w fun e w' => e = .returned (noPackV (codeOf s)) ∧ Below w.heap.size w w' := by
  refine (packetGet_any a0 a1 a2 s w hs hE).mono ?_
  rintro e w' ⟨⟨f', t', g', cs', x, k', cap, hp, _⟩ | ⟨_, rfl⟩, hb⟩
  · exact absurd ⟨f', t', g', cs', hp⟩ h
  · exact ⟨rfl, hb⟩
theorem sPacketGet_is (s : ByteArray) (f t g : Int) (cs : List (Int × Int × ByteArray)) (k : Nat) (w : World) (hs : s.size ≤ 100000000) (h : PackIs s f t g cs) (hk : cs.length = k) :
    Calls Tryd.prog 16 #[.string s] w fun e w' => ∃ x cap, e = .returned (.tuple #[.agg #[.int .i64 f, .int .i64 t, .int .i64 g, .slice (some ⟨x, 0, none⟩) k cap], .int .i64 0]) ∧ Chs w' (some ⟨x, 0, none⟩) k cap cs ∧ Below w.heap.size w w' := by
  subst hk
  refine (sPacketGet_any s w hs).mono ?_
  rintro e w' ⟨⟨f', t', g', cs', x, cap, hp, rfl, _, hc⟩ | ⟨hn, _⟩, hb⟩
  · obtain ⟨rfl, rfl, rfl, rfl⟩ := pack_one h hp
    exact ⟨x, cap, rfl, hc, hb⟩
  · exact absurd h (hn f t g cs)
theorem sPacketGet_not (s : ByteArray) (w : World) (hs : s.size ≤ 100000000) (h : ¬ IsPack s) :
    Calls Tryd.prog 16 #[.string s] w fun e w' => e = .returned (noPackV (codeOf s)) ∧ Below w.heap.size w w' := by
  refine (sPacketGet_any s w hs).mono ?_
  rintro e w' ⟨⟨f', t', g', cs', x, cap, hp, _⟩ | ⟨_, rfl⟩, hb⟩
  · exact absurd ⟨f', t', g', cs', hp⟩ h
  · exact ⟨rfl, hb⟩
/-- The code alone. -/
theorem packetGet_code (a0 a1 a2 : Addr) (s : ByteArray) (w : World) (hs : s.size ≤ 100000000) (hE : Errs a0 a1 a2 w) :
    Calls Tryd.prog 13 #[.string s] w fun e w' => ∃ (f t g : Int) (a : Option Addr) (k cap : Nat) (c : Int), e = .returned (.tuple #[.agg #[.int .i64 f, .int .i64 t, .int .i64 g, .slice a k cap], .int .i64 c]) ∧ ((c = 2 ↔ (12 ≤ s.size ∧ be s 8 4 ≠ sum13 s)) ∧ (c = 0 → IsPack s)) ∧ Below w.heap.size w w' := by
  refine (packetGet_any a0 a1 a2 s w hs hE).mono ?_
  rintro e w' ⟨⟨f', t', g', cs', x, k', cap, hp, rfl, _⟩ | ⟨hn, rfl⟩, hb⟩
  · exact ⟨f', t', g', _, k', cap, 0, rfl, ⟨⟨fun h => by omega, fun h => absurd hp.2.1 h.2⟩, fun _ => ⟨f', t', g', cs', hp⟩⟩, hb⟩
  · refine ⟨0, 0, 0, none, 0, 0, codeOf s, rfl, ⟨⟨fun h => ?_, fun h => codeOf_sum h.1 h.2⟩, fun h => absurd h (codeOf_ne s)⟩, hb⟩
    by_cases h12 : s.size < 12
    · rw [codeOf_short h12] at h
      omega
    · refine ⟨by omega, fun hs => ?_⟩
      rw [codeOf_bad (by omega) hs] at h
      omega
theorem isPack_mod {s : ByteArray} (h : IsPack s) : s.size % 4 = 0 := by
  obtain ⟨f, t, g, cs, hp⟩ := h
  exact pack_mod hp
theorem isPack_long {s : ByteArray} (h : IsPack s) : 16 ≤ s.size := by
  obtain ⟨f, t, g, cs, hp⟩ := h
  rw [pack_back hp, packS_size]
  have := chunksS_four hp.2.2.2.2.2.2.1.1
  omega
theorem samePacket_none (w : World) :
    Calls Tryd.prog 14 #[.agg #[.int .i64 0, .int .i64 0, .int .i64 0, .slice none 0 0], .agg #[.int .i64 0, .int .i64 0, .int .i64 0, .slice none 0 0]] w fun e w' => e = .returned (.bool true) ∧ Below w.heap.size w w' :=
  samePacket_same 0 0 0 none none 0 0 0 [] w (.inl ⟨rfl, rfl, rfl, rfl⟩) (.inl ⟨rfl, rfl, rfl, rfl⟩)

end Go.Proofs.YtcpdpamoddmpaabDoor
