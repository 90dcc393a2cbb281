/- The contracts of chapter 13's model: packets, read. -/
import Derived.Test.YtcpdpamoddmpaabDoorK44
import Derived.Test.YtcpdpamoddmpaabDoorK14
import Derived.Test.YtcpdpamoddmpaabDoorK40
namespace Go.Proofs.YtcpdpamoddmpaabDoor
open Go.RowKit Go.PlainAid

theorem l1At_pos (s : ByteArray) (p : Nat) (z : Int) (hz : z = p) (w : World) (hs : s.size ≤ maxLen) (h : p + 2 ≤ s.size) :
    Calls Tryd.prog 36 #[.string s, .int .i64 z] w fun e w' => e = .returned (.int .i64 (be s p 2)) ∧ ∃ q, w' = w.drewN q := by
  subst hz
  rw [be_two]
  exact l1At_any s p w hs h
theorem be_long (s : ByteArray) (p : Nat) : be s p 4 = 65536 * be s p 2 + be s (p + 2) 2 := be_four s p
theorem be_word (s : ByteArray) (p : Nat) : 0 ≤ be s p 2 ∧ be s p 2 ≤ 65535 := by
  rw [be_two]
  have h1 := bt_nonneg s p
  have h2 := bt_le s p
  have h3 := bt_nonneg s (p + 1)
  have h4 := bt_le s (p + 1)
  omega

/-- The code of bytes that are no packet. -/
def codeOf (s : ByteArray) : Int := if s.size < 12 then 1 else if be s 8 4 = sum13 s then 3 else 2
def noPackV (n : Int) : Value := .tuple #[.agg #[.int .i64 0, .int .i64 0, .int .i64 0, .slice none 0 0], .int .i64 n]
/-- What the reading of a packet answers: the packet with its chunks in memory that is new, or a code. -/
def GotP (w : World) (s : ByteArray) (e : Ending) (w' : World) : Prop :=
  (∃ f t g cs x cap, PackIs s f t g cs ∧ e = .returned (.tuple #[.agg #[.int .i64 f, .int .i64 t, .int .i64 g, .slice (some ⟨x, 0, none⟩) cs.length cap], .int .i64 0]) ∧ w.heap.size ≤ x ∧ Chs w' (some ⟨x, 0, none⟩) cs.length cap cs)
  ∨ ((∀ f t g cs, ¬ PackIs s f t g cs) ∧ e = .returned (noPackV (codeOf s)))
theorem codeOf_short {s : ByteArray} (h : s.size < 12) : codeOf s = 1 := if_pos h
theorem codeOf_sum {s : ByteArray} (h : 12 ≤ s.size) (hs : be s 8 4 ≠ sum13 s) : codeOf s = 2 := by
  unfold codeOf
  rw [if_neg (by omega), if_neg hs]
theorem codeOf_bad {s : ByteArray} (h : 12 ≤ s.size) (hs : be s 8 4 = sum13 s) : codeOf s = 3 := by
  unfold codeOf
  rw [if_neg (by omega), if_pos hs]
theorem noPack_short {s : ByteArray} (h : s.size < 12) : ∀ f t g cs, ¬ PackIs s f t g cs := fun _ _ _ _ h2 => by have := h2.1; omega
theorem noPack_sum {s : ByteArray} (hs : be s 8 4 ≠ sum13 s) : ∀ f t g cs, ¬ PackIs s f t g cs := fun _ _ _ _ h2 => hs h2.2.1
theorem noPack_stuck {s : ByteArray} {cs : List (Int × Int × ByteArray)} {q : Nat} (hr : Run s 12 cs q) (hq : ¬ Has s q) (hz : q < s.size) : ∀ f t g cs, ¬ PackIs s f t g cs := fun _ _ _ _ h2 => by
  have := (run_stuck hr h2.2.2.2.1 hq (has_not_end s)).2
  omega
theorem noPack_bad {s : ByteArray} {cs : List (Int × Int × ByteArray)} (hr : Run s 12 cs s.size) (hn : ¬ PackOk (be s 0 2) (be s 2 2) (be s 4 4) cs) : ∀ f t g cs, ¬ PackIs s f t g cs := fun _ _ _ _ h2 => by
  obtain ⟨_, _, ⟨rfl, rfl, rfl⟩, hr2, ho⟩ := h2
  have := (run_stuck hr hr2 (has_not_end s) (has_not_end s)).1
  subst this
  exact hn ho
theorem info_ch : (Tryd.prog.info? 43).map (fun i => (i.zero, i.size, i.bytes)) = some (some (.agg #[.int .i64 0, .int .i64 0, .string (ByteArray.mk #[])]), 3, 32) := by kernel_rfl

/-- While a packet is read: the result's variable at r, the packet's at p, its chunks in a block of one's own. -/
structure Rdp (w : World) (r p : Nat) (f t n : Int) (g k cap : Nat) (cs : List (Int × Int × ByteArray)) (W : World) : Prop where
  own : W.ownsRow p 43 3 (.slice (some ⟨g, 0, none⟩) k cap) k (flatC cs)
  gp : g ≠ p + 1
  pv : VarN (p + 1) [.int .i64 f, .int .i64 t, .int .i64 n, .slice (some ⟨g, 0, none⟩) k cap] W
  rv : VarN r [.int .i64 0, .int .i64 0, .int .i64 0, .slice none 0 0] W
  b : Below w.heap.size w W
  rp : r < p
  wp : w.heap.size ≤ r

section
variable {w W W' : World} {r p : Nat} {f t n : Int} {g k cap : Nat} {cs : List (Int × Int × ByteArray)}
theorem Rdp.glt (h : Rdp w r p f t n g k cap cs W) : g < W.heap.size := rowLt h.own
theorem Rdp.plt (h : Rdp w r p f t n g k cap cs W) : p + 1 < W.heap.size := lt_of_cell (h.pv 0 _ rfl).1
theorem Rdp.gge (h : Rdp w r p f t n g k cap cs W) : p ≤ g := own_ge h.own rfl
theorem Rdp.up (h : Rdp w r p f t n g k cap cs W) (hb : Below W.heap.size W W') : Rdp w r p f t n g k cap cs W' := by
  have h1 := h.plt
  have h2 := h.rp
  exact ⟨rowBelow h.own hb h.glt, h.gp, h.pv.below hb h1, h.rv.below hb (by omega), h.b.trans (hb.mono h.b.size), h.rp, h.wp⟩
theorem Rdp.push {W1 : World} {g2 cap2 : Nat} {c : Int × Int × ByteArray} (h : Rdp w r p f t n g k cap cs W) (hgrow : W.grownBy W1 (some g)) (hown : W1.ownsRow p 43 3 (.slice (some ⟨g2, 0, none⟩) (k + 1) cap2) (k + 1) (flatC cs ++ [.int .i64 c.1, .int .i64 c.2.1, .string c.2.2]))
    (hat : g = g2 ∨ g2 = W.heap.size) : Rdp w r p f t n g2 (k + 1) cap2 (cs ++ [c]) (W1.setCell ⟨p + 1, 3, none⟩ (.slice (some ⟨g2, 0, none⟩) (k + 1) cap2)) := by
  have h1 := h.plt
  have h2 := h.glt
  have h3 := h.rp
  have h4 := h.gge
  have h5 := h.gp
  have h6 := h.wp
  have hne : g2 ≠ p + 1 := by rcases hat with rfl | rfl <;> omega
  exact ⟨rowFar (by rw [flatC_append]; exact hown) hne _, hne, (h.pv.plus hgrow h1 (by omega)).set (i := 3) _, (h.rv.plus hgrow (by omega) (by omega)).far _ (by omega),
    (Below.grown h.b hgrow h.b.size fun x hx => by cases hx; omega).setCell (p := ⟨p + 1, 3, none⟩) (by show w.heap.size ≤ p + 1; omega) _, h3, h6⟩
end

set_option maxHeartbeats 4000000 in
theorem sPacketGet_any (s : ByteArray) (w : World) (hs : s.size ≤ 100000000) :
    Calls Tryd.prog 16 #[.string s] w fun e w' => GotP w s e w' ∧ Below w.heap.size w w' := by
  have hm : s.size ≤ maxLen := Nat.le_trans hs (by decide)
  have hB0 := Lib.hid (below_box (.cells #[.int .i64 0, .int .i64 0, .int .i64 0, .slice none 0 0] 25) (Nat.le_refl w.heap.size))
  by_cases h12 : s.size < 12
  · have V := Lib.hid (codeOf_short h12)
    have NP := Lib.hid (noPack_short h12)
    have c12 : (s.size : Int) < 12 := by omega
    go_enter Tryd.func16, Tryd.ntmps16
    go_wp2
    refine bodyPost_ret (v := noPackV 1) ?_ rfl ?_
    · simp [results, Tryd.results16, go_sem, noPackV]
    · refine ⟨.inr ⟨NP.out, by rw [V.out]⟩, ?_⟩
      repeat (first | with_reducible exact hB0.out | refine Below.setCell ?_ (by exact Nat.le_refl _) _)
  have h12' : 12 ≤ s.size := by omega
  have c12 : ¬ (s.size : Int) < 12 := by omega
  have v1 : IntKind.i64.wrap (65536 * be s 8 2) = 65536 * be s 8 2 := IntWalk.i64_in _ (by have := be_word s 8; omega)
  have v2 : IntKind.i64.wrap (65536 * be s 8 2 + be s 10 2) = 65536 * be s 8 2 + be s 10 2 := IntWalk.i64_in _ (by have := be_word s 8; have := be_word s 10; omega)
  have v3 : IntKind.i64.wrap (65536 * be s 4 2) = 65536 * be s 4 2 := IntWalk.i64_in _ (by have := be_word s 4; omega)
  have v4 : IntKind.i64.wrap (65536 * be s 4 2 + be s 6 2) = 65536 * be s 4 2 + be s 6 2 := IntWalk.i64_in _ (by have := be_word s 4; have := be_word s 6; omega)
  go_enter Tryd.func16, Tryd.ntmps16
  go_wp2_with fail
  refine (l1At_pos s 8 8 rfl _ hm (by omega)).mono ?_
  rintro e w1 ⟨rfl, q1, rfl⟩
  go_wp2_with fail
  refine (l1At_pos s 10 10 rfl _ hm (by omega)).mono ?_
  rintro e w2 ⟨rfl, q2, rfl⟩
  go_wp2_with fail
  refine (l13Sum_any s _ h12' hs).mono ?_
  rintro e w3 ⟨rfl, hb3⟩
  have R3 := (((VarN.new w [.int .i64 0, .int .i64 0, .int .i64 0, .slice none 0 0] 25).drewN (q1 + q2)).below hb3 (by simp))
  have B3 := (below_drewN hB0.out (q1 + q2)).trans (hb3.mono (by simp))
  have L3 : w.heap.size < w3.heap.size := lt_of_cell (R3 0 _ rfl).1
  clear hb3 hB0
  have r0 := (R3 0 _ rfl).1
  have r1 := (R3 1 _ rfl).1
  have r2 := (R3 2 _ rfl).1
  have r3 := (R3 3 _ rfl).1
  have f0 := (R3 0 _ rfl).2
  have f1 := (R3 1 _ rfl).2
  have f2 := (R3 2 _ rfl).2
  have f3 := (R3 3 _ rfl).2
  have HR := Lib.hid R3
  have HB := Lib.hid B3
  clear R3 B3
  by_cases hsum : be s 8 4 = sum13 s
  case neg =>
    have V := Lib.hid (codeOf_sum h12' hsum)
    have NP := Lib.hid (noPack_sum hsum)
    have hne : ((65536 * be s 8 2 + be s 10 2) != sum13 s) = true := by rw [← be_long]; simpa using hsum
    clear hsum
    go_wp2
    refine bodyPost_ret (v := noPackV 2) ?_ rfl ?_
    · simp [results, Tryd.results16, go_sem, noPackV, r0, r1, r2, r3]
    · refine ⟨.inr ⟨NP.out, by rw [V.out]⟩, ?_⟩
      repeat (first | with_reducible exact HB.out | refine Below.setCell ?_ (by exact Nat.le_refl _) _)
  case pos =>
    have hne : ((65536 * be s 8 2 + be s 10 2) != sum13 s) = false := by rw [← be_long]; simpa using hsum
    have V := Lib.hid (codeOf_bad h12' hsum)
    have HS := Lib.hid hsum
    clear hsum v1 v2
    go_wp2_with fail
    refine (l1At_pos s 0 0 rfl _ hm (by omega)).mono ?_
    rintro e w4 ⟨rfl, q4, rfl⟩
    go_wp2_with fail
    refine (l1At_pos s 2 2 rfl _ hm (by omega)).mono ?_
    rintro e w5 ⟨rfl, q5, rfl⟩
    go_wp2_with fail
    refine (l1At_pos s 4 4 rfl _ hm (by omega)).mono ?_
    rintro e w6 ⟨rfl, q6, rfl⟩
    go_wp2_with fail
    refine (l1At_pos s 6 6 rfl _ hm (by omega)).mono ?_
    rintro e w7 ⟨rfl, q7, rfl⟩
    clear r0 r1 r2 r3 f0 f1 f2 f3
    go_wp2_with fail
    obtain ⟨i0, hi, hz0, hz1, hz2⟩ := info_parts info_ch
    have HI := Lib.hid (And.intro hi (And.intro hz0 (And.intro hz1 hz2)))
    clear hi hz0 hz1 hz2
    have e4 : (w3.drewN (q4 + q5 + q6 + q7)).heap.size = w3.heap.size := by rw [World.heap_drewN]
    have R0 : Rdp w w.heap.size w3.heap.size (be s 0 2) (be s 2 2) (65536 * be s 4 2 + be s 6 2) w3.heap.size 0 0 [] (((w3.drewN (q4 + q5 + q6 + q7)).alloc (.cells #[] 43)).alloc (.cells #[.int .i64 (be s 0 2), .int .i64 (be s 2 2), .int .i64 (65536 * be s 4 2 + be s 6 2), .slice (some ⟨w3.heap.size, 0, none⟩) 0 0] 25)) := by
      refine ⟨?_, by omega, VarN.new_at (by simp) [.int .i64 (be s 0 2), .int .i64 (be s 2 2), .int .i64 (65536 * be s 4 2 + be s 6 2), .slice (some ⟨w3.heap.size, 0, none⟩) 0 0] 25, ((HR.out.drewN _).alloc _ (by rw [e4]; exact L3)).alloc _ (by simp; omega), ((below_drewN HB.out _).alloc (by rw [e4]; omega) _).alloc (by simp; omega) _, L3, Nat.le_refl _⟩
      have o := (World.ownsRow_lit (base := (w3.drewN (q4 + q5 + q6 + q7)).heap.size) (e := 43) (size := 3) (w3.drewN (q4 + q5 + q6 + q7)) #[] 0 (Nat.le_refl _) (by decide) rfl).alloc (.cells #[.int .i64 (be s 0 2), .int .i64 (be s 2 2), .int .i64 (65536 * be s 4 2 + be s 6 2), .slice (some ⟨w3.heap.size, 0, none⟩) 0 0] 25)
      rw [e4] at o
      exact o
    have HR0 := Lib.hid R0
    clear R0 e4 hne v3 v4
    generalize w3.heap.size = p at *
    go_loopw [5] (fun i wr => ∃ (k g cap q : Nat) (cs : List (Int × Int × ByteArray)), i = .int .i64 q ∧ Hid (Run s 12 cs q) ∧ q ≤ s.size ∧ cs.length = k ∧ 12 + 4 * k ≤ q ∧ Hid (Rdp w w.heap.size p (be s 0 2) (be s 2 2) (65536 * be s 4 2 + be s 6 2) g k cap cs wr)) (fun i _ => s.size - (intOf i).toNat)
    case atStart => exact ⟨0, p, 0, 12, [], rfl, Lib.hid rfl, h12', rfl, by omega, HR0⟩
    case round =>
      obtain ⟨k, g, cap, q, cs, rfl, hrun, hq, hk, hkq, hr⟩ := hrel
      clear HR0
      by_cases hlt : q < s.size
      · have cond : (q : Int) < (s.size : Int) := by omega
        by_cases hh : Has s q
        · have hle := has_le hh
          have HH := Lib.hid hh
          have HN := Lib.hid (run_snoc hrun.out hh)
          clear hh
          go_wp2_with fail
          refine (sChunkGet_yes s q _ hs HH.out).mono ?_
          rintro e w8 ⟨rfl, hb8⟩
          have HR8 := Lib.hid (hr.out.up hb8)
          clear hb8
          obtain ⟨c1, hc1⟩ : ∃ c, bt s q = c := ⟨_, rfl⟩
          obtain ⟨c2, hc2⟩ : ∃ c, bt s (q + 1) = c := ⟨_, rfl⟩
          obtain ⟨c3, hc3⟩ : ∃ c, bodyAt s q = c := ⟨_, rfl⟩
          obtain ⟨q2, hq2⟩ : ∃ c, chunkEnd s q = c := ⟨_, rfl⟩
          rw [hq2] at HN hle
          rw [hc1, hc2, hc3] at HN
          rw [hc1, hc2, hc3, hq2]
          clear hc1 hc2 hc3 hq2
          unfold gotV
          have SA := Lib.hid ((HR8.out.up (below_box (.cells #[.int .i64 c1, .int .i64 c2, .string c3] 43) (Nat.le_refl _))).up (below_box (.cells #[.int .i64 c1, .int .i64 c2, .string c3] 43) (Nat.le_refl _)))
          have s3 := (HR8.out.pv 3 _ rfl).1
          have l8 := HR8.out.plt
          have hk25 : k ≤ 25000000 := by omega
          go_wp2_with (at_builtin; go_loud (refine wpList_append_lies _ rfl _ _ 23 rfl p 43 i0 (.agg #[.int .i64 0, .int .i64 0, .string (ByteArray.mk #[])]) 3 32 Tryd.underlying23 HI.out.1 HI.out.2.1 HI.out.2.2.1 HI.out.2.2.2 rfl (by decide) (.slice (some ⟨g, 0, none⟩) k cap) k (flatC cs) rfl SA.out.own ⟨w8.heap.size + 1, 0, none⟩ 1 1 [.int .i64 c1, .int .i64 c2, .string c3] rfl rfl (news_box (by simp)) (by simp [Value.oneCell']) (by decide) (by unfold maxLen; omega) (by omega) (by simp; omega) _ rfl ?_))
          intro g2 cap2 w9 hown hgrow hat hlt9
          have S9 := SA.out.pv.plus hgrow SA.out.plt SA.out.gp.symm
          have t3 := (S9 3 _ rfl).1
          have tf3 := (S9 3 _ rfl).2
          have SP := Lib.hid (SA.out.push (c := (c1, c2, c3)) hgrow hown (hat.imp (fun h => by simpa [Value.ownBlock] using h) fun h => h.trans (by simp)))
          clear S9 SA HR8 s3 hown hgrow hat hlt9
          go_wp2
          go_roundw
          case rel => exact ⟨k + 1, g2, cap2, q2, cs ++ [(c1, c2, c3)], rfl, HN, hle.2, by rw [List.length_append, hk]; rfl, by omega, SP⟩
          case measure => simp [intOf]; omega
        · have NP := Lib.hid (noPack_stuck hrun.out hh hlt)
          have HNO := Lib.hid (show ∀ p : Nat, (q : Int) = p → ¬ Has s p from fun p e h => hh (by rw [show q = p by omega]; exact h))
          clear hh
          go_wp2_with fail
          refine (sChunkGet_no s q _ hs HNO.out).mono ?_
          rintro e w8 ⟨rfl, hb8⟩
          have HR8 := Lib.hid (hr.out.up hb8)
          clear hb8
          unfold noneV
          have r0 := (HR8.out.rv 0 _ rfl).1
          have r1 := (HR8.out.rv 1 _ rfl).1
          have r2 := (HR8.out.rv 2 _ rfl).1
          have r3 := (HR8.out.rv 3 _ rfl).1
          have f0 := (HR8.out.rv 0 _ rfl).2
          have f1 := (HR8.out.rv 1 _ rfl).2
          have f2 := (HR8.out.rv 2 _ rfl).2
          have f3 := (HR8.out.rv 3 _ rfl).2
          have hrl : w.heap.size < w8.heap.size := lt_of_cell r0
          have hrn : ¬ w.heap.size = w8.heap.size := by omega
          go_wp2
          refine bodyPost_ret (v := noPackV 3) ?_ rfl ?_
          · simp [results, Tryd.results16, go_sem, noPackV, r0, r1, r2, r3, hrl, World.cell?_alloc_lt]
          · refine ⟨.inr ⟨NP.out, by rw [V.out]⟩, ?_⟩
            have b8 := HR8.out.b
            have b9 := b8.alloc b8.size (.cells #[.int .i64 0, .int .i64 0, .string (ByteArray.mk #[])] 43)
            repeat (first | with_reducible exact b8 | with_reducible exact b9 | refine Below.setCell ?_ (by exact Nat.le_refl _) _ | refine Below.alloc ?_ (by simp; omega) _)
      · obtain rfl : q = s.size := by omega
        have ncond : ¬ (s.size : Int) < (s.size : Int) := by omega
        have p0 := (hr.out.pv 0 _ rfl).1
        have p1 := (hr.out.pv 1 _ rfl).1
        have p2 := (hr.out.pv 2 _ rfl).1
        have p3 := (hr.out.pv 3 _ rfl).1
        have HC := Lib.hid (own_chs hr.out.own)
        go_wp2_with fail
        refine (sPacketValid_any (be s 0 2) (be s 2 2) (65536 * be s 4 2 + be s 6 2) _ k cap cs _ HC.out).mono ?_
        rintro e w8 ⟨rfl, hb8⟩
        have HR8 := Lib.hid (hr.out.up hb8)
        have HC8 := Lib.hid (HC.out.below hb8)
        clear hb8 p0 p1 p2 p3 HC
        have r0 := (HR8.out.rv 0 _ rfl).1
        have r1 := (HR8.out.rv 1 _ rfl).1
        have r2 := (HR8.out.rv 2 _ rfl).1
        have r3 := (HR8.out.rv 3 _ rfl).1
        have f0 := (HR8.out.rv 0 _ rfl).2
        have f1 := (HR8.out.rv 1 _ rfl).2
        have f2 := (HR8.out.rv 2 _ rfl).2
        have f3 := (HR8.out.rv 3 _ rfl).2
        by_cases hp : PackOk (be s 0 2) (be s 2 2) (65536 * be s 4 2 + be s 6 2) cs
        · rw [packV_yes hp]
          have IS := Lib.hid (show PackIs s (be s 0 2) (be s 2 2) (65536 * be s 4 2 + be s 6 2) cs from ⟨h12', HS.out, ⟨rfl, rfl, (be_long s 4).symm⟩, hrun.out, hp⟩)
          clear hp
          have p0 := (HR8.out.pv 0 _ rfl).1
          have p1 := (HR8.out.pv 1 _ rfl).1
          have p2 := (HR8.out.pv 2 _ rfl).1
          have p3 := (HR8.out.pv 3 _ rfl).1
          have hgr : w.heap.size ≠ g := by have := HR8.out.gge; omega
          have GF := Lib.hid (fun x y z v : Value => (((HC8.out.far hgr x (i := 0)).far hgr y (i := 1)).far hgr z (i := 2)).far hgr v (i := 3))
          have hgw : w.heap.size ≤ g := by have := HR8.out.gge; omega
          go_wp2
          refine bodyPost_ret (v := .tuple #[.agg #[.int .i64 (be s 0 2), .int .i64 (be s 2 2), .int .i64 (65536 * be s 4 2 + be s 6 2), .slice (some ⟨g, 0, none⟩) k cap], .int .i64 0]) ?_ rfl ?_
          · simp [results, Tryd.results16, go_sem, r0, r1, r2, r3]
          · subst hk
            refine ⟨.inl ⟨_, _, _, cs, g, cap, IS.out, rfl, hgw, GF.out _ _ _ _⟩, ?_⟩
            have b8 := HR8.out.b
            repeat (first | with_reducible exact b8 | refine Below.setCell ?_ (by exact Nat.le_refl _) _)
        · rw [packV_no hp]
          have NP := Lib.hid (noPack_bad hrun.out (by rw [be_long s 4]; exact hp))
          clear hp
          go_wp2
          refine bodyPost_ret (v := noPackV 3) ?_ rfl ?_
          · simp [results, Tryd.results16, go_sem, noPackV, r0, r1, r2, r3]
          · refine ⟨.inr ⟨NP.out, by rw [V.out]⟩, ?_⟩
            have b8 := HR8.out.b
            repeat (first | with_reducible exact b8 | refine Below.setCell ?_ (by exact Nat.le_refl _) _)

end Go.Proofs.YtcpdpamoddmpaabDoor
