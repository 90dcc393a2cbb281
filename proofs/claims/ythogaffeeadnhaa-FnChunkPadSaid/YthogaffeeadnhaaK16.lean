/- The contracts of the drawing functions of the laws on chunks: a chunk, bytes and a place, a kind. -/
import Derived.Test.YthogaffeeadnhaaK15
namespace Go.Proofs.Ythogaffeeadnhaa
open Go.RowKit Go.PlainAid

theorem IsRow.keep {k : IntKind} {w w' : World} {a : Option Addr} {len cap : Nat} {zs : List Int} (h : IsRow k w a len cap zs) (hb : Below w.heap.size w w') : IsRow k w' a len cap zs := by
  rcases h with h | ⟨x, h1, h2, h3, h4, h5, h6⟩
  · exact .inl h
  · refine .inr ⟨x, h1, h2, h3, h4, fun i hi => ?_, h6⟩
    have hc := h5 i hi
    exact (hb.cell (World.block_lt_of_cell? w _ hc)).trans hc

/-- A chunk was drawn out of the given bytes. -/
def DrewCh (w : World) (e : Ending) (w' : World) : Prop :=
  ∃ (k f : Int) (b : ByteArray), e = .returned (.agg #[.int .i64 k, .int .i64 f, .string b]) ∧ ((-1 ≤ k ∧ k ≤ 256) ∧ (-1 ≤ f ∧ f ≤ 256) ∧ b.size ≤ 62) ∧ Below w.heap.size w w'

set_option maxHeartbeats 1000000 in
theorem drawChunkPut_any (a : Option Addr) (len cap : Nat) (zs : List Int) (w : World) (h : IsRow .u8 w a len cap zs) :
    Calls Try.prog 15 #[.slice a len cap] w (DrewCh w) := by
  have H := Lib.hid h
  clear h
  go_enter Try.func15, Try.ntmps15
  go_wp2_with fail
  refine (l6Open_any a len cap zs _ (H.out.keep (below_box _ (Nat.le_refl _)))).mono ?_
  rintro e w1 ⟨r, rfl, hr1, hb1⟩
  go_wp2_with fail
  refine (l91Chunk_any _ r 0 _ hr1 (by omega)).mono ?_
  rintro e w2 ⟨k, f, b, rfl, hp, _, hb2⟩
  have hbW := hb1.trans hb2
  obtain ⟨⟨r0, r1, r2⟩, g0, g1, g2⟩ := (Var3.new w 0 0 (ByteArray.mk #[]) _).aside (below_aside (r := w.heap.size + 1) hbW (Nat.le_refl _)) (by simp) (by omega)
  have hb : Below w.heap.size w w2 := (below_box _ (Nat.le_refl _)).trans (hbW.mono (by simp))
  clear hb1 hb2 hbW
  go_wp2
  refine bodyPost_ret (v := .agg #[.int .i64 k, .int .i64 f, .string b]) ?_ rfl ?_
  · simp [results, Try.results15, go_sem, r0, r1, r2]
  · exact ⟨k, f, b, rfl, hp, ((hb.setCell (Nat.le_refl _) _).setCell (Nat.le_refl _) _).setCell (Nat.le_refl _) _⟩

/-- The bytes of a chunk, or none. -/
def PutS (w : World) (e : Ending) (w' : World) : Prop := ∃ t : ByteArray, e = .returned (.string t) ∧ t.size ≤ 64 ∧ Below w.heap.size w w'
theorem sChunkPut_some (k f : Int) (b : ByteArray) (w : World) :
    Calls Try.prog 17 #[.agg #[.int .i64 k, .int .i64 f, .string b]] w (PutS w) := by
  by_cases h : Chk k f b
  · refine (sChunkPut_yes k f b w h).mono ?_
    rintro e w' ⟨rfl, hb⟩
    exact ⟨_, rfl, chunkS_le k f b h.2.2, hb⟩
  · refine (sChunkPut_no k f b w h).mono ?_
    rintro e w' ⟨rfl, hb⟩
    exact ⟨_, rfl, by decide, hb⟩

set_option maxHeartbeats 1000000 in
theorem drawChunkGet_any (a : Option Addr) (len cap : Nat) (zs : List Int) (w : World) (h : IsRow .u8 w a len cap zs) :
    Calls Try.prog 11 #[.slice a len cap] w (DrewSI (fun s n => s.size ≤ 200 ∧ -2 ≤ n ∧ n ≤ 40) w) := by
  have H := Lib.hid h
  clear h
  go_enter Try.func11, Try.ntmps11
  go_wp2_with fail
  refine (l6Open_any a len cap zs _ H.out).mono ?_
  rintro e w1 ⟨r, rfl, hr1, hb1⟩
  go_wp2_with fail
  refine (l91Chunk_any _ r 0 _ hr1 (by omega)).mono ?_
  rintro e w2 ⟨k, f, b, rfl, _, hr2, hb2⟩
  have hb2' := hb1.trans hb2
  clear hr1 hb1 hb2
  go_wp2_with fail
  refine (sChunkPut_some k f b _).mono ?_
  rintro e w3 ⟨x, rfl, hx, hb3⟩
  have hr3 := hr2.keep hb3 hr2.2.1
  have hb3' := hb2'.trans (hb3.mono hb2'.size)
  clear hr2 hb2' hb3
  go_wp2_with fail
  refine (l91Chunk_any _ r (0 + 40) _ hr3 (by omega)).mono ?_
  rintro e w4 ⟨k2, f2, b2, rfl, _, hr4, hb4⟩
  have hb4' := hb3'.trans hb4
  clear hr3 hb3' hb4
  go_wp2_with fail
  refine (sChunkPut_some k2 f2 b2 _).mono ?_
  rintro e w5 ⟨y, rfl, hy, hb5⟩
  have hr5 := hr4.keep hb5 hr4.2.1
  have hb5' := hb4'.trans (hb5.mono hb4'.size)
  clear hr4 hb4' hb5
  go_wp2_with fail
  refine (pick_any _ r _ 6 _ hr5 (by omega) (by omega) (by omega)).mono ?_
  rintro e w6 ⟨j, rfl, j0, j1, hr6, ho6⟩
  have hb6 := hb5'.trans (ho6.below hr5.1)
  clear hr5 hb5' ho6
  go_wp2_with fail
  refine (pick_any _ r _ 2 _ hr6 (by omega) (by omega) (by omega)).mono ?_
  rintro e w7 ⟨i, rfl, i0, i1, hr7, ho7⟩
  have hb7 := hb6.trans (ho7.below hr6.1)
  clear hr6 hb6 ho7
  have hxy : (x ++ y).size ≤ 128 := by rw [ByteArray.size_append]; omega
  by_cases ci : i = 0
  · subst ci
    go_wp2_with fail
    refine (pick_any _ r _ 16 _ hr7 (by omega) (by omega) (by omega)).mono ?_
    rintro e w8 ⟨g, rfl, g0, g1, hr8, ho8⟩
    have hb8 := hb7.trans (ho8.below hr7.1)
    by_cases cg : g = 0
    · subst cg
      go_wp2_with fail
      refine (pick_any _ r _ 40 _ hr8 (by omega) (by omega) (by omega)).mono ?_
      rintro e w9 ⟨q, rfl, q0, q1, hr9, ho9⟩
      have hb9 := hb8.trans (ho9.below hr8.1)
      go_wp2_with fail
      refine (l91Spoil_any _ r _ (x ++ y) _ hr9 (by omega) (by omega)).mono ?_
      rintro e w10 ⟨t, rfl, ht, hr10, hb10⟩
      go_wp2
      go_ret2
      exact ⟨t, _, rfl, ⟨by omega, by omega, by omega⟩, hb9.trans hb10⟩
    · go_wp2_with fail
      refine (l91Spoil_any _ r _ (x ++ y) _ hr8 (by omega) (by omega)).mono ?_
      rintro e w10 ⟨t, rfl, ht, hr10, hb10⟩
      go_wp2
      go_ret2
      exact ⟨t, _, rfl, ⟨by omega, by omega, by omega⟩, hb8.trans hb10⟩
  · go_wp2_with fail
    refine (pick_any _ r _ 16 _ hr7 (by omega) (by omega) (by omega)).mono ?_
    rintro e w8 ⟨g, rfl, g0, g1, hr8, ho8⟩
    have hb8 := hb7.trans (ho8.below hr7.1)
    by_cases cg : g = 0
    · subst cg
      go_wp2_with fail
      refine (pick_any _ r _ 40 _ hr8 (by omega) (by omega) (by omega)).mono ?_
      rintro e w9 ⟨q, rfl, q0, q1, hr9, ho9⟩
      have hb9 := hb8.trans (ho9.below hr8.1)
      go_wp2_with fail
      refine (l91Spoil_any _ r _ (x ++ y) _ hr9 (by omega) (by omega)).mono ?_
      rintro e w10 ⟨t, rfl, ht, hr10, hb10⟩
      go_wp2
      go_ret2
      exact ⟨t, _, rfl, ⟨by omega, by omega, by omega⟩, hb9.trans hb10⟩
    · go_wp2_with fail
      refine (l91Spoil_any _ r _ (x ++ y) _ hr8 (by omega) (by omega)).mono ?_
      rintro e w10 ⟨t, rfl, ht, hr10, hb10⟩
      go_wp2
      go_ret2
      exact ⟨t, _, rfl, ⟨by omega, by omega, by omega⟩, hb8.trans hb10⟩

end Go.Proofs.Ythogaffeeadnhaa
