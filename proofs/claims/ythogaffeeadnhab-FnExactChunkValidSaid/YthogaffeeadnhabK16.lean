/- The contracts of the drawing functions of the laws on chunks: a chunk, bytes and a place, a kind. -/
import Derived.Test.YthogaffeeadnhabK15
namespace Go.Proofs.Ythogaffeeadnhab
open Go.RowKit Go.PlainAid

theorem IsRow.keep {k : IntKind} {w w' : World} {a : Option Addr} {len cap : Nat} {zs : List Int} (h : IsRow k w a len cap zs) (hb : Below w.heap.size w w') : IsRow k w' a len cap zs := by
  rcases h with h | ⟨x, h1, h2, h3, h4, h5, h6⟩
  · exact .inl h
  · refine .inr ⟨x, h1, h2, h3, h4, fun i hi => ?_, h6⟩
    have hc := h5 i hi
    exact (hb.cell (World.block_lt_of_cell? w _ hc)).trans hc

/-- A chunk was drawn out of the given bytes. -/
def DrewCh (w : World) (e : Ending) (w' : World) : Prop :=
  ∃ (k f : Int) (b : ByteArray), e = .returned (.agg #[.int .i64 k, .int .i64 f, .string b]) ∧ ((-1 ≤ k ∧ k ≤ 256) ∧ (-1 ≤ f ∧ f ≤ 256) ∧ b.size ≤ 62) ∧ Below w.heap.size w w'

set_option maxHeartbeats 1000000 in
theorem drawChunkValid_any (a : Option Addr) (len cap : Nat) (zs : List Int) (w : World) (h : IsRow .u8 w a len cap zs) :
    Calls Try.prog 13 #[.slice a len cap] w (DrewCh w) := by
  have H := Lib.hid h
  clear h
  go_enter Try.func13, Try.ntmps13
  go_wp2_with fail
  refine (l6Open_any a len cap zs _ (H.out.keep (below_box _ (Nat.le_refl _)))).mono ?_
  rintro e w1 ⟨r, rfl, hr1, hb1⟩
  go_wp2_with fail
  refine (l91Chunk_any _ r 0 _ hr1 (by omega)).mono ?_
  rintro e w2 ⟨k, f, b, rfl, hp, _, hb2⟩
  have hbW := hb1.trans hb2
  obtain ⟨⟨r0, r1, r2⟩, g0, g1, g2⟩ := (Var3.new w 0 0 (ByteArray.mk #[]) _).aside (below_aside (r := w.heap.size + 1) hbW (Nat.le_refl _)) (by simp) (by omega)
  have hb : Below w.heap.size w w2 := (below_box _ (Nat.le_refl _)).trans (hbW.mono (by simp))
  clear hb1 hb2 hbW
  go_wp2
  refine bodyPost_ret (v := .agg #[.int .i64 k, .int .i64 f, .string b]) ?_ rfl ?_
  · simp [results, Try.results13, go_sem, r0, r1, r2]
  · exact ⟨k, f, b, rfl, hp, ((hb.setCell (Nat.le_refl _) _).setCell (Nat.le_refl _) _).setCell (Nat.le_refl _) _⟩

set_option maxHeartbeats 1000000 in
theorem drawChunkPut_any (a : Option Addr) (len cap : Nat) (zs : List Int) (w : World) (h : IsRow .u8 w a len cap zs) :
    Calls Try.prog 8 #[.slice a len cap] w (DrewCh w) := by
  have H := Lib.hid h
  clear h
  go_enter Try.func8, Try.ntmps8
  go_wp2_with fail
  refine (l6Open_any a len cap zs _ (H.out.keep (below_box _ (Nat.le_refl _)))).mono ?_
  rintro e w1 ⟨r, rfl, hr1, hb1⟩
  go_wp2_with fail
  refine (l91Chunk_any _ r 0 _ hr1 (by omega)).mono ?_
  rintro e w2 ⟨k, f, b, rfl, hp, _, hb2⟩
  have hbW := hb1.trans hb2
  obtain ⟨⟨r0, r1, r2⟩, g0, g1, g2⟩ := (Var3.new w 0 0 (ByteArray.mk #[]) _).aside (below_aside (r := w.heap.size + 1) hbW (Nat.le_refl _)) (by simp) (by omega)
  have hb : Below w.heap.size w w2 := (below_box _ (Nat.le_refl _)).trans (hbW.mono (by simp))
  clear hb1 hb2 hbW
  go_wp2
  refine bodyPost_ret (v := .agg #[.int .i64 k, .int .i64 f, .string b]) ?_ rfl ?_
  · simp [results, Try.results8, go_sem, r0, r1, r2]
  · exact ⟨k, f, b, rfl, hp, ((hb.setCell (Nat.le_refl _) _).setCell (Nat.le_refl _) _).setCell (Nat.le_refl _) _⟩

/-- The bytes of a chunk, or none. -/
def PutS (w : World) (e : Ending) (w' : World) : Prop := ∃ t : ByteArray, e = .returned (.string t) ∧ t.size ≤ 64 ∧ Below w.heap.size w w'
theorem sChunkPut_some (k f : Int) (b : ByteArray) (w : World) :
    Calls Try.prog 10 #[.agg #[.int .i64 k, .int .i64 f, .string b]] w (PutS w) := by
  by_cases h : Chk k f b
  · refine (sChunkPut_yes k f b w h).mono ?_
    rintro e w' ⟨rfl, hb⟩
    exact ⟨_, rfl, chunkS_le k f b h.2.2, hb⟩
  · refine (sChunkPut_no k f b w h).mono ?_
    rintro e w' ⟨rfl, hb⟩
    exact ⟨_, rfl, by decide, hb⟩

end Go.Proofs.Ythogaffeeadnhab
