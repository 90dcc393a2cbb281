/- The contracts of chapter 13's model: packets, read. -/
import Derived.Test.YtcpdpamoddmpaaaK44
import Derived.Test.YtcpdpamoddmpaaaK14
import Derived.Test.YtcpdpamoddmpaaaK40
namespace Go.Proofs.Ytcpdpamoddmpaaa
open Go.RowKit Go.PlainAid

/-- The code of bytes that are no packet. -/
def codeOf (s : ByteArray) : Int := if s.size < 12 then 1 else if be s 8 4 = sum13 s then 3 else 2
def noPackV (n : Int) : Value := .tuple #[.agg #[.int .i64 0, .int .i64 0, .int .i64 0, .slice none 0 0], .int .i64 n]
/-- What the reading of a packet answers: the packet with its chunks in memory that is new, or a code. -/
def GotP (w : World) (s : ByteArray) (e : Ending) (w' : World) : Prop :=
  (∃ f t g cs x cap, PackIs s f t g cs ∧ e = .returned (.tuple #[.agg #[.int .i64 f, .int .i64 t, .int .i64 g, .slice (some ⟨x, 0, none⟩) cs.length cap], .int .i64 0]) ∧ w.heap.size ≤ x ∧ Chs w' (some ⟨x, 0, none⟩) cs.length cap cs)
  ∨ ((∀ f t g cs, ¬ PackIs s f t g cs) ∧ e = .returned (noPackV (codeOf s)))
theorem codeOf_short {s : ByteArray} (h : s.size < 12) : codeOf s = 1 := if_pos h
theorem codeOf_sum {s : ByteArray} (h : 12 ≤ s.size) (hs : be s 8 4 ≠ sum13 s) : codeOf s = 2 := by
  unfold codeOf
  rw [if_neg (by omega), if_neg hs]
theorem codeOf_bad {s : ByteArray} (h : 12 ≤ s.size) (hs : be s 8 4 = sum13 s) : codeOf s = 3 := by
  unfold codeOf
  rw [if_neg (by omega), if_pos hs]
theorem noPack_short {s : ByteArray} (h : s.size < 12) : ∀ f t g cs, ¬ PackIs s f t g cs := fun _ _ _ _ h2 => by have := h2.1; omega
theorem noPack_sum {s : ByteArray} (hs : be s 8 4 ≠ sum13 s) : ∀ f t g cs, ¬ PackIs s f t g cs := fun _ _ _ _ h2 => hs h2.2.1
theorem noPack_stuck {s : ByteArray} {cs : List (Int × Int × ByteArray)} {q : Nat} (hr : Run s 12 cs q) (hq : ¬ Has s q) (hz : q < s.size) : ∀ f t g cs, ¬ PackIs s f t g cs := fun _ _ _ _ h2 => by
  have := (run_stuck hr h2.2.2.2.1 hq (has_not_end s)).2
  omega
theorem noPack_bad {s : ByteArray} {cs : List (Int × Int × ByteArray)} (hr : Run s 12 cs s.size) (hn : ¬ PackOk (be s 0 2) (be s 2 2) (be s 4 4) cs) : ∀ f t g cs, ¬ PackIs s f t g cs := fun _ _ _ _ h2 => by
  obtain ⟨_, _, ⟨rfl, rfl, rfl⟩, hr2, ho⟩ := h2
  have := (run_stuck hr hr2 (has_not_end s) (has_not_end s)).1
  subst this
  exact hn ho
theorem info_ch : (Try.prog.info? 32).map (fun i => (i.zero, i.size, i.bytes)) = some (some (.agg #[.int .i64 0, .int .i64 0, .string (ByteArray.mk #[])]), 3, 32) := by kernel_rfl

/-- While a packet is read: the result's variable at r, the packet's at p, its chunks in a block of one's own. -/
structure Rdp (w : World) (r p : Nat) (f t n : Int) (g k cap : Nat) (cs : List (Int × Int × ByteArray)) (W : World) : Prop where
  own : W.ownsRow p 32 3 (.slice (some ⟨g, 0, none⟩) k cap) k (flatC cs)
  gp : g ≠ p + 1
  pv : VarN (p + 1) [.int .i64 f, .int .i64 t, .int .i64 n, .slice (some ⟨g, 0, none⟩) k cap] W
  rv : VarN r [.int .i64 0, .int .i64 0, .int .i64 0, .slice none 0 0] W
  b : Below w.heap.size w W
  rp : r < p
  wp : w.heap.size ≤ r

section
variable {w W W' : World} {r p : Nat} {f t n : Int} {g k cap : Nat} {cs : List (Int × Int × ByteArray)}
theorem Rdp.glt (h : Rdp w r p f t n g k cap cs W) : g < W.heap.size := rowLt h.own
theorem Rdp.plt (h : Rdp w r p f t n g k cap cs W) : p + 1 < W.heap.size := lt_of_cell (h.pv 0 _ rfl).1
theorem Rdp.gge (h : Rdp w r p f t n g k cap cs W) : p ≤ g := own_ge h.own rfl
theorem Rdp.up (h : Rdp w r p f t n g k cap cs W) (hb : Below W.heap.size W W') : Rdp w r p f t n g k cap cs W' := by
  have h1 := h.plt
  have h2 := h.rp
  exact ⟨rowBelow h.own hb h.glt, h.gp, h.pv.below hb h1, h.rv.below hb (by omega), h.b.trans (hb.mono h.b.size), h.rp, h.wp⟩
theorem Rdp.push {W1 : World} {g2 cap2 : Nat} {c : Int × Int × ByteArray} (h : Rdp w r p f t n g k cap cs W) (hgrow : W.grownBy W1 (some g)) (hown : W1.ownsRow p 32 3 (.slice (some ⟨g2, 0, none⟩) (k + 1) cap2) (k + 1) (flatC cs ++ [.int .i64 c.1, .int .i64 c.2.1, .string c.2.2]))
    (hat : g = g2 ∨ g2 = W.heap.size) : Rdp w r p f t n g2 (k + 1) cap2 (cs ++ [c]) (W1.setCell ⟨p + 1, 3, none⟩ (.slice (some ⟨g2, 0, none⟩) (k + 1) cap2)) := by
  have h1 := h.plt
  have h2 := h.glt
  have h3 := h.rp
  have h4 := h.gge
  have h5 := h.gp
  have h6 := h.wp
  have hne : g2 ≠ p + 1 := by rcases hat with rfl | rfl <;> omega
  exact ⟨rowFar (by rw [flatC_append]; exact hown) hne _, hne, (h.pv.plus hgrow h1 (by omega)).set (i := 3) _, (h.rv.plus hgrow (by omega) (by omega)).far _ (by omega),
    (Below.grown h.b hgrow h.b.size fun x hx => by cases hx; omega).setCell (p := ⟨p + 1, 3, none⟩) (by show w.heap.size ≤ p + 1; omega) _, h3, h6⟩
end

end Go.Proofs.Ytcpdpamoddmpaaa
