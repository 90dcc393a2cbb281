/- The program's chain as a list of records. -/
import Derived.Test.YtodpbjomiplphabK79
import Derived.Test.YtodpbjomiplphabK40
import Derived.Deep.AppendLies
import Derived.IntWalk
namespace Go.Proofs.Ytodpbjomiplphab
open Go.RowKit Go.PlainAid

theorem past_c {w : World} {p : Addr} {v : Value} (h : w.cell? p = some v) (o : Obj) : (w.alloc o).cell? p = some v := (World.cell?_alloc_lt _ _ _ (World.block_lt_of_cell? w p h)).trans h
/-- A slice of records of one's own. -/
structure Own (k : Nat) (v : Value) (rs : List (Int × ByteArray)) (w W : World) : Prop where
  own : W.ownsRow w.heap.size 33 2 v k (flatR rs)
  b : Below w.heap.size w W

section
variable {k : Nat} {v : Value} {rs : List (Int × ByteArray)} {w W W' : World}
theorem Own.up (h : Own k v rs w W) (hb : Below W.heap.size W W') : Own k v rs w W' := by
  refine ⟨⟨h.own.1, ?_⟩, h.b.trans (hb.mono h.b.size)⟩
  rcases h.own.2 with h1 | ⟨g, cap, cur, h1, h2, h3, h4⟩
  · exact .inl h1
  · have hg : g < W.heap.size := (Array.getElem?_eq_some_iff.1 h3).1
    exact .inr ⟨g, cap, cur, h1, h2, by rw [hb.block g hg]; exact h3, h4⟩
theorem Own.base {g : Nat} (h : Own k v rs w W) (hv : v.ownBlock = some g) : w.heap.size ≤ g := by
  rcases h.own.2 with ⟨h1, _⟩ | ⟨g', cap', cur, h1, h2, _⟩
  · rw [h1] at hv
    cases hv
  · rw [h1] at hv
    obtain rfl : g' = g := by simpa [Value.ownBlock] using hv
    exact h2
theorem Own.push {W1 : World} {g2 cap2 : Nat} {c : Int × ByteArray} (h : Own k v rs w W) (hgrow : W.grownBy W1 v.ownBlock) (hown : W1.ownsRow w.heap.size 33 2 (.slice (some ⟨g2, 0, none⟩) (k + 1) cap2) (k + 1) (flatR rs ++ [.int .i64 c.1, .string c.2])) : Own (k + 1) (.slice (some ⟨g2, 0, none⟩) (k + 1) cap2) (rs ++ [c]) w W1 :=
  ⟨by rw [flatR_append]; exact hown, Below.grown h.b hgrow h.b.size fun x hx => h.base hx⟩
theorem Own.rcs {a : Option Addr} {cap : Nat} (h : Own k (.slice a k cap) rs w W) : Rcs W a k cap rs := own_rcs h.own
theorem Own.nil (w : World) : Own 0 (.slice none 0 0) [] w w := ⟨⟨rfl, .inl ⟨rfl, rfl⟩⟩, Below.refl _ _⟩
end

set_option maxHeartbeats 2000000 in
theorem list_any (C n : Nat) (b : Nat → Nat) (rs : List (Int × ByteArray)) (w : World) (h : Chain w C n b rs) (hn : n ≤ 60) :
    Calls Try.prog 30 #[.pointer (some ⟨C, 0, none⟩)] w fun e w' => ∃ a cap, e = .returned (.slice a n cap) ∧ Own n (.slice a n cap) rs w w' := by
  have HC := Lib.hid h
  have hlen := h.len
  have c0 := h.c0
  have O0 := Lib.hid (Own.nil w)
  obtain ⟨i0, hi, hz0, hz1, hz2⟩ := info_parts info_rc
  have HI := Lib.hid (And.intro hi (And.intro hz0 (And.intro hz1 hz2)))
  clear hi hz0 hz1 hz2
  clear h
  go_enter Try.func30, Try.ntmps30
  go_wp2
  go_loopw [3, 4] (fun v p wr => ∃ (k : Nat) (a : Option Addr) (cap : Nat), k ≤ n ∧ v = .slice a k cap ∧ p = .pointer (nxt b n k) ∧ Hid (Own k (.slice a k cap) (rs.take k) w wr)) (fun v _ _ => n - (match v with | .slice _ m _ => m | _ => 0))
  case atStart => exact ⟨0, none, 0, Nat.zero_le _, rfl, rfl, O0⟩
  case round =>
    obtain ⟨k, a, cap, hk, rfl, rfl, hr⟩ := hrel
    clear O0 c0
    by_cases hlt : k < n
    · have lk := HC.out.links k hlt
      have llt := lk.lt
      rw [nxt_some hlt]
      obtain ⟨t, ht⟩ : ∃ t, (rcAt rs k).1 = t := ⟨_, rfl⟩
      obtain ⟨y, hy⟩ : ∃ b, (rcAt rs k).2 = b := ⟨_, rfl⟩
      have ET := Lib.hid (show rs.take (k + 1) = rs.take k ++ [(t, y)] by rw [take_rcAt (by omega), show rcAt rs k = (t, y) from Prod.ext ht hy])
      have l0 := kept_cell hr.out.b llt lk.c0
      have l1 := kept_cell hr.out.b llt lk.c1
      have l2 := kept_cell hr.out.b llt lk.c2
      rw [ht] at l0
      rw [hy] at l1
      have SA := Lib.hid (hr.out.up (below_box (.cells #[.int .i64 t, .string y] 33) (Nat.le_refl _)))
      have hsz := hr.out.b.size
      have NB : some (b k) ≠ (Value.slice a k cap).ownBlock := fun e => by
        have := hr.out.base e.symm
        omega
      have HNB := Lib.hid NB
      obtain ⟨d, hd⟩ : ∃ d, b k = d := ⟨_, rfl⟩
      rw [hd] at l0 l1 l2 llt HNB ⊢
      clear ht hy lk hd NB hr
      go_wp2_with (at_builtin; go_loud (refine wpList_append_lies _ rfl _ _ 24 rfl w.heap.size 33 i0 (.agg #[.int .i64 0, .string (ByteArray.mk #[])]) 2 24 Try.underlying24 HI.out.1 HI.out.2.1 HI.out.2.2.1 HI.out.2.2.2 rfl (by decide) (.slice a k cap) k (flatR (rs.take k)) rfl SA.out.own ⟨wr.heap.size, 0, none⟩ 1 1 [.int .i64 t, .string y] rfl rfl (news_box rfl) (by simp [Value.oneCell']) (by decide) (by unfold maxLen; omega) (by omega) (by simp; omega) _ rfl ?_))
      intro g2 cap2 w9 hown hgrow hat hlt9
      have SP := Lib.hid (show Own (k + 1) (.slice (some ⟨g2, 0, none⟩) (k + 1) cap2) (rs.take (k + 1)) w w9 by rw [ET.out]; exact SA.out.push (c := (t, y)) hgrow hown)
      have x2 := (hgrow.cell_far ⟨d, 2, none⟩ (by simp; omega) HNB.out).trans (show (wr.alloc (.cells #[.int .i64 t, .string y] 33)).cell? ⟨d, 2, none⟩ = _ from past_c l2 _)
      clear SA hown hgrow hat hlt9 l0 l1 l2 HNB
      go_wp2
      go_roundw
      case rel => exact ⟨k + 1, some ⟨g2, 0, none⟩, cap2, by omega, rfl, rfl, SP⟩
      case measure => simp; omega
    · obtain rfl : k = n := by omega
      have e : rs.take k = rs := List.take_of_length_le (by omega)
      rw [nxt_none (b := b) (n := k) (i := k) (by omega)]
      have HR := hr.out
      rw [e] at HR
      have HR := Lib.hid HR
      clear hr
      go_wp2
      go_ret
      exact ⟨a, cap, rfl, HR.out⟩

end Go.Proofs.Ytodpbjomiplphab
