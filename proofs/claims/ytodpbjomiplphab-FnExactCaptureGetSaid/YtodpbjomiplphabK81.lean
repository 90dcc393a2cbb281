/- The contracts of the exact laws' marks: what is written into the records of an answer, and whether it still lies there. -/
import Derived.Test.YtodpbjomiplphabK77
import Derived.Test.YtodpbjomiplphabK82
import Derived.Test.YtodpbjomiplphabK15
import Derived.Deep.RegionHeldLaw
import Derived.Handy
namespace Go.Proofs.Ytodpbjomiplphab
open Go.RowKit Go.PlainAid

def dg (k : Int) : ByteArray := strOfNums [48 + k]
/-- The text of a mark. -/
def mT (k : Int) : ByteArray :=
  if k < 10 then ByteArray.mk #[109] ++ (dg k ++ ByteArray.mk #[])
  else if k < 100 then ByteArray.mk #[109] ++ (dg (k / 10) ++ (dg (k % 10) ++ ByteArray.mk #[]))
  else ByteArray.mk #[109] ++ (dg (k / 10 / 10) ++ (dg (k / 10 % 10) ++ (dg (k % 10) ++ ByteArray.mk #[])))
theorem wrap_dg (k : Int) (h0 : 0 ≤ k) (h1 : k < 10) : IntKind.i64.wrap (48 + k) = 48 + k ∧ IntKind.u8.wrap (48 + k) = 48 + k :=
  ⟨IntWalk.i64_in _ (by omega), by show (48 + k) % 256 = 48 + k; omega⟩
theorem tmod_ten (k : Int) (h0 : 0 ≤ k) : k.tmod 10 = k % 10 := Int.tmod_eq_emod_of_nonneg h0
theorem tdiv_ten (k : Int) (h0 : 0 ≤ k) : k.tdiv 10 = k / 10 := Int.tdiv_eq_ediv_of_nonneg h0

set_option maxHeartbeats 1000000 in
theorem markText_one (k : Int) (w : World) (h0 : 0 < k) (h1 : k < 10) :
    Calls Try.prog 41 #[.int .i64 k] w fun e w' => e = .returned (.string (mT k)) ∧ Below w.heap.size w w' := by
  have hcv := conv_single
  have hm : mT k = ByteArray.mk #[109] ++ (dg k ++ ByteArray.mk #[]) := if_pos h1
  rw [hm]
  have hz := strOfNums_size [48 + k]
  have m1 : k.tmod 10 = k := by rw [tmod_ten _ (by omega)]; omega
  have d1 : k.tdiv 10 = 0 := by rw [tdiv_ten _ (by omega)]; omega
  obtain ⟨e1, e2⟩ := wrap_dg k (by omega) h1
  go_enter Try.func41, Try.ntmps41
  go_wp2
  refine wp_loop_rounds 2 ?_
  rw [rounds_succ]
  go_wp2
  rw [rounds_succ]
  go_wp2
  go_ret
  exact ⟨rfl, below_box _ (Nat.le_refl _)⟩

set_option maxHeartbeats 1000000 in
theorem markText_two (k : Int) (w : World) (h0 : 10 ≤ k) (h1 : k < 100) :
    Calls Try.prog 41 #[.int .i64 k] w fun e w' => e = .returned (.string (mT k)) ∧ Below w.heap.size w w' := by
  have hcv := conv_single
  have hm : mT k = ByteArray.mk #[109] ++ (dg (k / 10) ++ (dg (k % 10) ++ ByteArray.mk #[])) := by
    unfold mT
    rw [if_neg (by omega), if_pos h1]
  rw [hm]
  obtain ⟨a, ha⟩ : ∃ a, k % 10 = a := ⟨_, rfl⟩
  obtain ⟨b, hb⟩ : ∃ b, k / 10 = b := ⟨_, rfl⟩
  have m1 : k.tmod 10 = a := by rw [tmod_ten _ (by omega)]; exact ha
  have d1 : k.tdiv 10 = b := by rw [tdiv_ten _ (by omega)]; exact hb
  rw [ha, hb]
  have a0 : 0 ≤ a := by omega
  have a1 : a < 10 := by omega
  have b0 : 0 < b := by omega
  have b1 : b < 10 := by omega
  have m2 : b.tmod 10 = b := by rw [tmod_ten _ (by omega)]; omega
  have d2 : b.tdiv 10 = 0 := by rw [tdiv_ten _ (by omega)]; omega
  obtain ⟨e1, e2⟩ := wrap_dg a a0 a1
  obtain ⟨e3, e4⟩ := wrap_dg b (by omega) b1
  have hz1 := strOfNums_size [48 + a]
  have hz2 := strOfNums_size [48 + b]
  clear ha hb hm
  go_enter Try.func41, Try.ntmps41
  go_wp2
  refine wp_loop_rounds 3 ?_
  rw [rounds_succ]
  go_wp2
  rw [rounds_succ]
  go_wp2
  rw [rounds_succ]
  go_wp2
  go_ret
  exact ⟨rfl, (below_box _ (Nat.le_refl _)).alloc (by simp) _⟩

set_option maxHeartbeats 1000000 in
theorem markText_three (k : Int) (w : World) (h0 : 100 ≤ k) (h1 : k < 1000) :
    Calls Try.prog 41 #[.int .i64 k] w fun e w' => e = .returned (.string (mT k)) ∧ Below w.heap.size w w' := by
  have hcv := conv_single
  have hm : mT k = ByteArray.mk #[109] ++ (dg (k / 10 / 10) ++ (dg (k / 10 % 10) ++ (dg (k % 10) ++ ByteArray.mk #[]))) := by
    unfold mT
    rw [if_neg (by omega), if_neg (by omega)]
  rw [hm]
  obtain ⟨a, ha⟩ : ∃ a, k % 10 = a := ⟨_, rfl⟩
  obtain ⟨b, hb⟩ : ∃ b, k / 10 = b := ⟨_, rfl⟩
  have m1 : k.tmod 10 = a := by rw [tmod_ten _ (by omega)]; exact ha
  have d1 : k.tdiv 10 = b := by rw [tdiv_ten _ (by omega)]; exact hb
  rw [ha, hb]
  have a0 : 0 ≤ a := by omega
  have a1 : a < 10 := by omega
  have b0 : 10 ≤ b := by omega
  have b1 : b < 100 := by omega
  obtain ⟨c, hc⟩ : ∃ c, b % 10 = c := ⟨_, rfl⟩
  obtain ⟨d, hd⟩ : ∃ d, b / 10 = d := ⟨_, rfl⟩
  have m2 : b.tmod 10 = c := by rw [tmod_ten _ (by omega)]; exact hc
  have d2 : b.tdiv 10 = d := by rw [tdiv_ten _ (by omega)]; exact hd
  rw [hc, hd]
  have c0 : 0 ≤ c := by omega
  have c1 : c < 10 := by omega
  have f0 : 0 < d := by omega
  have f1 : d < 10 := by omega
  have bp : 0 < b := by omega
  have m3 : d.tmod 10 = d := by rw [tmod_ten _ (by omega)]; omega
  have d3 : d.tdiv 10 = 0 := by rw [tdiv_ten _ (by omega)]; omega
  obtain ⟨e1, e2⟩ := wrap_dg a a0 a1
  obtain ⟨e3, e4⟩ := wrap_dg c c0 c1
  obtain ⟨e5, e6⟩ := wrap_dg d (by omega) f1
  have hz1 := strOfNums_size [48 + a]
  have hz2 := strOfNums_size [48 + c]
  have hz3 := strOfNums_size [48 + d]
  clear ha hb hm hc hd
  go_enter Try.func41, Try.ntmps41
  go_wp2
  refine wp_loop_rounds 4 ?_
  rw [rounds_succ]
  go_wp2
  rw [rounds_succ]
  go_wp2
  rw [rounds_succ]
  go_wp2
  rw [rounds_succ]
  go_wp2
  go_ret
  exact ⟨rfl, ((below_box _ (Nat.le_refl _)).alloc (by simp) _).alloc (by simp; omega) _⟩

theorem markText_any (k : Int) (w : World) (h0 : 0 < k) (h1 : k < 1000) :
    Calls Try.prog 41 #[.int .i64 k] w fun e w' => e = .returned (.string (mT k)) ∧ Below w.heap.size w w' := by
  by_cases h2 : k < 10
  · exact markText_one k w h0 h2
  · by_cases h3 : k < 100
    · exact markText_two k w (by omega) h3
    · exact markText_three k w (by omega) h1

/-- The marks of n records. -/
def marksR (n : Nat) : List (Int × ByteArray) := (List.range n).map fun i : Nat => (1 + 2 * (i : Int), mT (2 + 2 * (i : Int)))
theorem marksR_length (n : Nat) : (marksR n).length = n := by simp [marksR]
theorem marksR_at (n k : Nat) (h : k < n) : rcAt (marksR n) k = (1 + 2 * (k : Int), mT (2 + 2 * (k : Int))) := by
  unfold rcAt
  rw [List.getD_eq_getElem?_getD]
  simp [marksR, h]
theorem own_filR {w : World} {base g n cap : Nat} {xs : List Value} (cs : List (Int × ByteArray)) (h : w.ownsRow base 33 2 (.slice (some ⟨g, 0, none⟩) n cap) n xs) : FilR g n 0 cs w ∧ FreeR g w ∧ n ≤ cap ∧ cap ≤ maxLen ∧ base ≤ g ∧ g < w.heap.size := by
  rcases h.2 with ⟨h1, _⟩ | ⟨g', cap', cur, h1, h2, h3, h4, h5, h6, _⟩
  · exact absurd h1 (by intro e; cases e)
  · obtain ⟨rfl, _, rfl⟩ : g = g' ∧ True ∧ cap = cap' := by simpa using h1
    refine ⟨fun i hi => ?_, fun j => by unfold World.frozen?; simp [h3], h4, h5, h2, (Array.getElem?_eq_some_iff.1 h3).1⟩
    have q1 : i * 2 < cur.size := by omega
    have q2 : i * 2 + 1 < cur.size := by omega
    exact ⟨cur[i * 2], cur[i * 2 + 1], by unfold World.cell?; simp [h3, q1], by unfold World.cell?; simp [h3, q2], fun h => absurd h (by omega)⟩
/-- Of the blocks that were there none but g's has turned, and none below g. -/
structure MwR (g : Nat) (w W : World) : Prop where
  a : Aside w.heap.size g w W
  b : Below g w W
  z : w.heap.size ≤ W.heap.size
  l : g < w.heap.size
theorem MwR.set {g i : Nat} {w W : World} (h : MwR g w W) (v : Value) : MwR g w (W.setCell ⟨g, i, none⟩ v) :=
  ⟨fun b hb hr => (Below.heap_setCell W ⟨g, i, none⟩ v b (by simpa using hr)).trans (h.a b hb hr), h.b.setCell (p := ⟨g, i, none⟩) (Nat.le_refl _) v, by simpa using h.z, h.l⟩
theorem MwR.grow {g : Nat} {w W W' : World} (h : MwR g w W) (hb : Below W.heap.size W W') : MwR g w W' :=
  ⟨h.a.trans (below_aside hb h.z), h.b.trans (hb.mono (by have := h.z; have := h.l; omega)), Nat.le_trans h.z hb.size, h.l⟩

set_option maxHeartbeats 2000000 in
theorem markRecordS_any (g n cap : Nat) (w : World) (hn : n ≤ 60) (hg : g < w.heap.size) (h : FilR g n 0 (marksR n) w) (hf : FreeR g w) :
    Calls Try.prog 24 #[.slice (some ⟨g, 0, none⟩) n cap, .int .i64 1] w fun e w' => e = .returned (.int .i64 (1 + 2 * (n : Int))) ∧ FilR g n n (marksR n) w' ∧ MwR g w w' := by
  have HF := Lib.hid (And.intro h (And.intro hf (show MwR g w w from ⟨Aside.refl _ _ _, Below.refl _ _, Nat.le_refl _, hg⟩)))
  clear h hf
  go_enter Try.func24, Try.ntmps24
  go_wp2
  go_loopw [1, 5] (fun m i wr => ∃ j : Nat, j ≤ n ∧ i = .int .i64 j ∧ m = .int .i64 (1 + 2 * (j : Int)) ∧ Hid (FilR g n j (marksR n) wr ∧ FreeR g wr ∧ MwR g w wr)) (fun _ i _ => n - (intOf i).toNat)
  case atStart => exact ⟨0, Nat.zero_le _, rfl, rfl, HF⟩
  case round =>
    obtain ⟨j, hj, rfl, rfl, hfi⟩ := hrel
    clear HF
    by_cases hlt : j < n
    · have hm := marksR_at n j hlt
      obtain ⟨F0, R0, M0⟩ := hfi.out
      obtain ⟨u, v, s0, s1, _⟩ := F0 j hlt
      have r0 := R0 (j * 2)
      have r1 := R0 (j * 2 + 1)
      have FA := F0.cell (i := j) (j := 0) (Nat.le_refl _) rfl (by omega) (.int .i64 (1 + 2 * (j : Int)))
      have RA := R0.set (e := g) (i := j * 2) (.int .i64 (1 + 2 * (j : Int)))
      have MA := M0.set (i := j * 2) (.int .i64 (1 + 2 * (j : Int)))
      have a0 : (wr.setCell ⟨g, j * 2, none⟩ (.int .i64 (1 + 2 * (j : Int)))).cell? ⟨g, j * 2, none⟩ = some (.int .i64 (1 + 2 * (j : Int))) := World.cell?_setCell_same _ _ _ s0
      have HA := Lib.hid (And.intro FA (And.intro RA (And.intro MA a0)))
      have k1 : IntKind.i64.wrap (1 + 2 * (j : Int) + 1) = 2 + 2 * (j : Int) := (IntWalk.i64_in _ (by omega)).trans (by omega)
      have k2 : IntKind.i64.wrap (2 + 2 * (j : Int) + 1) = 3 + 2 * (j : Int) := (IntWalk.i64_in _ (by omega)).trans (by omega)
      have HM := Lib.hid hm
      clear FA RA MA a0 hm hfi F0 R0 M0
      go_wp2_with fail
      refine (markText_any _ _ (by omega) (by omega)).mono ?_
      rintro e w8 ⟨rfl, hb8⟩
      have hgl : g < (wr.setCell ⟨g, j * 2, none⟩ (.int .i64 (1 + 2 * (j : Int)))).heap.size := Nat.lt_of_lt_of_le hg HA.out.2.2.1.z
      have F8 := HA.out.1.below hb8
      have R8 := HA.out.2.1.below hgl hb8
      have M8 := HA.out.2.2.1.grow hb8
      obtain ⟨u8, v8, q0, q1, _⟩ := F8 j hlt
      have t2 := R8 (j * 2 + 1)
      have HN := Lib.hid (show FilR g n (j + 1) (marksR n) (w8.setCell ⟨g, j * 2 + 1, none⟩ (.string (mT (2 + 2 * (j : Int))))) ∧ FreeR g (w8.setCell ⟨g, j * 2 + 1, none⟩ (.string (mT (2 + 2 * (j : Int))))) ∧ MwR g w (w8.setCell ⟨g, j * 2 + 1, none⟩ (.string (mT (2 + 2 * (j : Int))))) from
        ⟨(F8.cell (i := j) (j := 1) (Nat.le_refl _) rfl (by omega) (.string (mT (2 + 2 * (j : Int))))).step (c1 := 1 + 2 * (j : Int)) (c2 := mT (2 + 2 * (j : Int))) (by rw [HM.out]) (by rw [HM.out])
          (cell_other (by omega) (kept_cell hb8 hgl HA.out.2.2.2)) (World.cell?_setCell_same _ _ _ q1), R8.set _, M8.set _⟩)
      clear F8 R8 M8 hb8 hgl HA r0 r1 s0 s1 q0
      go_wp2
      go_roundw
      case rel => exact ⟨j + 1, by omega, by go_num, by go_num, HN⟩
      case measure => simp [intOf]; omega
    · obtain rfl : j = n := by omega
      go_wp2
      go_ret
      exact ⟨rfl, hfi.out.1, hfi.out.2.2⟩

theorem keptM {p : Addr} {v : Value} {w W W' : World} (h : W.cell? p = some v ∧ Below w.heap.size w W) (hb : Below W.heap.size W W') : W'.cell? p = some v ∧ Below w.heap.size w W' :=
  ⟨(hb.cell (World.block_lt_of_cell? W _ h.1)).trans h.1, h.2.trans (hb.mono h.2.size)⟩

set_option maxHeartbeats 2000000 in
theorem heldRecordS_any (a : Option Addr) (n cap : Nat) (w : World) (hn : n ≤ 60) (h : Rcs w a n cap (marksR n)) :
    Calls Try.prog 25 #[.slice a n cap, .int .i64 1] w fun e w' => e = .returned (.int .i64 (1 + 2 * (n : Int))) ∧ Below w.heap.size w w' := by
  have HG := Lib.hid h
  clear h
  go_enter Try.func25, Try.ntmps25
  go_wp2
  go_loopw [1, 5] (fun m i wr => ∃ j : Nat, j ≤ n ∧ i = .int .i64 j ∧ m = .int .i64 (1 + 2 * (j : Int)) ∧ Hid (Below w.heap.size w wr)) (fun _ i _ => n - (intOf i).toNat)
  case atStart => exact ⟨0, Nat.zero_le _, rfl, rfl, Lib.hid (Below.refl _ _)⟩
  case round =>
    obtain ⟨j, hj, rfl, rfl, hbel⟩ := hrel
    by_cases hlt : j < n
    · obtain ⟨x, rfl⟩ := HG.out.addr hlt
      obtain ⟨p0, p1⟩ := HG.out.at hbel.out hlt
      rw [marksR_at n j hlt] at p0 p1
      have k1 : IntKind.i64.wrap (1 + 2 * (j : Int) + 1) = 2 + 2 * (j : Int) := (IntWalk.i64_in _ (by omega)).trans (by omega)
      have k2 : IntKind.i64.wrap (2 + 2 * (j : Int) + 1) = 3 + 2 * (j : Int) := (IntWalk.i64_in _ (by omega)).trans (by omega)
      have hS := Lib.hid (keptM (W := wr) ⟨p1, hbel.out⟩ (Below.drew (Below.refl _ _)))
      go_wp2_with fail
      go_region_held_law (fun W => W.cell? ⟨(x.add (j * 2)).block, (x.add (j * 2)).off + 1, none⟩ = some (.string (mT (2 + 2 * (j : Int)))) ∧ Below w.heap.size w W)
        (first | with_reducible assumption | with_reducible exact hS.out | exact keptM (by assumption) (by assumption))
        (first | (go_simp; go_at_call 41; refine (markText_any _ _ (by omega) (by omega)).mono ?_; rintro e w' ⟨rfl, hbn⟩))
      all_goals
        go_wp2
        go_roundw
        case rel => exact ⟨j + 1, by omega, by go_num, by go_num, by go_split_ands; exact Lib.hid (by assumption)⟩
        case measure => simp [intOf]; omega
    · obtain rfl : j = n := by omega
      go_wp2
      go_ret
      exact ⟨rfl, hbel.out⟩

set_option maxHeartbeats 400000 in
theorem markRecordS_none (w : World) :
    Calls Try.prog 24 #[.slice none 0 0, .int .i64 1] w fun e w' => e = .returned (.int .i64 1) ∧ w' = w := by
  go_enter Try.func24, Try.ntmps24
  go_wp2
  go_loopw [1, 5] (fun m i wr => m = .int .i64 1 ∧ i = .int .i64 0 ∧ wr = w) (fun _ _ _ => 0)
  case atStart => exact ⟨rfl, rfl, rfl⟩
  case round =>
    obtain ⟨rfl, rfl, rfl⟩ := hrel
    go_wp2
    go_ret
    exact ⟨rfl, rfl⟩

theorem heldRecordS_none (w : World) :
    Calls Try.prog 25 #[.slice none 0 0, .int .i64 1] w fun e w' => e = .returned (.int .i64 1) ∧ Below w.heap.size w w' :=
  heldRecordS_any none 0 0 w (by omega) (.inl ⟨rfl, rfl, rfl, rfl⟩)
/-- Of the blocks that w had none has turned but, perhaps, those from B on. -/
theorem markOwn {k : Nat} {a : Option Addr} {cap : Nat} {rs : List (Int × ByteArray)} {w W : World} (h : Own k (.slice a k cap) rs w W) (hk : k ≤ 60) :
    Calls Try.prog 24 #[.slice a k cap, .int .i64 1] W fun e w' => e = .returned (.int .i64 (1 + 2 * (k : Int))) ∧ Rcs w' a k cap (marksR k) ∧ Below w.heap.size W w' ∧ (∀ x, x < W.heap.size → some x ≠ (Value.slice a k cap).ownBlock → w'.heap[x]? = W.heap[x]?) := by
  rcases h.own.2 with ⟨h1, h2⟩ | ⟨g, cap', cur, h1, _⟩
  · obtain ⟨rfl, rfl, rfl⟩ : a = none ∧ k = 0 ∧ cap = 0 := by simpa using h1
    refine (markRecordS_none W).mono ?_
    rintro e w' ⟨rfl, rfl⟩
    exact ⟨rfl, .inl ⟨rfl, rfl, rfl, rfl⟩, Below.refl _ _, fun _ _ _ => rfl⟩
  · obtain ⟨rfl, rfl⟩ : a = some ⟨g, 0, none⟩ ∧ cap = cap' := by simpa using h1
    obtain ⟨f1, f2, f3, f4, f5, f6⟩ := own_filR (marksR k) h.own
    refine (markRecordS_any g k cap W hk f6 f1 f2).mono ?_
    rintro e w' ⟨rfl, hf, hm⟩
    exact ⟨rfl, hf.rcs (marksR_length k) f3 f4, hm.b.mono f5, fun x hx hne => hm.a x hx fun e => hne (by rw [e]; rfl)⟩

end Go.Proofs.Ytodpbjomiplphab
