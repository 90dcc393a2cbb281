/- The contracts of chapter 22's model: where a part lies, whether an assembly is valid. -/
import Derived.Test.YtncbgejggfkdmabG24
import Derived.Test.YtncbgejggfkdmabK130
import Derived.Test.YtncbgejggfkdmabK19
import Derived.Test.YtncbgejggfkdmabK90
import Derived.Test.YtncbgejggfkdmabK129
namespace Go.Proofs.Ytncbgejggfkdmab
open Go.RowKit Go.PlainAid

theorem idx_no {ps : List Part} {t : Int} (h : ∀ i, i < ps.length → (pAt ps i).tsn ≠ t) : idxP ps t = none := by
  unfold idxP
  rw [List.findIdx?_eq_none_iff]
  intro p hp
  obtain ⟨k, hk, rfl⟩ := mem_at hp
  simpa using h k hk
/-- The place of a part with a number, as the model says it. -/
def idxV (ps : List Part) (t : Int) : Int := match idxP ps t with | some j => (j : Int) | none => -1
theorem idxV_some {ps : List Part} {t : Int} {j : Nat} (hj : j < ps.length) (ht : (pAt ps j).tsn = t) (hb : ∀ i, i < j → (pAt ps i).tsn ≠ t) : idxV ps t = (j : Int) := by
  unfold idxV
  rw [idx_is hj ht hb]
theorem idxV_none {ps : List Part} {t : Int} (h : ∀ i, i < ps.length → (pAt ps i).tsn ≠ t) : idxV ps t = -1 := by
  unfold idxV
  rw [idx_no h]
theorem idxV_hit {ps : List Part} {k : Nat} (hk : k < ps.length) : ∃ j, j ≤ k ∧ idxV ps (pAt ps k).tsn = (j : Int) ∧ (pAt ps j).tsn = (pAt ps k).tsn ∧ ∀ i, i < j → (pAt ps i).tsn ≠ (pAt ps k).tsn := by
  cases hx : idxP ps (pAt ps k).tsn with
  | none => exact absurd rfl (idx_none hx _ (pAt_mem hk))
  | some j =>
    obtain ⟨h1, h2, h3⟩ := idx_some hx
    refine ⟨j, Nat.le_of_not_lt fun h => h3 k h rfl, by unfold idxV; rw [hx], h2, h3⟩
/-- The parts before a place are well. -/
def PreOk (n : Nat) (ps : List Part) (k : Nat) : Prop := (∀ i, i < k → PartOk n (pAt ps i)) ∧ ∀ i j, i < j → j < k → (pAt ps i).tsn ≠ (pAt ps j).tsn
theorem pre_all {next : List Int} {ps : List Part} (hn : ∀ n ∈ next, Ser n) (h : PreOk next.length ps ps.length) (h1 : 1 ≤ next.length) (h4 : next.length ≤ 4) (h12 : ps.length ≤ 12) : AsmOk next ps where
  n1 := h1
  n4 := h4
  nums := hn
  few := h12
  ok := fun p hp => by
    obtain ⟨k, hk, rfl⟩ := mem_at hp
    exact h.1 k hk
  diff := by
    rw [List.nodup_iff_pairwise_ne, List.pairwise_iff_getElem]
    intro i j hi hj hij
    rw [List.length_map] at hi hj
    rw [List.getElem_map, List.getElem_map, pAt_get hi, pAt_get hj]
    exact h.2 i j hij hj
theorem AsmOk.pre {next : List Int} {ps : List Part} (ha : AsmOk next ps) : PreOk next.length ps ps.length := by
  refine ⟨fun i hi => ha.ok _ (pAt_mem hi), fun i j hij hj => ?_⟩
  have := ha.diff
  rw [List.nodup_iff_pairwise_ne, List.pairwise_iff_getElem] at this
  have := this i j (by rw [List.length_map]; omega) (by rw [List.length_map]; omega) hij
  rw [List.getElem_map, List.getElem_map, pAt_get (by omega), pAt_get hj] at this
  exact this
theorem PreOk.more {n : Nat} {ps : List Part} {k : Nat} (h : PreOk n ps k) (h1 : PartOk n (pAt ps k)) (h2 : ∀ i, i < k → (pAt ps i).tsn ≠ (pAt ps k).tsn) : PreOk n ps (k + 1) := by
  refine ⟨fun i hi => ?_, fun i j hij hj => ?_⟩
  · by_cases e : i = k
    · subst e; exact h1
    · exact h.1 i (by omega)
  · by_cases e : j = k
    · subst e; exact h2 i hij
    · exact h.2 i j hij (by omega)
theorem asmOk_iff (next : List Int) (ps : List Part) : ((1 ≤ next.length ∧ next.length ≤ 4 ∧ ps.length ≤ 12) ∧ (∀ n ∈ next, 0 ≤ n ∧ n ≤ 65535) ∧ (∀ p ∈ ps, PartOk next.length p) ∧ (ps.map fun p => p.tsn).Nodup) ↔ AsmOk next ps :=
  ⟨fun h => ⟨h.1.1, h.1.2.1, fun n hn => by have := h.2.1 n hn; exact ⟨this.1, by omega⟩, h.1.2.2, h.2.2.1, h.2.2.2⟩,
   fun h => ⟨⟨h.n1, h.n4, h.few⟩, fun n hn => by have := h.nums n hn; exact ⟨this.1, by have := this.2; omega⟩, h.ok, h.diff⟩⟩
instance (next : List Int) (ps : List Part) : Decidable (AsmOk next ps) := decidable_of_iff _ (asmOk_iff next ps)
/-- Whether an assembly is valid. -/
def asmV (next : List Int) (ps : List Part) : Bool := decide (AsmOk next ps)
theorem asmV_yes {next : List Int} {ps : List Part} (h : AsmOk next ps) : asmV next ps = true := decide_eq_true h
theorem asmV_no {next : List Int} {ps : List Part} (h : ¬ AsmOk next ps) : asmV next ps = false := decide_eq_false h
theorem kept9 {a0 a1 a2 a3 a4 a5 a6 a7 a8 : Addr} {v0 v1 v2 v3 v4 v5 v6 v7 v8 : Value} {w W W' : World} (h : W.cell? a0 = some v0 ∧ W.cell? a1 = some v1 ∧ W.cell? a2 = some v2 ∧ W.cell? a3 = some v3 ∧ W.cell? a4 = some v4 ∧ W.cell? a5 = some v5 ∧ W.cell? a6 = some v6 ∧ W.cell? a7 = some v7 ∧ W.cell? a8 = some v8 ∧ Below w.heap.size w W) (hb : Below W.heap.size W W') : W'.cell? a0 = some v0 ∧ W'.cell? a1 = some v1 ∧ W'.cell? a2 = some v2 ∧ W'.cell? a3 = some v3 ∧ W'.cell? a4 = some v4 ∧ W'.cell? a5 = some v5 ∧ W'.cell? a6 = some v6 ∧ W'.cell? a7 = some v7 ∧ W'.cell? a8 = some v8 ∧ Below w.heap.size w W' :=
  ⟨(hb.cell (World.block_lt_of_cell? W _ h.1)).trans h.1, (hb.cell (World.block_lt_of_cell? W _ h.2.1)).trans h.2.1, (hb.cell (World.block_lt_of_cell? W _ h.2.2.1)).trans h.2.2.1, (hb.cell (World.block_lt_of_cell? W _ h.2.2.2.1)).trans h.2.2.2.1, (hb.cell (World.block_lt_of_cell? W _ h.2.2.2.2.1)).trans h.2.2.2.2.1, (hb.cell (World.block_lt_of_cell? W _ h.2.2.2.2.2.1)).trans h.2.2.2.2.2.1, (hb.cell (World.block_lt_of_cell? W _ h.2.2.2.2.2.2.1)).trans h.2.2.2.2.2.2.1, (hb.cell (World.block_lt_of_cell? W _ h.2.2.2.2.2.2.2.1)).trans h.2.2.2.2.2.2.2.1, (hb.cell (World.block_lt_of_cell? W _ h.2.2.2.2.2.2.2.2.1)).trans h.2.2.2.2.2.2.2.2.1, h.2.2.2.2.2.2.2.2.2.trans (hb.mono h.2.2.2.2.2.2.2.2.2.size)⟩

set_option maxHeartbeats 1000000 in
theorem l22At_any (a : Option Addr) (len cap : Nat) (ps : List Part) (t : Int) (w : World) (h : Pts w a len cap ps) :
    Calls Try.prog 46 #[.slice a len cap, .int .i64 t] w fun e w' => e = .returned (.int .i64 (idxV ps t)) ∧ Below w.heap.size w w' := by
  have hl := h.length
  have hm := h.len_int
  have HG := Lib.hid h
  clear h
  go_enter Try.func46, Try.ntmps46
  go_wp2
  go_loopw [5] (fun i wr => ∃ k : Nat, k ≤ len ∧ i = .int .i64 k ∧ Hid (∀ i, i < k → (pAt ps i).tsn ≠ t) ∧ Hid (Below w.heap.size w wr)) (fun i _ => len - (intOf i).toNat)
  case atStart => exact ⟨0, Nat.zero_le _, rfl, Lib.hid (fun i hi => absurd hi (Nat.not_lt_zero _)), Lib.hid (Below.refl _ _)⟩
  case round =>
    obtain ⟨k, hk, rfl, hno, hbel⟩ := hrel
    by_cases hlt : k < len
    · obtain ⟨x, rfl⟩ := HG.out.addr hlt
      have p0 := (HG.out.at hbel.out hlt).1
      have hkl : k < ps.length := by omega
      obtain ⟨e, he⟩ : ∃ e, (pAt ps k).tsn = e := ⟨_, rfl⟩
      rw [he] at p0
      have HE := Lib.hid he
      clear he
      by_cases hen : e = t
      · have V := Lib.hid (idxV_some hkl (HE.out.trans hen) hno.out)
        subst hen
        go_wp2
        go_ret
        exact ⟨congrArg (fun z => Ending.returned (Value.int IntKind.i64 z)) V.out.symm, hbel.out⟩
      · have O := Lib.hid (show ∀ i, i < k + 1 → (pAt ps i).tsn ≠ t by
          intro i hi
          by_cases e1 : i = k
          · subst e1; rw [HE.out]; exact hen
          · exact hno.out i (by omega))
        go_wp2
        go_roundw
        case rel => exact ⟨k + 1, by omega, by go_num, O, hbel⟩
        case measure => simp [intOf]; omega
    · obtain rfl : k = len := by omega
      have V := Lib.hid (idxV_none (ps := ps) (t := t) (by have := hno.out; rw [hl]; exact this))
      go_wp2
      go_ret
      exact ⟨congrArg (fun z => Ending.returned (Value.int IntKind.i64 z)) V.out.symm, hbel.out⟩

set_option maxRecDepth 8000 in
set_option maxHeartbeats 4000000 in
theorem sAsmValid_any (an : Option Addr) (ln cn : Nat) (next : List Int) (ap : Option Addr) (lp cp : Nat) (ps : List Part) (w : World) (h : Ns w an ln cn next) (hp : Pts w ap lp cp ps) :
    Calls Try.prog 18 #[.agg #[.slice an ln cn, .slice ap lp cp]] w fun e w' => e = .returned (.bool (asmV next ps)) ∧ Below w.heap.size w w' := by
  have hl := h.length
  have hm := h.len_int
  have HG := Lib.hid h
  have hlp := hp.length
  have hmp := hp.len_int
  have HP := Lib.hid hp
  clear h hp
  go_enter Try.func18, Try.ntmps18
  go_wp2
  go_loopw [3] (fun i wr => ∃ k : Nat, k ≤ ln ∧ i = .int .i64 k ∧ Hid (∀ n ∈ next.take k, Ser n) ∧ wr.cell? ⟨w.heap.size, 0, none⟩ = some (.slice an ln cn) ∧ wr.cell? ⟨w.heap.size, 1, none⟩ = some (.slice ap lp cp) ∧ Hid (Below w.heap.size w wr)) (fun i _ => ln - (intOf i).toNat)
  case atStart => exact ⟨0, Nat.zero_le _, rfl, Lib.hid (by simp), by simp, by simp, Lib.hid (below_box _ (Nat.le_refl _))⟩
  case round =>
    obtain ⟨k, hk, rfl, hok, hc0, hc1, hbel⟩ := hrel
    by_cases hlt : k < ln
    · obtain ⟨x, rfl⟩ := HG.out.addr hlt
      have p0 := HG.out.at hbel.out hlt
      have hkl : k < next.length := by omega
      obtain ⟨e, he⟩ : ∃ e, nAt next k = e := ⟨_, rfl⟩
      have HM := Lib.hid (nAt_mem hkl)
      rw [he] at p0 HM
      have HE := Lib.hid he
      clear he
      by_cases hs : Ser e
      · have HS := Lib.hid hs
        have O := Lib.hid (show ∀ n ∈ next.take (k + 1), Ser n by
          rw [take_nAt hkl, HE.out]
          intro n hn
          rcases List.mem_append.1 hn with hn | hn
          · exact hok.out n hn
          · rw [List.mem_singleton.1 hn]; exact hs)
        clear hs
        go_wp2_with fail
        refine (l3Ok_yes e _ HS.out).mono ?_
        rintro e w1 ⟨rfl, rfl⟩
        go_wp2
        go_roundw
        case rel => exact ⟨k + 1, by omega, by go_num, O, by simpa using hc0, by simpa using hc1, hbel⟩
        case measure => simp [intOf]; omega
      · have HS := Lib.hid hs
        have V := Lib.hid (asmV_no (next := next) (ps := ps) fun h => hs (h.nums e HM.out))
        clear hs
        go_wp2_with fail
        refine (l3Ok_no e _ HS.out).mono ?_
        rintro e w1 ⟨rfl, rfl⟩
        go_wp2
        go_ret
        exact ⟨ret_b V.out.symm, hbel.out⟩
    · obtain rfl : k = ln := by omega
      have HN := Lib.hid (show ∀ n ∈ next, Ser n by
        have := hok.out
        rw [List.take_of_length_le (by omega)] at this
        exact this)
      clear hok hlt hk
      go_wp2
      go_loopw [4] (fun i wr => ∃ j : Nat, j ≤ lp ∧ i = .int .i64 j ∧ Hid (PreOk k ps j) ∧ wr.cell? ⟨w.heap.size, 0, none⟩ = some (.slice an k cn) ∧ wr.cell? ⟨w.heap.size, 1, none⟩ = some (.slice ap lp cp) ∧ Hid (Below w.heap.size w wr)) (fun i _ => lp - (intOf i).toNat)
      case atStart => exact ⟨0, Nat.zero_le _, rfl, Lib.hid ⟨fun i hi => absurd hi (Nat.not_lt_zero _), fun i j _ hj => absurd hj (Nat.not_lt_zero _)⟩, by simpa using hc0, by simpa using hc1, hbel⟩
      case round =>
        obtain ⟨j, hj, rfl, hpre, hd0, hd1, hbel2⟩ := hrel
        by_cases hlt : j < lp
        · obtain ⟨x, rfl⟩ := HP.out.addr hlt
          obtain ⟨p0, p1, p2, p3, p4, p5, p6⟩ := HP.out.at hbel2.out hlt
          have hjl : j < ps.length := by omega
          obtain ⟨⟨t, s, q, fi, la, lo, tx⟩, he⟩ : ∃ e, pAt ps j = e := ⟨_, rfl⟩
          have HE := Lib.hid he
          have HM := Lib.hid (pAt_mem hjl)
          have HX := Lib.hid (idxV_hit hjl)
          rw [he] at p0 p1 p2 p3 p4 p5 p6 HM HX
          clear he
          by_cases hd : DataOk t s q tx
          · have D := Lib.hid (dataOkV_yes hd)
            have HD := Lib.hid hd
            clear hd
            by_cases hst : s < (k : Int)
            · have hst2 : decide ((k : Int) ≤ s) = false := decide_eq_false (by omega)
              obtain ⟨i0, hi0, hi1, hi2, hi3⟩ := HX.out
              have hi1 := Lib.hid hi1
              have hi2 := Lib.hid hi2
              have hi3 := Lib.hid hi3
              by_cases hij : i0 < j
              · have V := Lib.hid (asmV_no (next := next) (ps := ps) fun h => h.pre.2 i0 j hij hjl (hi2.out.trans (by rw [HE.out])))
                have hij2 : decide ((i0 : Int) < (j : Int)) = true := decide_eq_true (by omega)
                have hS := Lib.hid (kept9 ⟨hd0, hd1, p0, p1, p2, p3, p4, p5, p6, hbel2.out⟩ (Below.drew (Below.refl _ _)))
                clear hc0 hc1
                go_wp2_with fail
                clear hd0 hd1 p0 p1 p2 p3 p4 p5 p6
                refine region_class (C := fun W => W.cell? ⟨w.heap.size, 0, none⟩ = some (.slice an k cn) ∧ W.cell? ⟨w.heap.size, 1, none⟩ = some (.slice (some x) lp cp) ∧ W.cell? (x.add (j * 7)) = some (.int .i64 t) ∧ W.cell? ⟨(x.add (j * 7)).block, (x.add (j * 7)).off + 1, none⟩ = some (.int .i64 s) ∧ W.cell? ⟨(x.add (j * 7)).block, (x.add (j * 7)).off + 2, none⟩ = some (.int .i64 q) ∧ W.cell? ⟨(x.add (j * 7)).block, (x.add (j * 7)).off + 3, none⟩ = some (.bool fi) ∧ W.cell? ⟨(x.add (j * 7)).block, (x.add (j * 7)).off + 4, none⟩ = some (.bool la) ∧ W.cell? ⟨(x.add (j * 7)).block, (x.add (j * 7)).off + 5, none⟩ = some (.bool lo) ∧ W.cell? ⟨(x.add (j * 7)).block, (x.add (j * 7)).off + 6, none⟩ = some (.string tx) ∧ Below w.heap.size w W) (by kernel_rfl) (by kernel_rfl) hS.out ?_
                clear hS
                repeat (first
                  | go_big_quiet_skip
                  | (refine BigFrame.wpQuiet_want (by rfl) (fun K hK => ?_)
                     apply Exists.intro
                     refine ⟨fun W hW => ?_, hK _ ?_⟩
                     next =>
                       try dsimp only at hW
                       obtain ⟨c0, c1, c2, c3, c4, c5, c6, c7, c8, cb⟩ := hW
                       go_simp
                       first
                         | exact rfl
                         | (refine (l12Data_any t s q fi la lo tx _).mono ?_; rw [D.out]; rintro e w1 ⟨rfl, hb1⟩; exact ⟨rfl, kept9 ⟨c0, c1, c2, c3, c4, c5, c6, c7, c8, cb⟩ hb1⟩)
                         | (refine (l22At_any _ lp cp ps t _ (HP.out.below cb)).mono ?_; rw [hi1.out]; rintro e w2 ⟨rfl, hb2⟩; exact ⟨rfl, kept9 ⟨c0, c1, c2, c3, c4, c5, c6, c7, c8, cb⟩ hb2⟩)
                     simp only [Act.put, List.setIfInBounds_toArray, List.set_cons_zero, List.set_cons_succ]
                     clear hK K))
                refine wpQuiet_nil ?_
                intro W hW
                obtain ⟨g0, g1, _, _, _, _, _, _, _, hbx⟩ := hW
                go_wp2
                go_ret
                exact ⟨ret_b V.out.symm, hbx⟩
              · have hjj : i0 = j := by omega
                have O := Lib.hid (hpre.out.more (by rw [HE.out]; exact ⟨HD.out, hst⟩) (by rw [HE.out]; exact hjj ▸ hi3.out))
                have hij2 : decide ((i0 : Int) < (j : Int)) = false := decide_eq_false (by omega)
                have hS := Lib.hid (kept9 ⟨hd0, hd1, p0, p1, p2, p3, p4, p5, p6, hbel2.out⟩ (Below.drew (Below.refl _ _)))
                clear hc0 hc1
                go_wp2_with fail
                clear hd0 hd1 p0 p1 p2 p3 p4 p5 p6
                refine region_class (C := fun W => W.cell? ⟨w.heap.size, 0, none⟩ = some (.slice an k cn) ∧ W.cell? ⟨w.heap.size, 1, none⟩ = some (.slice (some x) lp cp) ∧ W.cell? (x.add (j * 7)) = some (.int .i64 t) ∧ W.cell? ⟨(x.add (j * 7)).block, (x.add (j * 7)).off + 1, none⟩ = some (.int .i64 s) ∧ W.cell? ⟨(x.add (j * 7)).block, (x.add (j * 7)).off + 2, none⟩ = some (.int .i64 q) ∧ W.cell? ⟨(x.add (j * 7)).block, (x.add (j * 7)).off + 3, none⟩ = some (.bool fi) ∧ W.cell? ⟨(x.add (j * 7)).block, (x.add (j * 7)).off + 4, none⟩ = some (.bool la) ∧ W.cell? ⟨(x.add (j * 7)).block, (x.add (j * 7)).off + 5, none⟩ = some (.bool lo) ∧ W.cell? ⟨(x.add (j * 7)).block, (x.add (j * 7)).off + 6, none⟩ = some (.string tx) ∧ Below w.heap.size w W) (by kernel_rfl) (by kernel_rfl) hS.out ?_
                clear hS
                repeat (first
                  | go_big_quiet_skip
                  | (refine BigFrame.wpQuiet_want (by rfl) (fun K hK => ?_)
                     apply Exists.intro
                     refine ⟨fun W hW => ?_, hK _ ?_⟩
                     next =>
                       try dsimp only at hW
                       obtain ⟨c0, c1, c2, c3, c4, c5, c6, c7, c8, cb⟩ := hW
                       go_simp
                       first
                         | exact rfl
                         | (refine (l12Data_any t s q fi la lo tx _).mono ?_; rw [D.out]; rintro e w1 ⟨rfl, hb1⟩; exact ⟨rfl, kept9 ⟨c0, c1, c2, c3, c4, c5, c6, c7, c8, cb⟩ hb1⟩)
                         | (refine (l22At_any _ lp cp ps t _ (HP.out.below cb)).mono ?_; rw [hi1.out]; rintro e w2 ⟨rfl, hb2⟩; exact ⟨rfl, kept9 ⟨c0, c1, c2, c3, c4, c5, c6, c7, c8, cb⟩ hb2⟩)
                     simp only [Act.put, List.setIfInBounds_toArray, List.set_cons_zero, List.set_cons_succ]
                     clear hK K))
                refine wpQuiet_nil ?_
                intro W hW
                obtain ⟨g0, g1, _, _, _, _, _, _, _, hbx⟩ := hW
                go_wp2
                go_roundw
                case rel => exact ⟨j + 1, by omega, by go_num, O, g0, g1, Lib.hid hbx⟩
                case measure => simp [intOf]; omega
            · have V := Lib.hid (asmV_no (next := next) (ps := ps) fun h => hst (by have := (h.ok _ HM.out).2; rwa [hl] at this))
              have hst2 : decide ((k : Int) ≤ s) = true := decide_eq_true (by omega)
              have hS := Lib.hid (kept9 ⟨hd0, hd1, p0, p1, p2, p3, p4, p5, p6, hbel2.out⟩ (Below.drew (Below.refl _ _)))
              clear hc0 hc1
              go_wp2_with fail
              clear hd0 hd1 p0 p1 p2 p3 p4 p5 p6
              refine region_class (C := fun W => W.cell? ⟨w.heap.size, 0, none⟩ = some (.slice an k cn) ∧ W.cell? ⟨w.heap.size, 1, none⟩ = some (.slice (some x) lp cp) ∧ W.cell? (x.add (j * 7)) = some (.int .i64 t) ∧ W.cell? ⟨(x.add (j * 7)).block, (x.add (j * 7)).off + 1, none⟩ = some (.int .i64 s) ∧ W.cell? ⟨(x.add (j * 7)).block, (x.add (j * 7)).off + 2, none⟩ = some (.int .i64 q) ∧ W.cell? ⟨(x.add (j * 7)).block, (x.add (j * 7)).off + 3, none⟩ = some (.bool fi) ∧ W.cell? ⟨(x.add (j * 7)).block, (x.add (j * 7)).off + 4, none⟩ = some (.bool la) ∧ W.cell? ⟨(x.add (j * 7)).block, (x.add (j * 7)).off + 5, none⟩ = some (.bool lo) ∧ W.cell? ⟨(x.add (j * 7)).block, (x.add (j * 7)).off + 6, none⟩ = some (.string tx) ∧ Below w.heap.size w W) (by kernel_rfl) (by kernel_rfl) hS.out ?_
              clear hS
              repeat (first
                | go_big_quiet_skip
                | (refine BigFrame.wpQuiet_want (by rfl) (fun K hK => ?_)
                   apply Exists.intro
                   refine ⟨fun W hW => ?_, hK _ ?_⟩
                   next =>
                     try dsimp only at hW
                     obtain ⟨c0, c1, c2, c3, c4, c5, c6, c7, c8, cb⟩ := hW
                     go_simp
                     first
                       | exact rfl
                       | (refine (l12Data_any t s q fi la lo tx _).mono ?_; rw [D.out]; rintro e w1 ⟨rfl, hb1⟩; exact ⟨rfl, kept9 ⟨c0, c1, c2, c3, c4, c5, c6, c7, c8, cb⟩ hb1⟩)
                   simp only [Act.put, List.setIfInBounds_toArray, List.set_cons_zero, List.set_cons_succ]
                   clear hK K))
              refine wpQuiet_nil ?_
              intro W hW
              obtain ⟨g0, g1, _, _, _, _, _, _, _, hbx⟩ := hW
              go_wp2
              go_ret
              exact ⟨ret_b V.out.symm, hbx⟩
          · have D := Lib.hid (dataOkV_no hd)
            have V := Lib.hid (asmV_no (next := next) (ps := ps) fun h => hd (h.ok _ HM.out).1)
            clear hd
            have hS := Lib.hid (kept9 ⟨hd0, hd1, p0, p1, p2, p3, p4, p5, p6, hbel2.out⟩ (Below.drew (Below.refl _ _)))
            clear hc0 hc1
            go_wp2_with fail
            clear hd0 hd1 p0 p1 p2 p3 p4 p5 p6
            refine region_class (C := fun W => W.cell? ⟨w.heap.size, 0, none⟩ = some (.slice an k cn) ∧ W.cell? ⟨w.heap.size, 1, none⟩ = some (.slice (some x) lp cp) ∧ W.cell? (x.add (j * 7)) = some (.int .i64 t) ∧ W.cell? ⟨(x.add (j * 7)).block, (x.add (j * 7)).off + 1, none⟩ = some (.int .i64 s) ∧ W.cell? ⟨(x.add (j * 7)).block, (x.add (j * 7)).off + 2, none⟩ = some (.int .i64 q) ∧ W.cell? ⟨(x.add (j * 7)).block, (x.add (j * 7)).off + 3, none⟩ = some (.bool fi) ∧ W.cell? ⟨(x.add (j * 7)).block, (x.add (j * 7)).off + 4, none⟩ = some (.bool la) ∧ W.cell? ⟨(x.add (j * 7)).block, (x.add (j * 7)).off + 5, none⟩ = some (.bool lo) ∧ W.cell? ⟨(x.add (j * 7)).block, (x.add (j * 7)).off + 6, none⟩ = some (.string tx) ∧ Below w.heap.size w W) (by kernel_rfl) (by kernel_rfl) hS.out ?_
            clear hS
            repeat (first
              | go_big_quiet_skip
              | (refine BigFrame.wpQuiet_want (by rfl) (fun K hK => ?_)
                 apply Exists.intro
                 refine ⟨fun W hW => ?_, hK _ ?_⟩
                 next =>
                   try dsimp only at hW
                   obtain ⟨c0, c1, c2, c3, c4, c5, c6, c7, c8, cb⟩ := hW
                   go_simp
                   first
                     | exact rfl
                     | (refine (l12Data_any t s q fi la lo tx _).mono ?_; rw [D.out]; rintro e w1 ⟨rfl, hb1⟩; exact ⟨rfl, kept9 ⟨c0, c1, c2, c3, c4, c5, c6, c7, c8, cb⟩ hb1⟩)
                 simp only [Act.put, List.setIfInBounds_toArray, List.set_cons_zero, List.set_cons_succ]
                 clear hK K))
            refine wpQuiet_nil ?_
            intro W hW
            obtain ⟨g0, g1, _, _, _, _, _, _, _, hbx⟩ := hW
            go_wp2
            go_ret
            exact ⟨ret_b V.out.symm, hbx⟩
        · obtain rfl : j = lp := by omega
          have hall := hpre.out
          clear hc0 hc1
          by_cases hn : 1 ≤ (k : Int) ∧ (k : Int) ≤ 4
          · have V := Lib.hid (show decide ((j : Int) ≤ 12) = asmV next ps by
              by_cases h6 : j ≤ 12
              · rw [decide_eq_true (by omega), asmV_yes (pre_all HN.out (by rw [hl, hlp]; exact hall) (by omega) (by omega) (by omega))]
              · rw [decide_eq_false (by omega), asmV_no fun h => h6 (by have := h.few; omega)])
            have i1 := fun w => l6In_any (k : Int) 1 4 w
            rw [decide_eq_true hn] at i1
            clear hall hn
            go_wp2_with fail
            refine (i1 _).mono ?_
            rintro e w1 ⟨rfl, rfl⟩
            go_wp2
            go_ret
            exact ⟨ret_b V.out, hbel2.out⟩
          · have V := Lib.hid (asmV_no (next := next) (ps := ps) fun h => hn (by have := h.n1; have := h.n4; omega))
            have i1 := fun w => l6In_any (k : Int) 1 4 w
            rw [decide_eq_false hn] at i1
            clear hall hn
            go_wp2_with fail
            refine (i1 _).mono ?_
            rintro e w1 ⟨rfl, rfl⟩
            go_wp2
            go_ret
            exact ⟨ret_b V.out.symm, hbel2.out⟩

set_option maxHeartbeats 400000 in
theorem l22Same_any (p q : Part) (w : World) :
    Calls Try.prog 95 #[partV p, partV q] w fun e w' => e = .returned (.bool (sameM p q)) ∧ Below w.heap.size w w' := by
  obtain ⟨t, s, n, fi, la, lo, tx⟩ := p
  obtain ⟨t2, s2, n2, fi2, la2, lo2, tx2⟩ := q
  unfold partV sameM
  by_cases h1 : s = s2
  · by_cases h2 : n = n2
    · go_enter Try.func95, Try.ntmps95
      go_wp2
      go_ret
      exact ⟨ret_b (by simp [h1, h2]), (below_box _ (Nat.le_refl _)).trans ((below_box _ (Nat.le_refl _)).mono (by simp))⟩
    · go_enter Try.func95, Try.ntmps95
      go_wp2
      go_ret
      exact ⟨ret_b (by simp [h1, h2]), (below_box _ (Nat.le_refl _)).trans ((below_box _ (Nat.le_refl _)).mono (by simp))⟩
  · go_enter Try.func95, Try.ntmps95
    go_wp2
    go_ret
    exact ⟨ret_b (by simp [h1]), (below_box _ (Nat.le_refl _)).trans ((below_box _ (Nat.le_refl _)).mono (by simp))⟩

end Go.Proofs.Ytncbgejggfkdmab
