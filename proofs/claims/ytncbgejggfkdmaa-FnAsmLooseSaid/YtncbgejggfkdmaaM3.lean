/- Texts that a proof needs, merged: K90, K129, K131, G18, K91, G26, K160, K161, K92, K150, K159. -/
import Derived.Test.YtncbgejggfkdmaaM2
import Derived.Laws.OwnMore
import Derived.Handy
import Derived.Deep.QuietTactic
import Derived.BigQuiet
import Derived.Deep.AppendLies
import Derived.IntWalk
import Derived.Maps.AppendAt
import Derived.Lib.Builder

/- Numbers in memory; the contracts of chapter 21's model: whether a value is valid, the one at the beginning, what has arrived. -/
namespace Go.Proofs.Ytncbgejggfkdmaa
open Go.RowKit Go.PlainAid

/-- The number at a place of a list. -/
def nAt (es : List Int) (i : Nat) : Int := es.getD i 0
theorem nAt_mem {es : List Int} {i : Nat} (h : i < es.length) : nAt es i ∈ es := by
  unfold nAt
  rw [List.getD_eq_getElem?_getD, List.getElem?_eq_getElem h]
  exact List.getElem_mem _
theorem take_nAt {es : List Int} {k : Nat} (h : k < es.length) : es.take (k + 1) = es.take k ++ [nAt es k] := by
  unfold nAt
  rw [List.take_add_one, List.getD_eq_getElem?_getD, List.getElem?_eq_getElem h]
  rfl
/-- A slice of numbers: nil, or their cells from an address on. -/
def Ns (w : World) (a : Option Addr) (len cap : Nat) (es : List Int) : Prop :=
  (a = none ∧ len = 0 ∧ cap = 0 ∧ es = []) ∨
  ∃ x : Addr, a = some x ∧ len ≤ cap ∧ cap ≤ maxLen ∧ es.length = len ∧ ∀ i, i < len → w.cell? (x.add i) = some (.int .i64 (nAt es i))
section
variable {w w' W W' : World} {a : Option Addr} {len cap : Nat} {es : List Int}
theorem Ns.length (h : Ns w a len cap es) : es.length = len := by
  rcases h with ⟨_, rfl, _, rfl⟩ | ⟨_, _, _, _, h, _⟩
  · rfl
  · exact h
theorem Ns.len_le (h : Ns w a len cap es) : len ≤ cap ∧ cap ≤ maxLen := by
  rcases h with ⟨_, rfl, rfl, rfl⟩ | ⟨_, _, h1, h2, _, _⟩
  · exact ⟨Nat.le_refl _, Nat.zero_le _⟩
  · exact ⟨h1, h2⟩
theorem Ns.len_int (h : Ns w a len cap es) : len ≤ 9223372036854775807 := by
  have := h.len_le
  unfold maxLen at this
  omega
theorem Ns.below (h : Ns w a len cap es) (hb : Below w.heap.size w w') : Ns w' a len cap es := by
  rcases h with h | ⟨x, h1, h2, h3, h4, h5⟩
  · exact .inl h
  · exact .inr ⟨x, h1, h2, h3, h4, fun i hi => (hb.cell (World.block_lt_of_cell? w _ (h5 i hi))).trans (h5 i hi)⟩
theorem Ns.nil (w : World) : Ns w none 0 0 [] := .inl ⟨rfl, rfl, rfl, rfl⟩
theorem Ns.addr (h : Ns w a len cap es) {k : Nat} (hk : k < len) : ∃ x, a = some x := by
  rcases h with ⟨_, h0, _⟩ | ⟨y, hy, _⟩
  · omega
  · exact ⟨y, hy⟩
theorem Ns.at {x : Addr} (h : Ns w (some x) len cap es) (hb : Below w.heap.size w w') {k : Nat} (hk : k < len) : w'.cell? (x.add k) = some (.int .i64 (nAt es k)) := by
  rcases h with ⟨h0, _⟩ | ⟨y, hy, _, _, _, h4⟩
  · cases h0
  · obtain rfl : x = y := by simpa using hy
    exact (hb.cell (World.block_lt_of_cell? w _ (h4 k hk))).trans (h4 k hk)
theorem n_add (g j : Nat) : (⟨g, 0, none⟩ : Addr).add j = ⟨g, j, none⟩ := by unfold Addr.add; split <;> simp_all
theorem Ns.far {g d i : Nat} (h : Ns w (some ⟨g, 0, none⟩) len cap es) (hd : d ≠ g) (v : Value) : Ns (w.setCell ⟨d, i, none⟩ v) (some ⟨g, 0, none⟩) len cap es := by
  rcases h with ⟨e, _⟩ | ⟨a, e, h7, h8, h9, h10⟩
  · cases e
  · obtain rfl : ⟨g, 0, none⟩ = a := by simpa using e
    refine .inr ⟨_, rfl, h7, h8, h9, fun i hi => ?_⟩
    have := h10 i hi
    rw [n_add] at this ⊢
    exact cell_far hd this
theorem Ns.under {g C : Nat} (h : Ns w (some ⟨g, 0, none⟩) len cap es) (hb : Below C w w') (hg : g < C ∨ len = 0) : Ns w' (some ⟨g, 0, none⟩) len cap es := by
  rcases h with ⟨e, _⟩ | ⟨a, e, h7, h8, h9, h10⟩
  · cases e
  · obtain rfl : ⟨g, 0, none⟩ = a := by simpa using e
    refine .inr ⟨_, rfl, h7, h8, h9, fun i hi => ?_⟩
    have := h10 i hi
    rw [n_add] at this ⊢
    rcases hg with hg | h0
    · exact kept_cell hb hg this
    · omega
theorem ns_lt {g : Nat} (h : Ns w (some ⟨g, 0, none⟩) len cap es) : g < w.heap.size ∨ len = 0 := by
  rcases h with ⟨e, _⟩ | ⟨a, e, _, _, _, h10⟩
  · cases e
  · obtain rfl : ⟨g, 0, none⟩ = a := by simpa using e
    by_cases hk0 : 0 < len
    · have := h10 0 hk0
      rw [n_add] at this
      exact .inl (lt_of_cell this)
    · exact .inr (by omega)
/-- The cells of numbers. -/
def flatN (es : List Int) : List Value := es.map (Value.int .i64)
theorem flatN_length (es : List Int) : (flatN es).length = es.length := List.length_map _
theorem flatN_append (es ds : List Int) : flatN (es ++ ds) = flatN es ++ flatN ds := List.map_append
theorem flatN_one (es : List Int) : ∀ u ∈ flatN es, u.oneCell' = true := by
  intro u hu
  obtain ⟨e, _, rfl⟩ := List.mem_map.1 hu
  rfl
theorem flatN_get (es : List Int) (i : Nat) (h : i < es.length) : (flatN es)[i]? = some (.int .i64 (nAt es i)) := by
  unfold flatN nAt
  rw [List.getElem?_map, List.getD_eq_getElem?_getD, List.getElem?_eq_getElem h]
  rfl
theorem own_ns {base k : Nat} (h : W.ownsRow base 3 1 (.slice a k cap) k (flatN es)) : Ns W a k cap es := by
  have hl := h.1
  rw [flatN_length] at hl
  rcases h.2 with ⟨h1, h2⟩ | ⟨g, cap', cur, h1, _, _, h4, h5, _⟩
  · obtain ⟨rfl, rfl, rfl⟩ : a = none ∧ k = 0 ∧ cap = 0 := by simpa using h1
    exact .inl ⟨rfl, rfl, rfl, List.length_eq_zero_iff.1 (by omega)⟩
  · obtain ⟨rfl, rfl⟩ : a = some ⟨g, 0, none⟩ ∧ cap = cap' := by simpa using h1
    refine .inr ⟨_, rfl, h4, h5, by omega, fun i hi => ?_⟩
    have f1 := flatN_get es i (by omega)
    have c1 := h.cellAt i (by omega)
    rw [n_add]
    exact c1.trans f1
/-- The cells of a slice of numbers, as a source of an append. -/
theorem ns_flat {x : Addr} (h : Ns W (some x) len cap es) : ∀ j u, (flatN es)[j]? = some u → W.cell? (x.add j) = some u := by
  intro j u hu
  rcases h with ⟨e, _⟩ | ⟨a, e, h7, h8, h9, h10⟩
  · cases e
  · obtain rfl : x = a := by simpa using e
    have hj : j < len := by have := (List.getElem?_eq_some_iff.1 hu).1; rw [flatN_length, h9] at this; exact this
    rw [flatN_get es j (by omega)] at hu
    cases hu
    exact h10 j hj
end
theorem info_n : (Try.prog.info? 3).map (fun i => (i.zero, i.size, i.bytes)) = some (some (.int .i64 0), 1, 8) := by kernel_rfl
/-- A slice of numbers of one's own. -/
structure OwnN (k : Nat) (v : Value) (es : List Int) (w W : World) : Prop where
  own : W.ownsRow w.heap.size 3 1 v k (flatN es)
  b : Below w.heap.size w W
section
variable {k : Nat} {v : Value} {es : List Int} {w W W' : World}
theorem OwnN.below (h : OwnN k v es w W) (hb : Below W.heap.size W W') : OwnN k v es w W' := by
  refine ⟨⟨h.own.1, ?_⟩, h.b.trans (hb.mono h.b.size)⟩
  rcases h.own.2 with h1 | ⟨g, cap, cur, h1, h2, h3, h4⟩
  · exact .inl h1
  · have hg : g < W.heap.size := (Array.getElem?_eq_some_iff.1 h3).1
    exact .inr ⟨g, cap, cur, h1, h2, by rw [hb.block g hg]; exact h3, h4⟩
theorem OwnN.base {g : Nat} (h : OwnN k v es w W) (hv : v.ownBlock = some g) : w.heap.size ≤ g := by
  rcases h.own.2 with ⟨h1, _⟩ | ⟨g', cap', cur, h1, h2, _⟩
  · rw [h1] at hv
    cases hv
  · rw [h1] at hv
    obtain rfl : g' = g := by simpa [Value.ownBlock] using hv
    exact h2
theorem OwnN.low (h : OwnN k v es W W') (hb : Below w.heap.size w W) : OwnN k v es w W' := by
  refine ⟨⟨h.own.1, ?_⟩, hb.trans (h.b.mono hb.size)⟩
  rcases h.own.2 with h1 | ⟨g, cap, cur, h1, h2, h3⟩
  · exact .inl h1
  · exact .inr ⟨g, cap, cur, h1, Nat.le_trans hb.size h2, h3⟩
theorem OwnN.ns {a : Option Addr} {cap : Nat} (h : OwnN k (.slice a k cap) es w W) : Ns W a k cap es := own_ns h.own
theorem OwnN.nil (hb : Below w.heap.size w W) : OwnN 0 (.slice none 0 0) [] w W := ⟨⟨rfl, .inl ⟨rfl, rfl⟩⟩, hb⟩
theorem OwnN.start (hb : Below w.heap.size w W) : OwnN 0 (.slice (some ⟨W.heap.size, 0, none⟩) 0 0) [] w (W.alloc (.cells #[] 3)) :=
  ⟨World.ownsRow_lit (base := w.heap.size) (e := 3) (size := 1) W #[] 0 hb.size (by decide) rfl, hb.alloc hb.size _⟩
end
theorem asc_next {es : List Int} {k : Nat} {e : Int} (hk : k < es.length) (he : nAt es k = e) (h : AscOk 1 (es.take k)) :
    (AscOk 1 (es.take (k + 1)) ↔ lastE 1 (es.take k) + 1 ≤ e ∧ e ≤ 16) ∧ (¬ (lastE 1 (es.take k) + 1 ≤ e ∧ e ≤ 16) → ¬ AscOk 1 es) ∧ lastE 1 (es.take (k + 1)) = e := by
  rw [take_nAt hk, he, asc_snoc]
  refine ⟨⟨fun h => h.2, fun k => ⟨h, k⟩⟩, fun hn ha => hn ?_, lastE_snoc _ _ _⟩
  rw [← List.take_append_drop (k + 1) es, take_nAt hk, he] at ha
  exact (asc_snoc.1 (asc_left ha)).2

set_option maxHeartbeats 1000000 in
theorem l21Has_any (a : Option Addr) (len cap : Nat) (es : List Int) (n : Int) (w : World) (h : Ns w a len cap es) :
    Calls Try.prog 80 #[.slice a len cap, .int .i64 n] w fun e w' => e = .returned (.bool (decide (n ∈ es))) ∧ Below w.heap.size w w' := by
  have hl := h.length
  have hm := h.len_int
  have HG := Lib.hid h
  clear h
  go_enter Try.func80, Try.ntmps80
  go_wp2
  go_loopw [5] (fun i wr => ∃ k : Nat, k ≤ len ∧ i = .int .i64 k ∧ Hid (n ∉ es.take k) ∧ Hid (Below w.heap.size w wr)) (fun i _ => len - (intOf i).toNat)
  case atStart => exact ⟨0, Nat.zero_le _, rfl, Lib.hid (by simp), Lib.hid (Below.refl _ _)⟩
  case round =>
    obtain ⟨k, hk, rfl, hno, hbel⟩ := hrel
    by_cases hlt : k < len
    · obtain ⟨x, rfl⟩ := HG.out.addr hlt
      have p0 := HG.out.at hbel.out hlt
      have hkl : k < es.length := by omega
      obtain ⟨e, he⟩ : ∃ e, nAt es k = e := ⟨_, rfl⟩
      rw [he] at p0
      have HM := Lib.hid (nAt_mem hkl)
      have HE := Lib.hid he
      clear he
      by_cases hen : e = n
      · have V := Lib.hid (decide_eq_true (p := n ∈ es) (by rw [← hen, ← HE.out]; exact HM.out))
        subst hen
        go_wp2
        go_ret
        exact ⟨ret_b V.out.symm, hbel.out⟩
      · have O := Lib.hid (show n ∉ es.take (k + 1) by
          rw [take_nAt hkl, HE.out]
          intro h
          rcases List.mem_append.1 h with h | h
          · exact hno.out h
          · exact hen (List.mem_singleton.1 h).symm)
        go_wp2
        go_roundw
        case rel => exact ⟨k + 1, by omega, by go_num, O, hbel⟩
        case measure => simp [intOf]; omega
    · obtain rfl : k = len := by omega
      have V := Lib.hid (decide_eq_false (p := n ∈ es) (by have := hno.out; rwa [List.take_of_length_le (by omega)] at this))
      go_wp2
      go_ret
      exact ⟨ret_b V.out.symm, hbel.out⟩

end Go.Proofs.Ytncbgejggfkdmaa

/- Regions that draw their order, whose operations only read and whose calls keep a class of worlds: walked once, in the order of the text. -/
namespace Go.Proofs.Ytncbgejggfkdmaa
open Go.RowKit Go.PlainAid

theorem region_class {P : Program} {id : Nat} {Q : Exit → Act → World → Prop} {a : Act} {w : World} {l : List Oper} {C : World → Prop} (hm : P.follows .mixedOrders = true) (hB : Region.lexB .any l.toArray = true)
    (hC : C w.drew) (h : wpQuiet P l.toArray C (fun a' => ∀ w', C w' → Q .normal a' w') l a) : (Code.region id l.toArray true).wp P Q a w :=
  wp_region_quiet hm hB hC (by simpa using h)

end Go.Proofs.Ytncbgejggfkdmaa

/- The contracts of chapter 22's model: where a part lies, whether an assembly is valid. -/
namespace Go.Proofs.Ytncbgejggfkdmaa
open Go.RowKit Go.PlainAid

theorem idx_no {ps : List Part} {t : Int} (h : ∀ i, i < ps.length → (pAt ps i).tsn ≠ t) : idxP ps t = none := by
  unfold idxP
  rw [List.findIdx?_eq_none_iff]
  intro p hp
  obtain ⟨k, hk, rfl⟩ := mem_at hp
  simpa using h k hk
/-- The place of a part with a number, as the model says it. -/
def idxV (ps : List Part) (t : Int) : Int := match idxP ps t with | some j => (j : Int) | none => -1
theorem idxV_some {ps : List Part} {t : Int} {j : Nat} (hj : j < ps.length) (ht : (pAt ps j).tsn = t) (hb : ∀ i, i < j → (pAt ps i).tsn ≠ t) : idxV ps t = (j : Int) := by
  unfold idxV
  rw [idx_is hj ht hb]
theorem idxV_none {ps : List Part} {t : Int} (h : ∀ i, i < ps.length → (pAt ps i).tsn ≠ t) : idxV ps t = -1 := by
  unfold idxV
  rw [idx_no h]
theorem idxV_hit {ps : List Part} {k : Nat} (hk : k < ps.length) : ∃ j, j ≤ k ∧ idxV ps (pAt ps k).tsn = (j : Int) ∧ (pAt ps j).tsn = (pAt ps k).tsn ∧ ∀ i, i < j → (pAt ps i).tsn ≠ (pAt ps k).tsn := by
  cases hx : idxP ps (pAt ps k).tsn with
  | none => exact absurd rfl (idx_none hx _ (pAt_mem hk))
  | some j =>
    obtain ⟨h1, h2, h3⟩ := idx_some hx
    refine ⟨j, Nat.le_of_not_lt fun h => h3 k h rfl, by unfold idxV; rw [hx], h2, h3⟩
/-- The parts before a place are well. -/
def PreOk (n : Nat) (ps : List Part) (k : Nat) : Prop := (∀ i, i < k → PartOk n (pAt ps i)) ∧ ∀ i j, i < j → j < k → (pAt ps i).tsn ≠ (pAt ps j).tsn
theorem pre_all {next : List Int} {ps : List Part} (hn : ∀ n ∈ next, Ser n) (h : PreOk next.length ps ps.length) (h1 : 1 ≤ next.length) (h4 : next.length ≤ 4) (h12 : ps.length ≤ 12) : AsmOk next ps where
  n1 := h1
  n4 := h4
  nums := hn
  few := h12
  ok := fun p hp => by
    obtain ⟨k, hk, rfl⟩ := mem_at hp
    exact h.1 k hk
  diff := by
    rw [List.nodup_iff_pairwise_ne, List.pairwise_iff_getElem]
    intro i j hi hj hij
    rw [List.length_map] at hi hj
    rw [List.getElem_map, List.getElem_map, pAt_get hi, pAt_get hj]
    exact h.2 i j hij hj
theorem AsmOk.pre {next : List Int} {ps : List Part} (ha : AsmOk next ps) : PreOk next.length ps ps.length := by
  refine ⟨fun i hi => ha.ok _ (pAt_mem hi), fun i j hij hj => ?_⟩
  have := ha.diff
  rw [List.nodup_iff_pairwise_ne, List.pairwise_iff_getElem] at this
  have := this i j (by rw [List.length_map]; omega) (by rw [List.length_map]; omega) hij
  rw [List.getElem_map, List.getElem_map, pAt_get (by omega), pAt_get hj] at this
  exact this
theorem PreOk.more {n : Nat} {ps : List Part} {k : Nat} (h : PreOk n ps k) (h1 : PartOk n (pAt ps k)) (h2 : ∀ i, i < k → (pAt ps i).tsn ≠ (pAt ps k).tsn) : PreOk n ps (k + 1) := by
  refine ⟨fun i hi => ?_, fun i j hij hj => ?_⟩
  · by_cases e : i = k
    · subst e; exact h1
    · exact h.1 i (by omega)
  · by_cases e : j = k
    · subst e; exact h2 i hij
    · exact h.2 i j hij (by omega)
theorem asmOk_iff (next : List Int) (ps : List Part) : ((1 ≤ next.length ∧ next.length ≤ 4 ∧ ps.length ≤ 12) ∧ (∀ n ∈ next, 0 ≤ n ∧ n ≤ 65535) ∧ (∀ p ∈ ps, PartOk next.length p) ∧ (ps.map fun p => p.tsn).Nodup) ↔ AsmOk next ps :=
  ⟨fun h => ⟨h.1.1, h.1.2.1, fun n hn => by have := h.2.1 n hn; exact ⟨this.1, by omega⟩, h.1.2.2, h.2.2.1, h.2.2.2⟩,
   fun h => ⟨⟨h.n1, h.n4, h.few⟩, fun n hn => by have := h.nums n hn; exact ⟨this.1, by have := this.2; omega⟩, h.ok, h.diff⟩⟩
instance (next : List Int) (ps : List Part) : Decidable (AsmOk next ps) := decidable_of_iff _ (asmOk_iff next ps)
/-- Whether an assembly is valid. -/
def asmV (next : List Int) (ps : List Part) : Bool := decide (AsmOk next ps)
theorem asmV_yes {next : List Int} {ps : List Part} (h : AsmOk next ps) : asmV next ps = true := decide_eq_true h
theorem asmV_no {next : List Int} {ps : List Part} (h : ¬ AsmOk next ps) : asmV next ps = false := decide_eq_false h
theorem kept9 {a0 a1 a2 a3 a4 a5 a6 a7 a8 : Addr} {v0 v1 v2 v3 v4 v5 v6 v7 v8 : Value} {w W W' : World} (h : W.cell? a0 = some v0 ∧ W.cell? a1 = some v1 ∧ W.cell? a2 = some v2 ∧ W.cell? a3 = some v3 ∧ W.cell? a4 = some v4 ∧ W.cell? a5 = some v5 ∧ W.cell? a6 = some v6 ∧ W.cell? a7 = some v7 ∧ W.cell? a8 = some v8 ∧ Below w.heap.size w W) (hb : Below W.heap.size W W') : W'.cell? a0 = some v0 ∧ W'.cell? a1 = some v1 ∧ W'.cell? a2 = some v2 ∧ W'.cell? a3 = some v3 ∧ W'.cell? a4 = some v4 ∧ W'.cell? a5 = some v5 ∧ W'.cell? a6 = some v6 ∧ W'.cell? a7 = some v7 ∧ W'.cell? a8 = some v8 ∧ Below w.heap.size w W' :=
  ⟨(hb.cell (World.block_lt_of_cell? W _ h.1)).trans h.1, (hb.cell (World.block_lt_of_cell? W _ h.2.1)).trans h.2.1, (hb.cell (World.block_lt_of_cell? W _ h.2.2.1)).trans h.2.2.1, (hb.cell (World.block_lt_of_cell? W _ h.2.2.2.1)).trans h.2.2.2.1, (hb.cell (World.block_lt_of_cell? W _ h.2.2.2.2.1)).trans h.2.2.2.2.1, (hb.cell (World.block_lt_of_cell? W _ h.2.2.2.2.2.1)).trans h.2.2.2.2.2.1, (hb.cell (World.block_lt_of_cell? W _ h.2.2.2.2.2.2.1)).trans h.2.2.2.2.2.2.1, (hb.cell (World.block_lt_of_cell? W _ h.2.2.2.2.2.2.2.1)).trans h.2.2.2.2.2.2.2.1, (hb.cell (World.block_lt_of_cell? W _ h.2.2.2.2.2.2.2.2.1)).trans h.2.2.2.2.2.2.2.2.1, h.2.2.2.2.2.2.2.2.2.trans (hb.mono h.2.2.2.2.2.2.2.2.2.size)⟩

set_option maxHeartbeats 1000000 in
theorem l22At_any (a : Option Addr) (len cap : Nat) (ps : List Part) (t : Int) (w : World) (h : Pts w a len cap ps) :
    Calls Try.prog 51 #[.slice a len cap, .int .i64 t] w fun e w' => e = .returned (.int .i64 (idxV ps t)) ∧ Below w.heap.size w w' := by
  have hl := h.length
  have hm := h.len_int
  have HG := Lib.hid h
  clear h
  go_enter Try.func51, Try.ntmps51
  go_wp2
  go_loopw [5] (fun i wr => ∃ k : Nat, k ≤ len ∧ i = .int .i64 k ∧ Hid (∀ i, i < k → (pAt ps i).tsn ≠ t) ∧ Hid (Below w.heap.size w wr)) (fun i _ => len - (intOf i).toNat)
  case atStart => exact ⟨0, Nat.zero_le _, rfl, Lib.hid (fun i hi => absurd hi (Nat.not_lt_zero _)), Lib.hid (Below.refl _ _)⟩
  case round =>
    obtain ⟨k, hk, rfl, hno, hbel⟩ := hrel
    by_cases hlt : k < len
    · obtain ⟨x, rfl⟩ := HG.out.addr hlt
      have p0 := (HG.out.at hbel.out hlt).1
      have hkl : k < ps.length := by omega
      obtain ⟨e, he⟩ : ∃ e, (pAt ps k).tsn = e := ⟨_, rfl⟩
      rw [he] at p0
      have HE := Lib.hid he
      clear he
      by_cases hen : e = t
      · have V := Lib.hid (idxV_some hkl (HE.out.trans hen) hno.out)
        subst hen
        go_wp2
        go_ret
        exact ⟨congrArg (fun z => Ending.returned (Value.int IntKind.i64 z)) V.out.symm, hbel.out⟩
      · have O := Lib.hid (show ∀ i, i < k + 1 → (pAt ps i).tsn ≠ t by
          intro i hi
          by_cases e1 : i = k
          · subst e1; rw [HE.out]; exact hen
          · exact hno.out i (by omega))
        go_wp2
        go_roundw
        case rel => exact ⟨k + 1, by omega, by go_num, O, hbel⟩
        case measure => simp [intOf]; omega
    · obtain rfl : k = len := by omega
      have V := Lib.hid (idxV_none (ps := ps) (t := t) (by have := hno.out; rw [hl]; exact this))
      go_wp2
      go_ret
      exact ⟨congrArg (fun z => Ending.returned (Value.int IntKind.i64 z)) V.out.symm, hbel.out⟩

set_option maxRecDepth 8000 in
set_option maxHeartbeats 4000000 in
theorem sAsmValid_any (an : Option Addr) (ln cn : Nat) (next : List Int) (ap : Option Addr) (lp cp : Nat) (ps : List Part) (w : World) (h : Ns w an ln cn next) (hp : Pts w ap lp cp ps) :
    Calls Try.prog 50 #[.agg #[.slice an ln cn, .slice ap lp cp]] w fun e w' => e = .returned (.bool (asmV next ps)) ∧ Below w.heap.size w w' := by
  have hl := h.length
  have hm := h.len_int
  have HG := Lib.hid h
  have hlp := hp.length
  have hmp := hp.len_int
  have HP := Lib.hid hp
  clear h hp
  go_enter Try.func50, Try.ntmps50
  go_wp2
  go_loopw [3] (fun i wr => ∃ k : Nat, k ≤ ln ∧ i = .int .i64 k ∧ Hid (∀ n ∈ next.take k, Ser n) ∧ wr.cell? ⟨w.heap.size, 0, none⟩ = some (.slice an ln cn) ∧ wr.cell? ⟨w.heap.size, 1, none⟩ = some (.slice ap lp cp) ∧ Hid (Below w.heap.size w wr)) (fun i _ => ln - (intOf i).toNat)
  case atStart => exact ⟨0, Nat.zero_le _, rfl, Lib.hid (by simp), by simp, by simp, Lib.hid (below_box _ (Nat.le_refl _))⟩
  case round =>
    obtain ⟨k, hk, rfl, hok, hc0, hc1, hbel⟩ := hrel
    by_cases hlt : k < ln
    · obtain ⟨x, rfl⟩ := HG.out.addr hlt
      have p0 := HG.out.at hbel.out hlt
      have hkl : k < next.length := by omega
      obtain ⟨e, he⟩ : ∃ e, nAt next k = e := ⟨_, rfl⟩
      have HM := Lib.hid (nAt_mem hkl)
      rw [he] at p0 HM
      have HE := Lib.hid he
      clear he
      by_cases hs : Ser e
      · have HS := Lib.hid hs
        have O := Lib.hid (show ∀ n ∈ next.take (k + 1), Ser n by
          rw [take_nAt hkl, HE.out]
          intro n hn
          rcases List.mem_append.1 hn with hn | hn
          · exact hok.out n hn
          · rw [List.mem_singleton.1 hn]; exact hs)
        clear hs
        go_wp2_with fail
        refine (l3Ok_yes e _ HS.out).mono ?_
        rintro e w1 ⟨rfl, rfl⟩
        go_wp2
        go_roundw
        case rel => exact ⟨k + 1, by omega, by go_num, O, by simpa using hc0, by simpa using hc1, hbel⟩
        case measure => simp [intOf]; omega
      · have HS := Lib.hid hs
        have V := Lib.hid (asmV_no (next := next) (ps := ps) fun h => hs (h.nums e HM.out))
        clear hs
        go_wp2_with fail
        refine (l3Ok_no e _ HS.out).mono ?_
        rintro e w1 ⟨rfl, rfl⟩
        go_wp2
        go_ret
        exact ⟨ret_b V.out.symm, hbel.out⟩
    · obtain rfl : k = ln := by omega
      have HN := Lib.hid (show ∀ n ∈ next, Ser n by
        have := hok.out
        rw [List.take_of_length_le (by omega)] at this
        exact this)
      clear hok hlt hk
      go_wp2
      go_loopw [4] (fun i wr => ∃ j : Nat, j ≤ lp ∧ i = .int .i64 j ∧ Hid (PreOk k ps j) ∧ wr.cell? ⟨w.heap.size, 0, none⟩ = some (.slice an k cn) ∧ wr.cell? ⟨w.heap.size, 1, none⟩ = some (.slice ap lp cp) ∧ Hid (Below w.heap.size w wr)) (fun i _ => lp - (intOf i).toNat)
      case atStart => exact ⟨0, Nat.zero_le _, rfl, Lib.hid ⟨fun i hi => absurd hi (Nat.not_lt_zero _), fun i j _ hj => absurd hj (Nat.not_lt_zero _)⟩, by simpa using hc0, by simpa using hc1, hbel⟩
      case round =>
        obtain ⟨j, hj, rfl, hpre, hd0, hd1, hbel2⟩ := hrel
        by_cases hlt : j < lp
        · obtain ⟨x, rfl⟩ := HP.out.addr hlt
          obtain ⟨p0, p1, p2, p3, p4, p5, p6⟩ := HP.out.at hbel2.out hlt
          have hjl : j < ps.length := by omega
          obtain ⟨⟨t, s, q, fi, la, lo, tx⟩, he⟩ : ∃ e, pAt ps j = e := ⟨_, rfl⟩
          have HE := Lib.hid he
          have HM := Lib.hid (pAt_mem hjl)
          have HX := Lib.hid (idxV_hit hjl)
          rw [he] at p0 p1 p2 p3 p4 p5 p6 HM HX
          clear he
          by_cases hd : DataOk t s q tx
          · have D := Lib.hid (dataOkV_yes hd)
            have HD := Lib.hid hd
            clear hd
            by_cases hst : s < (k : Int)
            · have hst2 : decide ((k : Int) ≤ s) = false := decide_eq_false (by omega)
              obtain ⟨i0, hi0, hi1, hi2, hi3⟩ := HX.out
              have hi1 := Lib.hid hi1
              have hi2 := Lib.hid hi2
              have hi3 := Lib.hid hi3
              by_cases hij : i0 < j
              · have V := Lib.hid (asmV_no (next := next) (ps := ps) fun h => h.pre.2 i0 j hij hjl (hi2.out.trans (by rw [HE.out])))
                have hij2 : decide ((i0 : Int) < (j : Int)) = true := decide_eq_true (by omega)
                have hS := Lib.hid (kept9 ⟨hd0, hd1, p0, p1, p2, p3, p4, p5, p6, hbel2.out⟩ (Below.drew (Below.refl _ _)))
                clear hc0 hc1
                go_wp2_with fail
                clear hd0 hd1 p0 p1 p2 p3 p4 p5 p6
                refine region_class (C := fun W => W.cell? ⟨w.heap.size, 0, none⟩ = some (.slice an k cn) ∧ W.cell? ⟨w.heap.size, 1, none⟩ = some (.slice (some x) lp cp) ∧ W.cell? (x.add (j * 7)) = some (.int .i64 t) ∧ W.cell? ⟨(x.add (j * 7)).block, (x.add (j * 7)).off + 1, none⟩ = some (.int .i64 s) ∧ W.cell? ⟨(x.add (j * 7)).block, (x.add (j * 7)).off + 2, none⟩ = some (.int .i64 q) ∧ W.cell? ⟨(x.add (j * 7)).block, (x.add (j * 7)).off + 3, none⟩ = some (.bool fi) ∧ W.cell? ⟨(x.add (j * 7)).block, (x.add (j * 7)).off + 4, none⟩ = some (.bool la) ∧ W.cell? ⟨(x.add (j * 7)).block, (x.add (j * 7)).off + 5, none⟩ = some (.bool lo) ∧ W.cell? ⟨(x.add (j * 7)).block, (x.add (j * 7)).off + 6, none⟩ = some (.string tx) ∧ Below w.heap.size w W) (by kernel_rfl) (by kernel_rfl) hS.out ?_
                clear hS
                repeat (first
                  | go_big_quiet_skip
                  | (refine BigFrame.wpQuiet_want (by rfl) (fun K hK => ?_)
                     apply Exists.intro
                     refine ⟨fun W hW => ?_, hK _ ?_⟩
                     next =>
                       try dsimp only at hW
                       obtain ⟨c0, c1, c2, c3, c4, c5, c6, c7, c8, cb⟩ := hW
                       go_simp
                       first
                         | exact rfl
                         | (refine (l12Data_any t s q fi la lo tx _).mono ?_; rw [D.out]; rintro e w1 ⟨rfl, hb1⟩; exact ⟨rfl, kept9 ⟨c0, c1, c2, c3, c4, c5, c6, c7, c8, cb⟩ hb1⟩)
                         | (refine (l22At_any _ lp cp ps t _ (HP.out.below cb)).mono ?_; rw [hi1.out]; rintro e w2 ⟨rfl, hb2⟩; exact ⟨rfl, kept9 ⟨c0, c1, c2, c3, c4, c5, c6, c7, c8, cb⟩ hb2⟩)
                     simp only [Act.put, List.setIfInBounds_toArray, List.set_cons_zero, List.set_cons_succ]
                     clear hK K))
                refine wpQuiet_nil ?_
                intro W hW
                obtain ⟨g0, g1, _, _, _, _, _, _, _, hbx⟩ := hW
                go_wp2
                go_ret
                exact ⟨ret_b V.out.symm, hbx⟩
              · have hjj : i0 = j := by omega
                have O := Lib.hid (hpre.out.more (by rw [HE.out]; exact ⟨HD.out, hst⟩) (by rw [HE.out]; exact hjj ▸ hi3.out))
                have hij2 : decide ((i0 : Int) < (j : Int)) = false := decide_eq_false (by omega)
                have hS := Lib.hid (kept9 ⟨hd0, hd1, p0, p1, p2, p3, p4, p5, p6, hbel2.out⟩ (Below.drew (Below.refl _ _)))
                clear hc0 hc1
                go_wp2_with fail
                clear hd0 hd1 p0 p1 p2 p3 p4 p5 p6
                refine region_class (C := fun W => W.cell? ⟨w.heap.size, 0, none⟩ = some (.slice an k cn) ∧ W.cell? ⟨w.heap.size, 1, none⟩ = some (.slice (some x) lp cp) ∧ W.cell? (x.add (j * 7)) = some (.int .i64 t) ∧ W.cell? ⟨(x.add (j * 7)).block, (x.add (j * 7)).off + 1, none⟩ = some (.int .i64 s) ∧ W.cell? ⟨(x.add (j * 7)).block, (x.add (j * 7)).off + 2, none⟩ = some (.int .i64 q) ∧ W.cell? ⟨(x.add (j * 7)).block, (x.add (j * 7)).off + 3, none⟩ = some (.bool fi) ∧ W.cell? ⟨(x.add (j * 7)).block, (x.add (j * 7)).off + 4, none⟩ = some (.bool la) ∧ W.cell? ⟨(x.add (j * 7)).block, (x.add (j * 7)).off + 5, none⟩ = some (.bool lo) ∧ W.cell? ⟨(x.add (j * 7)).block, (x.add (j * 7)).off + 6, none⟩ = some (.string tx) ∧ Below w.heap.size w W) (by kernel_rfl) (by kernel_rfl) hS.out ?_
                clear hS
                repeat (first
                  | go_big_quiet_skip
                  | (refine BigFrame.wpQuiet_want (by rfl) (fun K hK => ?_)
                     apply Exists.intro
                     refine ⟨fun W hW => ?_, hK _ ?_⟩
                     next =>
                       try dsimp only at hW
                       obtain ⟨c0, c1, c2, c3, c4, c5, c6, c7, c8, cb⟩ := hW
                       go_simp
                       first
                         | exact rfl
                         | (refine (l12Data_any t s q fi la lo tx _).mono ?_; rw [D.out]; rintro e w1 ⟨rfl, hb1⟩; exact ⟨rfl, kept9 ⟨c0, c1, c2, c3, c4, c5, c6, c7, c8, cb⟩ hb1⟩)
                         | (refine (l22At_any _ lp cp ps t _ (HP.out.below cb)).mono ?_; rw [hi1.out]; rintro e w2 ⟨rfl, hb2⟩; exact ⟨rfl, kept9 ⟨c0, c1, c2, c3, c4, c5, c6, c7, c8, cb⟩ hb2⟩)
                     simp only [Act.put, List.setIfInBounds_toArray, List.set_cons_zero, List.set_cons_succ]
                     clear hK K))
                refine wpQuiet_nil ?_
                intro W hW
                obtain ⟨g0, g1, _, _, _, _, _, _, _, hbx⟩ := hW
                go_wp2
                go_roundw
                case rel => exact ⟨j + 1, by omega, by go_num, O, g0, g1, Lib.hid hbx⟩
                case measure => simp [intOf]; omega
            · have V := Lib.hid (asmV_no (next := next) (ps := ps) fun h => hst (by have := (h.ok _ HM.out).2; rwa [hl] at this))
              have hst2 : decide ((k : Int) ≤ s) = true := decide_eq_true (by omega)
              have hS := Lib.hid (kept9 ⟨hd0, hd1, p0, p1, p2, p3, p4, p5, p6, hbel2.out⟩ (Below.drew (Below.refl _ _)))
              clear hc0 hc1
              go_wp2_with fail
              clear hd0 hd1 p0 p1 p2 p3 p4 p5 p6
              refine region_class (C := fun W => W.cell? ⟨w.heap.size, 0, none⟩ = some (.slice an k cn) ∧ W.cell? ⟨w.heap.size, 1, none⟩ = some (.slice (some x) lp cp) ∧ W.cell? (x.add (j * 7)) = some (.int .i64 t) ∧ W.cell? ⟨(x.add (j * 7)).block, (x.add (j * 7)).off + 1, none⟩ = some (.int .i64 s) ∧ W.cell? ⟨(x.add (j * 7)).block, (x.add (j * 7)).off + 2, none⟩ = some (.int .i64 q) ∧ W.cell? ⟨(x.add (j * 7)).block, (x.add (j * 7)).off + 3, none⟩ = some (.bool fi) ∧ W.cell? ⟨(x.add (j * 7)).block, (x.add (j * 7)).off + 4, none⟩ = some (.bool la) ∧ W.cell? ⟨(x.add (j * 7)).block, (x.add (j * 7)).off + 5, none⟩ = some (.bool lo) ∧ W.cell? ⟨(x.add (j * 7)).block, (x.add (j * 7)).off + 6, none⟩ = some (.string tx) ∧ Below w.heap.size w W) (by kernel_rfl) (by kernel_rfl) hS.out ?_
              clear hS
              repeat (first
                | go_big_quiet_skip
                | (refine BigFrame.wpQuiet_want (by rfl) (fun K hK => ?_)
                   apply Exists.intro
                   refine ⟨fun W hW => ?_, hK _ ?_⟩
                   next =>
                     try dsimp only at hW
                     obtain ⟨c0, c1, c2, c3, c4, c5, c6, c7, c8, cb⟩ := hW
                     go_simp
                     first
                       | exact rfl
                       | (refine (l12Data_any t s q fi la lo tx _).mono ?_; rw [D.out]; rintro e w1 ⟨rfl, hb1⟩; exact ⟨rfl, kept9 ⟨c0, c1, c2, c3, c4, c5, c6, c7, c8, cb⟩ hb1⟩)
                   simp only [Act.put, List.setIfInBounds_toArray, List.set_cons_zero, List.set_cons_succ]
                   clear hK K))
              refine wpQuiet_nil ?_
              intro W hW
              obtain ⟨g0, g1, _, _, _, _, _, _, _, hbx⟩ := hW
              go_wp2
              go_ret
              exact ⟨ret_b V.out.symm, hbx⟩
          · have D := Lib.hid (dataOkV_no hd)
            have V := Lib.hid (asmV_no (next := next) (ps := ps) fun h => hd (h.ok _ HM.out).1)
            clear hd
            have hS := Lib.hid (kept9 ⟨hd0, hd1, p0, p1, p2, p3, p4, p5, p6, hbel2.out⟩ (Below.drew (Below.refl _ _)))
            clear hc0 hc1
            go_wp2_with fail
            clear hd0 hd1 p0 p1 p2 p3 p4 p5 p6
            refine region_class (C := fun W => W.cell? ⟨w.heap.size, 0, none⟩ = some (.slice an k cn) ∧ W.cell? ⟨w.heap.size, 1, none⟩ = some (.slice (some x) lp cp) ∧ W.cell? (x.add (j * 7)) = some (.int .i64 t) ∧ W.cell? ⟨(x.add (j * 7)).block, (x.add (j * 7)).off + 1, none⟩ = some (.int .i64 s) ∧ W.cell? ⟨(x.add (j * 7)).block, (x.add (j * 7)).off + 2, none⟩ = some (.int .i64 q) ∧ W.cell? ⟨(x.add (j * 7)).block, (x.add (j * 7)).off + 3, none⟩ = some (.bool fi) ∧ W.cell? ⟨(x.add (j * 7)).block, (x.add (j * 7)).off + 4, none⟩ = some (.bool la) ∧ W.cell? ⟨(x.add (j * 7)).block, (x.add (j * 7)).off + 5, none⟩ = some (.bool lo) ∧ W.cell? ⟨(x.add (j * 7)).block, (x.add (j * 7)).off + 6, none⟩ = some (.string tx) ∧ Below w.heap.size w W) (by kernel_rfl) (by kernel_rfl) hS.out ?_
            clear hS
            repeat (first
              | go_big_quiet_skip
              | (refine BigFrame.wpQuiet_want (by rfl) (fun K hK => ?_)
                 apply Exists.intro
                 refine ⟨fun W hW => ?_, hK _ ?_⟩
                 next =>
                   try dsimp only at hW
                   obtain ⟨c0, c1, c2, c3, c4, c5, c6, c7, c8, cb⟩ := hW
                   go_simp
                   first
                     | exact rfl
                     | (refine (l12Data_any t s q fi la lo tx _).mono ?_; rw [D.out]; rintro e w1 ⟨rfl, hb1⟩; exact ⟨rfl, kept9 ⟨c0, c1, c2, c3, c4, c5, c6, c7, c8, cb⟩ hb1⟩)
                 simp only [Act.put, List.setIfInBounds_toArray, List.set_cons_zero, List.set_cons_succ]
                 clear hK K))
            refine wpQuiet_nil ?_
            intro W hW
            obtain ⟨g0, g1, _, _, _, _, _, _, _, hbx⟩ := hW
            go_wp2
            go_ret
            exact ⟨ret_b V.out.symm, hbx⟩
        · obtain rfl : j = lp := by omega
          have hall := hpre.out
          clear hc0 hc1
          by_cases hn : 1 ≤ (k : Int) ∧ (k : Int) ≤ 4
          · have V := Lib.hid (show decide ((j : Int) ≤ 12) = asmV next ps by
              by_cases h6 : j ≤ 12
              · rw [decide_eq_true (by omega), asmV_yes (pre_all HN.out (by rw [hl, hlp]; exact hall) (by omega) (by omega) (by omega))]
              · rw [decide_eq_false (by omega), asmV_no fun h => h6 (by have := h.few; omega)])
            have i1 := fun w => l6In_any (k : Int) 1 4 w
            rw [decide_eq_true hn] at i1
            clear hall hn
            go_wp2_with fail
            refine (i1 _).mono ?_
            rintro e w1 ⟨rfl, rfl⟩
            go_wp2
            go_ret
            exact ⟨ret_b V.out, hbel2.out⟩
          · have V := Lib.hid (asmV_no (next := next) (ps := ps) fun h => hn (by have := h.n1; have := h.n4; omega))
            have i1 := fun w => l6In_any (k : Int) 1 4 w
            rw [decide_eq_false hn] at i1
            clear hall hn
            go_wp2_with fail
            refine (i1 _).mono ?_
            rintro e w1 ⟨rfl, rfl⟩
            go_wp2
            go_ret
            exact ⟨ret_b V.out.symm, hbel2.out⟩

set_option maxHeartbeats 400000 in
theorem l22Same_any (p q : Part) (w : World) :
    Calls Try.prog 89 #[partV p, partV q] w fun e w' => e = .returned (.bool (sameM p q)) ∧ Below w.heap.size w w' := by
  obtain ⟨t, s, n, fi, la, lo, tx⟩ := p
  obtain ⟨t2, s2, n2, fi2, la2, lo2, tx2⟩ := q
  unfold partV sameM
  by_cases h1 : s = s2
  · by_cases h2 : n = n2
    · go_enter Try.func89, Try.ntmps89
      go_wp2
      go_ret
      exact ⟨ret_b (by simp [h1, h2]), (below_box _ (Nat.le_refl _)).trans ((below_box _ (Nat.le_refl _)).mono (by simp))⟩
    · go_enter Try.func89, Try.ntmps89
      go_wp2
      go_ret
      exact ⟨ret_b (by simp [h1, h2]), (below_box _ (Nat.le_refl _)).trans ((below_box _ (Nat.le_refl _)).mono (by simp))⟩
  · go_enter Try.func89, Try.ntmps89
    go_wp2
    go_ret
    exact ⟨ret_b (by simp [h1]), (below_box _ (Nat.le_refl _)).trans ((below_box _ (Nat.le_refl _)).mono (by simp))⟩

end Go.Proofs.Ytncbgejggfkdmaa

/- What has arrived, plain: the steps of the model's loops. -/
namespace Go.Proofs.Ytncbgejggfkdmaa
open Go.RowKit Go.PlainAid

/-- While those left are collected, up to k. -/
structure Mv (P : Int → Prop) (n k : Int) (ds : List Int) : Prop where
  asc : AscOk 1 ds
  mem : ∀ j, j ∈ ds ↔ 1 ≤ j ∧ j + n < k ∧ P (j + n)
  last : lastE 1 ds ≤ k - 1 - n ∨ k = n + 1
section
variable {P : Int → Prop} {n k : Int} {ds : List Int}
theorem mv_start : Mv P n (n + 1) [] := ⟨trivial, fun j => ⟨fun h => by simp at h, fun h => by omega⟩, .inr rfl⟩
theorem mv_no (h : Mv P n k ds) (_ : n + 1 ≤ k) (hp : ¬ P k) : Mv P n (k + 1) ds := by
  refine ⟨h.asc, fun j => (h.mem j).trans ⟨fun ⟨h1, h2, h3⟩ => ⟨h1, by omega, h3⟩, fun ⟨h1, h2, h3⟩ => ⟨h1, ?_, h3⟩⟩, ?_⟩
  · by_cases e : j + n = k
    · exact absurd (e ▸ h3) hp
    · omega
  · rcases h.last with h1 | h1
    · exact .inl (by omega)
    · have e : ds = [] := List.eq_nil_iff_forall_not_mem.2 fun j hj => by
        have := (h.mem j).1 hj
        omega
      subst e
      exact .inl (by show (1 : Int) ≤ _; omega)
theorem mv_yes (h : Mv P n k ds) (hn : 0 ≤ n) (hk : n + 1 ≤ k) (h16 : k ≤ 16) (hs : ¬ P (n + 1)) (hp : P k) : Mv P n (k + 1) (ds ++ [k - n]) := by
  have hkn : k ≠ n + 1 := fun e => hs (e ▸ hp)
  have hl : lastE 1 ds ≤ k - 1 - n := by
    rcases h.last with h1 | h1
    · exact h1
    · exact absurd h1 hkn
  refine ⟨asc_snoc.2 ⟨h.asc, by omega, by omega⟩, fun j => ?_, .inl (by rw [lastE_snoc]; omega)⟩
  rw [List.mem_append, h.mem j]
  constructor
  · rintro (⟨h1, h2, h3⟩ | h1)
    · exact ⟨h1, by omega, h3⟩
    · have e : j = k - n := by simpa using h1
      exact ⟨by omega, by omega, by rw [e, show k - n + n = k by omega]; exact hp⟩
  · rintro ⟨h1, h2, h3⟩
    by_cases e : j + n = k
    · exact .inr (by simp; omega)
    · exact .inl ⟨h1, by omega, h3⟩
theorem mv_end (h : Mv P n 17 ds) (hn : 0 ≤ n) (hr : ∀ j, 1 ≤ j → j ≤ n → P j) (hs : ¬ P (n + 1)) (hP : ∀ j, P j → 1 ≤ j ∧ j ≤ 16) : Moved P n ds :=
  ⟨hn, hr, hs, h.asc, fun j => (h.mem j).trans ⟨fun ⟨h1, _, h3⟩ => ⟨h1, h3⟩, fun ⟨h1, h3⟩ => ⟨h1, by have := (hP _ h3).2; omega, h3⟩⟩⟩
theorem mv_few (h : Mv P n k ds) : ds.length ≤ 16 := by
  have := asc_few h.asc (by decide)
  omega
end
theorem gaps_snoc {l : Int} {gs : List (Int × Int)} {f t : Int} : GapsOk l (gs ++ [(f, t)]) ↔ GapsOk l gs ∧ lastOf l gs + 2 ≤ f ∧ f ≤ t ∧ t ≤ 16 := by
  rw [gaps_append]
  simp only [GapsOk, and_true]
/-- While a receipt is made, up to k. -/
structure Tl (es : List Int) (k : Int) (gs : List (Int × Int)) : Prop where
  gaps : GapsOk 0 gs
  mem : ∀ j, Blk gs j ↔ j ∈ es ∧ j < k
  last : lastOf 0 gs ≤ k - 1
section
variable {es : List Int} {k : Int} {gs : List (Int × Int)}
theorem tl_start (h : AscOk 1 es) : Tl es 2 [] :=
  ⟨trivial, fun j => ⟨fun h => absurd h (blk_nil j), fun ⟨h1, h2⟩ => by have := asc_low h j h1; omega⟩, by show (0 : Int) ≤ _; omega⟩
theorem tl_no (h : Tl es k gs) (hk : k ∉ es) : Tl es (k + 1) gs :=
  ⟨h.gaps, fun j => (h.mem j).trans ⟨fun ⟨h1, h2⟩ => ⟨h1, by omega⟩, fun ⟨h1, h2⟩ => ⟨h1, by
    by_cases e : j = k
    · exact absurd (e ▸ h1) hk
    · omega⟩⟩, by have := h.last; omega⟩
theorem tl_more {f : Int} (h : Tl es k (gs ++ [(f, k - 1)])) (hk : k ∈ es) (h16 : k ≤ 16) : Tl es (k + 1) (gs ++ [(f, k)]) := by
  obtain ⟨h1, h2, h3, h4⟩ := gaps_snoc.1 h.gaps
  refine ⟨gaps_snoc.2 ⟨h1, h2, by omega, h16⟩, fun j => ?_, by rw [lastOf_append]; show k ≤ _; omega⟩
  have := h.mem j
  rw [blk_snoc] at this ⊢
  by_cases e : j = k
  · subst e
    exact ⟨fun _ => ⟨hk, by omega⟩, fun _ => .inr ⟨by show f ≤ j; omega, Int.le_refl _⟩⟩
  · constructor
    · rintro (h5 | ⟨h5, h6⟩)
      · have := this.1 (.inl h5)
        exact ⟨this.1, by omega⟩
      · have := this.1 (.inr ⟨h5, by simp only at h6 ⊢; omega⟩)
        exact ⟨this.1, by omega⟩
    · rintro ⟨h5, h6⟩
      rcases this.2 ⟨h5, by omega⟩ with h7 | ⟨h7, h8⟩
      · exact .inl h7
      · exact .inr ⟨h7, by simp only at h8 ⊢; omega⟩
theorem tl_new (h : Tl es k gs) (hk : k ∈ es) (h2k : 2 ≤ k) (h16 : k ≤ 16) (hl : gs = [] ∨ lastOf 0 gs ≠ k - 1) : Tl es (k + 1) (gs ++ [(k, k)]) := by
  have h1 : lastOf 0 gs + 2 ≤ k := by
    rcases hl with rfl | hl
    · show (0 : Int) + 2 ≤ k; omega
    · have := h.last; omega
  refine ⟨gaps_snoc.2 ⟨h.gaps, h1, Int.le_refl _, h16⟩, fun j => ?_, by rw [lastOf_append]; show k ≤ _; omega⟩
  rw [blk_snoc, h.mem j]
  constructor
  · rintro (⟨h5, h6⟩ | ⟨h5, h6⟩)
    · exact ⟨h5, by omega⟩
    · have e : j = k := by simp only at h5 h6; omega
      exact ⟨e ▸ hk, by omega⟩
  · rintro ⟨h5, h6⟩
    by_cases e : j = k
    · exact .inr ⟨by simp only; omega, by simp only; omega⟩
    · exact .inl ⟨h5, by omega⟩
theorem tl_end (h : Tl es 17 gs) (ha : AscOk 1 es) : Told es gs :=
  ⟨ha, h.gaps, fun j => ⟨fun hj => (h.mem j).2 ⟨hj, by have := asc_low ha j hj; omega⟩, fun hj => ((h.mem j).1 hj).1⟩⟩
theorem tl_few (h : Tl es k gs) : gs.length ≤ 8 := by
  have := gaps_few h.gaps (by decide)
  omega
end
/-- While the parts of blocks are collected: those of the first i blocks, and from f up to k. -/
structure Sl (gs : List (Int × Int)) (i : Nat) (f k : Int) (ds : List Int) : Prop where
  asc : AscOk 1 ds
  mem : ∀ j, j ∈ ds ↔ Blk (gs.take i) j ∨ (f ≤ j ∧ j < k)
  last : lastE 1 ds + 1 ≤ k
theorem sl_step {gs : List (Int × Int)} {i : Nat} {f k : Int} {ds : List Int} (h : Sl gs i f k ds) (hf : f ≤ k) (hk : k ≤ 16) : Sl gs i f (k + 1) (ds ++ [k]) := by
  refine ⟨asc_snoc.2 ⟨h.asc, h.last, hk⟩, fun j => ?_, by rw [lastE_snoc]; omega⟩
  rw [List.mem_append, h.mem j, or_assoc]
  constructor
  · rintro (h1 | h1 | h1)
    · exact .inl h1
    · exact .inr ⟨h1.1, by omega⟩
    · have e : j = k := by simpa using h1
      exact .inr ⟨by omega, by omega⟩
  · rintro (h1 | h1)
    · exact .inl h1
    · by_cases e : j = k
      · exact .inr (.inr (by simp [e]))
      · exact .inr (.inl ⟨h1.1, by omega⟩)
/-- Between two blocks. -/
structure So (gs : List (Int × Int)) (i : Nat) (ds : List Int) : Prop where
  asc : AscOk 1 ds
  mem : ∀ j, j ∈ ds ↔ Blk (gs.take i) j
  last : lastE 1 ds ≤ lastOf 0 (gs.take i) + 1
theorem so_start (gs : List (Int × Int)) : So gs 0 [] := ⟨trivial, fun j => ⟨fun h => by simp at h, fun h => absurd h (blk_nil j)⟩, by show (1 : Int) ≤ 0 + 1; omega⟩
theorem so_in {gs : List (Int × Int)} {i : Nat} {ds : List Int} {f t : Int} (h : So gs i ds) (hg : GapsOk 0 gs) (hi : i < gs.length) (hf : (gs.getD i (0, 0)).1 = f) (ht : (gs.getD i (0, 0)).2 = t) : Sl gs i f f ds ∧ 2 ≤ f ∧ f ≤ t ∧ t ≤ 16 := by
  have hn := (gaps_next hi hf ht (gaps_head hg)).1 (gaps_head hg)
  have := last_range (gaps_head (k := i) hg) (by decide) (by decide)
  have hl := h.last
  exact ⟨⟨h.asc, fun j => (h.mem j).trans ⟨fun h => .inl h, fun h => by exact h.elim (fun h => h) (fun h => absurd h.1 (by omega))⟩, by omega⟩, by omega, hn.2.1, hn.2.2⟩
theorem so_out {gs : List (Int × Int)} {i : Nat} {ds : List Int} {f t : Int} (h : Sl gs i f (t + 1) ds) (hi : i < gs.length) (hf : (gs.getD i (0, 0)).1 = f) (ht : (gs.getD i (0, 0)).2 = t) : So gs (i + 1) ds := by
  refine ⟨h.asc, fun j => ?_, ?_⟩
  · rw [h.mem j, take_next hi, blk_snoc, hf, ht]
    exact ⟨fun h => by exact h.elim (fun h => .inl h) (fun h => .inr ⟨h.1, by omega⟩), fun h => by exact h.elim (fun h => .inl h) (fun h => .inr ⟨h.1, by omega⟩)⟩
  · rw [last_next hi, ht]
    have := h.last
    omega
theorem so_end {gs : List (Int × Int)} {i : Nat} {ds : List Int} (h : So gs i ds) (hi : i = gs.length) (hg : GapsOk 0 gs) : Told ds gs := by
  subst hi
  have hm := h.mem
  rw [List.take_of_length_le (Nat.le_refl _)] at hm
  exact ⟨h.asc, hg, hm⟩
theorem sl_few {gs : List (Int × Int)} {i : Nat} {f k : Int} {ds : List Int} (h : Sl gs i f k ds) : ds.length ≤ 15 := by
  have := asc_few h.asc (by decide)
  omega

theorem run_some (P : Int → Prop) (h17 : ¬ P 17) : ∀ (m : Nat) (n : Int), 0 ≤ n → n + m = 16 → (∀ j, 1 ≤ j → j ≤ n → P j) → ∃ n, 0 ≤ n ∧ n ≤ 16 ∧ (∀ j, 1 ≤ j → j ≤ n → P j) ∧ ¬ P (n + 1)
  | 0, n, h0, hm, hr => ⟨n, h0, by omega, hr, by rw [show n + 1 = 17 by omega]; exact h17⟩
  | m + 1, n, h0, hm, hr => by
    by_cases hp : P (n + 1)
    · refine run_some P h17 m (n + 1) (by omega) (by omega) fun j h1 h2 => ?_
      by_cases e : j = n + 1
      · rw [e]; exact hp
      · exact hr j h1 (by omega)
    · exact ⟨n, h0, by omega, hr, hp⟩
theorem mv_some (P : Int → Prop) (n : Int) (hn : 0 ≤ n) (hs : ¬ P (n + 1)) : ∀ (m : Nat) (k : Int) (ds : List Int), n + 1 ≤ k → k + m = 17 → Mv P n k ds → ∃ ds, Mv P n 17 ds
  | 0, k, ds, _, hm, h => ⟨ds, by rw [show (17 : Int) = k by omega]; exact h⟩
  | m + 1, k, ds, hk, hm, h => by
    by_cases hp : P k
    · exact mv_some P n hn hs m (k + 1) _ (by omega) (by omega) (mv_yes h hn hk (by omega) hs hp)
    · exact mv_some P n hn hs m (k + 1) _ (by omega) (by omega) (mv_no h hk hp)
theorem moved_some {P : Int → Prop} (hP : ∀ j, P j → 1 ≤ j ∧ j ≤ 16) : ∃ n es, Moved P n es := by
  obtain ⟨n, h0, h1, hr, hs⟩ := run_some P (fun h => by have := (hP 17 h).2; omega) 16 0 (by omega) (by omega) fun j h1 h2 => by omega
  obtain ⟨ds, hd⟩ := mv_some P n h0 hs (16 - n.toNat) (n + 1) [] (Int.le_refl _) (by omega) mv_start
  exact ⟨n, ds, mv_end hd h0 hr hs hP⟩
theorem told_sack {gs : List (Int × Int)} (h : GapsOk 0 gs) : ∃ es, Told es gs := by
  have hl := blk_low h
  obtain ⟨es, he⟩ := mv_some (Blk gs) 0 (by omega) (fun h => by have := (hl _ h).1; omega) 16 (0 + 1) [] (Int.le_refl _) (by omega) mv_start
  have hm := mv_end he (by omega) (fun j h1 h2 => by omega) (fun h => by have := (hl _ h).1; omega) fun j hj => by have := hl j hj; omega
  refine ⟨es, hm.asc, h, fun j => (hm.mem j).trans ?_⟩
  rw [Int.add_zero]
  exact ⟨fun h => h.2, fun h => ⟨by have := (hl j h).1; omega, h⟩⟩
theorem tl_some {es : List Int} : ∀ (m : Nat) (k : Int) (gs : List (Int × Int)), 2 ≤ k → k + m = 17 → Tl es k gs → ∃ gs, Tl es 17 gs
  | 0, k, gs, _, hm, h => ⟨gs, by rw [show (17 : Int) = k by omega]; exact h⟩
  | m + 1, k, gs, hk, hm, h => by
    by_cases hp : k ∈ es
    · by_cases hl : gs = [] ∨ lastOf 0 gs ≠ k - 1
      · exact tl_some m (k + 1) _ (by omega) (by omega) (tl_new h hp hk (by omega) hl)
      · have h1 : gs ≠ [] := fun e => hl (.inl e)
        have h2 : lastOf 0 gs = k - 1 := Classical.byContradiction fun e => hl (.inr e)
        obtain ⟨hs, g, rfl⟩ : ∃ hs g, gs = hs ++ [g] := ⟨gs.dropLast, gs.getLast h1, (List.dropLast_concat_getLast h1).symm⟩
        obtain ⟨f, t⟩ := g
        rw [lastOf_append] at h2
        obtain rfl : t = k - 1 := h2
        exact tl_some m (k + 1) _ (by omega) (by omega) (tl_more h hp (by omega))
    · exact tl_some m (k + 1) _ (by omega) (by omega) (tl_no h hp)
theorem told_seen_some {es : List Int} (h : AscOk 1 es) : ∃ gs, Told es gs := by
  obtain ⟨gs, hg⟩ := tl_some 15 2 [] (by omega) (by omega) (tl_start h)
  exact ⟨gs, tl_end hg h⟩
/-- What SeenAdd answers to any arguments. -/
def AddV (c : Int) (es : List Int) (t : Int) (c2 : Int) (es2 : List Int) (code : Int) : Prop :=
  ((SeenOk c es ∧ Ser t) ∧ AddIs c es t c2 es2 code) ∨ (¬ (SeenOk c es ∧ Ser t) ∧ c2 = 0 ∧ es2 = [] ∧ code = 3)
theorem addV_one {c t c2 c3 : Int} {es e2 e3 : List Int} {k2 k3 : Int} (h : AddV c es t c2 e2 k2) (k : AddV c es t c3 e3 k3) : c2 = c3 ∧ e2 = e3 ∧ k2 = k3 := by
  rcases h with ⟨h1, h2⟩ | ⟨h1, rfl, rfl, rfl⟩ <;> rcases k with ⟨k1, k2⟩ | ⟨k1, rfl, rfl, rfl⟩
  · exact add_one h2 k2
  · exact absurd h1 k1
  · exact absurd k1 h1
  · exact ⟨rfl, rfl, rfl⟩
theorem addV_some (c : Int) (es : List Int) (t : Int) : ∃ c2 es2 code, AddV c es t c2 es2 code := by
  by_cases h : SeenOk c es ∧ Ser t
  · by_cases h1 : HasS c es t
    · exact ⟨c, es, 1, .inl ⟨h, .inl ⟨h1, rfl, rfl, rfl⟩⟩⟩
    · by_cases h2 : 16 < diffS c t
      · exact ⟨c, es, 2, .inl ⟨h, .inr (.inl ⟨h1, h2, rfl, rfl, rfl⟩)⟩⟩
      · have hf : Fresh es (diffS c t) := ⟨Classical.byContradiction fun e => h1 (.inl (by omega)), by omega, fun e => h1 (.inr e)⟩
        obtain ⟨n, ds, hm⟩ := moved_some (with_range h.1.2 hf.1 hf.2.1)
        exact ⟨addS c n, ds, 0, .inl ⟨h, .inr (.inr ⟨hf, rfl, n, hm, rfl⟩)⟩⟩
  · exact ⟨0, [], 3, .inr ⟨h, rfl, rfl, rfl⟩⟩
/-- The code of a part tells what holds of it. -/
theorem addIs_code {c t c2 code : Int} {es e2 : List Int} (ha : AscOk 1 es) (h : AddIs c es t c2 e2 code) : (code = 0 ∨ code = 1 ∨ code = 2) ∧ (code = 1 ↔ HasS c es t) ∧ (code = 2 ↔ 16 < diffS c t) ∧ (code ≠ 0 → c2 = c ∧ e2 = es) := by
  rcases h with ⟨h1, rfl, rfl, rfl⟩ | ⟨h1, h2, rfl, rfl, rfl⟩ | ⟨h1, rfl, n, h2, rfl⟩
  · refine ⟨.inr (.inl rfl), ⟨fun _ => h1, fun _ => rfl⟩, ⟨fun h => absurd h (by decide), fun h => ?_⟩, fun _ => ⟨rfl, rfl⟩⟩
    rcases h1 with h1 | h1
    · omega
    · have := asc_low ha _ h1
      omega
  · exact ⟨.inr (.inr rfl), ⟨fun h => absurd h (by decide), fun h => absurd h h1⟩, ⟨fun _ => h2, fun _ => rfl⟩, fun _ => ⟨rfl, rfl⟩⟩
  · exact ⟨.inl rfl, ⟨fun h => absurd h (by decide), fun h => absurd h (fresh_not h1)⟩, ⟨fun h => absurd h (by decide), fun h => by have := h1.2.1; omega⟩, fun h => absurd rfl h⟩

end Go.Proofs.Ytncbgejggfkdmaa

/- The contracts of chapter 21's model: the value at the beginning, moving on, a part that arrives. -/
namespace Go.Proofs.Ytncbgejggfkdmaa
open Go.RowKit Go.PlainAid

/-- While those left are collected: the result's variable, the value's at D, its row. -/
structure Mvw (w : World) (c : Int) (D m g cap2 : Nat) (ds : List Int) (W : World) : Prop where
  rb : VarN w.heap.size [.int .i64 0, .slice none 0 0] W
  ob : VarN D [.int .i64 c, .slice (some ⟨g, 0, none⟩) m cap2] W
  own : OwnN m (.slice (some ⟨g, 0, none⟩) m cap2) ds w W
  n1 : w.heap.size < D
  n2 : g ≠ D
  n3 : g ≠ w.heap.size
section
variable {w W W' : World} {c : Int} {D m g cap2 : Nat} {ds : List Int}
theorem Mvw.up (h : Mvw w c D m g cap2 ds W) (hb : Below W.heap.size W W') : Mvw w c D m g cap2 ds W' :=
  ⟨h.rb.below hb (lt_of_cell (h.rb 0 _ rfl).1), h.ob.below hb (lt_of_cell (h.ob 0 _ rfl).1), h.own.below hb, h.n1, h.n2, h.n3⟩
theorem OwnN.push {k g2 cap3 : Nat} {v : Value} {es : List Int} {W1 : World} {e : Int} (h : OwnN k v es w W) (hgrow : W.grownBy W1 v.ownBlock) (hown : W1.ownsRow w.heap.size 3 1 (.slice (some ⟨g2, 0, none⟩) (k + 1) cap3) (k + 1) (flatN es ++ [.int .i64 e])) : OwnN (k + 1) (.slice (some ⟨g2, 0, none⟩) (k + 1) cap3) (es ++ [e]) w W1 :=
  ⟨by rw [flatN_append]; exact hown, Below.grown h.b hgrow h.b.size fun x hx => h.base hx⟩
theorem OwnN.far {k g d i : Nat} {cap : Nat} {es : List Int} (h : OwnN k (.slice (some ⟨g, 0, none⟩) k cap) es w W) (hd : g ≠ d) (hw : w.heap.size ≤ d) (v : Value) : OwnN k (.slice (some ⟨g, 0, none⟩) k cap) es w (W.setCell ⟨d, i, none⟩ v) :=
  ⟨rowFar h.own hd v, h.b.setCell (p := ⟨d, i, none⟩) hw v⟩
theorem OwnN.lt {k g cap : Nat} {es : List Int} (h : OwnN k (.slice (some ⟨g, 0, none⟩) k cap) es w W) : g < W.heap.size := rowLt h.own
/-- A number is appended, and the new slice is laid into the value's variable. -/
theorem Mvw.push {g2 cap3 : Nat} {W1 : World} {e : Int} (h : Mvw w c D m g cap2 ds W) (hgrow : W.grownBy W1 (some g)) (hown : W1.ownsRow w.heap.size 3 1 (.slice (some ⟨g2, 0, none⟩) (m + 1) cap3) (m + 1) (flatN ds ++ [.int .i64 e])) (hat : g2 = g ∨ g2 = W.heap.size) :
    Mvw w c D (m + 1) g2 cap3 (ds ++ [e]) (W1.setCell ⟨D, 1, none⟩ (.slice (some ⟨g2, 0, none⟩) (m + 1) cap3)) := by
  have l1 := lt_of_cell (h.rb 0 _ rfl).1
  have l2 := lt_of_cell (h.ob 0 _ rfl).1
  have n1 := h.n1
  have n2 := h.n2
  have n3 := h.n3
  have x2 : g2 ≠ D := by rcases hat with rfl | rfl <;> omega
  have x3 : g2 ≠ w.heap.size := by rcases hat with rfl | rfl <;> omega
  exact ⟨(h.rb.plus hgrow l1 (fun e => n3 e.symm)).far _ (by omega), (h.ob.plus hgrow l2 (fun e => n2 e.symm)).set (i := 1) _, (h.own.push hgrow hown).far x2 (by omega) _, n1, x2, x3⟩
end

end Go.Proofs.Ytncbgejggfkdmaa

/- Assemblies, plain: a message is followed, step by step. -/
namespace Go.Proofs.Ytncbgejggfkdmaa
open Go.RowKit Go.PlainAid

theorem idx_cases (ps : List Part) (t : Int) : idxP ps t = none ∨ ∃ j, j < ps.length ∧ idxP ps t = some j := by
  cases h : idxP ps t with
  | none => exact .inl rfl
  | some j => exact .inr ⟨j, (idx_some h).1, rfl⟩
theorem idx_has {ps : List Part} {t : Int} (h : idxP ps t = none) : hasT ps t = false := by
  cases hc : hasT ps t with
  | false => rfl
  | true =>
    unfold hasT at hc
    rw [List.any_eq_true] at hc
    obtain ⟨p, hp, e⟩ := hc
    exact absurd (by simpa using e) (idx_none h p hp)
theorem chain_last {ps : List Part} {f k : Nat} {out : List Nat} (hf : 1 ≤ f) (h : (pAt ps k).last = true) : chainP ps f k out = out := by
  obtain ⟨f, rfl⟩ : ∃ f', f = f' + 1 := ⟨f - 1, by omega⟩
  unfold chainP
  rw [if_pos h]
theorem chain_stop {ps : List Part} {f k : Nat} {out : List Nat} (hf : 1 ≤ f) (h : (pAt ps k).last = false) (hi : idxP ps (addS (pAt ps k).tsn 1) = none) : chainP ps f k out = [] := by
  obtain ⟨f, rfl⟩ : ∃ f', f = f' + 1 := ⟨f - 1, by omega⟩
  unfold chainP
  rw [if_neg (by simp [h]), hi]
theorem chain_bad {ps : List Part} {f k j : Nat} {out : List Nat} (hf : 1 ≤ f) (h : (pAt ps k).last = false) (hi : idxP ps (addS (pAt ps k).tsn 1) = some j) (hb : (pAt ps j).first = true ∨ sameM (pAt ps k) (pAt ps j) = false ∨ 12 < out.length) : chainP ps f k out = [] := by
  obtain ⟨f, rfl⟩ : ∃ f', f = f' + 1 := ⟨f - 1, by omega⟩
  unfold chainP
  rw [if_neg (by simp [h]), hi]
  simp only
  rw [if_pos]
  rcases hb with h | h | h <;> simp [h]
theorem chain_go {ps : List Part} {f k j : Nat} {out : List Nat} (hf : 1 ≤ f) (h : (pAt ps k).last = false) (hi : idxP ps (addS (pAt ps k).tsn 1) = some j) (h1 : (pAt ps j).first = false) (h2 : sameM (pAt ps k) (pAt ps j) = true) (h3 : out.length ≤ 12) : chainP ps f k out = chainP ps (f - 1) j (out ++ [j]) := by
  obtain ⟨f, rfl⟩ : ∃ f', f = f' + 1 := ⟨f - 1, by omega⟩
  have : f + 1 - 1 = f := rfl
  rw [this]
  conv => lhs; unfold chainP
  rw [if_neg (by simp [h]), hi]
  simp only
  rw [if_neg]
  simp [h1, h2]
  omega
theorem Cn.nd {ps : List Part} {k : Nat} {out : List Nat} (h : Cn ps k out) : out.Nodup := by
  rw [List.nodup_iff_pairwise_ne, List.pairwise_iff_getElem]
  intro i j hi hj hij e
  have h1 := h.tsn i hi
  have h2 := h.tsn j hj
  rw [List.getD_eq_getElem?_getD, List.getElem?_eq_getElem hi] at h1
  rw [List.getD_eq_getElem?_getD, List.getElem?_eq_getElem hj] at h2
  have e2 : (some out[i]).getD 0 = (some out[j]).getD 0 := e
  rw [e2] at h1
  have hl := h.len
  have := addS_inj (t := (pAt ps (out.getD 0 0)).tsn) (by omega) (by omega) (h1.symm.trans h2)
  omega
theorem Cn.fits {ps : List Part} {k : Nat} {out : List Nat} (h : Cn ps k out) : out.length ≤ ps.length := by
  have := (rest_perm h.nd h.lt).length_eq
  rw [List.length_append, List.length_map] at this
  omega
theorem find_skip {next : List Int} {ps : List Part} {i m : Nat} (h : dueP next (pAt ps i) = false ∨ chainOf ps i = []) (hm : 1 ≤ m) : findFrom next ps i m = findFrom next ps (i + 1) (m - 1) := by
  obtain ⟨m, rfl⟩ : ∃ m', m = m' + 1 := ⟨m - 1, by omega⟩
  conv => lhs; unfold findFrom
  rw [if_neg]
  · rfl
  · rcases h with h | h <;> simp [h]
theorem find_here {next : List Int} {ps : List Part} {i m : Nat} (h1 : dueP next (pAt ps i) = true) (h2 : chainOf ps i ≠ []) (hm : 1 ≤ m) : findFrom next ps i m = chainOf ps i := by
  obtain ⟨m, rfl⟩ : ∃ m', m = m' + 1 := ⟨m - 1, by omega⟩
  unfold findFrom
  rw [if_pos (by simp [h1, h2])]

end Go.Proofs.Ytncbgejggfkdmaa

/- The contracts of chapter 22's model: the parts of a message. -/
namespace Go.Proofs.Ytncbgejggfkdmaa
open Go.RowKit Go.PlainAid

theorem quiet_loadQ {P : Program} {C : World → Prop} {a : Act} {o : Oper} {K : Act → Prop} {T : TypeId} {x : Operand} {p v : Value} (h : o.op = .load T x) (hp : a.eval x = p) (hl : ∀ W, C W → (Instr.loadAt T p).run P W = .ok v W) (hk : K (a.put o.dst v)) : o.quiet P a C K :=
  ⟨v, fun W hW => by
    unfold Oper.quietAt
    simp [execOp, h, hp, hl W hW, Oper.quietUpon], hk⟩
theorem load_parts {W : World} {x : Addr} {len cap i : Nat} {ps : List Part} (h : Pts W (some x) len cap ps) (hi : i < len) : (Instr.loadAt 28 (.pointer (some (x.add (i * 7))))).run Try.prog W = .ok (partV (pAt ps i)) W := by
  obtain ⟨l0, l1, l2, l3, l4, l5, l6⟩ := h.at (Below.refl _ _) hi
  obtain ⟨⟨t, s, q, fi, la, lo, tx⟩, hp⟩ : ∃ p, pAt ps i = p := ⟨_, rfl⟩
  rw [hp] at l0 l1 l2 l3 l4 l5 l6 ⊢
  dsimp only at l0 l1 l2 l3 l4 l5 l6
  clear h hp
  unfold partV
  go_simp
theorem load_first {W : World} {x : Addr} {len cap i : Nat} {ps : List Part} (h : Pts W (some x) len cap ps) (hi : i < len) : (Instr.loadAt 4 (.pointer (some ⟨(x.add (i * 7)).block, (x.add (i * 7)).off + 3, none⟩))).run Try.prog W = .ok (.bool (pAt ps i).first) W := by
  obtain ⟨l0, l1, l2, l3, l4, l5, l6⟩ := h.at (Below.refl _ _) hi
  clear h l0 l1 l2 l4 l5 l6
  go_simp
def lenQ : Value → Nat
  | .slice _ n _ => n
  | _ => 0
/-- Places as numbers. -/
def natI (l : List Nat) : List Int := l.map fun i : Nat => (i : Int)
theorem natI_length (l : List Nat) : (natI l).length = l.length := List.length_map _
theorem natI_snoc (l : List Nat) (i : Nat) : natI (l ++ [i]) = natI l ++ [(i : Int)] := by unfold natI; rw [List.map_append]; rfl
theorem natI_at {l : List Nat} {i : Nat} (h : i < l.length) : nAt (natI l) i = ((l.getD i 0 : Nat) : Int) := by
  unfold nAt natI
  rw [List.getD_eq_getElem?_getD, List.getElem?_map, List.getD_eq_getElem?_getD, List.getElem?_eq_getElem h]
  rfl
theorem natI_mem {l : List Nat} {i : Nat} : ((i : Int) ∈ natI l) ↔ i ∈ l := by
  unfold natI
  rw [List.mem_map]
  exact ⟨fun ⟨j, hj, e⟩ => by have : j = i := by omega
                              exact this ▸ hj, fun h => ⟨i, h, rfl⟩⟩
theorem OwnN.pushN {w W W1 : World} {k : Nat} {es : List Int} {v : Value} {g2 cap2 : Nat} {e : Int} (h : OwnN k v es w W) (hgrow : W.grownBy W1 v.ownBlock) (hown : W1.ownsRow w.heap.size 3 1 (.slice (some ⟨g2, 0, none⟩) (k + 1) cap2) (k + 1) (flatN es ++ [.int .i64 e])) : OwnN (k + 1) (.slice (some ⟨g2, 0, none⟩) (k + 1) cap2) (es ++ [e]) w W1 :=
  ⟨by rw [flatN_append]; exact hown, Below.grown h.b hgrow h.b.size fun x hx => h.base hx⟩
theorem OwnN.one {w W : World} {k : Nat} (hb : Below w.heap.size w W) : OwnN 1 (.slice (some ⟨W.heap.size, 0, none⟩) 1 1) (natI [k]) w (W.alloc (.cells #[.int .i64 k] 3)) :=
  ⟨World.ownsRow_lit (base := w.heap.size) (e := 3) (size := 1) W #[.int .i64 k] 1 hb.size (by decide) rfl, hb.alloc hb.size _⟩
theorem idxV_is {ps : List Part} {t : Int} : (idxP ps t = none → idxV ps t = -1) ∧ ∀ j, idxP ps t = some j → idxV ps t = (j : Int) := by
  unfold idxV
  exact ⟨fun h => by rw [h], fun j h => by rw [h]⟩
/-- While the parts of a message are sought. -/
structure Chw (ps : List Part) (k0 : Nat) (w : World) (k : Nat) (out : List Nat) (m g cap2 : Nat) (W : World) : Prop where
  f : chainP ps (15 - m) k out = chainOf ps k0
  lo : 1 ≤ m
  hi : m ≤ 13
  ln : out.length = m
  own : OwnN m (.slice (some ⟨g, 0, none⟩) m cap2) (natI out) w W

set_option maxRecDepth 8000 in
set_option maxHeartbeats 1500000 in
theorem l22Chain_any (x : Addr) (len cap : Nat) (ps : List Part) (k0 : Nat) (w : World) (h : Pts w (some x) len cap ps) (hk0 : k0 < len) (ht : ∀ p ∈ ps, Ser p.tsn) :
    Calls Try.prog 79 #[.slice (some x) len cap, .int .i64 k0] w fun e w' => ∃ m g cap2, e = .returned (.slice (some ⟨g, 0, none⟩) m cap2) ∧ m = (chainOf ps k0).length ∧ OwnN m (.slice (some ⟨g, 0, none⟩) m cap2) (natI (chainOf ps k0)) w w' := by
  have hl := h.length
  have hm := h.len_int
  have HG := Lib.hid h
  have HT := Lib.hid ht
  have S0 := Lib.hid (show Chw ps k0 w k0 [k0] 1 w.heap.size 1 (w.alloc (.cells #[.int .i64 k0] 3)) from ⟨rfl, by omega, by omega, rfl, OwnN.one (Below.refl _ _)⟩)
  obtain ⟨i0, hi, hz0, hz1, hz2⟩ := info_parts info_n
  have HI := Lib.hid (And.intro hi (And.intro hz0 (And.intro hz1 hz2)))
  have HL := Lib.hid hl
  clear hi hz0 hz1 hz2
  clear h ht hl
  go_enter Try.func79, Try.ntmps79
  go_wp2
  go_loopw [1, 5] (fun kv ov wr => ∃ (k : Nat) (out : List Nat) (m g cap2 : Nat), k < len ∧ kv = .int .i64 k ∧ ov = .slice (some ⟨g, 0, none⟩) m cap2 ∧ m ≤ 13 ∧ Hid (Chw ps k0 w k out m g cap2 wr)) (fun _ ov _ => 14 - lenQ ov)
  case atStart => exact ⟨k0, [k0], 1, w.heap.size, 1, hk0, rfl, rfl, by omega, S0⟩
  case round =>
    obtain ⟨k, out, m, g, cap2, hk, rfl, rfl, h13, hC⟩ := hrel
    clear S0
    have hkl : k < ps.length := by rw [HL.out]; exact hk
    obtain ⟨p0, p1, p2, p3, p4, p5, p6⟩ := HG.out.at hC.out.own.b hk
    have HS := Lib.hid (HT.out _ (pAt_mem hkl))
    have hf : 1 ≤ 15 - m := by omega
    cases hla : (pAt ps k).last with
    | true =>
      have E := Lib.hid (show chainOf ps k0 = out from hC.out.f.symm.trans (chain_last hf hla))
      have hln := Lib.hid hC.out.ln
      have O := Lib.hid hC.out.own
      rw [hla] at p4
      clear hC hla p1 p2 p3 p5 p6
      go_wp2
      go_ret
      exact ⟨m, g, cap2, rfl, by rw [E.out]; exact hln.out.symm, by rw [E.out]; exact O.out⟩
    | false =>
      rw [hla] at p4
      have HLA := Lib.hid hla
      have hsz := hC.out.own.b.size
      obtain ⟨t, htt⟩ : ∃ t, (pAt ps k).tsn = t := ⟨_, rfl⟩
      have HTT := Lib.hid htt
      rw [htt] at p0 HS
      clear hla htt p1 p2 p3 p5 p6
      go_wp2_with fail
      refine (l3Add_any t 1 _ HS.out).mono ?_
      rintro e w1 ⟨rfl, rfl⟩
      go_wp2_with fail
      refine (l22At_any _ len cap ps _ _ (HG.out.below hC.out.own.b)).mono ?_
      rintro e w2 ⟨rfl, hb2⟩
      have hC := Lib.hid (show Chw ps k0 w k out m g cap2 w2 from ⟨hC.out.f, hC.out.lo, hC.out.hi, hC.out.ln, hC.out.own.below hb2⟩)
      have hsz2 := hC.out.own.b.size
      clear hb2 p0 p4 hsz
      rcases idx_cases ps (addS t 1) with hx | ⟨j, hjl, hx⟩
      · have E := Lib.hid (show chainOf ps k0 = [] from hC.out.f.symm.trans (chain_stop hf HLA.out (by rw [HTT.out]; exact hx)))
        rw [idxV_is.1 hx]
        clear hx
        go_wp2_with fail
        go_quiet (fail)
        have hb := below_drewN hC.out.own.b nq
        go_wp2
        go_ret
        exact ⟨0, _, 0, rfl, by rw [E.out]; rfl, by rw [E.out]; exact OwnN.start hb⟩
      · have hj : j < len := by rw [← HL.out]; exact hjl
        have hj2 : decide ((j : Int) < 0) = false := decide_eq_false (by omega)
        have HX := Lib.hid (show idxP ps (addS (pAt ps k).tsn 1) = some j by rw [HTT.out]; exact hx)
        rw [idxV_is.2 j hx]
        have HW := Lib.hid (HG.out.below hC.out.own.b)
        have LK : ∀ W, Below w2.heap.size w2 W → (Instr.loadAt 28 (.pointer (some (x.add (k * 7))))).run Try.prog W = .ok (partV (pAt ps k)) W := fun W hW => load_parts (HW.out.below hW) hk
        have LJ : ∀ W, Below w2.heap.size w2 W → (Instr.loadAt 28 (.pointer (some (x.add (j * 7))))).run Try.prog W = .ok (partV (pAt ps j)) W := fun W hW => load_parts (HW.out.below hW) hj
        have SM := fun w => l22Same_any (pAt ps k) (pAt ps j) w
        clear hx hjl
        cases hfi : (pAt ps j).first with
        | true =>
          have LF : ∀ W, Below w2.heap.size w2 W → (Instr.loadAt 4 (.pointer (some ⟨(x.add (j * 7)).block, (x.add (j * 7)).off + 3, none⟩))).run Try.prog W = .ok (.bool true) W := fun W hW => hfi ▸ load_first (HW.out.below hW) hj
          have E := Lib.hid (show chainOf ps k0 = [] from hC.out.f.symm.trans (chain_bad hf HLA.out HX.out (.inl hfi)))
          have SMH := Lib.hid SM
          clear hfi SM
          go_wp2_with fail
          refine region_class (C := fun W => Below w2.heap.size w2 W) (by kernel_rfl) (by kernel_rfl) (Below.drew (Below.refl _ _)) ?_
          repeat (first
            | go_big_quiet_skip
            | (go_big_quiet_want; go_big_quiet_op; go_big_quiet_on)
            | (refine BigFrame.wpQuiet_want (by rfl) (fun K hK => ?_)
               first
                 | (refine quiet_loadQ (x := .tmp 35) (by with_reducible rfl) (by rfl) LK (hK _ ?_))
                 | (refine quiet_loadQ (x := .tmp 39) (by with_reducible rfl) (by rfl) LJ (hK _ ?_))
                 | (refine quiet_loadQ (x := .tmp 29) (by with_reducible rfl) (by rfl) LF (hK _ ?_))
                 | (apply Exists.intro
                    refine ⟨fun W hW => ?_, hK _ ?_⟩
                    next =>
                      go_simp
                      first
                        | with_reducible exact rfl
                        | (refine (SMH.out _).mono ?_; rintro e w3 ⟨rfl, hb3⟩; exact ⟨rfl, hW.trans (hb3.mono hW.size)⟩))
               conv => arg 6; simp only [Act.put, List.setIfInBounds_toArray, List.set_cons_zero, List.set_cons_succ]
               clear hK K))
          refine wpQuiet_nil ?_
          intro W hW
          clear LK LJ LF
          have hb := hC.out.own.b.trans (hW.mono hsz2)
          go_wp2
          go_ret
          exact ⟨0, _, 0, rfl, by rw [E.out]; rfl, by rw [E.out]; exact OwnN.start hb⟩
        | false =>
          have LF : ∀ W, Below w2.heap.size w2 W → (Instr.loadAt 4 (.pointer (some ⟨(x.add (j * 7)).block, (x.add (j * 7)).off + 3, none⟩))).run Try.prog W = .ok (.bool false) W := fun W hW => hfi ▸ load_first (HW.out.below hW) hj
          have HFI := Lib.hid hfi
          clear hfi
          cases hsm : sameM (pAt ps k) (pAt ps j) with
          | false =>
            have E := Lib.hid (show chainOf ps k0 = [] from hC.out.f.symm.trans (chain_bad hf HLA.out HX.out (.inr (.inl hsm))))
            simp only [hsm] at SM
            have SMH := Lib.hid SM
            clear hsm SM
            go_wp2_with fail
            refine region_class (C := fun W => Below w2.heap.size w2 W) (by kernel_rfl) (by kernel_rfl) (Below.drew (Below.refl _ _)) ?_
            repeat (first
              | go_big_quiet_skip
              | (go_big_quiet_want; go_big_quiet_op; go_big_quiet_on)
              | (refine BigFrame.wpQuiet_want (by rfl) (fun K hK => ?_)
                 first
                   | (refine quiet_loadQ (x := .tmp 35) (by with_reducible rfl) (by rfl) LK (hK _ ?_))
                   | (refine quiet_loadQ (x := .tmp 39) (by with_reducible rfl) (by rfl) LJ (hK _ ?_))
                   | (refine quiet_loadQ (x := .tmp 29) (by with_reducible rfl) (by rfl) LF (hK _ ?_))
                   | (apply Exists.intro
                      refine ⟨fun W hW => ?_, hK _ ?_⟩
                      next =>
                        go_simp
                        first
                          | with_reducible exact rfl
                          | (refine (SMH.out _).mono ?_; rintro e w3 ⟨rfl, hb3⟩; exact ⟨rfl, hW.trans (hb3.mono hW.size)⟩))
                 conv => arg 6; simp only [Act.put, List.setIfInBounds_toArray, List.set_cons_zero, List.set_cons_succ]
                 clear hK K))
            refine wpQuiet_nil ?_
            intro W hW
            clear LK LJ LF
            have hb := hC.out.own.b.trans (hW.mono hsz2)
            go_wp2
            go_ret
            exact ⟨0, _, 0, rfl, by rw [E.out]; rfl, by rw [E.out]; exact OwnN.start hb⟩
          | true =>
            have HSM := Lib.hid hsm
            simp only [hsm] at SM
            have SMH := Lib.hid SM
            clear hsm SM
            by_cases h12 : 12 < m
            · have E := Lib.hid (show chainOf ps k0 = [] from hC.out.f.symm.trans (chain_bad hf HLA.out HX.out (.inr (.inr (by rw [hC.out.ln]; exact h12)))))
              have hm2 : decide ((12 : Int) < (m : Int)) = true := decide_eq_true (by omega)
              go_wp2_with fail
              refine region_class (C := fun W => Below w2.heap.size w2 W) (by kernel_rfl) (by kernel_rfl) (Below.drew (Below.refl _ _)) ?_
              repeat (first
                | go_big_quiet_skip
                | (go_big_quiet_want; go_big_quiet_op; go_big_quiet_on)
                | (refine BigFrame.wpQuiet_want (by rfl) (fun K hK => ?_)
                   first
                     | (refine quiet_loadQ (x := .tmp 35) (by with_reducible rfl) (by rfl) LK (hK _ ?_))
                     | (refine quiet_loadQ (x := .tmp 39) (by with_reducible rfl) (by rfl) LJ (hK _ ?_))
                     | (refine quiet_loadQ (x := .tmp 29) (by with_reducible rfl) (by rfl) LF (hK _ ?_))
                     | (apply Exists.intro
                        refine ⟨fun W hW => ?_, hK _ ?_⟩
                        next =>
                          go_simp
                          first
                            | with_reducible exact rfl
                            | (refine (SMH.out _).mono ?_; rintro e w3 ⟨rfl, hb3⟩; exact ⟨rfl, hW.trans (hb3.mono hW.size)⟩))
                   conv => arg 6; simp only [Act.put, List.setIfInBounds_toArray, List.set_cons_zero, List.set_cons_succ]
                   clear hK K))
              refine wpQuiet_nil ?_
              intro W hW
              clear LK LJ LF
              have hb := hC.out.own.b.trans (hW.mono hsz2)
              go_wp2
              go_ret
              exact ⟨0, _, 0, rfl, by rw [E.out]; rfl, by rw [E.out]; exact OwnN.start hb⟩
            · have hm2 : decide ((12 : Int) < (m : Int)) = false := decide_eq_false (by omega)
              have F2 := Lib.hid (show chainP ps (15 - (m + 1)) j (out ++ [j]) = chainOf ps k0 from by
                have := chain_go hf HLA.out HX.out HFI.out HSM.out (by rw [hC.out.ln]; omega)
                rw [show 15 - m - 1 = 15 - (m + 1) from by omega] at this
                exact this.symm.trans hC.out.f)
              have hln := Lib.hid hC.out.ln
              go_wp2_with fail
              refine region_class (C := fun W => Below w2.heap.size w2 W) (by kernel_rfl) (by kernel_rfl) (Below.drew (Below.refl _ _)) ?_
              repeat (first
                | go_big_quiet_skip
                | (go_big_quiet_want; go_big_quiet_op; go_big_quiet_on)
                | (refine BigFrame.wpQuiet_want (by rfl) (fun K hK => ?_)
                   first
                     | (refine quiet_loadQ (x := .tmp 35) (by with_reducible rfl) (by rfl) LK (hK _ ?_))
                     | (refine quiet_loadQ (x := .tmp 39) (by with_reducible rfl) (by rfl) LJ (hK _ ?_))
                     | (refine quiet_loadQ (x := .tmp 29) (by with_reducible rfl) (by rfl) LF (hK _ ?_))
                     | (apply Exists.intro
                        refine ⟨fun W hW => ?_, hK _ ?_⟩
                        next =>
                          go_simp
                          first
                            | with_reducible exact rfl
                            | (refine (SMH.out _).mono ?_; rintro e w3 ⟨rfl, hb3⟩; exact ⟨rfl, hW.trans (hb3.mono hW.size)⟩))
                   conv => arg 6; simp only [Act.put, List.setIfInBounds_toArray, List.set_cons_zero, List.set_cons_succ]
                   clear hK K))
              refine wpQuiet_nil ?_
              intro W hW
              clear LK LJ LF
              have MA := Lib.hid ((hC.out.own.below hW).below (below_box (.cells #[.int .i64 (j : Int)] 3) (Nat.le_refl _)))
              have hszW := Nat.le_trans hsz2 hW.size
              clear hW hC hm2 hj2
              go_wp2_with (at_builtin; go_loud (refine wpList_append_lies _ rfl _ _ 23 rfl w.heap.size 3 i0 (.int .i64 0) 1 8 Try.underlying23 HI.out.1 HI.out.2.1 HI.out.2.2.1 HI.out.2.2.2 rfl (by decide) (.slice (some ⟨g, 0, none⟩) m cap2) m (flatN (natI out)) rfl MA.out.own ⟨W.heap.size, 0, none⟩ 1 1 [.int .i64 (j : Int)] rfl rfl (news_box rfl) (by simp [Value.oneCell']) (by decide) (by unfold maxLen; omega) (by omega) (by simp; omega) _ rfl ?_))
              intro g3 cap3 w9 hown hgrow hat hlt9
              have MP := Lib.hid (show Chw ps k0 w j (out ++ [j]) (m + 1) g3 cap3 w9 from ⟨F2.out, by omega, by omega, by rw [List.length_append, hln.out]; rfl, by rw [natI_snoc]; exact MA.out.pushN hgrow hown⟩)
              clear hown hgrow hat hlt9 MA
              go_wp2
              go_roundw
              case rel => exact ⟨j, out ++ [j], m + 1, g3, cap3, hj, rfl, rfl, by omega, MP⟩
              case measure => simp [lenQ]; omega

end Go.Proofs.Ytncbgejggfkdmaa

/- The contracts of chapter 22's model: the first message that is due. -/
namespace Go.Proofs.Ytncbgejggfkdmaa
open Go.RowKit Go.PlainAid

theorem _root_.Go.RowKit.Below.drewQ {B : Nat} {a w : World} (h : Below B a w) (n : Nat) : Below B a (w.drewN n) := ⟨h.os, h.tape, h.output, h.size, h.block⟩
set_option maxRecDepth 4000 in
set_option maxHeartbeats 8000000 in
theorem l22Find_any (an : Option Addr) (ln cn : Nat) (next : List Int) (ap : Option Addr) (lp cp : Nat) (ps : List Part) (w : World) (h : Ns w an ln cn next) (hp : Pts w ap lp cp ps) (ha : AsmOk next ps) :
    Calls Try.prog 52 #[.agg #[.slice an ln cn, .slice ap lp cp]] w fun e w' => ∃ m g cap2, e = .returned (.slice (some ⟨g, 0, none⟩) m cap2) ∧ m = (findP next ps).length ∧ OwnN m (.slice (some ⟨g, 0, none⟩) m cap2) (natI (findP next ps)) w w' := by
  have hl := h.length
  have hm := h.len_int
  have HG := Lib.hid h
  have hlp := hp.length
  have hmp := hp.len_int
  have HP := Lib.hid hp
  have HA := Lib.hid ha
  have few := ha.few
  clear h hp ha
  go_enter Try.func52, Try.ntmps52
  go_wp2
  go_loopw [3] (fun i wr => ∃ k : Nat, k ≤ lp ∧ i = .int .i64 k ∧ Hid (findFrom next ps k (lp - k) = findP next ps) ∧ wr.cell? ⟨w.heap.size, 0, none⟩ = some (.slice an ln cn) ∧ wr.cell? ⟨w.heap.size, 1, none⟩ = some (.slice ap lp cp) ∧ Hid (Below w.heap.size w wr)) (fun i _ => lp - (intOf i).toNat)
  case atStart => exact ⟨0, Nat.zero_le _, rfl, Lib.hid (by unfold findP; rw [hlp]; rfl), by simp, by simp, Lib.hid (below_box _ (Nat.le_refl _))⟩
  case round =>
    obtain ⟨k, hk, rfl, hF, hc0, hc1, hbel⟩ := hrel
    have nes : ¬ w.heap.size = wr.heap.size := by have := lt_of_cell hc0; omega
    by_cases hlt : k < lp
    · obtain ⟨x, rfl⟩ := HP.out.addr hlt
      obtain ⟨p0, p1, p2, p3, p4, p5, p6⟩ := HP.out.at hbel.out hlt
      have hkl : k < ps.length := by omega
      obtain ⟨⟨t, s, q, fi, la, lo, tx⟩, he⟩ : ∃ e, pAt ps k = e := ⟨_, rfl⟩
      have HE := Lib.hid he
      have HO := Lib.hid (HA.out.ok _ (pAt_mem hkl))
      rw [he] at p0 p1 p2 p3 p4 p5 p6 HO
      dsimp only at p0 p1 p2 p3 p4 p5 p6
      obtain ⟨sn, rfl⟩ : ∃ sn : Nat, s = (sn : Int) := ⟨s.toNat, by have := HO.out.1.2.1.1; dsimp only at this; omega⟩
      have hsn : sn < ln := by have := HO.out.2; dsimp only at this; omega
      obtain ⟨y, rfl⟩ := HG.out.addr hsn
      have n0 := HG.out.at hbel.out hsn
      obtain ⟨nx, hnx⟩ : ∃ nx, nAt next sn = nx := ⟨_, rfl⟩
      rw [hnx] at n0
      have HN := Lib.hid hnx
      have hsi : ((sn : Nat) : Int) < (ln : Int) := by omega
      clear he hnx
      have DU := Lib.hid (show dueP next (pAt ps k) = (fi && (lo || q == nx)) by rw [HE.out, ← HN.out]; rfl)
      have BX := below_box (w := wr) (.cells #[.int .i64 t, .int .i64 (sn : Int), .int .i64 q, .bool fi, .bool la, .bool lo, .string tx] 28) (Nat.le_refl _)
      have g0 := (BX.cell (World.block_lt_of_cell? _ _ hc0)).trans hc0
      have g1 := (BX.cell (World.block_lt_of_cell? _ _ hc1)).trans hc1
      have g2 := (BX.cell (World.block_lt_of_cell? _ _ n0)).trans n0
      have HBx := Lib.hid (hbel.out.trans (BX.mono hbel.out.size))
      clear BX
      cases fi with
      | false =>
        have F := Lib.hid (show findFrom next ps (k + 1) (lp - (k + 1)) = findP next ps by have h := find_skip (next := next) (ps := ps) (i := k) (m := lp - k) (.inl (by rw [DU.out]; rfl)) (by omega); rw [Nat.sub_sub] at h; exact h.symm.trans hF.out)
        go_wp2_with fail
        go_quiet (fail)
        go_wp2
        go_roundw
        case rel => exact ⟨k + 1, by omega, by go_num, F, by simpa using g0, by simpa using g1, Lib.hid (HBx.out.drewQ _)⟩
        case measure => simp [intOf]; omega
      | true =>
        cases lo with
        | true =>
          have DT := Lib.hid (show dueP next (pAt ps k) = true by rw [DU.out]; rfl)
          go_wp2_with fail
          go_quiet (fail)
          go_wp2_with fail
          refine (l22Chain_any x lp cp ps k _ (HP.out.below (HBx.out.drewQ _)) hlt (fun p hp => ⟨(HA.out.ok p hp).1.1.1, by have := (HA.out.ok p hp).1.1.2; omega⟩)).mono ?_
          rintro e w3 ⟨m, g, cap2, rfl, hm4, ho3⟩
          have hm3 := Lib.hid hm4
          clear hm4
          have O := Lib.hid (ho3.low (HBx.out.drewQ _))
          have k0 := (ho3.b.cell (World.block_lt_of_cell? _ _ (by simpa using g0))).trans (show _ = _ by simpa using g0)
          have k1 := (ho3.b.cell (World.block_lt_of_cell? _ _ (by simpa using g1))).trans (show _ = _ by simpa using g1)
          clear ho3 g0 g1 g2 hc0 hc1 p0 p1 p2 p3 p4 p5 p6 n0
          by_cases hm0 : m = 0
          · have F := Lib.hid (show findFrom next ps (k + 1) (lp - (k + 1)) = findP next ps by have h := find_skip (next := next) (ps := ps) (i := k) (m := lp - k) (.inr (List.eq_nil_of_length_eq_zero (by rw [← hm3.out]; exact hm0))) (by omega); rw [Nat.sub_sub] at h; exact h.symm.trans hF.out)
            subst hm0
            go_wp2
            go_roundw
            case rel => exact ⟨k + 1, by omega, by go_num, F, k0, k1, Lib.hid O.out.b⟩
            case measure => simp [intOf]; omega
          · have E := Lib.hid (show findP next ps = chainOf ps k from hF.out.symm.trans (find_here DT.out (fun h => hm0 (by rw [hm3.out, h]; rfl)) (by omega)))
            have hpos : (0 : Int) < (m : Int) := by omega
            go_wp2
            go_ret
            exact ⟨m, g, cap2, rfl, by rw [E.out]; exact hm3.out, by rw [E.out]; exact O.out⟩
        | false =>
          by_cases hq : q = nx
          · subst hq
            have DT := Lib.hid (show dueP next (pAt ps k) = true by rw [DU.out]; simp)
            go_wp2_with fail
            go_quiet (fail)
            go_wp2_with fail
            refine (l22Chain_any x lp cp ps k _ (HP.out.below (HBx.out.drewQ _)) hlt (fun p hp => ⟨(HA.out.ok p hp).1.1.1, by have := (HA.out.ok p hp).1.1.2; omega⟩)).mono ?_
            rintro e w3 ⟨m, g, cap2, rfl, hm4, ho3⟩
            have hm3 := Lib.hid hm4
            clear hm4
            have O := Lib.hid (ho3.low (HBx.out.drewQ _))
            have k0 := (ho3.b.cell (World.block_lt_of_cell? _ _ (by simpa using g0))).trans (show _ = _ by simpa using g0)
            have k1 := (ho3.b.cell (World.block_lt_of_cell? _ _ (by simpa using g1))).trans (show _ = _ by simpa using g1)
            clear ho3 g0 g1 g2 hc0 hc1 p0 p1 p2 p3 p4 p5 p6 n0
            by_cases hm0 : m = 0
            · have F := Lib.hid (show findFrom next ps (k + 1) (lp - (k + 1)) = findP next ps by have h := find_skip (next := next) (ps := ps) (i := k) (m := lp - k) (.inr (List.eq_nil_of_length_eq_zero (by rw [← hm3.out]; exact hm0))) (by omega); rw [Nat.sub_sub] at h; exact h.symm.trans hF.out)
              subst hm0
              go_wp2
              go_roundw
              case rel => exact ⟨k + 1, by omega, by go_num, F, k0, k1, Lib.hid O.out.b⟩
              case measure => simp [intOf]; omega
            · have E := Lib.hid (show findP next ps = chainOf ps k from hF.out.symm.trans (find_here DT.out (fun h => hm0 (by rw [hm3.out, h]; rfl)) (by omega)))
              have hpos : (0 : Int) < (m : Int) := by omega
              go_wp2
              go_ret
              exact ⟨m, g, cap2, rfl, by rw [E.out]; exact hm3.out, by rw [E.out]; exact O.out⟩
          · have hq2 : decide (q = nx) = false := decide_eq_false hq
            have F := Lib.hid (show findFrom next ps (k + 1) (lp - (k + 1)) = findP next ps by have h := find_skip (next := next) (ps := ps) (i := k) (m := lp - k) (.inl (by rw [DU.out]; simp [hq])) (by omega); rw [Nat.sub_sub] at h; exact h.symm.trans hF.out)
            go_wp2_with fail
            go_quiet (fail)
            go_wp2
            go_roundw
            case rel => exact ⟨k + 1, by omega, by go_num, F, by simpa using g0, by simpa using g1, Lib.hid (HBx.out.drewQ _)⟩
            case measure => simp [intOf]; omega
    · obtain rfl : k = lp := by omega
      have E := Lib.hid (show findP next ps = [] by rw [← hF.out, Nat.sub_self]; rfl)
      go_wp2
      go_ret
      exact ⟨0, _, 0, rfl, by rw [E.out]; rfl, by rw [E.out]; exact OwnN.start hbel.out⟩

end Go.Proofs.Ytncbgejggfkdmaa

/- The contracts of chapter 21's model: a part that arrives; whether a part has arrived. -/
namespace Go.Proofs.Ytncbgejggfkdmaa
open Go.RowKit Go.PlainAid

/-- Numbers that are appended to a row of one's own, none or some. -/
theorem wp_catN {o : Oper} {a : Act} {w : World} {K : Act → World → Prop} {Q : Exit → Act → World → Prop} (s x : Operand) (hop : o.op = Op.call { callee := Callee.builtin Builtin.append, args := #[s, x], argTypes := #[23, 23] })
    (base i m n cc e cap : Nat) (ad : Addr) (xs ys : List Int) (hn : i + m = n) (hv : a.eval s = .slice (some ⟨e, 0, none⟩) i cap) (hown : w.ownsRow base 3 1 (.slice (some ⟨e, 0, none⟩) i cap) i (flatN xs))
    (hx : a.eval x = .slice (some ad) m cc) (hl : ys.length = m) (hc : ∀ j u, (flatN ys)[j]? = some u → w.cell? (ad.add j) = some u) (him : i + m ≤ 10000000) (hb : base ≤ w.heap.size)
    (hK : ∀ g3 cap3 w', w'.ownsRow base 3 1 (.slice (some ⟨g3, 0, none⟩) n cap3) n (flatN (xs ++ ys)) → w.grownBy w' (some e) → (g3 = e ∨ g3 = w.heap.size) → K (a.put o.dst (.slice (some ⟨g3, 0, none⟩) n cap3)) w') :
    Oper.wp Try.prog o a w K Q := by
  subst hn
  obtain ⟨i0, hi, hz0, hz1, hz2⟩ := info_parts info_n
  obtain ⟨v', w', hr, h2, h3, h4, h5⟩ := run_append_own_at (P := Try.prog) w base 23 o.type 3 i0 (.int .i64 0) 1 8 Try.underlying23 hi hz0 hz1 hz2 rfl (by decide) _ i (flatN xs) hown ad m cc (flatN ys) (by rw [flatN_length, hl]; omega) hc (flatN_one ys) (by unfold maxLen; omega) (by omega) hb
  obtain ⟨g3, cap3, rfl⟩ : ∃ g3 cap3, v' = .slice (some ⟨g3, 0, none⟩) (i + m) cap3 := by
    rcases h2.2 with ⟨h0, _⟩ | ⟨g3, cap3, _, hv, _⟩
    · have := (h4.1 h0).1
      cases this
    · exact ⟨g3, cap3, hv⟩
  unfold Oper.wp execOp
  simp only [hop, resolve, invoke, builtin, Sem.run_bind, Sem.run_pure, Result.andThen_ok, List.map_toArray, List.map_cons, List.map_nil, hv, hx, hr]
  refine hK g3 cap3 w' (by rw [flatN_append]; exact h2) h3 ?_
  rcases h5 with h5 | h5
  · exact .inl (by simpa [Value.ownBlock] using h5)
  · exact .inr (by simpa [Value.ownBlock] using h5)

theorem list_catN {ops : Array Oper} {rest : List Oper} {o : Oper} {a : Act} {w : World} {Q : Exit → Act → World → Prop} (hg : o.guard = none) (s x : Operand) (hop : o.op = Op.call { callee := Callee.builtin Builtin.append, args := #[s, x], argTypes := #[23, 23] })
    (base i m n cc e cap : Nat) (ad : Addr) (xs ys : List Int) (hn : i + m = n) (hv : a.eval s = .slice (some ⟨e, 0, none⟩) i cap) (hown : w.ownsRow base 3 1 (.slice (some ⟨e, 0, none⟩) i cap) i (flatN xs))
    (hx : a.eval x = .slice (some ad) m cc) (hl : ys.length = m) (hc : ∀ j u, (flatN ys)[j]? = some u → w.cell? (ad.add j) = some u) (him : i + m ≤ 10000000) (hb : base ≤ w.heap.size)
    (hK : ∀ g3 cap3 w', w'.ownsRow base 3 1 (.slice (some ⟨g3, 0, none⟩) n cap3) n (flatN (xs ++ ys)) → w.grownBy w' (some e) → (g3 = e ∨ g3 = w.heap.size) → wpList Try.prog ops Q rest (a.put o.dst (.slice (some ⟨g3, 0, none⟩) n cap3)) w') :
    wpList Try.prog ops Q (o :: rest) a w :=
  wpList_plain hg fun _ h => wp_catN s x hop base i m n cc e cap ad xs ys hn hv hown hx hl hc him hb fun g3 cap3 w' h2 h3 h4 => h _ _ (hK g3 cap3 w' h2 h3 h4)

end Go.Proofs.Ytncbgejggfkdmaa

/- Messages in memory, one after the other: slices of messages. -/
namespace Go.Proofs.Ytncbgejggfkdmaa
open Go.RowKit Go.PlainAid

/-- The value of a message. -/
def msgV (m : Msg) : Value := .agg #[.int .i64 m.stream, .int .i64 m.ssn, .bool m.loose, .string m.text]
def noMsg : Msg := ⟨0, 0, false, ByteArray.mk #[]⟩
/-- The message at a place. -/
def mAt (ps : List Msg) (i : Nat) : Msg := ps.getD i noMsg
theorem mAt_mem {ps : List Msg} {i : Nat} (h : i < ps.length) : mAt ps i ∈ ps := by
  unfold mAt
  rw [List.getD_eq_getElem?_getD, List.getElem?_eq_getElem h]
  exact List.getElem_mem _
/-- The cells of a part. -/
def cellsM (p : Msg) : List Value := [.int .i64 p.stream, .int .i64 p.ssn, .bool p.loose, .string p.text]
def flatM : List Msg → List Value
  | [] => []
  | p :: ps => cellsM p ++ flatM ps
theorem flatM_append (ps qs : List Msg) : flatM (ps ++ qs) = flatM ps ++ flatM qs := by
  induction ps with
  | nil => rfl
  | cons p ps ih => simp [flatM, ih]
theorem cellsM_length (p : Msg) : (cellsM p).length = 4 := rfl
theorem flatM_length (ps : List Msg) : (flatM ps).length = ps.length * 4 := by
  induction ps with
  | nil => rfl
  | cons p ps ih =>
    show (cellsM p ++ flatM ps).length = _
    rw [List.length_append, cellsM_length, ih, List.length_cons]
    omega
theorem cellsM_one (p : Msg) : ∀ u ∈ cellsM p, u.oneCell' = true := by
  intro u hu
  simp only [cellsM, List.mem_cons, List.not_mem_nil, or_false] at hu
  rcases hu with rfl | rfl | rfl | rfl <;> rfl
theorem flatM_one (ps : List Msg) : ∀ u ∈ flatM ps, u.oneCell' = true := by
  induction ps with
  | nil => intro u hu; simp [flatM] at hu
  | cons p ps ih =>
    intro u hu
    rcases List.mem_append.1 hu with h | h
    · exact cellsM_one p u h
    · exact ih u h
theorem take_mAt {ps : List Msg} {k : Nat} (h : k < ps.length) : ps.take (k + 1) = ps.take k ++ [mAt ps k] := by
  unfold mAt
  rw [List.take_add_one, List.getD_eq_getElem?_getD, List.getElem?_eq_getElem h]
  rfl
theorem flatM_get (ps : List Msg) (i j : Nat) (h : i < ps.length) (hj : j < 4) : (flatM ps)[i * 4 + j]? = (cellsM (mAt ps i))[j]? := by
  induction ps generalizing i with
  | nil => simp at h
  | cons p ps ih =>
    show (cellsM p ++ flatM ps)[i * 4 + j]? = _
    cases i with
    | zero =>
      rw [Nat.zero_mul, Nat.zero_add, List.getElem?_append_left (by rw [cellsM_length]; exact hj)]
      rfl
    | succ i =>
      rw [List.getElem?_append_right (by rw [cellsM_length]; omega), cellsM_length, show (i + 1) * 4 + j - 4 = i * 4 + j from by omega, ih i (by simpa using h)]
      rfl
/-- The cell j of the part i. -/
def atM (x : Addr) (i : Nat) : Nat → Addr
  | 0 => x.add (i * 4)
  | j + 1 => ⟨(x.add (i * 4)).block, (x.add (i * 4)).off + (j + 1), none⟩
/-- A slice of parts: nil, or the cells of 'len' parts, seven each, from an address on. -/
def Mgs (w : World) (a : Option Addr) (len cap : Nat) (ps : List Msg) : Prop :=
  (a = none ∧ len = 0 ∧ cap = 0 ∧ ps = []) ∨
  ∃ x : Addr, a = some x ∧ len ≤ cap ∧ cap ≤ maxLen ∧ ps.length = len ∧ ∀ i, i < len → ∀ j v, (cellsM (mAt ps i))[j]? = some v → w.cell? (atM x i j) = some v
theorem Mgs.length {w : World} {a : Option Addr} {len cap : Nat} {ps : List Msg} (h : Mgs w a len cap ps) : ps.length = len := by
  rcases h with ⟨_, rfl, _, rfl⟩ | ⟨_, _, _, _, h, _⟩
  · rfl
  · exact h
theorem Mgs.len_le {w : World} {a : Option Addr} {len cap : Nat} {ps : List Msg} (h : Mgs w a len cap ps) : len ≤ cap ∧ cap ≤ maxLen := by
  rcases h with ⟨_, rfl, rfl, rfl⟩ | ⟨_, _, h1, h2, _, _⟩
  · exact ⟨Nat.le_refl _, Nat.zero_le _⟩
  · exact ⟨h1, h2⟩
theorem Mgs.len_int {w : World} {a : Option Addr} {len cap : Nat} {ps : List Msg} (h : Mgs w a len cap ps) : len ≤ 9223372036854775807 := by
  have := h.len_le
  unfold maxLen at this
  omega
theorem Mgs.nil (w : World) : Mgs w none 0 0 [] := .inl ⟨rfl, rfl, rfl, rfl⟩
theorem Mgs.moved {w w' : World} {a : Option Addr} {len cap : Nat} {ps : List Msg} (h : Mgs w a len cap ps) (hk : ∀ x, a = some x → ∀ i j v, i < len → w.cell? (atM x i j) = some v → w'.cell? (atM x i j) = some v) : Mgs w' a len cap ps := by
  rcases h with h | ⟨x, h1, h2, h3, h4, h5⟩
  · exact .inl h
  · exact .inr ⟨x, h1, h2, h3, h4, fun i hi j v hv => hk x h1 i j v hi (h5 i hi j v hv)⟩
theorem Mgs.below {w w' : World} {a : Option Addr} {len cap : Nat} {ps : List Msg} (h : Mgs w a len cap ps) (hb : Below w.heap.size w w') : Mgs w' a len cap ps :=
  h.moved fun _ _ _ _ _ _ hc => (hb.cell (World.block_lt_of_cell? w _ hc)).trans hc
theorem Mgs.addr {w : World} {a : Option Addr} {len cap : Nat} {ps : List Msg} (h : Mgs w a len cap ps) {k : Nat} (hk : k < len) : ∃ x, a = some x := by
  rcases h with ⟨_, h0, _⟩ | ⟨y, hy, _⟩
  · omega
  · exact ⟨y, hy⟩
/-- The cells of the part at a place, in another world. -/
theorem Mgs.cells {w wr : World} {x : Addr} {len cap : Nat} {ps : List Msg} (h : Mgs w (some x) len cap ps) (hb : Below w.heap.size w wr) {k : Nat} (hk : k < len) (j : Nat) (v : Value) (hv : (cellsM (mAt ps k))[j]? = some v) : wr.cell? (atM x k j) = some v := by
  rcases h with ⟨h0, _⟩ | ⟨y, hy, _, _, _, h5⟩
  · cases h0
  · obtain rfl : x = y := by simpa using hy
    have := h5 k hk j v hv
    exact (hb.cell (World.block_lt_of_cell? w _ this)).trans this
theorem Mgs.at {w wr : World} {x : Addr} {len cap : Nat} {ps : List Msg} (h : Mgs w (some x) len cap ps) (hb : Below w.heap.size w wr) {k : Nat} (hk : k < len) :
    wr.cell? (x.add (k * 4)) = some (.int .i64 (mAt ps k).stream) ∧ wr.cell? ⟨(x.add (k * 4)).block, (x.add (k * 4)).off + 1, none⟩ = some (.int .i64 (mAt ps k).ssn) ∧ wr.cell? ⟨(x.add (k * 4)).block, (x.add (k * 4)).off + 2, none⟩ = some (.bool (mAt ps k).loose) ∧
      wr.cell? ⟨(x.add (k * 4)).block, (x.add (k * 4)).off + 3, none⟩ = some (.string (mAt ps k).text) :=
  ⟨h.cells hb hk 0 _ rfl, h.cells hb hk 1 _ rfl, h.cells hb hk 2 _ rfl, h.cells hb hk 3 _ rfl⟩
theorem mg_add (g j : Nat) : (⟨g, 0, none⟩ : Addr).add j = ⟨g, j, none⟩ := by unfold Addr.add; split <;> simp_all
theorem atM_zero (g i j : Nat) : atM ⟨g, 0, none⟩ i j = ⟨g, i * 4 + j, none⟩ := by
  cases j with
  | zero => exact mg_add g (i * 4)
  | succ j =>
    show (⟨((⟨g, 0, none⟩ : Addr).add (i * 4)).block, ((⟨g, 0, none⟩ : Addr).add (i * 4)).off + (j + 1), none⟩ : Addr) = _
    rw [mg_add]
theorem Mgs.far {w : World} {g k cap d i : Nat} {ps : List Msg} (h : Mgs w (some ⟨g, 0, none⟩) k cap ps) (hd : d ≠ g) (v : Value) : Mgs (w.setCell ⟨d, i, none⟩ v) (some ⟨g, 0, none⟩) k cap ps :=
  h.moved fun x hx i j u _ hc => by
    obtain rfl : ⟨g, 0, none⟩ = x := by simpa using hx
    rw [atM_zero] at hc ⊢
    exact cell_far hd hc
theorem Mgs.aside {w w' : World} {g k cap r : Nat} {ps : List Msg} (h : Mgs w (some ⟨g, 0, none⟩) k cap ps) (ha : Aside w.heap.size r w w') (hr : g ≠ r) : Mgs w' (some ⟨g, 0, none⟩) k cap ps :=
  h.moved fun x hx i j u _ hc => by
    obtain rfl : ⟨g, 0, none⟩ = x := by simpa using hx
    rw [atM_zero] at hc ⊢
    exact ha.cell (lt_of_cell hc) hr hc
theorem Mgs.under {W W' : World} {g n cap C : Nat} {ps : List Msg} (h : Mgs W (some ⟨g, 0, none⟩) n cap ps) (hb : Below C W W') (hg : g < C ∨ n = 0) : Mgs W' (some ⟨g, 0, none⟩) n cap ps :=
  h.moved fun x hx i j u hi hc => by
    obtain rfl : ⟨g, 0, none⟩ = x := by simpa using hx
    rw [atM_zero] at hc ⊢
    rcases hg with hg | h0
    · exact kept_cell hb hg hc
    · omega
theorem mgs_lt {W : World} {g n cap : Nat} {ps : List Msg} (h : Mgs W (some ⟨g, 0, none⟩) n cap ps) : g < W.heap.size ∨ n = 0 := by
  by_cases hk0 : 0 < n
  · have := (h.at (Below.refl _ _) hk0).1
    rw [mg_add] at this
    exact .inl (lt_of_cell this)
  · exact .inr (by omega)
/-- The first parts of a slice. -/
theorem mgs_take {w : World} {x : Addr} {len cap j : Nat} {ps : List Msg} (h : Mgs w (some x) len cap ps) (hj : j ≤ len) : Mgs w (some x) j cap (ps.take j) := by
  rcases h with ⟨h0, _⟩ | ⟨y, hy, h1, h2, h3, h4⟩
  · cases h0
  · refine .inr ⟨y, hy, by omega, h2, by rw [List.length_take]; omega, fun i hi => ?_⟩
    have e : mAt (ps.take j) i = mAt ps i := by
      unfold mAt
      rw [List.getD_eq_getElem?_getD, List.getD_eq_getElem?_getD, List.getElem?_take_of_lt hi]
    rw [e]
    exact h4 i (by omega)
/-- The cells of a slice of parts, as a source of an append. -/
theorem mgs_flat {W : World} {g k cap : Nat} {ps : List Msg} (h : Mgs W (some ⟨g, 0, none⟩) k cap ps) : ∀ j u, (flatM ps)[j]? = some u → W.cell? ((⟨g, 0, none⟩ : Addr).add j) = some u := by
  intro j u hu
  have hl := h.length
  have hj : j < k * 4 := by have := (List.getElem?_eq_some_iff.1 hu).1; rw [flatM_length, hl] at this; exact this
  have e : j = j / 4 * 4 + j % 4 := by omega
  have hm : j % 4 < 4 := by omega
  generalize hq : j / 4 = q at e
  generalize j % 4 = r at e hm
  subst e
  rw [flatM_get ps q r (by omega) hm] at hu
  have := h.cells (Below.refl _ _) (k := q) (by omega) r u hu
  rw [atM_zero] at this
  rw [mg_add]
  exact this

theorem own_mgs {W : World} {base cap k : Nat} {a : Option Addr} {ps : List Msg} (h : W.ownsRow base 45 4 (.slice a k cap) k (flatM ps)) : Mgs W a k cap ps := by
  have hl := h.1
  rw [flatM_length] at hl
  rcases h.2 with ⟨h1, h2⟩ | ⟨g, cap', cur, h1, _, _, h4, h5, _⟩
  · obtain ⟨rfl, rfl, rfl⟩ : a = none ∧ k = 0 ∧ cap = 0 := by simpa using h1
    exact .inl ⟨rfl, rfl, rfl, by cases ps with | nil => rfl | cons c l => simp at hl⟩
  · obtain ⟨rfl, rfl⟩ : a = some ⟨g, 0, none⟩ ∧ cap = cap' := by simpa using h1
    refine .inr ⟨_, rfl, h4, h5, by omega, fun i hi j v hv => ?_⟩
    have hj : j < 4 := by have := (List.getElem?_eq_some_iff.1 hv).1; rwa [cellsM_length] at this
    rw [atM_zero]
    exact (h.cellAt (i * 4 + j) (by omega)).trans ((flatM_get ps i j (by omega) hj).trans hv)
theorem info_mg : (Try.prog.info? 45).map (fun i => (i.zero, i.size, i.bytes)) = some (some (msgV ⟨0, 0, false, ByteArray.mk #[]⟩), 4, 40) := by kernel_rfl
/-- A slice of messages of one's own, in blocks from R on. -/
theorem flatM_one_ (m : Msg) : flatM [m] = cellsM m := by simp [flatM]

end Go.Proofs.Ytncbgejggfkdmaa

/- Numbers in a row of one's own; rows that are left be. -/
namespace Go.Proofs.Ytncbgejggfkdmaa
open Go.RowKit Go.PlainAid

theorem VarN.blk {c : Nat} {vs : List Value} {w w' : World} (h : VarN c vs w) (e : w'.heap[c]? = w.heap[c]?) : VarN c vs w' := fun i v hi =>
  ⟨(World.cell?_of_block (w := w) e).trans (h i v hi).1, (World.frozen?_of_block (w := w) e).trans (h i v hi).2⟩
theorem VarN.lt {c : Nat} {v : Value} {vs : List Value} {w : World} (h : VarN c (v :: vs) w) : c < w.heap.size := lt_of_cell (h 0 v rfl).1
theorem row_low {base base2 e size n : Nat} {v : Value} {xs : List Value} {w : World} (h : w.ownsRow base e size v n xs) (hb : base2 ≤ base) : w.ownsRow base2 e size v n xs := by
  refine ⟨h.1, ?_⟩
  rcases h.2 with h1 | ⟨g, cap, cur, h1, h2, h3⟩
  · exact .inl h1
  · exact .inr ⟨g, cap, cur, h1, Nat.le_trans hb h2, h3⟩
theorem row_same {base e size n : Nat} {v : Value} {xs : List Value} {w w' : World} (h : w.ownsRow base e size v n xs) (hb : ∀ x, base ≤ x → x < w.heap.size → w'.heap[x]? = w.heap[x]?) : w'.ownsRow base e size v n xs := by
  refine ⟨h.1, ?_⟩
  rcases h.2 with h1 | ⟨g, cap, cur, h1, h2, h3, h4⟩
  · exact .inl h1
  · have hg : g < w.heap.size := (Array.getElem?_eq_some_iff.1 h3).1
    exact .inr ⟨g, cap, cur, h1, h2, by rw [hb g h2 hg]; exact h3, h4⟩
/-- Numbers in a row of one's own, at block G. -/
def Nrow (G n cn : Nat) (es : List Int) (W : World) : Prop := W.ownsRow G 3 1 (.slice (some ⟨G, 0, none⟩) n cn) n (flatN es)
theorem own_varN {base G n cap : Nat} {next : List Int} {W : World} (h : W.ownsRow base 3 1 (.slice (some ⟨G, 0, none⟩) n cap) n (flatN next)) : VarN G (flatN next) W := fun i v hi => by
  refine ⟨?_, ?_⟩
  · have hl : i < (flatN next).length := (List.getElem?_eq_some_iff.1 hi).1
    have := h.cellAt i (by rw [← h.1]; exact hl)
    rw [hi] at this
    exact this
  · rcases h.2 with ⟨h1, _⟩ | ⟨g, cap', cur, h1, _, h3, _⟩
    · exact absurd h1 (by intro e; cases e)
    · obtain ⟨rfl, _⟩ : G = g ∧ cap = cap' := by simpa using h1
      exact Lib.frozen_of_heap h3 i
section
variable {G n cn : Nat} {es : List Int} {W W' : World}
theorem Nrow.of {base : Nat} (h : W.ownsRow base 3 1 (.slice (some ⟨G, 0, none⟩) n cn) n (flatN es)) : Nrow G n cn es W := by
  refine ⟨h.1, ?_⟩
  rcases h.2 with ⟨h1, _⟩ | ⟨g, cap', cur, h1, h2, h3⟩
  · exact absurd h1 (by intro e; cases e)
  · have e : G = g ∧ cn = cap' := by simpa using h1
    exact .inr ⟨g, cap', cur, h1, by rw [e.1]; exact Nat.le_refl _, h3⟩
theorem Nrow.var (h : Nrow G n cn es W) : VarN G (flatN es) W := own_varN h
theorem Nrow.blk (h : Nrow G n cn es W) (e : W'.heap[G]? = W.heap[G]?) : Nrow G n cn es W' := by
  refine ⟨h.1, ?_⟩
  rcases h.2 with ⟨h1, _⟩ | ⟨g, cap', cur, h1, h2, h3, h4⟩
  · exact absurd h1 (by intro e; cases e)
  · have eg : G = g ∧ cn = cap' := by simpa using h1
    exact .inr ⟨g, cap', cur, h1, h2, by rw [← eg.1, e, eg.1]; exact h3, h4⟩
theorem Nrow.below {C : Nat} (h : Nrow G n cn es W) (hb : Below C W W') (hG : G < C) : Nrow G n cn es W' := h.blk (hb.block G hG)
theorem flatN_set (es : List Int) (i : Nat) (x : Int) : flatN (es.set i x) = (flatN es).set i (.int .i64 x) := by
  unfold flatN
  rw [List.map_set]
theorem Nrow.set (h : Nrow G n cn es W) (i : Nat) (x : Int) : Nrow G n cn (es.set i x) (W.setCell ⟨G, i, none⟩ (.int .i64 x)) := by
  unfold Nrow
  rw [flatN_set]
  exact (World.ownsRow.stored h i (.int .i64 x)).1
theorem Nrow.len (h : Nrow G n cn es W) : n ≤ cn ∧ cn ≤ maxLen ∧ es.length = n := by
  have := own_ns h
  exact ⟨this.len_le.1, this.len_le.2, this.length⟩
end

end Go.Proofs.Ytncbgejggfkdmaa
