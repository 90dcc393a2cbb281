/- Numbers in memory; the contracts of chapter 21's model: whether a value is valid, the one at the beginning, what has arrived. -/
import Derived.Test.YtncbgejggfkdmabG17
import Derived.Test.YtncbgejggfkdmabK10
import Derived.Test.YtncbgejggfkdmabK13
import Derived.Test.YtncbgejggfkdmabK20v
import Derived.Test.YtncbgejggfkdmabK40
import Derived.Laws.OwnMore
import Derived.Handy
import Derived.Deep.QuietTactic
import Derived.BigQuiet
namespace Go.Proofs.Ytncbgejggfkdmab
open Go.RowKit Go.PlainAid

/-- The number at a place of a list. -/
def nAt (es : List Int) (i : Nat) : Int := es.getD i 0
theorem nAt_mem {es : List Int} {i : Nat} (h : i < es.length) : nAt es i ∈ es := by
  unfold nAt
  rw [List.getD_eq_getElem?_getD, List.getElem?_eq_getElem h]
  exact List.getElem_mem _
theorem take_nAt {es : List Int} {k : Nat} (h : k < es.length) : es.take (k + 1) = es.take k ++ [nAt es k] := by
  unfold nAt
  rw [List.take_add_one, List.getD_eq_getElem?_getD, List.getElem?_eq_getElem h]
  rfl
/-- A slice of numbers: nil, or their cells from an address on. -/
def Ns (w : World) (a : Option Addr) (len cap : Nat) (es : List Int) : Prop :=
  (a = none ∧ len = 0 ∧ cap = 0 ∧ es = []) ∨
  ∃ x : Addr, a = some x ∧ len ≤ cap ∧ cap ≤ maxLen ∧ es.length = len ∧ ∀ i, i < len → w.cell? (x.add i) = some (.int .i64 (nAt es i))
section
variable {w w' W W' : World} {a : Option Addr} {len cap : Nat} {es : List Int}
theorem Ns.length (h : Ns w a len cap es) : es.length = len := by
  rcases h with ⟨_, rfl, _, rfl⟩ | ⟨_, _, _, _, h, _⟩
  · rfl
  · exact h
theorem Ns.len_le (h : Ns w a len cap es) : len ≤ cap ∧ cap ≤ maxLen := by
  rcases h with ⟨_, rfl, rfl, rfl⟩ | ⟨_, _, h1, h2, _, _⟩
  · exact ⟨Nat.le_refl _, Nat.zero_le _⟩
  · exact ⟨h1, h2⟩
theorem Ns.len_int (h : Ns w a len cap es) : len ≤ 9223372036854775807 := by
  have := h.len_le
  unfold maxLen at this
  omega
theorem Ns.below (h : Ns w a len cap es) (hb : Below w.heap.size w w') : Ns w' a len cap es := by
  rcases h with h | ⟨x, h1, h2, h3, h4, h5⟩
  · exact .inl h
  · exact .inr ⟨x, h1, h2, h3, h4, fun i hi => (hb.cell (World.block_lt_of_cell? w _ (h5 i hi))).trans (h5 i hi)⟩
theorem Ns.nil (w : World) : Ns w none 0 0 [] := .inl ⟨rfl, rfl, rfl, rfl⟩
theorem Ns.addr (h : Ns w a len cap es) {k : Nat} (hk : k < len) : ∃ x, a = some x := by
  rcases h with ⟨_, h0, _⟩ | ⟨y, hy, _⟩
  · omega
  · exact ⟨y, hy⟩
theorem Ns.at {x : Addr} (h : Ns w (some x) len cap es) (hb : Below w.heap.size w w') {k : Nat} (hk : k < len) : w'.cell? (x.add k) = some (.int .i64 (nAt es k)) := by
  rcases h with ⟨h0, _⟩ | ⟨y, hy, _, _, _, h4⟩
  · cases h0
  · obtain rfl : x = y := by simpa using hy
    exact (hb.cell (World.block_lt_of_cell? w _ (h4 k hk))).trans (h4 k hk)
theorem n_add (g j : Nat) : (⟨g, 0, none⟩ : Addr).add j = ⟨g, j, none⟩ := by unfold Addr.add; split <;> simp_all
theorem Ns.far {g d i : Nat} (h : Ns w (some ⟨g, 0, none⟩) len cap es) (hd : d ≠ g) (v : Value) : Ns (w.setCell ⟨d, i, none⟩ v) (some ⟨g, 0, none⟩) len cap es := by
  rcases h with ⟨e, _⟩ | ⟨a, e, h7, h8, h9, h10⟩
  · cases e
  · obtain rfl : ⟨g, 0, none⟩ = a := by simpa using e
    refine .inr ⟨_, rfl, h7, h8, h9, fun i hi => ?_⟩
    have := h10 i hi
    rw [n_add] at this ⊢
    exact cell_far hd this
theorem Ns.under {g C : Nat} (h : Ns w (some ⟨g, 0, none⟩) len cap es) (hb : Below C w w') (hg : g < C ∨ len = 0) : Ns w' (some ⟨g, 0, none⟩) len cap es := by
  rcases h with ⟨e, _⟩ | ⟨a, e, h7, h8, h9, h10⟩
  · cases e
  · obtain rfl : ⟨g, 0, none⟩ = a := by simpa using e
    refine .inr ⟨_, rfl, h7, h8, h9, fun i hi => ?_⟩
    have := h10 i hi
    rw [n_add] at this ⊢
    rcases hg with hg | h0
    · exact kept_cell hb hg this
    · omega
theorem ns_lt {g : Nat} (h : Ns w (some ⟨g, 0, none⟩) len cap es) : g < w.heap.size ∨ len = 0 := by
  rcases h with ⟨e, _⟩ | ⟨a, e, _, _, _, h10⟩
  · cases e
  · obtain rfl : ⟨g, 0, none⟩ = a := by simpa using e
    by_cases hk0 : 0 < len
    · have := h10 0 hk0
      rw [n_add] at this
      exact .inl (lt_of_cell this)
    · exact .inr (by omega)
/-- The cells of numbers. -/
def flatN (es : List Int) : List Value := es.map (Value.int .i64)
theorem flatN_length (es : List Int) : (flatN es).length = es.length := List.length_map _
theorem flatN_append (es ds : List Int) : flatN (es ++ ds) = flatN es ++ flatN ds := List.map_append
theorem flatN_one (es : List Int) : ∀ u ∈ flatN es, u.oneCell' = true := by
  intro u hu
  obtain ⟨e, _, rfl⟩ := List.mem_map.1 hu
  rfl
theorem flatN_get (es : List Int) (i : Nat) (h : i < es.length) : (flatN es)[i]? = some (.int .i64 (nAt es i)) := by
  unfold flatN nAt
  rw [List.getElem?_map, List.getD_eq_getElem?_getD, List.getElem?_eq_getElem h]
  rfl
theorem own_ns {base k : Nat} (h : W.ownsRow base 3 1 (.slice a k cap) k (flatN es)) : Ns W a k cap es := by
  have hl := h.1
  rw [flatN_length] at hl
  rcases h.2 with ⟨h1, h2⟩ | ⟨g, cap', cur, h1, _, _, h4, h5, _⟩
  · obtain ⟨rfl, rfl, rfl⟩ : a = none ∧ k = 0 ∧ cap = 0 := by simpa using h1
    exact .inl ⟨rfl, rfl, rfl, List.length_eq_zero_iff.1 (by omega)⟩
  · obtain ⟨rfl, rfl⟩ : a = some ⟨g, 0, none⟩ ∧ cap = cap' := by simpa using h1
    refine .inr ⟨_, rfl, h4, h5, by omega, fun i hi => ?_⟩
    have f1 := flatN_get es i (by omega)
    have c1 := h.cellAt i (by omega)
    rw [n_add]
    exact c1.trans f1
/-- The cells of a slice of numbers, as a source of an append. -/
theorem ns_flat {x : Addr} (h : Ns W (some x) len cap es) : ∀ j u, (flatN es)[j]? = some u → W.cell? (x.add j) = some u := by
  intro j u hu
  rcases h with ⟨e, _⟩ | ⟨a, e, h7, h8, h9, h10⟩
  · cases e
  · obtain rfl : x = a := by simpa using e
    have hj : j < len := by have := (List.getElem?_eq_some_iff.1 hu).1; rw [flatN_length, h9] at this; exact this
    rw [flatN_get es j (by omega)] at hu
    cases hu
    exact h10 j hj
end
theorem info_n : (Try.prog.info? 3).map (fun i => (i.zero, i.size, i.bytes)) = some (some (.int .i64 0), 1, 8) := by kernel_rfl
/-- A slice of numbers of one's own. -/
structure OwnN (k : Nat) (v : Value) (es : List Int) (w W : World) : Prop where
  own : W.ownsRow w.heap.size 3 1 v k (flatN es)
  b : Below w.heap.size w W
section
variable {k : Nat} {v : Value} {es : List Int} {w W W' : World}
theorem OwnN.below (h : OwnN k v es w W) (hb : Below W.heap.size W W') : OwnN k v es w W' := by
  refine ⟨⟨h.own.1, ?_⟩, h.b.trans (hb.mono h.b.size)⟩
  rcases h.own.2 with h1 | ⟨g, cap, cur, h1, h2, h3, h4⟩
  · exact .inl h1
  · have hg : g < W.heap.size := (Array.getElem?_eq_some_iff.1 h3).1
    exact .inr ⟨g, cap, cur, h1, h2, by rw [hb.block g hg]; exact h3, h4⟩
theorem OwnN.base {g : Nat} (h : OwnN k v es w W) (hv : v.ownBlock = some g) : w.heap.size ≤ g := by
  rcases h.own.2 with ⟨h1, _⟩ | ⟨g', cap', cur, h1, h2, _⟩
  · rw [h1] at hv
    cases hv
  · rw [h1] at hv
    obtain rfl : g' = g := by simpa [Value.ownBlock] using hv
    exact h2
theorem OwnN.low (h : OwnN k v es W W') (hb : Below w.heap.size w W) : OwnN k v es w W' := by
  refine ⟨⟨h.own.1, ?_⟩, hb.trans (h.b.mono hb.size)⟩
  rcases h.own.2 with h1 | ⟨g, cap, cur, h1, h2, h3⟩
  · exact .inl h1
  · exact .inr ⟨g, cap, cur, h1, Nat.le_trans hb.size h2, h3⟩
theorem OwnN.ns {a : Option Addr} {cap : Nat} (h : OwnN k (.slice a k cap) es w W) : Ns W a k cap es := own_ns h.own
theorem OwnN.nil (hb : Below w.heap.size w W) : OwnN 0 (.slice none 0 0) [] w W := ⟨⟨rfl, .inl ⟨rfl, rfl⟩⟩, hb⟩
theorem OwnN.start (hb : Below w.heap.size w W) : OwnN 0 (.slice (some ⟨W.heap.size, 0, none⟩) 0 0) [] w (W.alloc (.cells #[] 3)) :=
  ⟨World.ownsRow_lit (base := w.heap.size) (e := 3) (size := 1) W #[] 0 hb.size (by decide) rfl, hb.alloc hb.size _⟩
end
theorem asc_next {es : List Int} {k : Nat} {e : Int} (hk : k < es.length) (he : nAt es k = e) (h : AscOk 1 (es.take k)) :
    (AscOk 1 (es.take (k + 1)) ↔ lastE 1 (es.take k) + 1 ≤ e ∧ e ≤ 16) ∧ (¬ (lastE 1 (es.take k) + 1 ≤ e ∧ e ≤ 16) → ¬ AscOk 1 es) ∧ lastE 1 (es.take (k + 1)) = e := by
  rw [take_nAt hk, he, asc_snoc]
  refine ⟨⟨fun h => h.2, fun k => ⟨h, k⟩⟩, fun hn ha => hn ?_, lastE_snoc _ _ _⟩
  rw [← List.take_append_drop (k + 1) es, take_nAt hk, he] at ha
  exact (asc_snoc.1 (asc_left ha)).2

set_option maxHeartbeats 1000000 in
theorem l21Has_any (a : Option Addr) (len cap : Nat) (es : List Int) (n : Int) (w : World) (h : Ns w a len cap es) :
    Calls Try.prog 88 #[.slice a len cap, .int .i64 n] w fun e w' => e = .returned (.bool (decide (n ∈ es))) ∧ Below w.heap.size w w' := by
  have hl := h.length
  have hm := h.len_int
  have HG := Lib.hid h
  clear h
  go_enter Try.func88, Try.ntmps88
  go_wp2
  go_loopw [5] (fun i wr => ∃ k : Nat, k ≤ len ∧ i = .int .i64 k ∧ Hid (n ∉ es.take k) ∧ Hid (Below w.heap.size w wr)) (fun i _ => len - (intOf i).toNat)
  case atStart => exact ⟨0, Nat.zero_le _, rfl, Lib.hid (by simp), Lib.hid (Below.refl _ _)⟩
  case round =>
    obtain ⟨k, hk, rfl, hno, hbel⟩ := hrel
    by_cases hlt : k < len
    · obtain ⟨x, rfl⟩ := HG.out.addr hlt
      have p0 := HG.out.at hbel.out hlt
      have hkl : k < es.length := by omega
      obtain ⟨e, he⟩ : ∃ e, nAt es k = e := ⟨_, rfl⟩
      rw [he] at p0
      have HM := Lib.hid (nAt_mem hkl)
      have HE := Lib.hid he
      clear he
      by_cases hen : e = n
      · have V := Lib.hid (decide_eq_true (p := n ∈ es) (by rw [← hen, ← HE.out]; exact HM.out))
        subst hen
        go_wp2
        go_ret
        exact ⟨ret_b V.out.symm, hbel.out⟩
      · have O := Lib.hid (show n ∉ es.take (k + 1) by
          rw [take_nAt hkl, HE.out]
          intro h
          rcases List.mem_append.1 h with h | h
          · exact hno.out h
          · exact hen (List.mem_singleton.1 h).symm)
        go_wp2
        go_roundw
        case rel => exact ⟨k + 1, by omega, by go_num, O, hbel⟩
        case measure => simp [intOf]; omega
    · obtain rfl : k = len := by omega
      have V := Lib.hid (decide_eq_false (p := n ∈ es) (by have := hno.out; rwa [List.take_of_length_le (by omega)] at this))
      go_wp2
      go_ret
      exact ⟨ret_b V.out.symm, hbel.out⟩

end Go.Proofs.Ytncbgejggfkdmab
