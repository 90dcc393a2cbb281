/- The draw of what has arrived. -/
import Derived.Test.YtcjabomcndahbaaK93
import Derived.Test.YtcjabomcndahbaaK4c
import Derived.Test.YtcjabomcndahbaaK20v
namespace Go.Proofs.Ytcjabomcndahbaa
open Go.RowKit Go.PlainAid

theorem ownUp {w w' : World} {base e size n : Nat} {v : Value} {xs : List Value} (h : w.ownsRow base e size v n xs) (hb : Below w.heap.size w w') : w'.ownsRow base e size v n xs := by
  refine ⟨h.1, ?_⟩
  rcases h.2 with h1 | ⟨g, cap, cur, h1, h2, h3, h4⟩
  · exact .inl h1
  · have hg : g < w.heap.size := (Array.getElem?_eq_some_iff.1 h3).1
    exact .inr ⟨g, cap, cur, h1, h2, by rw [hb.block g hg]; exact h3, h4⟩
theorem ownFar {w : World} {base d i e size n : Nat} {v x : Value} {xs : List Value} (h : w.ownsRow base e size v n xs) (hne : ∀ g, v.ownBlock = some g → g ≠ d) : (w.setCell ⟨d, i, none⟩ x).ownsRow base e size v n xs := by
  refine ⟨h.1, ?_⟩
  rcases h.2 with h1 | ⟨g, cap, cur, rfl, h2⟩
  · exact .inl h1
  · exact (rowFar (i := i) h (hne g rfl) x).2
theorem ownAway {w w' : World} {base r e size n : Nat} {v : Value} {xs : List Value} (h : w.ownsRow base e size v n xs) (ha : Aside w.heap.size r w w') (hr : r < base) : w'.ownsRow base e size v n xs := by
  refine ⟨h.1, ?_⟩
  rcases h.2 with h1 | ⟨g, cap, cur, h1, h2, h3, h4⟩
  · exact .inl h1
  · have hg : g < w.heap.size := (Array.getElem?_eq_some_iff.1 h3).1
    exact .inr ⟨g, cap, cur, h1, h2, by rw [ha g hg (by omega)]; exact h3, h4⟩
theorem VarN.plusO {d : Nat} {o : Option Nat} {vs : List Value} {w w' : World} (h : VarN d vs w) (hg : w.grownBy w' o) (hd : d < w.heap.size) (hne : o ≠ some d) : VarN d vs w' := fun i v hi =>
  ⟨(hg.cell_far ⟨d, i, none⟩ hd (fun e => hne e.symm)).trans (h i v hi).1, (hg.frozen_far ⟨d, i, none⟩ hd (fun e => hne e.symm)).trans (h i v hi).2⟩
/-- A number is appended to a row of one's own, as a step of a region. -/
theorem step_addN {ops : Array Oper} {o : Oper} {a : Act} {w : World} {K : Act → World → Prop} {Q : Exit → Act → World → Prop} {E : Prop} (hg : o.guard = none) (s x : Operand) (hop : o.op = Op.call { callee := Callee.builtin Builtin.append, args := #[s, x], argTypes := #[24, 24] })
    (base i cc cap : Nat) (q : Option Addr) (ad : Addr) (xs : List Int) (z : Int) (hv : a.eval s = .slice q i cap) (hown : w.ownsRow base 3 1 (.slice q i cap) i (flatN xs))
    (hx : a.eval x = .slice (some ad) 1 cc) (hc : ∀ j u, (flatN [z])[j]? = some u → w.cell? (ad.add j) = some u) (him : i + 1 ≤ 10000000) (hb : base ≤ w.heap.size)
    (hK : ∀ g3 cap3 w', w'.ownsRow base 3 1 (.slice (some ⟨g3, 0, none⟩) (i + 1) cap3) (i + 1) (flatN (xs ++ [z])) → w.grownBy w' (Value.slice q i cap).ownBlock → ((Value.slice q i cap).ownBlock = some g3 ∨ g3 = w.heap.size) → K (a.put o.dst (.slice (some ⟨g3, 0, none⟩) (i + 1) cap3)) w') :
    if Region.wanted o (yielded ops a.tmps) = true then Oper.wp Try.prog o a w K Q else E := by
  have hw : Region.wanted o (yielded ops a.tmps) = true := by simp [Region.wanted, hg]
  rw [if_pos hw]
  obtain ⟨i0, hi, hz0, hz1, hz2⟩ := info_parts info_n
  obtain ⟨v', w', hr, h2, h3, h4, h5⟩ := run_append_own_at (P := Try.prog) w base 24 o.type 3 i0 (.int .i64 0) 1 8 Try.underlying24 hi hz0 hz1 hz2 rfl (by decide) _ i (flatN xs) hown ad 1 cc (flatN [z]) rfl hc (flatN_one [z]) (by unfold maxLen; omega) (by omega) hb
  obtain ⟨g3, cap3, rfl⟩ : ∃ g3 cap3, v' = .slice (some ⟨g3, 0, none⟩) (i + 1) cap3 := by
    rcases h2.2 with ⟨h0, h0'⟩ | ⟨g3, cap3, _, hv, _⟩
    · omega
    · exact ⟨g3, cap3, hv⟩
  unfold Oper.wp execOp
  simp only [hop, resolve, invoke, builtin, Sem.run_bind, Sem.run_pure, Result.andThen_ok, List.map_toArray, List.map_cons, List.map_nil, hv, hx, hr]
  refine hK g3 cap3 w' (by rw [flatN_append]; exact h2) h3 ?_
  rcases h5 with h5 | h5
  · exact .inl (by simpa [Value.ownBlock] using h5.symm)
  · exact .inr (by simpa [Value.ownBlock] using h5)
theorem addV_ok {c t c2 code : Int} {es es2 : List Int} (hs : SeenOk c es) (ht : Ser t) (h : AddV c es t c2 es2 code) : SeenOk c2 es2 := by
  rcases h with ⟨_, h⟩ | ⟨h, _⟩
  · rcases h with ⟨_, rfl, rfl, _⟩ | ⟨_, _, rfl, rfl, _⟩ | ⟨hf, _, n, hm, rfl⟩
    · exact hs
    · exact hs
    · exact (fresh_ok hs hf hm).1
  · exact absurd ⟨hs, ht⟩ h
/-- While a value is drawn: the reader at r, the answer's box, the value's variable at D. -/
structure Sn (B r M D k cap : Nat) (c : Int) (a : Option Addr) (es : List Int) (w W : World) : Prop where
  rd : Rd B r M W
  rs : VarN w.heap.size [.int .i64 0, .slice none 0 0] W
  vs : VarN D [.int .i64 c, .slice a k cap] W
  own : W.ownsRow (w.heap.size + 1) 3 1 (.slice a k cap) k (flatN es)
  b : Below B w W
  o1 : r < w.heap.size
  o2 : w.heap.size < D
  o3 : ∀ g, a = some ⟨g, 0, none⟩ → g ≠ D
section
variable {B r M D k cap : Nat} {c : Int} {a : Option Addr} {es : List Int} {w W W' : World}
theorem Sn.up (h : Sn B r M D k cap c a es w W) (hb : Below W.heap.size W W') : Sn B r M D k cap c a es w W' :=
  ⟨h.rd.keep hb h.rd.2.1, h.rs.below hb (lt_of_cell (h.rs 0 _ rfl).1), h.vs.below hb (lt_of_cell (h.vs 0 _ rfl).1), ownUp h.own hb, h.b.trans (hb.mono (Nat.le_of_lt (Nat.lt_of_le_of_lt h.rd.1 h.rd.2.1))), h.o1, h.o2, h.o3⟩
theorem Sn.only {M' : Nat} (h : Sn B r M D k cap c a es w W) (ho : Only r W W') (hr : Rd B r M' W') : Sn B r M' D k cap c a es w W' :=
  ⟨hr, h.rs.only ho (by have := h.o1; omega), h.vs.only ho (by have := h.o1; have := h.o2; omega), own_only ho (by have := h.o1; omega) h.own, h.b.trans (ho.below h.rd.1), h.o1, h.o2, h.o3⟩
theorem Sn.mono {M' : Nat} (h : Sn B r M D k cap c a es w W) (hM : M ≤ M') : Sn B r M' D k cap c a es w W := ⟨h.rd.mono hM, h.rs, h.vs, h.own, h.b, h.o1, h.o2, h.o3⟩
theorem Sn.store {k2 cap2 : Nat} {c2 : Int} {a2 : Option Addr} {es2 : List Int} (h : Sn B r M D k cap c a es w W) (ho : W.ownsRow (w.heap.size + 1) 3 1 (.slice a2 k2 cap2) k2 (flatN es2)) (hne : ∀ g, (Value.slice a2 k2 cap2).ownBlock = some g → g ≠ D) :
    Sn B r M D k2 cap2 c2 a2 es2 w ((W.setCell ⟨D, 0, none⟩ (.int .i64 c2)).setCell ⟨D, 1, none⟩ (.slice a2 k2 cap2)) := by
  have h1 := h.o1
  have h2 := h.o2
  have h3 := h.rd.1
  exact ⟨(h.rd.far (by omega) _ _).far (by omega) _ _, (h.rs.far _ (by omega)).far _ (by omega), (h.vs.set (i := 0) _).set (i := 1) _, ownFar (ownFar ho hne) hne, (h.b.setCell (p := ⟨D, 0, none⟩) (by show B ≤ D; omega) _).setCell (p := ⟨D, 1, none⟩) (by show B ≤ D; omega) _, h1, h2, fun g hg => hne g (by rw [hg]; rfl)⟩
theorem Sn.blk (h : Sn B r M D k cap c a es w W) : ∀ g, (Value.slice a k cap).ownBlock = some g → w.heap.size + 1 ≤ g ∧ g ≠ D := fun g hg => by
  refine ⟨own_ge h.own hg, ?_⟩
  rcases h.own.2 with ⟨e, _⟩ | ⟨g', _, _, e, _⟩
  · rw [e] at hg
    cases hg
  · rw [e] at hg
    obtain rfl : g' = g := by simpa [Value.ownBlock] using hg
    exact h.o3 _ (Value.slice.inj e).1
theorem Sn.storeC {c2 : Int} (h : Sn B r M D k cap c a es w W) : Sn B r M D k cap c2 a es w (W.setCell ⟨D, 0, none⟩ (.int .i64 c2)) := by
  have h1 := h.o1
  have h2 := h.o2
  have h3 := h.rd.1
  exact ⟨h.rd.far (by omega) _ _, h.rs.far _ (by omega), h.vs.set (i := 0) _, ownFar h.own fun g hg => (h.blk g hg).2, h.b.setCell (p := ⟨D, 0, none⟩) (by show B ≤ D; omega) _, h1, h2, h.o3⟩
theorem Sn.aside {M' : Nat} (h : Sn B r M D k cap c a es w W) (ha : Aside W.heap.size r W W') (hr : Rd B r M' W') (hb : Below B W W') : Sn B r M' D k cap c a es w W' :=
  ⟨hr, h.rs.aside ha (lt_of_cell (h.rs 0 _ rfl).1) (by have := h.o1; omega), h.vs.aside ha (lt_of_cell (h.vs 0 _ rfl).1) (by have := h.o1; have := h.o2; omega), ownAway h.own ha (by have := h.o1; omega), h.b.trans hb, h.o1, h.o2, h.o3⟩
theorem Sn.push {W1 : World} {g2 cap2 : Nat} {z : Int} (h : Sn B r M D k cap c a es w W) (hgrow : W.grownBy W1 (Value.slice a k cap).ownBlock) (hown : W1.ownsRow (w.heap.size + 1) 3 1 (.slice (some ⟨g2, 0, none⟩) (k + 1) cap2) (k + 1) (flatN (es ++ [z]))) (hat : (Value.slice a k cap).ownBlock = some g2 ∨ g2 = W.heap.size) :
    Sn B r M D (k + 1) cap2 c (some ⟨g2, 0, none⟩) (es ++ [z]) w (W1.setCell ⟨D, 1, none⟩ (.slice (some ⟨g2, 0, none⟩) (k + 1) cap2)) := by
  have h1 := h.o1
  have h2 := h.o2
  have h3 := h.rd.1
  have h4 := lt_of_cell (h.rs 0 _ rfl).1
  have h5 := lt_of_cell (h.vs 0 _ rfl).1
  have hgD : g2 ≠ D := by
    rcases hat with e | e
    · exact (h.blk _ e).2
    · omega
  have hr : Rd B r M W1 := h.rd.keep (Below.grown (Below.refl (r + 1) W) hgrow (by omega) fun x hx => by have := (h.blk x hx).1; omega) (Nat.lt_succ_self r)
  exact ⟨hr.far (by omega) _ _, (h.rs.plusO hgrow h4 (fun e => by have := (h.blk _ e).1; omega)).far _ (by omega), (h.vs.plusO hgrow h5 (fun e => (h.blk _ e).2 rfl)).set (i := 1) _, ownFar hown (fun g hg => by cases hg; exact hgD), (Below.grown h.b hgrow (by omega) fun x hx => by have := (h.blk x hx).1; omega).setCell (p := ⟨D, 1, none⟩) (by show B ≤ D; omega) _, h1, h2, fun g hg => by cases hg; exact hgD⟩
theorem sn_at (h : Sn B r M D k cap c a es w W) : W.cell? ⟨D, 0, none⟩ = some (.int .i64 c) ∧ W.cell? ⟨D, 1, none⟩ = some (.slice a k cap) ∧ Sn B r M D k cap c a es w W := ⟨(h.vs 0 _ rfl).1, (h.vs 1 _ rfl).1, h⟩
end
/-- What a draw of a value answers. -/
def DrewSn (B r m : Nat) (w : World) (e : Ending) (w' : World) : Prop :=
  ∃ (c : Int) (a : Option Addr) (k cap : Nat) (es : List Int), e = .returned (.agg #[.int .i64 c, .slice a k cap]) ∧ k ≤ 17 ∧ (-1 ≤ c ∧ c ≤ 65536) ∧ (∀ j ∈ es, 0 ≤ j ∧ j ≤ 18) ∧ w'.ownsRow w.heap.size 3 1 (.slice a k cap) k (flatN es) ∧ Rd B r m w' ∧ Below B w w'
theorem Sn.fin {B r M m D k cap : Nat} {c : Int} {a : Option Addr} {es : List Int} {w W : World} (h : Sn B r M D k cap c a es w W) (hM : M ≤ m) (hk : k ≤ 17) (hc : -1 ≤ c ∧ c ≤ 65536) (he : ∀ j ∈ es, 0 ≤ j ∧ j ≤ 18) (x y : Value) :
    DrewSn B r m w (.returned (.agg #[.int .i64 c, .slice a k cap])) ((W.setCell ⟨w.heap.size, 0, none⟩ x).setCell ⟨w.heap.size, 1, none⟩ y) := by
  have h1 := h.o1
  have h3 := h.rd.1
  have hne : ∀ g, (Value.slice a k cap).ownBlock = some g → g ≠ w.heap.size := fun g hg => by have := (h.blk g hg).1; omega
  exact ⟨c, a, k, cap, es, rfl, hk, hc, he, ownN_low (ownFar (ownFar h.own hne) hne) (by omega), ((h.rd.far h1 _ _).far h1 _ _).mono hM, (h.b.setCell (p := ⟨w.heap.size, 0, none⟩) (by show B ≤ w.heap.size; omega) _).setCell (p := ⟨w.heap.size, 1, none⟩) (by show B ≤ w.heap.size; omega) _⟩

set_option maxHeartbeats 4000000 in
theorem l92Seen_any (B r m : Nat) (w : World) (h : Rd B r m w) (hm : m ≤ 10000) :
    Calls Try.prog 61 #[.pointer (some ⟨r, 0, none⟩)] w (DrewSn B r (m + 40) w) := by
  have hrw := h.2.1
  have hBr := h.1
  have R0 := Lib.hid (h.alloc (.cells #[.int .i64 0, .slice none 0 0] 26))
  have B0 := Lib.hid (h.below_alloc (.cells #[.int .i64 0, .slice none 0 0] 26))
  have V0 := Lib.hid (VarN.new w [.int .i64 0, .slice none 0 0] 26)
  clear h
  go_enter Try.func61, Try.ntmps61
  go_wp2_with fail
  refine (l91Good_as B r _ _ R0.out (by omega)).mono ?_
  rintro e w1 ⟨⟨t, rfl, ht, hr1, hb1⟩, ha1⟩
  have R1 := Lib.hid hr1
  have B1 := Lib.hid (B0.out.trans hb1)
  have V1 := Lib.hid (V0.out.aside ha1 (by simp) (by omega))
  clear hr1 hb1 ha1 R0 B0 V0
  go_wp2_with fail
  have HS0 : Ser t := ⟨ht.1, by omega⟩
  refine (sSeenNew_yes t _ HS0).mono ?_
  rintro e w2 ⟨x, rfl, hx⟩
  have hxlt := hx.lt
  have S2 := Lib.hid (show Sn B r (m + 3) w2.heap.size 0 0 (addS t (-1)) (some ⟨x, 0, none⟩) [] w (w2.alloc (.cells #[.int .i64 (addS t (-1)), .slice (some ⟨x, 0, none⟩) 0 0] 26)) from ⟨(R1.out.keep hx.b R1.out.2.1).alloc _, (V1.out.below hx.b (lt_of_cell (V1.out 0 _ rfl).1)).alloc _ (by have := lt_of_cell (V1.out 0 _ rfl).1; have := hx.b.size; omega), VarN.new _ _ _, ownN_alloc (ownN_low hx.own (by have := lt_of_cell (V1.out 0 _ rfl).1; omega)), (B1.out.trans (hx.b.mono (by have := R1.out.2.1; omega))).alloc (by have := R1.out.2.1; have := hx.b.size; omega) _, hrw, by have := lt_of_cell (V1.out 0 _ rfl).1; have := hx.b.size; omega, fun g hg => by cases hg; omega⟩)
  have HS := Lib.hid (addS_ser t (-1))
  clear R1 B1 V1 hx
  go_wp2_with fail
  refine (pick_any B r _ 12 _ S2.out.rd (by omega) (by omega) (by omega)).mono ?_
  rintro e w3 ⟨n1, rfl, n10, n11, hr3, ho3⟩
  have S3 := Lib.hid (S2.out.only ho3 hr3)
  obtain ⟨nn, rfl⟩ : ∃ nn : Nat, n1 = nn := ⟨n1.toNat, by omega⟩
  have hnn : nn ≤ 11 := by omega
  clear S2 hr3 ho3 n10 n11
  generalize addS t (-1) = c0 at S3 HS ⊢
  go_wp2
  go_loopw [6] (fun i wr => ∃ (j k cap : Nat) (c : Int) (a : Option Addr) (es : List Int), j ≤ nn ∧ i = .int .i64 j ∧ Hid (SeenOk c es) ∧ Hid (Sn B r (m + 4 + j) w2.heap.size k cap c a es w wr)) (fun i _ => nn - (intOf i).toNat)
  case atStart => exact ⟨0, 0, 0, c0, some ⟨x, 0, none⟩, [], Nat.zero_le _, rfl, Lib.hid ⟨⟨HS.out.1, by have := HS.out.2; omega⟩, trivial⟩, S3⟩
  case round =>
    obtain ⟨j, k, cap, c, a, es, hj, rfl, hok, hS⟩ := hrel
    clear S3 HS
    have hk16 : es.length ≤ 16 := by have := asc_few hok.out.2 (by decide); omega
    have hkl : es.length = k := (own_ns hS.out.own).length
    by_cases hlt : j < nn
    · have cond : (j : Int) < (nn : Int) := by omega
      have HSc := Lib.hid (seen_ser hok.out)
      have hSd := Lib.hid (hS.out.up (Below.drew (Below.refl _ _)))
      have hBw := Lib.hid hS.out.b
      have hBD : B ≤ w2.heap.size := by have := hS.out.o2; omega
      have v0 := (hS.out.vs 0 _ rfl).1
      have v1 := (hS.out.vs 1 _ rfl).1
      have f0 := (hS.out.vs 0 _ rfl).2
      have f1 := (hS.out.vs 1 _ rfl).2
      clear hlt
      go_wp2_with fail
      go_region_law
        (first
          | (go_simp; go_at_call 80; refine (pick_any B r _ 16 _ hS.out.rd (by omega) (by omega) (by omega)).mono ?_; rintro e w5 ⟨p, rfl, p0, p1, hr5, ho5⟩; have hS5 := Lib.hid (Sn.only hS.out ho5 hr5); have hS5d := Lib.hid (hS5.out.up (Below.drew (Below.refl _ _))); have hB5 := hS5.out.b; have wp : IntKind.i64.wrap (1 + p) = 1 + p := IntWalk.i64_in _ ⟨by omega, by omega⟩; have v0 := (hS5.out.vs 0 _ rfl).1; have v1 := (hS5.out.vs 1 _ rfl).1; have f0 := (hS5.out.vs 0 _ rfl).2; have f1 := (hS5.out.vs 1 _ rfl).2; clear ho5 hr5)
          | (go_simp; go_at_call 80; refine (pick_any B r _ 16 _ hSd.out.rd (by omega) (by omega) (by omega)).mono ?_; rintro e w5 ⟨p, rfl, p0, p1, hr5, ho5⟩; have hS5 := Lib.hid (Sn.only hSd.out ho5 hr5); have hS5d := Lib.hid (hS5.out.up (Below.drew (Below.refl _ _))); have hB5 := hS5.out.b; have wp : IntKind.i64.wrap (1 + p) = 1 + p := IntWalk.i64_in _ ⟨by omega, by omega⟩; have v0 := (hS5.out.vs 0 _ rfl).1; have v1 := (hS5.out.vs 1 _ rfl).1; have f0 := (hS5.out.vs 0 _ rfl).2; have f1 := (hS5.out.vs 1 _ rfl).2; clear ho5 hr5)
          | (go_simp; go_at_call 52; refine (l3Add_any c (1 + p) _ HSc.out).mono ?_; rintro e w6 ⟨rfl, rfl⟩)
          | (go_simp; go_at_call 85; refine (sSeenAdd_any c a k cap es (addS c (1 + p)) _ (own_ns hS5.out.own)).mono ?_; rintro e w8 ⟨c2, code, es2, a2, k2, cap2, rfl, hA, hO⟩; have hS8 := Lib.hid (Sn.up hS5.out hO.b); have hB8 := hS8.out.b; have v0 := (hS8.out.vs 0 _ rfl).1; have v1 := (hS8.out.vs 1 _ rfl).1; have f0 := (hS8.out.vs 0 _ rfl).2; have f1 := (hS8.out.vs 1 _ rfl).2; have hOw := Lib.hid (ownN_low hO.own (Nat.le_of_lt (Nat.lt_of_le_of_lt hS5.out.o2 (lt_of_cell (hS5.out.vs 0 _ rfl).1)))); have hA := Lib.hid hA; have hAo := Lib.hid (fun x hx => own_ge hO.own (k := x) hx); have hDlt := lt_of_cell (hS5.out.vs 0 _ rfl).1; clear hO)
          | (go_simp; go_at_call 85; refine (sSeenAdd_any c a k cap es (addS c (1 + p)) _ (own_ns hS5d.out.own)).mono ?_; rintro e w8 ⟨c2, code, es2, a2, k2, cap2, rfl, hA, hO⟩; have hS8 := Lib.hid (Sn.up hS5d.out hO.b); have hB8 := hS8.out.b; have v0 := (hS8.out.vs 0 _ rfl).1; have v1 := (hS8.out.vs 1 _ rfl).1; have f0 := (hS8.out.vs 0 _ rfl).2; have f1 := (hS8.out.vs 1 _ rfl).2; have hOw := Lib.hid (ownN_low hO.own (Nat.le_of_lt (Nat.lt_of_le_of_lt hS5.out.o2 (lt_of_cell (hS5d.out.vs 0 _ rfl).1)))); have hA := Lib.hid hA; have hAo := Lib.hid (fun x hx => own_ge hO.own (k := x) hx); have hDlt := lt_of_cell (hS5d.out.vs 0 _ rfl).1; clear hO))
      all_goals
        have SZ := Lib.hid (Sn.store (c2 := c2) hS8.out hOw.out (fun g hg => by have := hAo.out g hg; omega))
        have hok2 := Lib.hid (addV_ok hok.out (addS_ser c _) hA.out)
        clear hS hSd hS5 hS5d hB5 hS8 hB8 v0 v1 f0 f1 hOw hA hAo hok
        go_wp2
        go_roundw
        case rel => exact ⟨j + 1, k2, cap2, c2, a2, es2, by omega, by go_num, hok2, SZ⟩
        case measure => simp [intOf]; omega
    · obtain rfl : j = nn := by omega
      have ncond : ¬ (j : Int) < (j : Int) := by omega
      clear hlt
      go_wp2_with fail
      refine (pick_any B r _ 20 _ hS.out.rd (by omega) (by omega) (by omega)).mono ?_
      rintro e w5 ⟨z, rfl, z0, z1, hr5, ho5⟩
      have S5 := Lib.hid (hS.out.only ho5 hr5)
      clear hS hr5 ho5
      have hEs := Lib.hid (show ∀ j ∈ es, 0 ≤ j ∧ j ≤ 18 from fun x hx => by have := asc_low hok.out.2 _ hx; omega)
      have hCs := Lib.hid (show -1 ≤ c ∧ c ≤ 65536 from by have := hok.out.1; omega)
      by_cases e0 : z = 0
      · subst e0
        go_wp2_with fail
        refine (l91Word_as B r _ _ S5.out.rd (by omega)).mono ?_
        rintro e w6 ⟨⟨c3, rfl, hc3, hr6, hb6⟩, ha6⟩
        have S6 := Lib.hid (S5.out.aside ha6 hr6 hb6)
        have S7 := Lib.hid (Sn.storeC (c2 := c3) S6.out)
        clear S5 hr6 hb6 ha6
        have v0 := (S6.out.vs 0 _ rfl).1
        have f0 := (S6.out.vs 0 _ rfl).2
        have v1 := (S6.out.vs 1 _ rfl).1
        have r0 := (S6.out.rs 0 _ rfl).1
        have r1 := (S6.out.rs 1 _ rfl).1
        have s0 := (S6.out.rs 0 _ rfl).2
        have s1 := (S6.out.rs 1 _ rfl).2
        have hwD := S6.out.o2
        go_wp2
        refine bodyPost_ret (v := .agg #[.int .i64 c3, .slice a k cap]) ?_ rfl ?_
        · simp [results, Try.results61, go_sem, r0, r1]
        · exact Sn.fin S7.out (by omega) (by omega) (hc3) (hEs.out) _ _
      by_cases e1 : z = 1
      · subst e1
        have hk17 : k + 1 ≤ 10000000 := by omega
        have S5d := Lib.hid (S5.out.up (Below.drew (Below.refl _ _)))
        have v0 := (S5.out.vs 0 _ rfl).1
        have v1 := (S5.out.vs 1 _ rfl).1
        go_wp2_with fail
        go_region_law
          (first
            | (go_simp; go_at_call 80; refine (pick_any B r _ 19 _ S5.out.rd (by omega) (by omega) (by omega)).mono ?_; rintro e w6 ⟨p, rfl, p0, p1, hr6, ho6⟩; have hS6 := Lib.hid (Sn.only S5.out ho6 hr6); have v0 := (hS6.out.vs 0 _ rfl).1; have v1 := (hS6.out.vs 1 _ rfl).1; have hSA := Lib.hid (hS6.out.up (below_box (.cells #[.int .i64 p] 3) (Nat.le_refl _))); have hSAd := Lib.hid (hSA.out.up (Below.drew (Below.refl _ _))); have va1 := (hSA.out.vs 1 _ rfl).1; have NB := Lib.hid (show ∀ j u, (flatN [p])[j]? = some u → (w6.alloc (.cells #[.int .i64 p] 3)).cell? ((⟨w6.heap.size, 0, none⟩ : Addr).add j) = some u from news_box rfl); have NBd := Lib.hid (show ∀ j u, (flatN [p])[j]? = some u → (w6.alloc (.cells #[.int .i64 p] 3)).drew.cell? ((⟨w6.heap.size, 0, none⟩ : Addr).add j) = some u from fun j u hu => NB.out j u hu); clear ho6 hr6)
            | (go_simp; go_at_call 80; refine (pick_any B r _ 19 _ S5d.out.rd (by omega) (by omega) (by omega)).mono ?_; rintro e w6 ⟨p, rfl, p0, p1, hr6, ho6⟩; have hS6 := Lib.hid (Sn.only S5d.out ho6 hr6); have v0 := (hS6.out.vs 0 _ rfl).1; have v1 := (hS6.out.vs 1 _ rfl).1; have hSA := Lib.hid (hS6.out.up (below_box (.cells #[.int .i64 p] 3) (Nat.le_refl _))); have hSAd := Lib.hid (hSA.out.up (Below.drew (Below.refl _ _))); have va1 := (hSA.out.vs 1 _ rfl).1; have NB := Lib.hid (show ∀ j u, (flatN [p])[j]? = some u → (w6.alloc (.cells #[.int .i64 p] 3)).cell? ((⟨w6.heap.size, 0, none⟩ : Addr).add j) = some u from news_box rfl); have NBd := Lib.hid (show ∀ j u, (flatN [p])[j]? = some u → (w6.alloc (.cells #[.int .i64 p] 3)).drew.cell? ((⟨w6.heap.size, 0, none⟩ : Addr).add j) = some u from fun j u hu => NB.out j u hu); clear ho6 hr6)
            | (refine step_addN (by rfl) _ _ (by rfl) (w.heap.size + 1) k _ cap a _ es p (by rfl) hSA.out.own (by rfl) NB.out hk17 (Nat.le_of_lt (Nat.lt_of_le_of_lt hSA.out.o2 (lt_of_cell (hSA.out.vs 0 _ rfl).1))) ?_; intro g3 cap3 w9 hown3 hgrow3 hat3; have S9 := Lib.hid (Sn.push hSA.out hgrow3 hown3 hat3); have V9 := VarN.plusO hSA.out.vs hgrow3 (lt_of_cell (hSA.out.vs 0 _ rfl).1) (fun e => (hSA.out.blk _ e).2 rfl); have R9 := VarN.plusO hSA.out.rs hgrow3 (lt_of_cell (hSA.out.rs 0 _ rfl).1) (fun e => absurd (hSA.out.blk _ e).1 (Nat.not_succ_le_self _)); have v0 := (V9 0 _ rfl).1; have v1 := (V9 1 _ rfl).1; have f0 := (V9 0 _ rfl).2; have f1 := (V9 1 _ rfl).2; have r0 := (R9 0 _ rfl).1; have r1 := (R9 1 _ rfl).1; have s0 := (R9 0 _ rfl).2; have s1 := (R9 1 _ rfl).2; clear V9 R9 hown3 hgrow3 hat3)
            | (refine step_addN (by rfl) _ _ (by rfl) (w.heap.size + 1) k _ cap a _ es p (by rfl) hSAd.out.own (by rfl) NBd.out hk17 (Nat.le_of_lt (Nat.lt_of_le_of_lt hSAd.out.o2 (lt_of_cell (hSAd.out.vs 0 _ rfl).1))) ?_; intro g3 cap3 w9 hown3 hgrow3 hat3; have S9 := Lib.hid (Sn.push hSAd.out hgrow3 hown3 hat3); have V9 := VarN.plusO hSAd.out.vs hgrow3 (lt_of_cell (hSAd.out.vs 0 _ rfl).1) (fun e => (hSAd.out.blk _ e).2 rfl); have R9 := VarN.plusO hSAd.out.rs hgrow3 (lt_of_cell (hSAd.out.rs 0 _ rfl).1) (fun e => absurd (hSAd.out.blk _ e).1 (Nat.not_succ_le_self _)); have v0 := (V9 0 _ rfl).1; have v1 := (V9 1 _ rfl).1; have f0 := (V9 0 _ rfl).2; have f1 := (V9 1 _ rfl).2; have r0 := (R9 0 _ rfl).1; have r1 := (R9 1 _ rfl).1; have s0 := (R9 0 _ rfl).2; have s1 := (R9 1 _ rfl).2; clear V9 R9 hown3 hgrow3 hat3))
        all_goals
          have hEs2 := Lib.hid (show ∀ j ∈ es ++ [p], 0 ≤ j ∧ j ≤ 18 from fun x hx => by
            rcases List.mem_append.1 hx with hx | hx
            · exact hEs.out x hx
            · obtain rfl : x = p := by simpa using hx
              omega)
          clear v0 v1 f0 f1 r0 r1 s0 s1
          have v0 := (S9.out.vs 0 _ rfl).1
          have v1 := (S9.out.vs 1 _ rfl).1
          have r0 := (S9.out.rs 0 _ rfl).1
          have r1 := (S9.out.rs 1 _ rfl).1
          have s0 := (S9.out.rs 0 _ rfl).2
          have s1 := (S9.out.rs 1 _ rfl).2
          go_wp2
          refine bodyPost_ret (v := .agg #[.int .i64 c, .slice (some ⟨g3, 0, none⟩) (k + 1) cap3]) ?_ rfl ?_
          · simp [results, Try.results61, go_sem, r0, r1]
          · exact Sn.fin S9.out (by omega) (by omega) (hCs.out) (hEs2.out) _ _
      · have v0 := (S5.out.vs 0 _ rfl).1
        have v1 := (S5.out.vs 1 _ rfl).1
        have r0 := (S5.out.rs 0 _ rfl).1
        have r1 := (S5.out.rs 1 _ rfl).1
        have s0 := (S5.out.rs 0 _ rfl).2
        have s1 := (S5.out.rs 1 _ rfl).2
        go_wp2
        refine bodyPost_ret (v := .agg #[.int .i64 c, .slice a k cap]) ?_ rfl ?_
        · simp [results, Try.results61, go_sem, r0, r1]
        · exact Sn.fin S5.out (by omega) (by omega) (hCs.out) (hEs.out) _ _

end Go.Proofs.Ytcjabomcndahbaa
