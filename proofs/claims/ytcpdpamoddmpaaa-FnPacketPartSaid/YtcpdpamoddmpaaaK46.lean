/- The draws of packets. -/
import Derived.Test.YtcpdpamoddmpaaaK40
import Derived.Test.YtcpdpamoddmpaaaK45
import Derived.Test.YtcpdpamoddmpaaaK16
import Derived.Test.YtcpdpamoddmpaaaK4a
import Derived.Deep.RegionLaw
import Derived.Maps.AppendAt
import Derived.ArgAppend
namespace Go.Proofs.Ytcpdpamoddmpaaa
open Go.RowKit Go.PlainAid

theorem info_ch' : (Try.prog.info? 32).map (fun i => (i.zero, i.size, i.bytes)) = some (some (.agg #[.int .i64 0, .int .i64 0, .string (ByteArray.mk #[])]), 3, 32) := by kernel_rfl
theorem rowOnly {w w' : World} {base r : Nat} {e : TypeId} {size n m g cap : Nat} {xs : List Value} (h : w.ownsRow base e size (.slice (some ⟨g, 0, none⟩) m cap) n xs) (ha : Aside w.heap.size r w w') (hg : g ≠ r) :
    w'.ownsRow base e size (.slice (some ⟨g, 0, none⟩) m cap) n xs := by
  have hl := rowLt h
  refine ⟨h.1, ?_⟩
  rcases h.2 with ⟨h1, _⟩ | ⟨g', cap', cur, h1, h2, h3, h4⟩
  · exact absurd h1 (by intro e; cases e)
  · obtain ⟨rfl, rfl, rfl⟩ : g = g' ∧ m = n ∧ cap = cap' := by simpa using h1
    exact .inr ⟨g, cap, cur, rfl, h2, by rw [ha g hl hg]; exact h3, h4⟩
/-- While a packet is drawn: the reader at r, the result's place at N, the packet at sb, its chunks at g. -/
structure Sp (B r M N sb : Nat) (f t n : Int) (g k cap : Nat) (cs : List (Int × Int × ByteArray)) (w W : World) : Prop where
  rd : Rd B r M W
  res : VarN N [.int .i64 0, .int .i64 0, .int .i64 0, .slice none 0 0] W
  sv : VarN sb [.int .i64 f, .int .i64 t, .int .i64 n, .slice (some ⟨g, 0, none⟩) k cap] W
  own : W.ownsRow (N + 1) 32 3 (.slice (some ⟨g, 0, none⟩) k cap) k (flatC cs)
  ne : g ≠ sb
  b : Below B w W
  o1 : r < N
  o2 : N < sb
section
variable {B r M N sb : Nat} {f t n : Int} {g k cap : Nat} {cs : List (Int × Int × ByteArray)} {w W W' : World}
theorem Sp.glt (h : Sp B r M N sb f t n g k cap cs w W) : g < W.heap.size := rowLt h.own
theorem Sp.slt (h : Sp B r M N sb f t n g k cap cs w W) : sb < W.heap.size := lt_of_cell (h.sv 0 _ rfl).1
theorem Sp.gN (h : Sp B r M N sb f t n g k cap cs w W) : N + 1 ≤ g := own_ge h.own rfl
theorem Sp.up (h : Sp B r M N sb f t n g k cap cs w W) (hb : Below W.heap.size W W') : Sp B r M N sb f t n g k cap cs w W' := by
  have h1 := h.slt
  have h2 := h.glt
  have h3 := h.o1
  have h4 := h.o2
  have h5 := h.rd.1
  exact ⟨h.rd.keep hb (by omega), h.res.below hb (by omega), h.sv.below hb h1, rowBelow h.own hb h2, h.ne, h.b.trans (hb.mono (by omega)), h3, h4⟩
theorem Sp.only {M' : Nat} (h : Sp B r M N sb f t n g k cap cs w W) (ho : Only r W W') (hr : Rd B r M' W') : Sp B r M' N sb f t n g k cap cs w W' := by
  have h3 := h.o1
  have h4 := h.o2
  have h5 := h.gN
  exact ⟨hr, h.res.only ho (by omega), h.sv.only ho (by omega), own_only ho (by omega) h.own, h.ne, h.b.trans (ho.below h.rd.1), h3, h4⟩
theorem Sp.aside {M' : Nat} (h : Sp B r M N sb f t n g k cap cs w W) (ha : Aside W.heap.size r W W') (hr : Rd B r M' W') (hb : Below B W W') : Sp B r M' N sb f t n g k cap cs w W' := by
  have h1 := h.slt
  have h2 := h.glt
  have h3 := h.o1
  have h4 := h.o2
  have h5 := h.gN
  exact ⟨hr, h.res.aside ha (by omega) (by omega), h.sv.aside ha h1 (by omega), rowOnly h.own ha (by omega), h.ne, h.b.trans hb, h3, h4⟩
theorem Sp.fld {i : Nat} (h : Sp B r M N sb f t n g k cap cs w W) (v : Value) {f' t' n' : Int} (e : [Value.int .i64 f, .int .i64 t, .int .i64 n, .slice (some ⟨g, 0, none⟩) k cap].set i v = [.int .i64 f', .int .i64 t', .int .i64 n', .slice (some ⟨g, 0, none⟩) k cap]) : Sp B r M N sb f' t' n' g k cap cs w (W.setCell ⟨sb, i, none⟩ v) := by
  have h3 := h.o1
  have h4 := h.o2
  have h5 := h.rd.1
  exact ⟨h.rd.keep ((Below.refl (r + 1) W).setCell (p := ⟨sb, i, none⟩) (by show r + 1 ≤ sb; omega) _) (Nat.lt_succ_self r), h.res.far _ (by omega), e ▸ h.sv.set (i := i) v, rowFar h.own h.ne _, h.ne, h.b.setCell (p := ⟨sb, i, none⟩) (by show B ≤ sb; omega) _, h3, h4⟩
theorem Sp.push {W1 : World} {g2 cap2 k2 : Nat} {ds : List (Int × Int × ByteArray)} (h : Sp B r M N sb f t n g k cap cs w W) (hgrow : W.grownBy W1 (some g)) (hown : W1.ownsRow (N + 1) 32 3 (.slice (some ⟨g2, 0, none⟩) k2 cap2) k2 (flatC ds))
    (hat : g = g2 ∨ W.heap.size ≤ g2) : Sp B r M N sb f t n g2 k2 cap2 ds w (W1.setCell ⟨sb, 3, none⟩ (.slice (some ⟨g2, 0, none⟩) k2 cap2)) := by
  have h1 := h.slt
  have h2 := h.glt
  have h3 := h.o1
  have h4 := h.o2
  have h5 := h.rd.1
  have h6 := h.gN
  have h7 := h.ne
  have hne : g2 ≠ sb := by rcases hat with h | h <;> omega
  exact ⟨(h.rd.keep (Below.grown (Below.refl (r + 1) W) hgrow (by omega) fun x hx => by cases hx; omega) (Nat.lt_succ_self r)).keep ((Below.refl (r + 1) _).setCell (p := ⟨sb, 3, none⟩) (by show r + 1 ≤ sb; omega) _) (Nat.lt_succ_self r),
    (h.res.plus hgrow (by omega) (by omega)).far _ (by omega), (h.sv.plus hgrow h1 (by omega)).set (i := 3) _, rowFar hown hne _, hne, (Below.grown h.b hgrow (by omega) fun x hx => by cases hx; omega).setCell (p := ⟨sb, 3, none⟩) (by show B ≤ sb; omega) _, h3, h4⟩
theorem Sp.push2 {W5 W6 : World} {g2 g3 cap3 k3 : Nat} {ds : List (Int × Int × ByteArray)} (h : Sp B r M N sb f t n g k cap cs w W) (hg1 : W.grownBy W5 (some g)) (ha1 : g = g2 ∨ W.heap.size ≤ g2) (hg2 : W5.grownBy W6 (some g2))
    (hown : W6.ownsRow (N + 1) 32 3 (.slice (some ⟨g3, 0, none⟩) k3 cap3) k3 (flatC ds)) (ha2 : g2 = g3 ∨ W5.heap.size ≤ g3) : Sp B r M N sb f t n g3 k3 cap3 ds w (W6.setCell ⟨sb, 3, none⟩ (.slice (some ⟨g3, 0, none⟩) k3 cap3)) := by
  have h1 := h.slt
  have h2 := h.glt
  have h3 := h.o1
  have h4 := h.o2
  have h5 := h.rd.1
  have h6 := h.gN
  have h7 := h.ne
  have z1 := hg1.size
  have z2 := hg2.size
  have hBW := h.b.size
  have hne2 : g2 ≠ sb := by rcases ha1 with h | h <;> omega
  have hN2 : N + 1 ≤ g2 := by rcases ha1 with h | h <;> omega
  have hne : g3 ≠ sb := by rcases ha2 with h | h <;> omega
  exact ⟨((h.rd.keep (Below.grown (Below.refl (r + 1) W) hg1 (by omega) fun x hx => by cases hx; omega) (Nat.lt_succ_self r)).keep (Below.grown (Below.refl (r + 1) W5) hg2 (by omega) fun x hx => by cases hx; omega) (Nat.lt_succ_self r)).keep ((Below.refl (r + 1) _).setCell (p := ⟨sb, 3, none⟩) (by show r + 1 ≤ sb; omega) _) (Nat.lt_succ_self r),
    ((h.res.plus hg1 (by omega) (by omega)).plus hg2 (by omega) (by omega)).far _ (by omega), ((h.sv.plus hg1 h1 (by omega)).plus hg2 (by omega) hne2.symm).set (i := 3) _, rowFar hown hne _, hne,
    (Below.grown (Below.grown h.b hg1 (by omega) fun x hx => by cases hx; omega) hg2 (by omega) fun x hx => by cases hx; omega).setCell (p := ⟨sb, 3, none⟩) (by show B ≤ sb; omega) _, h3, h4⟩
theorem Sp.mono {M' : Nat} (h : Sp B r M N sb f t n g k cap cs w W) (hM : M ≤ M') : Sp B r M' N sb f t n g k cap cs w W :=
  ⟨h.rd.mono hM, h.res, h.sv, h.own, h.ne, h.b, h.o1, h.o2⟩
end
/-- A row is lengthened: the old row is as it was. -/
theorem step_dbl {ops : Array Oper} {o : Oper} {a : Act} {w : World} {K : Act → World → Prop} {Q : Exit → Act → World → Prop} {E : Prop}
    (hg : o.guard = none) (s x : Operand) (hop : o.op = Op.call { callee := Callee.builtin Builtin.append, args := #[s, x], argTypes := #[23, 23] })
    (base k m n cc g cap : Nat) (ad : Addr) (cs ds : List (Int × Int × ByteArray)) (hv : a.eval s = .slice (some ⟨g, 0, none⟩) k cap) (hown : w.ownsRow base 32 3 (.slice (some ⟨g, 0, none⟩) k cap) k (flatC cs))
    (hx : a.eval x = .slice (some ad) m cc) (hl : ds.length = m) (hc : ∀ j u, (flatC ds)[j]? = some u → w.cell? (ad.add j) = some u) (hn : k + m = n) (him : n ≤ 100) (hb : base ≤ w.heap.size)
    (hK : ∀ g2 cap2 w', w'.ownsRow base 32 3 (.slice (some ⟨g2, 0, none⟩) n cap2) n (flatC (cs ++ ds)) → w.grownBy w' (some g) → (g = g2 ∨ w.heap.size ≤ g2) → (∀ j u, (flatC cs)[j]? = some u → w'.cell? ((⟨g, 0, none⟩ : Addr).add j) = some u) → K (a.put o.dst (.slice (some ⟨g2, 0, none⟩) n cap2)) w') :
    if Region.wanted o (yielded ops a.tmps) = true then Oper.wp Try.prog o a w K Q else E := by
  subst hn
  obtain ⟨i0, hi, hz0, hz1, hz2⟩ := info_parts info_ch'
  have hw : Region.wanted o (yielded ops a.tmps) = true := by simp [Region.wanted, hg]
  rw [if_pos hw]
  have hlen : (flatC ds).length = m * 3 := by rw [flatC_length, hl]
  have hcs : cs.length = k := by have := hown.1; rw [flatC_length] at this; omega
  have hchs := own_chs hown
  have hgl := rowLt hown
  have hgb := own_ge hown rfl
  by_cases hr : k + m ≤ cap
  · obtain ⟨v', w', hrun, h2, h3, _, h5⟩ := run_append_own_at (P := Try.prog) w base 23 o.type 32 i0 (.agg #[.int .i64 0, .int .i64 0, .string (ByteArray.mk #[])]) 3 32 Try.underlying23 hi hz0 hz1 hz2 rfl (by decide) _ k (flatC cs) hown ad m cc (flatC ds) hlen hc (flatC_one ds) (by unfold maxLen; omega) (by omega) hb
    have hroom := run_append_room_cells (P := Try.prog) (w := w) 23 o.type 32 i0 Try.underlying23 hi g 0 k cap ad m cc (flatC ds) (by rw [hz1]; exact hlen) hc (flatC_one ds) hr
      (fun j hj => by
        rw [hz1]
        rcases hown.2 with ⟨h1, _⟩ | ⟨g', cap', cur, h1, _, h3, h4, h5, h6, _⟩
        · exact absurd h1 (by intro e; cases e)
        · obtain ⟨rfl, rfl⟩ : g = g' ∧ cap = cap' := by simpa using h1
          rw [cell_of_row w g _ cur 32 (0, 0) h3, Array.getElem?_eq_getElem (by omega)]
          rfl)
      (fun j hj => by
        rcases hown.2 with ⟨h1, _⟩ | ⟨g', cap', cur, h1, _, h3, _⟩
        · exact absurd h1 (by intro e; cases e)
        · obtain ⟨rfl, rfl⟩ : g = g' ∧ cap = cap' := by simpa using h1
          simp [World.frozen?, h3])
    rw [hroom] at hrun
    obtain ⟨rfl, rfl⟩ : v' = .slice (some ⟨g, 0, none⟩) (k + m) cap ∧ w' = w.setCells g (0 + k * i0.size) (flatC ds) := by
      cases hrun
      exact ⟨rfl, rfl⟩
    rw [← flatC_append] at h2
    unfold Oper.wp execOp
    simp only [hop, resolve, invoke, builtin, Sem.run_bind, Sem.run_pure, Result.andThen_ok, List.map_toArray, List.map_cons, List.map_nil, hv, hx, hroom]
    refine hK g cap _ h2 h3 (.inl rfl) fun j u hu => ?_
    rw [ch_add]
    have hj := (List.getElem?_eq_some_iff.1 hu).1
    rw [flatC_length, hcs] at hj
    rw [h2.cellAt j (by omega), flatC_append, List.getElem?_append_left (by rw [flatC_length, hcs]; exact hj)]
    exact hu
  · obtain ⟨v', w', hrun, h2, h3⟩ := run_append_arg_grows (P := Try.prog) (w := w) 23 o.type 32 i0 (.agg #[.int .i64 0, .int .i64 0, .string (ByteArray.mk #[])]) 3 32 Try.underlying23 hi hz0 hz1 hz2 rfl (by decide) ⟨g, 0, none⟩ k cap (flatC cs) (by rw [flatC_length, hcs]) (chs_flat hchs) ad m cc (flatC ds) hlen hc (by omega) (by unfold maxLen; omega) (by omega)
    rw [← flatC_append] at h2
    have hkm : 0 < k + m := by have := hchs.len_le; omega
    obtain ⟨g2, cap2, rfl⟩ : ∃ g2 cap2, v' = .slice (some ⟨g2, 0, none⟩) (k + m) cap2 := by
      rcases h2.2 with ⟨_, h0⟩ | ⟨g2, cap2, _, hv, _⟩
      · omega
      · exact ⟨g2, cap2, hv⟩
    have hge := own_ge h2 rfl
    unfold Oper.wp execOp
    simp only [hop, resolve, invoke, builtin, Sem.run_bind, Sem.run_pure, Result.andThen_ok, List.map_toArray, List.map_cons, List.map_nil, hv, hx, hrun]
    refine hK g2 cap2 w' ?_ ⟨h3.os, h3.tape, h3.output, h3.size, fun i hi _ => h3.block i hi (by simp)⟩ (.inr hge) fun j u hu => ?_
    · refine ⟨h2.1, ?_⟩
      rcases h2.2 with ⟨h1, _⟩ | ⟨g', cap', cur, h1, h4, h5⟩
      · exact .inl ⟨h1, by omega⟩
      · exact .inr ⟨g', cap', cur, h1, by omega, h5⟩
    · exact h3.cell (chs_flat hchs j u hu) (by simp)

/-- A drawn packet. -/
def DrewPack (B r m : Nat) (w : World) (e : Ending) (w' : World) : Prop :=
  ∃ (f t n : Int) (g k cap : Nat) (cs : List (Int × Int × ByteArray)), e = .returned (.agg #[.int .i64 f, .int .i64 t, .int .i64 n, .slice (some ⟨g, 0, none⟩) k cap]) ∧ (-1 ≤ f ∧ f ≤ 65536) ∧ (-1 ≤ t ∧ t ≤ 65536) ∧ (-1 ≤ n ∧ n ≤ 4294967296) ∧ k ≤ 9 ∧ w.heap.size ≤ g ∧ Chs w' (some ⟨g, 0, none⟩) k cap cs ∧ (∀ j, w'.frozen? ⟨g, j, none⟩ = false) ∧ Rd B r m w' ∧ Below B w w'

theorem chsZero {W : World} {g k cap sb i : Nat} {cs : List (Int × Int × ByteArray)} (_hd : sb ≠ g) (v : Value) (h : Chs W (some ⟨g, 0, none⟩) k cap cs) : Chs (W.setCell ⟨sb, i, none⟩ v) (some ⟨g, 0, none⟩) 0 cap [] :=
  .inr ⟨_, rfl, Nat.zero_le _, h.len_le.2, rfl, fun i hi => by omega⟩
theorem endPack {B r M m N : Nat} {f t n : Int} {g k cap : Nat} {cs : List (Int × Int × ByteArray)} {w W : World} {x0 x1 x2 x3 : Value} (hr : Rd B r M W) (hb : Below B w W) (hc : Chs W (some ⟨g, 0, none⟩) k cap cs)
    (hN : N + 1 ≤ g) (hNw : w.heap.size = N) (hf : -1 ≤ f ∧ f ≤ 65536) (ht : -1 ≤ t ∧ t ≤ 65536) (hn : -1 ≤ n ∧ n ≤ 4294967296) (hk : k ≤ 9) (hM : M ≤ m) (hBr : B ≤ r) (hfz : ∀ j, W.frozen? ⟨g, j, none⟩ = false) (hrN : r < N := by omega) :
    DrewPack B r m w (.returned (.agg #[.int .i64 f, .int .i64 t, .int .i64 n, .slice (some ⟨g, 0, none⟩) k cap])) ((((W.setCell ⟨N, 0, none⟩ x0).setCell ⟨N, 1, none⟩ x1).setCell ⟨N, 2, none⟩ x2).setCell ⟨N, 3, none⟩ x3) := by
  have e : N ≠ g := by omega
  exact ⟨f, t, n, g, k, cap, cs, rfl, hf, ht, hn, hk, by omega, (((hc.far e x0).far e x1).far e x2).far e x3, (fun j => by rw [World.frozen?_setCell, World.frozen?_setCell, World.frozen?_setCell, World.frozen?_setCell]; exact hfz j), ((((hr.far hrN 0 x0).far hrN 1 x1).far hrN 2 x2).far hrN 3 x3).mono hM,
    (((hb.setCell (p := ⟨N, 0, none⟩) (by show B ≤ N; omega) x0).setCell (p := ⟨N, 1, none⟩) (by show B ≤ N; omega) x1).setCell (p := ⟨N, 2, none⟩) (by show B ≤ N; omega) x2).setCell (p := ⟨N, 3, none⟩) (by show B ≤ N; omega) x3⟩

set_option maxHeartbeats 4000000 in
set_option maxRecDepth 100000 in
theorem l91Packet_any (B r m : Nat) (w : World) (h : Rd B r m w) (hm : m ≤ 10000) :
    Calls Try.prog 29 #[.pointer (some ⟨r, 0, none⟩)] w (DrewPack B r (m + 200) w) := by
  have hrw := h.2.1
  have hBr := h.1
  obtain ⟨i0, hi, hz0, hz1, hz2⟩ := info_parts info_ch'
  have HI := Lib.hid (And.intro hi (And.intro hz0 (And.intro hz1 hz2)))
  clear hi hz0 hz1 hz2
  go_enter Try.func29, Try.ntmps29
  go_wp2_with fail
  refine (pick_any B r m 20 _ (h.alloc _) (by omega) (by omega) (by omega)).mono ?_
  rintro e w1 ⟨x, rfl, x0, x1, hr1, ho1⟩
  have R1 := (VarN.new w [.int .i64 0, .int .i64 0, .int .i64 0, .slice none 0 0] 25).only ho1 (by omega)
  have B1 := (below_box (.cells #[.int .i64 0, .int .i64 0, .int .i64 0, .slice none 0 0] 25) (by omega)).trans (ho1.below hBr)
  have L1 := lt_of_cell (R1 0 _ rfl).1
  clear h ho1
  go_wp2_with fail
  refine (l91Chunk_fr B r _ _ hr1 (by omega)).mono ?_
  rintro e w2 ⟨⟨ck, cf, cb, rfl, _, hr2, hb2⟩, hf2⟩
  have R2 := R1.aside hf2.aside L1 (by omega)
  have B2 := B1.trans hb2
  have L2 := lt_of_cell (R2 0 _ rfl).1
  clear R1 B1 hr1 hb2 hf2
  have HR2 := Lib.hid R2
  have HB2 := Lib.hid B2
  have Hr2 := Lib.hid hr2
  clear R2 B2 hr2
  have S0 : Sp B r (m + 1 + 40) w.heap.size (w2.heap.size + 1) 7 9 x w2.heap.size 1 1 [(ck, cf, cb)] w ((w2.alloc (.cells #[.int .i64 ck, .int .i64 cf, .string cb] 32)).alloc (.cells #[.int .i64 7, .int .i64 9, .int .i64 x, .slice (some ⟨w2.heap.size, 0, none⟩) 1 1] 25)) :=
    ⟨(Hr2.out.alloc _).alloc _, (HR2.out.alloc _ L2).alloc _ (by simp; omega), VarN.new_at (by simp) [.int .i64 7, .int .i64 9, .int .i64 x, .slice (some ⟨w2.heap.size, 0, none⟩) 1 1] _,
      (World.ownsRow_lit (base := w.heap.size + 1) (e := 32) (size := 3) w2 #[.int .i64 ck, .int .i64 cf, .string cb] 1 (by omega) (by decide) rfl).alloc _, by omega,
      (HB2.out.alloc (by omega) _).alloc (by simp; omega) _, by omega, by omega⟩
  have S0 := Lib.hid S0
  clear HR2 HB2 Hr2
  go_wp2_with fail
  refine (pick_any B r _ 3 _ S0.out.rd (by omega) (by omega) (by omega)).mono ?_
  rintro e w3 ⟨y, rfl, y0, y1, hr3, ho3⟩
  have S1 := Lib.hid (S0.out.only ho3 hr3)
  clear S0 hr3 ho3
  obtain ⟨nn, hnn⟩ : ∃ nn : Nat, y = nn := ⟨y.toNat, by omega⟩
  subst hnn
  have hnn3 : nn ≤ 2 := by omega
  have hx : -1 ≤ x ∧ x ≤ 4294967296 := by omega
  have hsbN : w.heap.size < w2.heap.size + 1 := by omega
  clear y0 y1 x0 x1
  generalize w2.heap.size + 1 = sb at *
  go_wp2
  go_loopw [5] (fun i wr => ∃ (j k g cap : Nat) (cs : List (Int × Int × ByteArray)), j ≤ nn ∧ i = .int .i64 j ∧ 1 ≤ k ∧ k ≤ 1 + j ∧ Hid (Sp B r (m + 50 + 50 * j) w.heap.size sb 7 9 x g k cap cs w wr)) (fun i _ => nn - (intOf i).toNat)
  case atStart => exact ⟨0, 1, _, 1, _, Nat.zero_le _, rfl, by omega, by omega, Lib.hid (S1.out.mono (by omega))⟩
  case round =>
    obtain ⟨j, k, g, cap, cs, hj, rfl, hk1, hk2, hS⟩ := hrel
    clear S1
    by_cases hlt : j < nn
    · have cond : (j : Int) < (nn : Int) := by omega
      have SD := Lib.hid (hS.out.up (Below.drew (Below.refl _ _)))
      have s3 := (SD.out.sv 3 _ rfl).1
      go_wp2_with fail
      go_region_law (first
          | (refine step_append_lies _ (by rfl) _ _ _ (by rfl) (w.heap.size + 1) 32 i0 _ 3 32 Try.underlying23 HI.out.1 HI.out.2.1 HI.out.2.2.1 HI.out.2.2.2 rfl (by omega) _ k (flatC cs) (by rfl) (S3.up (below_box _ (Nat.le_refl _))).own ⟨w4.heap.size, 0, none⟩ 1 1 [.int .i64 dk, .int .i64 df, .string db] (by rfl) (by rfl) (news_box rfl) (by simp [Value.oneCell']) (by omega) (by unfold maxLen; omega) (by omega) (by have h1 := S3.slt; have h2 := S3.o2; simp; omega) _ rfl ?_; intro g2 cap2 w5 hown hgrow hat hlt5; have S5 := S3.up (below_box (.cells #[.int .i64 dk, .int .i64 df, .string db] 32) (Nat.le_refl _)); have S4 := S5.sv.plus hgrow S5.slt S5.ne.symm; have v3 := (S4 3 _ rfl).1; have vf3 := (S4 3 _ rfl).2)
          | (go_simp; go_at_call 50; refine (l91Chunk_fr B r _ _ SD.out.rd (by omega)).mono ?_; rintro e w4 ⟨⟨dk, df, db, rfl, _, hr4, hb4⟩, hf4⟩; have S3 := SD.out.aside hf4.aside hr4 hb4; have u3 := (S3.sv 3 _ rfl).1; have uf3 := (S3.sv 3 _ rfl).2; have u3b := ((S3.sv.alloc (.cells #[.int .i64 dk, .int .i64 df, .string db] 32) S3.slt) 3 _ rfl).1; dsimp only))
      all_goals
        have SP := Lib.hid ((S5.push (ds := cs ++ [(dk, df, db)]) hgrow (by rw [flatC_append]; exact hown) (hat.imp (fun h => by simpa [Value.ownBlock] using h) fun h => by rw [h]; simp)).mono (M' := m + 50 + 50 * (j + 1)) (by omega))
        clear S3 S4 S5 u3 u3b uf3 v3 vf3 hown hgrow hat hlt5 hr4 hb4 hf4 hS SD s3
        go_wp2
        go_roundw
        case rel => exact ⟨j + 1, k + 1, g2, cap2, _, by omega, by go_num, by omega, by omega, SP⟩
        case measure => simp [intOf]; omega
    · obtain rfl : j = nn := by omega
      have ncond : ¬ (j : Int) < (j : Int) := by omega
      clear hlt
      go_wp2_with fail
      refine (pick_any B r _ 20 _ hS.out.rd (by omega) (by omega) (by omega)).mono ?_
      rintro e w4 ⟨z, rfl, z0, z1, hr4, ho4⟩
      have S2 := Lib.hid (hS.out.only ho4 hr4)
      clear hS hr4 ho4
      by_cases z0' : z = 0
      · subst z0'
        go_wp2_with fail
        refine (l91Word_as B r _ _ S2.out.rd (by omega)).mono ?_
        rintro e w5 ⟨⟨y, rfl, ⟨y0, y1⟩, hr5, hb5⟩, ha5⟩
        have S3 := Lib.hid (S2.out.aside ha5 hr5 hb5)
        clear S2 hr5 hb5 ha5
        have c0 := (S3.out.sv 0 _ rfl).1
        have cf0 := (S3.out.sv 0 _ rfl).2
        have S4 := Lib.hid (S3.out.fld (i := 0) (.int .i64 y) (f' := y) (t' := 9) (n' := x) rfl)
        clear S3
        have HCh := Lib.hid (own_chs S4.out.own)
        have HFz := Lib.hid S4.out.own.frozenAt
        have HGN := S4.out.gN
        have HRd := Lib.hid S4.out.rd
        have HBe := Lib.hid S4.out.b
        have p0 := (S4.out.sv 0 _ rfl).1
        have p1 := (S4.out.sv 1 _ rfl).1
        have p2 := (S4.out.sv 2 _ rfl).1
        have p3 := (S4.out.sv 3 _ rfl).1
        have r0 := (S4.out.res 0 _ rfl).1
        have f0 := (S4.out.res 0 _ rfl).2
        have r1 := (S4.out.res 1 _ rfl).1
        have f1 := (S4.out.res 1 _ rfl).2
        have r2 := (S4.out.res 2 _ rfl).1
        have f2 := (S4.out.res 2 _ rfl).2
        have r3 := (S4.out.res 3 _ rfl).1
        have f3 := (S4.out.res 3 _ rfl).2
        go_wp2
        refine bodyPost_ret (v := .agg #[.int .i64 y, .int .i64 9, .int .i64 x, .slice (some ⟨g, 0, none⟩) k cap]) ?_ rfl ?_
        · simp [results, Try.results29, go_sem, r0, r1, r2, r3]
        · exact endPack HRd.out HBe.out HCh.out (by omega) (by omega) (by omega) (by omega) (by omega) (by omega) (by omega) hBr HFz.out
      by_cases z1' : z = 1
      · subst z1'
        go_wp2_with fail
        refine (l91Word_as B r _ _ S2.out.rd (by omega)).mono ?_
        rintro e w5 ⟨⟨y, rfl, ⟨y0, y1⟩, hr5, hb5⟩, ha5⟩
        have S3 := Lib.hid (S2.out.aside ha5 hr5 hb5)
        clear S2 hr5 hb5 ha5
        have c1 := (S3.out.sv 1 _ rfl).1
        have cf1 := (S3.out.sv 1 _ rfl).2
        have S4 := Lib.hid (S3.out.fld (i := 1) (.int .i64 y) (f' := 7) (t' := y) (n' := x) rfl)
        clear S3
        have HCh := Lib.hid (own_chs S4.out.own)
        have HFz := Lib.hid S4.out.own.frozenAt
        have HGN := S4.out.gN
        have HRd := Lib.hid S4.out.rd
        have HBe := Lib.hid S4.out.b
        have p0 := (S4.out.sv 0 _ rfl).1
        have p1 := (S4.out.sv 1 _ rfl).1
        have p2 := (S4.out.sv 2 _ rfl).1
        have p3 := (S4.out.sv 3 _ rfl).1
        have r0 := (S4.out.res 0 _ rfl).1
        have f0 := (S4.out.res 0 _ rfl).2
        have r1 := (S4.out.res 1 _ rfl).1
        have f1 := (S4.out.res 1 _ rfl).2
        have r2 := (S4.out.res 2 _ rfl).1
        have f2 := (S4.out.res 2 _ rfl).2
        have r3 := (S4.out.res 3 _ rfl).1
        have f3 := (S4.out.res 3 _ rfl).2
        go_wp2
        refine bodyPost_ret (v := .agg #[.int .i64 7, .int .i64 y, .int .i64 x, .slice (some ⟨g, 0, none⟩) k cap]) ?_ rfl ?_
        · simp [results, Try.results29, go_sem, r0, r1, r2, r3]
        · exact endPack HRd.out HBe.out HCh.out (by omega) (by omega) (by omega) (by omega) (by omega) (by omega) (by omega) hBr HFz.out
      by_cases z2 : z = 2
      · subst z2
        go_wp2_with fail
        refine (l91Long_as B r _ _ S2.out.rd (by omega)).mono ?_
        rintro e w5 ⟨⟨y, rfl, ⟨y0, y1⟩, hr5, hb5⟩, ha5⟩
        have S3 := Lib.hid (S2.out.aside ha5 hr5 hb5)
        clear S2 hr5 hb5 ha5
        have c2 := (S3.out.sv 2 _ rfl).1
        have cf2 := (S3.out.sv 2 _ rfl).2
        have S4 := Lib.hid (S3.out.fld (i := 2) (.int .i64 y) (f' := 7) (t' := 9) (n' := y) rfl)
        clear S3
        have HCh := Lib.hid (own_chs S4.out.own)
        have HFz := Lib.hid S4.out.own.frozenAt
        have HGN := S4.out.gN
        have HRd := Lib.hid S4.out.rd
        have HBe := Lib.hid S4.out.b
        have p0 := (S4.out.sv 0 _ rfl).1
        have p1 := (S4.out.sv 1 _ rfl).1
        have p2 := (S4.out.sv 2 _ rfl).1
        have p3 := (S4.out.sv 3 _ rfl).1
        have r0 := (S4.out.res 0 _ rfl).1
        have f0 := (S4.out.res 0 _ rfl).2
        have r1 := (S4.out.res 1 _ rfl).1
        have f1 := (S4.out.res 1 _ rfl).2
        have r2 := (S4.out.res 2 _ rfl).1
        have f2 := (S4.out.res 2 _ rfl).2
        have r3 := (S4.out.res 3 _ rfl).1
        have f3 := (S4.out.res 3 _ rfl).2
        go_wp2
        refine bodyPost_ret (v := .agg #[.int .i64 7, .int .i64 9, .int .i64 y, .slice (some ⟨g, 0, none⟩) k cap]) ?_ rfl ?_
        · simp [results, Try.results29, go_sem, r0, r1, r2, r3]
        · exact endPack HRd.out HBe.out HCh.out (by omega) (by omega) (by omega) (by omega) (by omega) (by omega) (by omega) hBr HFz.out
      by_cases z3 : z = 3
      · subst z3
        have c3 := (S2.out.sv 3 _ rfl).1
        have cf3 := (S2.out.sv 3 _ rfl).2
        have HV := Lib.hid (S2.out.sv.set (i := 3) (.slice (some ⟨g, 0, none⟩) 0 cap))
        have HE := Lib.hid (S2.out.res.far (i := 3) (.slice (some ⟨g, 0, none⟩) 0 cap) (d := sb) (by omega))
        have HCh := Lib.hid (chsZero (i := 3) S2.out.ne.symm (.slice (some ⟨g, 0, none⟩) 0 cap) (own_chs S2.out.own))
        have HFz := Lib.hid (fun j => (show World.frozen? (World.setCell _ ⟨sb, 3, none⟩ (.slice (some ⟨g, 0, none⟩) 0 cap)) ⟨g, j, none⟩ = false by rw [World.frozen?_setCell]; exact S2.out.own.frozenAt j))
        have HGN := S2.out.gN
        have HRd := Lib.hid (S2.out.rd.far (d := sb) (by omega) 3 (.slice (some ⟨g, 0, none⟩) 0 cap))
        have HBe := Lib.hid (S2.out.b.setCell (p := ⟨sb, 3, none⟩) (by show B ≤ sb; omega) (.slice (some ⟨g, 0, none⟩) 0 cap))
        clear S2
        have p0 := (HV.out 0 _ rfl).1
        have p1 := (HV.out 1 _ rfl).1
        have p2 := (HV.out 2 _ rfl).1
        have p3 := (HV.out 3 _ rfl).1
        have r0 := (HE.out 0 _ rfl).1
        have f0 := (HE.out 0 _ rfl).2
        have r1 := (HE.out 1 _ rfl).1
        have f1 := (HE.out 1 _ rfl).2
        have r2 := (HE.out 2 _ rfl).1
        have f2 := (HE.out 2 _ rfl).2
        have r3 := (HE.out 3 _ rfl).1
        have f3 := (HE.out 3 _ rfl).2
        go_wp2
        refine bodyPost_ret (v := .agg #[.int .i64 7, .int .i64 9, .int .i64 x, .slice (some ⟨g, 0, none⟩) 0 cap]) ?_ rfl ?_
        · simp [results, Try.results29, go_sem, r0, r1, r2, r3]
        · exact endPack HRd.out HBe.out HCh.out (by omega) (by omega) (by omega) (by omega) (by omega) (by omega) (by omega) hBr HFz.out
      by_cases z4 : z = 4
      · subst z4
        have SD := Lib.hid (S2.out.up (Below.drew (Below.refl _ _)))
        have c3 := (SD.out.sv 3 _ rfl).1
        have cf3 := (SD.out.sv 3 _ rfl).2
        have hcl : cs.length = k := by have := SD.out.own.1; rw [flatC_length] at this; omega
        go_wp2_with fail
        have hsz := SD.out.slt
        have hk3 : k ≤ 3 := by omega
        have hN1 : w.heap.size + 1 ≤ (World.drew _).heap.size := Nat.le_trans (by omega) (Nat.succ_le_of_lt hsz)
        go_region_law (first
          | (refine step_dbl (by rfl) _ _ (by rfl) (w.heap.size + 1) k k (k + k) _ g cap _ cs cs (by rfl) SD.out.own (by rfl) hcl (chs_flat (own_chs SD.out.own)) rfl (by omega) hN1 ?_; intro g2 cap2 w5 hown2 hgrow2 hat2 hold2; have V5 := SD.out.sv.plus hgrow2 SD.out.slt SD.out.ne.symm; have u3 := (V5 3 _ rfl).1)
          | (refine step_dbl (by rfl) _ _ (by rfl) (w.heap.size + 1) (k + k) k (k + k + k) _ g2 cap2 _ (cs ++ cs) cs (by rfl) hown2 (by rfl) hcl hold2 rfl (by omega) (Nat.le_trans hN1 hgrow2.size) ?_; intro g3 cap3 w6 hown3 hgrow3 hat3 hold3; have hne2 : sb ≠ g2 := (by have h1 := SD.out.ne; rcases hat2 with h | h <;> omega); have V6 := V5.plus hgrow3 (lt_of_cell u3) hne2; have v3 := (V6 3 _ rfl).1; have vf3 := (V6 3 _ rfl).2))
        all_goals
          have S4 := Lib.hid (SD.out.push2 hgrow2 hat2 hgrow3 hown3 hat3)
          clear V5 u3 V6 v3 vf3 hown2 hgrow2 hat2 hold2 hown3 hgrow3 hat3 hold3 c3 cf3 S2
          have HCh := Lib.hid (own_chs S4.out.own)
          have HFz := Lib.hid S4.out.own.frozenAt
          have HGN := S4.out.gN
          have HRd := Lib.hid S4.out.rd
          have HBe := Lib.hid S4.out.b
          have p0 := (S4.out.sv 0 _ rfl).1
          have p1 := (S4.out.sv 1 _ rfl).1
          have p2 := (S4.out.sv 2 _ rfl).1
          have p3 := (S4.out.sv 3 _ rfl).1
          have r0 := (S4.out.res 0 _ rfl).1
          have f0 := (S4.out.res 0 _ rfl).2
          have r1 := (S4.out.res 1 _ rfl).1
          have f1 := (S4.out.res 1 _ rfl).2
          have r2 := (S4.out.res 2 _ rfl).1
          have f2 := (S4.out.res 2 _ rfl).2
          have r3 := (S4.out.res 3 _ rfl).1
          have f3 := (S4.out.res 3 _ rfl).2
          go_wp2
          refine bodyPost_ret (v := .agg #[.int .i64 7, .int .i64 9, .int .i64 x, .slice (some ⟨g3, 0, none⟩) (k + k + k) cap3]) ?_ rfl ?_
          · simp [results, Try.results29, go_sem, r0, r1, r2, r3]
          · exact endPack HRd.out HBe.out HCh.out (by omega) (by omega) (by omega) (by omega) (by omega) (by omega) (by omega) hBr HFz.out
      · have zz : (z == 0) = false ∧ (z == 1) = false ∧ (z == 2) = false ∧ (z == 3) = false ∧ (z == 4) = false := ⟨by simpa using z0', by simpa using z1', by simpa using z2, by simpa using z3, by simpa using z4⟩
        obtain ⟨zz0, zz1, zz2, zz3, zz4⟩ := zz
        have HCh := Lib.hid (own_chs S2.out.own)
        have HFz := Lib.hid S2.out.own.frozenAt
        have HGN := S2.out.gN
        have HRd := Lib.hid S2.out.rd
        have HBe := Lib.hid S2.out.b
        have p0 := (S2.out.sv 0 _ rfl).1
        have p1 := (S2.out.sv 1 _ rfl).1
        have p2 := (S2.out.sv 2 _ rfl).1
        have p3 := (S2.out.sv 3 _ rfl).1
        have r0 := (S2.out.res 0 _ rfl).1
        have f0 := (S2.out.res 0 _ rfl).2
        have r1 := (S2.out.res 1 _ rfl).1
        have f1 := (S2.out.res 1 _ rfl).2
        have r2 := (S2.out.res 2 _ rfl).1
        have f2 := (S2.out.res 2 _ rfl).2
        have r3 := (S2.out.res 3 _ rfl).1
        have f3 := (S2.out.res 3 _ rfl).2
        go_wp2
        refine bodyPost_ret (v := .agg #[.int .i64 7, .int .i64 9, .int .i64 x, .slice (some ⟨g, 0, none⟩) k cap]) ?_ rfl ?_
        · simp [results, Try.results29, go_sem, r0, r1, r2, r3]
        · exact endPack HRd.out HBe.out HCh.out (by omega) (by omega) (by omega) (by omega) (by omega) (by omega) (by omega) hBr HFz.out

end Go.Proofs.Ytcpdpamoddmpaaa
