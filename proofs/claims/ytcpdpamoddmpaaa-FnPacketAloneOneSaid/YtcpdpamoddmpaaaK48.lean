/- The draw of packets whose chunks may be alone. -/
import Derived.Test.YtcpdpamoddmpaaaK47
import Derived.Deep.RegionLaw
import Derived.Deep.CutRange
namespace Go.Proofs.Ytcpdpamoddmpaaa
open Go.RowKit Go.PlainAid

def tab3 (j : Int) : Int := if j = 0 then 1 else if j = 1 then 2 else 14
theorem tab_val {d : Nat} {W : World} (h : VarN d [.int .i64 1, .int .i64 2, .int .i64 14] W) {j : Int} (h0 : 0 ≤ j) (h1 : j < 3) : W.cell? ⟨d, j.toNat, none⟩ = some (.int .i64 (tab3 j)) := by
  rcases (show j = 0 ∨ j = 1 ∨ j = 2 by omega) with rfl | rfl | rfl
  · exact (h 0 _ rfl).1
  · exact (h 1 _ rfl).1
  · exact (h 2 _ rfl).1
/-- While a chunk's kind is drawn. -/
structure AP (m B N sb r : Nat) (f t n : Int) (g k cap : Nat) (cs : List (Int × Int × ByteArray)) (w W : World) : Prop where
  rd : Rd B r m W
  sv : VarN sb [.int .i64 f, .int .i64 t, .int .i64 n, .slice (some ⟨g, 0, none⟩) k cap] W
  res : VarN N [.int .i64 0, .int .i64 0, .int .i64 0, .slice none 0 0] W
  ch : Chs W (some ⟨g, 0, none⟩) k cap cs
  fz : ∀ j, W.frozen? ⟨g, j, none⟩ = false
  b : Below w.heap.size w W
  k0 : 0 < k
  o1 : N < r
  o2 : r ≠ sb
  o3 : g ≠ sb
  o4 : r < g
  o5 : N < g
  o6 : N < sb
  o7 : w.heap.size ≤ N
section
variable {m B N sb r : Nat} {f t n : Int} {g k cap : Nat} {cs : List (Int × Int × ByteArray)} {w W W' : World}
theorem ap_glt (h : AP m B N sb r f t n g k cap cs w W) : g < W.heap.size := by
  rcases chs_lt h.ch with h1 | h1
  · exact h1
  · have := h.k0; omega
theorem ap_up (h : AP m B N sb r f t n g k cap cs w W) (hb : Below W.heap.size W W') : AP m B N sb r f t n g k cap cs w W' := by
  have hg := ap_glt h
  have h1 := lt_of_cell (h.sv 0 _ rfl).1
  have h2 := lt_of_cell (h.res 0 _ rfl).1
  exact ⟨h.rd.keep hb h.rd.2.1, h.sv.below hb h1, h.res.below hb h2, h.ch.below hb, fun j => (hb.frozen (p := ⟨g, j, none⟩) hg).trans (h.fz j), h.b.trans (hb.mono h.b.size), h.k0, h.o1, h.o2, h.o3, h.o4, h.o5, h.o6, h.o7⟩
theorem ap_only {m' : Nat} (ho : Only r W W') (h : AP m B N sb r f t n g k cap cs w W) (hr : Rd B r m' W') : AP m' B N sb r f t n g k cap cs w W' := by
  have hg := ap_glt h
  have h1 := h.o1
  have h2 := h.o7
  have ha := ho.aside (C := W.heap.size)
  exact ⟨hr, h.sv.only ho h.o2.symm, h.res.only ho (by omega), h.ch.aside ha (by have := h.o4; omega), fun j => ha.frozen hg (by have := h.o4; omega) (h.fz j), h.b.trans (ho.below (by omega)), h.k0, h.o1, h.o2, h.o3, h.o4, h.o5, h.o6, h.o7⟩
/-- The kind of the chunk at a place. -/
def kindAt (cs : List (Int × Int × ByteArray)) (i : Int) : Int := (chAt cs i.toNat).1
/-- What the region reads of a world. -/
def ApF (sb g k cap : Nat) (cs : List (Int × Int × ByteArray)) (X : World) : Prop :=
  X.cell? ⟨sb, 3, none⟩ = some (.slice (some ⟨g, 0, none⟩) k cap) ∧ (∀ i : Int, 0 ≤ i → i < k → X.cell? ⟨g, i.toNat * 3, none⟩ = some (.int .i64 (kindAt cs i))) ∧ (∀ j, X.frozen? ⟨g, j, none⟩ = false)
theorem ap_f (h : AP m B N sb r f t n g k cap cs w W) : ApF sb g k cap cs W := by
  refine ⟨(h.sv 3 _ rfl).1, fun i h0 h1 => ?_, h.fz⟩
  have := h.ch.at (Below.refl _ _) (k := i.toNat) (by omega)
  rw [ch_add] at this
  exact this.1
theorem chs_kind (h : Chs W (some ⟨g, 0, none⟩) k cap cs) {i : Nat} (hi : i < k) (v : Int) : ∃ cs', Chs (W.setCell ⟨g, i * 3, none⟩ (.int .i64 v)) (some ⟨g, 0, none⟩) k cap cs' := by
  rcases h with ⟨e, _⟩ | ⟨a, e, h7, h8, h9, h10⟩
  · cases e
  · obtain rfl : ⟨g, 0, none⟩ = a := by simpa using e
    refine ⟨cs.set i (v, (chAt cs i).2), .inr ⟨_, rfl, h7, h8, by rw [List.length_set]; exact h9, fun j hj => ?_⟩⟩
    have hc := h10 j hj
    rw [ch_add] at hc ⊢
    by_cases e : i = j
    · subst e
      have ea : chAt (cs.set i (v, (chAt cs i).2)) i = (v, (chAt cs i).2) := by
        unfold chAt
        rw [List.getD_eq_getElem?_getD, List.getElem?_set_self (by omega)]
        rfl
      rw [ea]
      exact ⟨World.cell?_setCell_same _ _ _ hc.1, cell_other (show i * 3 ≠ i * 3 + 1 by omega) hc.2.1, cell_other (show i * 3 ≠ i * 3 + 2 by omega) hc.2.2⟩
    · have ea : chAt (cs.set i (v, (chAt cs i).2)) j = chAt cs j := by
        unfold chAt
        rw [List.getD_eq_getElem?_getD, List.getElem?_set_ne e, ← List.getD_eq_getElem?_getD]
      rw [ea]
      exact ⟨cell_other (show i * 3 ≠ j * 3 by omega) hc.1, cell_other (show i * 3 ≠ j * 3 + 1 by omega) hc.2.1, cell_other (show i * 3 ≠ j * 3 + 2 by omega) hc.2.2⟩
theorem ap_set (h : AP m B N sb r f t n g k cap cs w W) {i : Int} (h0 : 0 ≤ i) (h1 : i < k) (v : Int) : ∃ cs', AP m B N sb r f t n g k cap cs' w (W.setCell ⟨g, i.toNat * 3, none⟩ (.int .i64 v)) := by
  have e1 := h.o3
  have e2 := h.o4
  have e3 := h.o5
  have e4 := h.o7
  obtain ⟨cs', hc⟩ := chs_kind h.ch (by omega : i.toNat < k) v
  exact ⟨cs', h.rd.far e2 _ _, h.sv.far _ e1, h.res.far _ (by omega), hc, fun j => by rw [World.frozen?_setCell]; exact h.fz j, h.b.setCell (p := ⟨g, i.toNat * 3, none⟩) (by show w.heap.size ≤ g; omega) _, h.k0, h.o1, h.o2, h.o3, h.o4, h.o5, h.o6, h.o7⟩
theorem pick_ap (K : Int) (W : World) (h : AP m B N sb r f t n g k cap cs w W) (hm : m ≤ 10000) (k0 : 1 ≤ K) (k1 : K ≤ 100) :
    Calls Try.prog 43 #[.pointer (some ⟨r, 0, none⟩), .int .i64 K] W fun e w' => ∃ j, e = .returned (.int .i64 j) ∧ 0 ≤ j ∧ j < K ∧ AP (m + 1) B N sb r f t n g k cap cs w w' ∧ Only r W w' := by
  refine (pick_any B r m K W h.rd (by omega) (by omega) (by omega)).mono ?_
  rintro e w' ⟨j, rfl, j0, j1, hr, ho⟩
  exact ⟨j, rfl, j0, j1, ap_only ho h hr, ho⟩
end

theorem ap_end {m B N sb r : Nat} {cs : List (Int × Int × ByteArray)} {f t n : Int} {g k cap : Nat} {w W : World} {x0 x1 x2 x3 : Value} (h : AP m B N sb r f t n g k cap cs w W) (hN : w.heap.size = N) (hf : -1 ≤ f ∧ f ≤ 65536) (ht : -1 ≤ t ∧ t ≤ 65536) (hn : -1 ≤ n ∧ n ≤ 4294967296) (hk : k ≤ 9) :
    DrewPk w (.returned (.agg #[.int .i64 f, .int .i64 t, .int .i64 n, .slice (some ⟨g, 0, none⟩) k cap])) ((((W.setCell ⟨N, 0, none⟩ x0).setCell ⟨N, 1, none⟩ x1).setCell ⟨N, 2, none⟩ x2).setCell ⟨N, 3, none⟩ x3) := by
  have e : N ≠ g := by have := h.o5; omega
  have hc := h.ch
  subst hN
  exact ⟨f, t, n, g, k, cap, cs, rfl, hf, ht, hn, hk, by have := h.o5; omega, (((hc.far e x0).far e x1).far e x2).far e x3, (((h.b.setCell (Nat.le_refl _) x0).setCell (Nat.le_refl _) x1).setCell (Nat.le_refl _) x2).setCell (Nat.le_refl _) x3⟩
theorem tab_new {w : World} {T : TypeId} {j : Int} (h0 : 0 ≤ j) (h1 : j < 3) : (w.alloc (.cells #[.int .i64 1, .int .i64 2, .int .i64 14] T)).cell? ⟨w.heap.size, j.toNat, none⟩ = some (.int .i64 (tab3 j)) := tab_val (VarN.new w [.int .i64 1, .int .i64 2, .int .i64 14] T) h0 h1

set_option maxHeartbeats 4000000 in
theorem drawPacketAlone_any (a : Option Addr) (len cap : Nat) (zs : List Int) (w : World) (h : IsRow .u8 w a len cap zs) :
    Calls Try.prog 23 #[.slice a len cap] w (DrewPk w) := by
  have H := Lib.hid h
  clear h
  go_enter Try.func23, Try.ntmps23
  go_wp2_with fail
  refine (l6Open_any a len cap zs _ (H.out.keep (below_box _ (Nat.le_refl _)))).mono ?_
  rintro e w1 ⟨r, rfl, hr1, hb1⟩
  go_wp2_with fail
  refine (l91Packet_any _ r 0 _ hr1 (by omega)).mono ?_
  rintro e w2 ⟨f, t, n, g, k, cap2, cs, rfl, hf, ht, hn, hk, hg, hc, hz, hr2, hb2⟩
  have hbW := hb1.trans hb2
  have R2 := (VarN.new w [.int .i64 0, .int .i64 0, .int .i64 0, .slice none 0 0] 25).below hbW (by simp)
  have hb : Below w.heap.size w w2 := (below_box _ (Nat.le_refl _)).trans (hbW.mono (by simp))
  have z1 := hr1.1
  have z2 := hr1.2.1
  have z3 := lt_of_cell (R2 0 _ rfl).1
  have z4 := hr2.2.1
  simp at z1
  have hcl := hc.length
  clear hb1 hb2 hbW hr1
  have HCh := Lib.hid hc
  have HB := Lib.hid hb
  have HR := Lib.hid R2
  have HRd := Lib.hid hr2
  have HZ := Lib.hid hz
  clear R2 hb hc hr2 hz
  by_cases hk0 : k = 0
  · subst hk0
    have V1 := Lib.hid (HR.out.alloc (.cells (List.toArray [.int .i64 f, .int .i64 t, .int .i64 n, .slice (some ⟨g, 0, none⟩) 0 cap2]) 25) z3)
    have HC1 := Lib.hid (HCh.out.below (below_box (.cells (List.toArray [.int .i64 f, .int .i64 t, .int .i64 n, .slice (some ⟨g, 0, none⟩) 0 cap2]) 25) (Nat.le_refl _)))
    have HB1 := Lib.hid (HB.out.alloc (by omega) (.cells (List.toArray [.int .i64 f, .int .i64 t, .int .i64 n, .slice (some ⟨g, 0, none⟩) 0 cap2]) 25))
    have r0 := (HR.out 0 _ rfl).1
    have r1 := (HR.out 1 _ rfl).1
    have r2 := (HR.out 2 _ rfl).1
    have r3 := (HR.out 3 _ rfl).1
    have f0 := (HR.out 0 _ rfl).2
    have f1 := (HR.out 1 _ rfl).2
    have f2 := (HR.out 2 _ rfl).2
    have f3 := (HR.out 3 _ rfl).2
    have znb : ¬ w.heap.size = w2.heap.size := by omega
    go_wp2
    refine bodyPost_ret (v := .agg #[.int .i64 f, .int .i64 t, .int .i64 n, .slice (some ⟨g, 0, none⟩) 0 cap2]) ?_ rfl ?_
    · simp [results, Try.results23, go_sem, r0, r1, r2, r3, z3, World.cell?_alloc_lt]
    · have e : w.heap.size ≠ g := by omega
      refine ⟨f, t, n, g, 0, cap2, [], rfl, hf, ht, hn, by omega, by omega, .inr ⟨_, rfl, Nat.zero_le _, HCh.out.len_le.2, rfl, fun i hi => by omega⟩, ?_⟩
      have b9 := HB.out
      repeat (first | with_reducible exact b9 | refine Below.alloc ?_ (by simp; omega) _ | refine Below.setCell ?_ (by exact Nat.le_refl _) _)
  · have kpos : (0 : Int) < (k : Int) := by omega
    have hA : AP (0 + 200) (w.heap.size + 1) w.heap.size w2.heap.size r f t n g k cap2 cs w (w2.alloc (.cells (List.toArray [.int .i64 f, .int .i64 t, .int .i64 n, .slice (some ⟨g, 0, none⟩) k cap2]) 25)) := by
      have hgl : g < w2.heap.size := by rcases chs_lt HCh.out with h1 | h1 <;> omega
      exact ⟨by simpa using HRd.out.alloc (.cells (List.toArray [.int .i64 f, .int .i64 t, .int .i64 n, .slice (some ⟨g, 0, none⟩) k cap2]) 25), VarN.new_at rfl [.int .i64 f, .int .i64 t, .int .i64 n, .slice (some ⟨g, 0, none⟩) k cap2] _, HR.out.alloc _ z3, HCh.out.below (below_box _ (Nat.le_refl _)), fun j => ((below_box _ (Nat.le_refl _)).frozen (p := ⟨g, j, none⟩) hgl).trans (HZ.out j), HB.out.alloc (by omega) _, by omega, by omega, by omega, by omega, by omega, by omega, z3, Nat.le_refl _⟩
    have HA := Lib.hid hA
    have a3 := (hA.sv 3 _ rfl).1
    clear hA HCh HB HR HRd HZ
    go_wp2_with fail
    refine (pick_ap 3 _ HA.out (by omega) (by omega) (by omega)).mono ?_
    rintro e w3 ⟨j, rfl, j0, j1, ha3, _⟩
    have HA3 := Lib.hid ha3
    clear HA ha3 a3
    by_cases hj : j = 0
    · subst hj
      have kb : (k : Int) ≤ 100 := by omega
      go_upto_region 1 with fail
      go_cut [] from 18 to 31 (fun wx => ∃ cs', AP (0 + 200 + 1 + 1 + 1) (w.heap.size + 1) w.heap.size w2.heap.size r f t n g k cap2 cs' w wx)
      case first =>
        have HAD : AP (0 + 200 + 1) (w.heap.size + 1) w.heap.size w2.heap.size r f t n g k cap2 cs w w3.drew := ap_up HA3.out (Below.drew (Below.refl _ _))
        have HTD : AP (0 + 200 + 1) (w.heap.size + 1) w.heap.size w2.heap.size r f t n g k cap2 cs w (w3.alloc (.cells (List.toArray [.int .i64 1, .int .i64 2, .int .i64 14]) 3)).drew := ap_up HA3.out (Below.drew (below_box _ (Nat.le_refl _)))
        obtain ⟨c3, k3, q3⟩ := ap_f HA3.out
        obtain ⟨c3', k3', q3'⟩ := ap_f (ap_up HA3.out (below_box (.cells (List.toArray [.int .i64 1, .int .i64 2, .int .i64 14]) 3) (Nat.le_refl _)))
        have hDr : w3.heap.size ≠ r := by have := HA3.out.rd.2.1; omega
        have tv3 := VarN.new w3 [.int .i64 1, .int .i64 2, .int .i64 14] 3
        have t3 := fun (i : Int) (h0 : 0 ≤ i) (h1 : i < 3) => tab_val tv3 h0 h1
        have tvd : VarN w3.heap.size [.int .i64 1, .int .i64 2, .int .i64 14] (w3.alloc (.cells (List.toArray [.int .i64 1, .int .i64 2, .int .i64 14]) 3)).drew := tv3.below (C := w3.heap.size + 1) (Below.drew (Below.refl _ _)) (by omega)
        go_region_law (first
          | (go_simp; go_at_call 43; refine (pick_ap _ _ (by first | assumption | exact ap_up (by assumption) (below_box _ (Nat.le_refl _))) (by omega) (by omega) (by omega)).mono ?_; rintro e w5 ⟨j5, rfl, j50, j51, ha5, ho5⟩; obtain ⟨c5, k5, q5⟩ := ap_f ha5; obtain ⟨c5', k5', q5'⟩ := ap_f (ap_up ha5 (below_box (.cells (List.toArray [.int .i64 1, .int .i64 2, .int .i64 14]) 3) (Nat.le_refl _))); (first | (have tv5 : VarN w3.heap.size [.int .i64 1, .int .i64 2, .int .i64 14] w5 := VarN.only (by assumption) ho5 hDr; have t5 := fun (i : Int) (h0 : 0 ≤ i) (h1 : i < 3) => tab_val tv5 h0 h1) | (have s5 : w5.heap.size = w3.heap.size := (by have := ho5.size; first | omega | (simp at this; omega)); have tn5 : VarN w3.heap.size [.int .i64 1, .int .i64 2, .int .i64 14] (w5.alloc (.cells (List.toArray [.int .i64 1, .int .i64 2, .int .i64 14]) 3)) := s5 ▸ VarN.new w5 [.int .i64 1, .int .i64 2, .int .i64 14] 3; have t5 := fun (i : Int) (h0 : 0 ≤ i) (h1 : i < 3) => tab_val tn5 h0 h1)); clear ho5; dsimp only))
        all_goals
          go_wp2_with fail
          go_meet
          first
            | exact ap_set (by assumption) (by assumption) (by assumption) _
            | exact ap_set (ap_up (by assumption) (below_box _ (Nat.le_refl _))) (by assumption) (by assumption) _
      case rest =>
        obtain ⟨cs', hcut⟩ := hcut
        have H9 := Lib.hid hcut
        clear hcut HA3
        have p0 := (H9.out.sv 0 _ rfl).1
        have p1 := (H9.out.sv 1 _ rfl).1
        have p2 := (H9.out.sv 2 _ rfl).1
        have p3 := (H9.out.sv 3 _ rfl).1
        have r0 := (H9.out.res 0 _ rfl).1
        have r1 := (H9.out.res 1 _ rfl).1
        have r2 := (H9.out.res 2 _ rfl).1
        have r3 := (H9.out.res 3 _ rfl).1
        have f0 := (H9.out.res 0 _ rfl).2
        have f1 := (H9.out.res 1 _ rfl).2
        have f2 := (H9.out.res 2 _ rfl).2
        have f3 := (H9.out.res 3 _ rfl).2
        go_wp2
        refine bodyPost_ret (v := .agg #[.int .i64 f, .int .i64 t, .int .i64 n, .slice (some ⟨g, 0, none⟩) k cap2]) ?_ rfl ?_
        · simp [results, Try.results23, go_sem, r0, r1, r2, r3]
        · exact ap_end H9.out rfl hf ht hn hk
    · have hj2 : (j == 0) = false := by simpa using hj
      have H9 := HA3
      have p0 := (H9.out.sv 0 _ rfl).1
      have p1 := (H9.out.sv 1 _ rfl).1
      have p2 := (H9.out.sv 2 _ rfl).1
      have p3 := (H9.out.sv 3 _ rfl).1
      have r0 := (H9.out.res 0 _ rfl).1
      have r1 := (H9.out.res 1 _ rfl).1
      have r2 := (H9.out.res 2 _ rfl).1
      have r3 := (H9.out.res 3 _ rfl).1
      have f0 := (H9.out.res 0 _ rfl).2
      have f1 := (H9.out.res 1 _ rfl).2
      have f2 := (H9.out.res 2 _ rfl).2
      have f3 := (H9.out.res 3 _ rfl).2
      go_wp2
      refine bodyPost_ret (v := .agg #[.int .i64 f, .int .i64 t, .int .i64 n, .slice (some ⟨g, 0, none⟩) k cap2]) ?_ rfl ?_
      · simp [results, Try.results23, go_sem, r0, r1, r2, r3]
      · exact ap_end H9.out rfl hf ht hn hk

end Go.Proofs.Ytcpdpamoddmpaaa
