/- Texts that a proof needs, merged: K193, K4c. -/
import Derived.Test.YtncbgejggfkdmaaM7

/- The contracts of the model's l41Parts and TalkParts. -/
namespace Go.Proofs.Ytncbgejggfkdmaa
open Go.RowKit Go.PlainAid

theorem boxGrown {W W1 : World} {D base e e2 size n : Nat} {c : Array Value} {v : Value} {xs : List Value} (hD : W.heap[D]? = some (.cells c e (0, 0))) (hg : W.grownBy W1 v.ownBlock) (h : W.ownsRow base e2 size v n xs) (hne : e2 ≠ e) : W1.heap[D]? = some (.cells c e (0, 0)) := by
  refine (hg.block D (Array.getElem?_eq_some_iff.1 hD).1 fun hx => ?_).trans hD
  rcases h.2 with ⟨rfl, _⟩ | ⟨g, _, _, rfl, _, h3, _⟩
  · cases hx
  · obtain rfl : D = g := by simpa [Value.ownBlock] using hx
    exact kind_ne h3 hD hne rfl
/-- While parts are made: the talk's box, and a row of one's own. -/
structure Tlk (w : World) (vs : List Value) (k : Nat) (v : Value) (ps : List Part) (W : World) : Prop where
  t : W.heap[w.heap.size]? = some (.cells vs.toArray 88 (0, 0))
  o : OwnP k v ps w W
theorem Tlk.up {w W W' : World} {vs : List Value} {k : Nat} {v : Value} {ps : List Part} (h : Tlk w vs k v ps W) (hb : Below W.heap.size W W') : Tlk w vs k v ps W' := ⟨(hb.block _ (Array.getElem?_eq_some_iff.1 h.t).1).trans h.t, h.o.up hb⟩
theorem Tlk.var {w W : World} {vs : List Value} {k : Nat} {v : Value} {ps : List Part} (h : Tlk w vs k v ps W) : VarN w.heap.size vs W := var_of_heap h.t
theorem Tlk.push {w W W1 : World} {vs : List Value} {k g2 cap2 : Nat} {v : Value} {ps : List Part} {p : Part} (h : Tlk w vs k v ps W) (hgrow : W.grownBy W1 v.ownBlock) (hown : W1.ownsRow w.heap.size 28 7 (.slice (some ⟨g2, 0, none⟩) (k + 1) cap2) (k + 1) (flatP ps ++ cellsP p)) :
    Tlk w vs (k + 1) (.slice (some ⟨g2, 0, none⟩) (k + 1) cap2) (ps ++ [p]) W1 := ⟨boxGrown h.t hgrow h.o.own (by decide), h.o.push hgrow hown⟩
/-- While the parts of a message are made: its box, too. -/
structure Tly (w : World) (vs : List Value) (k : Nat) (v : Value) (ps : List Part) (D : Nat) (c : Array Value) (W : World) : Prop where
  tk : Tlk w vs k v ps W
  x : W.heap[D]? = some (.cells c 113 (0, 0))
theorem Tly.up {w W W' : World} {vs : List Value} {k D : Nat} {v : Value} {ps : List Part} {c : Array Value} (h : Tly w vs k v ps D c W) (hb : Below W.heap.size W W') : Tly w vs k v ps D c W' := ⟨h.tk.up hb, (hb.block _ (Array.getElem?_eq_some_iff.1 h.x).1).trans h.x⟩
theorem Tly.xvar {w W : World} {vs cs : List Value} {k D : Nat} {v : Value} {ps : List Part} (h : Tly w vs k v ps D cs.toArray W) : VarN D cs W := var_of_heap h.x
theorem Tly.push {w W W1 : World} {vs : List Value} {k g2 cap2 D : Nat} {v : Value} {ps : List Part} {p : Part} {c : Array Value} (h : Tly w vs k v ps D c W) (hgrow : W.grownBy W1 v.ownBlock) (hown : W1.ownsRow w.heap.size 28 7 (.slice (some ⟨g2, 0, none⟩) (k + 1) cap2) (k + 1) (flatP ps ++ cellsP p)) :
    Tly w vs (k + 1) (.slice (some ⟨g2, 0, none⟩) (k + 1) cap2) (ps ++ [p]) D c W1 := ⟨h.tk.push hgrow hown, boxGrown h.x hgrow h.tk.o.own (by decide)⟩

/-- What holds of each operation of the region that makes a piece. -/
def PcB (n0 : Nat) (v : Value) (W : World) : Prop := ∃ D2 u0 u1 u2 u3 u4 u5 u6, v = .pointer (some ⟨D2, 0, none⟩) ∧ n0 ≤ D2 ∧ W.heap[D2]? = some (.cells #[u0, u1, u2, u3, u4, u5, u6] 28 (0, 0))
def PcP (first st q : Int) (kj : Nat) (lo : Bool) (x : ByteArray) (n0 : Nat) (v : Value) (W : World) : Prop :=
  ∃ D2, v = .pointer (some ⟨D2, 0, none⟩) ∧ n0 ≤ D2 ∧ W.heap[D2]? = some (.cells #[.int .i64 (addS first (kj : Int)), .int .i64 st, .int .i64 q, .bool false, .bool false, .bool lo, .string x] 28 (0, 0))
def PcG (first st q : Int) (kj A E : Nat) (lo : Bool) (tx : ByteArray) (D n0 : Nat) (rb : Option Addr) (c2 : Nat) : Nat → Value → World → Prop
  | 0 => fun v _ => v = .int .i64 first
  | 1 => fun v _ => v = .slice rb kj c2
  | 2 => fun v _ => v = .int .i64 (kj : Int)
  | 3 => fun v _ => v = .int .i64 (addS first (kj : Int))
  | 4 => fun v _ => v = .pointer (some ⟨D, 1, none⟩)
  | 5 => fun v _ => v = .int .i64 st
  | 6 => fun v _ => v = .int .i64 q
  | 7 => fun v _ => v = .pointer (some ⟨D, 2, none⟩)
  | 8 => fun v _ => v = .bool lo
  | 9 => fun v _ => v = .pointer (some ⟨D, 3, none⟩)
  | 10 => fun v _ => v = .string tx
  | 11 => fun v _ => v = .int .i64 (A : Int)
  | 12 => fun v _ => v = .int .i64 (E : Int)
  | 13 => fun v _ => v = .string (tx.extract A E)
  | 14 => fun v _ => v = .agg #[.int .i64 (addS first (kj : Int)), .int .i64 st, .int .i64 q, .bool false, .bool false, .bool lo, .string (tx.extract A E)]
  | 15 => PcB n0
  | _ => fun _ _ => False
theorem PcG.below {first st q : Int} {kj A E : Nat} {lo : Bool} {tx : ByteArray} {D n0 : Nat} {rb : Option Addr} {c2 : Nat} : ∀ i v W W', PcG first st q kj A E lo tx D n0 rb c2 i v W → Below W.heap.size W W' → PcG first st q kj A E lo tx D n0 rb c2 i v W' := by
  intro i v W W' h hb
  match i, h with
  | 0, h | 1, h | 2, h | 3, h | 4, h | 5, h | 6, h | 7, h | 8, h | 9, h | 10, h | 11, h | 12, h | 13, h | 14, h => exact h
  | 15, ⟨D2, u0, u1, u2, u3, u4, u5, u6, e, h1, h2⟩ => exact ⟨D2, u0, u1, u2, u3, u4, u5, u6, e, h1, (hb.block D2 (Array.getElem?_eq_some_iff.1 h2).1).trans h2⟩
theorem PcG.box {first st q : Int} {kj A E : Nat} {lo : Bool} {tx : ByteArray} {D n0 : Nat} {rb : Option Addr} {c2 : Nat} {v : Value} {W : World} (h : PcG first st q kj A E lo tx D n0 rb c2 15 v W) : PcB n0 v W := h
theorem PcP.below {first st q : Int} {kj : Nat} {lo : Bool} {x : ByteArray} {n0 : Nat} : ∀ v W W', PcP first st q kj lo x n0 v W → Below W.heap.size W W' → PcP first st q kj lo x n0 v W' := by
  rintro v W W' ⟨D2, e, h1, h2⟩ hb
  exact ⟨D2, e, h1, (hb.block D2 (Array.getElem?_eq_some_iff.1 h2).1).trans h2⟩
theorem heap_set_at {W : World} {D i e : Nat} {c : Array Value} (h : W.heap[D]? = some (.cells c e)) (v : Value) : (W.setCell ⟨D, i, none⟩ v).heap[D]? = some (.cells (c.setIfInBounds i v) e) := heap_setCell_same W D i _ _ v h
theorem PcP.put {first st q : Int} {kj : Nat} {lo : Bool} {x : ByteArray} {n0 D2 : Nat} {u0 u1 u2 u3 u4 u5 u6 : Value} {W : World} (hn : n0 ≤ D2) (h : W.heap[D2]? = some (.cells #[u0, u1, u2, u3, u4, u5, u6] 28 (0, 0))) :
    PcP first st q kj lo x n0 (.pointer (some ⟨D2, 0, none⟩)) (((((((W.setCell ⟨D2, 0, none⟩ (.int .i64 (addS first (kj : Int)))).setCell ⟨D2, 1, none⟩ (.int .i64 st)).setCell ⟨D2, 2, none⟩ (.int .i64 q)).setCell ⟨D2, 3, none⟩ (.bool false)).setCell ⟨D2, 4, none⟩ (.bool false)).setCell ⟨D2, 5, none⟩ (.bool lo)).setCell ⟨D2, 6, none⟩ (.string x)) :=
  ⟨D2, rfl, hn, by rw [heap_set_at (heap_set_at (heap_set_at (heap_set_at (heap_set_at (heap_set_at (heap_set_at h _) _) _) _) _) _) _]; rfl⟩
theorem PcP.under {n0 D2 : Nat} {w0 W : World} {v0 v1 v2 v3 v4 v5 v6 : Value} (hB : Below n0 w0 W) (h : n0 ≤ D2) : Below n0 w0 (((((((W.setCell ⟨D2, 0, none⟩ v0).setCell ⟨D2, 1, none⟩ v1).setCell ⟨D2, 2, none⟩ v2).setCell ⟨D2, 3, none⟩ v3).setCell ⟨D2, 4, none⟩ v4).setCell ⟨D2, 5, none⟩ v5).setCell ⟨D2, 6, none⟩ v6) :=
  ((((((hB.setCell (p := ⟨D2, 0, none⟩) h _).setCell (p := ⟨D2, 1, none⟩) h _).setCell (p := ⟨D2, 2, none⟩) h _).setCell (p := ⟨D2, 3, none⟩) h _).setCell (p := ⟨D2, 4, none⟩) h _).setCell (p := ⟨D2, 5, none⟩) h _).setCell (p := ⟨D2, 6, none⟩) h _

set_option maxRecDepth 8000 in
set_option maxHeartbeats 4000000 in
theorem l41Parts_any (f t a0 a1 a2 a3 b0 b1 b2 b3 : Int) (z : Nat) (sa : Option Addr) (len cap : Nat) (ss : List SayP) (b : Bool) (w : World) (h : Sys w sa len cap ss) (ok : TalkOk ⟨f, t, ⟨a0, a1, a2, a3⟩, ⟨b0, b1, b2, b3⟩, (z : Int), ss⟩) :
    Calls Try.prog 92 #[.agg #[.int .i64 f, .int .i64 t, .int .i64 a0, .int .i64 a1, .int .i64 a2, .int .i64 a3, .int .i64 b0, .int .i64 b1, .int .i64 b2, .int .i64 b3, .int .i64 (z : Int), .slice sa len cap], .bool b] w fun e w' => ∃ a k cp, e = .returned (.slice a k cp) ∧ OwnP k (.slice a k cp) (partsT ⟨f, t, ⟨a0, a1, a2, a3⟩, ⟨b0, b1, b2, b3⟩, (z : Int), ss⟩ b) w w' := by
  have hl := h.length
  have HS := Lib.hid h
  obtain ⟨i0, hi0, hz0, hz1, hz2⟩ := info_parts info_pt
  have HI := Lib.hid (And.intro hi0 (And.intro hz0 (And.intro hz1 hz2)))
  have hz : Hid (1 ≤ z ∧ z ≤ 20) := Lib.hid (by have h1 := ok.1.2.2.2.2.2.1; have h2 := ok.1.2.2.2.2.2.2; dsimp only at h1 h2; omega)
  have HX := Lib.hid ok.2.1
  have hserA : Ser a3 := by have h1 := ok.1.2.2.2.1.2.2.2; dsimp only at h1; exact ⟨h1.1, by omega⟩
  have hserB : Ser b3 := by have h1 := ok.1.2.2.2.2.1.2.2.2; dsimp only at h1; exact ⟨h1.1, by omega⟩
  have HSA := Lib.hid hserA
  have HSB := Lib.hid hserB
  have hln : len ≤ 4 := by have := ok.2.2.1; dsimp only at this; omega
  have hfewA : ∀ b first i, i ≤ len → (partsS first z b (ss.take i)).length ≤ 240 := fun b first i hi => by
    rw [partsS_length]
    have := sumMany_few (z := z) (b := b) (sa := a2) (sb := b2) (xs := ss.take i) hz.out.1 (fun x hx => ok.2.1 x (List.mem_of_mem_take hx))
    have := List.length_take_le i ss
    omega
  have T0 := Lib.hid (show Tlk w [.int .i64 f, .int .i64 t, .int .i64 a0, .int .i64 a1, .int .i64 a2, .int .i64 a3, .int .i64 b0, .int .i64 b1, .int .i64 b2, .int .i64 b3, .int .i64 (z : Int), .slice sa len cap] 0 (.slice (some ⟨w.heap.size + 1, 0, none⟩) 0 0) [] ((w.alloc (.cells (List.toArray [.int .i64 f, .int .i64 t, .int .i64 a0, .int .i64 a1, .int .i64 a2, .int .i64 a3, .int .i64 b0, .int .i64 b1, .int .i64 b2, .int .i64 b3, .int .i64 (z : Int), .slice sa len cap]) 88)).alloc (.cells #[] 28)) from
    ⟨((below_box (w := w.alloc (.cells (List.toArray [.int .i64 f, .int .i64 t, .int .i64 a0, .int .i64 a1, .int .i64 a2, .int .i64 a3, .int .i64 b0, .int .i64 b1, .int .i64 b2, .int .i64 b3, .int .i64 (z : Int), .slice sa len cap]) 88)) _ (Nat.le_refl _)).block _ (by simp)).trans (heap_alloc_new w _), by have h0 := OwnP.start (below_box (w := w) (.cells (List.toArray [.int .i64 f, .int .i64 t, .int .i64 a0, .int .i64 a1, .int .i64 a2, .int .i64 a3, .int .i64 b0, .int .i64 b1, .int .i64 b2, .int .i64 b3, .int .i64 (z : Int), .slice sa len cap]) 88) (Nat.le_refl _)); simpa using h0⟩)
  have VT := Lib.hid (VarN.new w [.int .i64 f, .int .i64 t, .int .i64 a0, .int .i64 a1, .int .i64 a2, .int .i64 a3, .int .i64 b0, .int .i64 b1, .int .i64 b2, .int .i64 b3, .int .i64 (z : Int), .slice sa len cap] 88)
  have c5 := (VT.out 5 _ rfl).1
  have c9 := (VT.out 9 _ rfl).1
  clear h hi0 hz0 hz1 hz2 hserA hserB
  cases b with
  | true =>
    have hfew := Lib.hid (hfewA true b3)
    clear hfewA ok
    go_enter Try.func92, Try.ntmps92
    go_wp2
    go_loopw [6, 7] (fun ov iv wr => ∃ (i k cp : Nat) (ra : Option Addr), i ≤ len ∧ iv = .int .i64 i ∧ ov = .slice ra k cp ∧ Hid (Tlk w [.int .i64 f, .int .i64 t, .int .i64 a0, .int .i64 a1, .int .i64 a2, .int .i64 a3, .int .i64 b0, .int .i64 b1, .int .i64 b2, .int .i64 b3, .int .i64 (z : Int), .slice sa len cap] k (.slice ra k cp) (partsS b3 z true (ss.take i)) wr)) (fun _ iv _ => len - (intOf iv).toNat)
    case atStart => exact ⟨0, 0, 0, _, Nat.zero_le _, rfl, rfl, T0⟩
    case round =>
      obtain ⟨i, k, cp, ra, hi, rfl, rfl, hT⟩ := hrel
      by_cases hlt : i < len
      · obtain ⟨x, rfl⟩ := HS.out.addr hlt
        obtain ⟨p0, p1, p2, p3⟩ := HS.out.at hT.out.o.b hlt
        have hil : i < ss.length := by omega
        have SN := Lib.hid (partsS_snoc (ss := ss) (i := i) b3 z true hil)
        have OKX := HX.out _ (sAt_mem hil)
        obtain ⟨⟨yb, st, lo, tx⟩, he⟩ : ∃ e, sAt ss i = e := ⟨_, rfl⟩
        rw [he] at p0 p1 p2 p3 SN OKX
        dsimp only at p0 p1 p2 p3
        have OX := Lib.hid (show 1 ≤ tx.size ∧ tx.size ≤ 60 from ⟨OKX.1, OKX.2.1⟩)
        clear he OKX
        obtain ⟨base, hbase⟩ : ∃ ps, partsS b3 z true (ss.take i) = ps := ⟨_, rfl⟩
        rw [hbase] at hT SN
        have KL := Lib.hid (show base.length = k by have := hT.out.o.own.1; rw [flatP_length] at this; omega)
        have few := hfew.out i hi
        rw [hbase, KL.out] at few
        have ii : (i : Int) < (len : Int) := by omega
        have TX := Lib.hid (show Tly w [.int .i64 f, .int .i64 t, .int .i64 a0, .int .i64 a1, .int .i64 a2, .int .i64 a3, .int .i64 b0, .int .i64 b1, .int .i64 b2, .int .i64 b3, .int .i64 (z : Int), .slice (some x) len cap] k (.slice ra k cp) base wr.heap.size #[.bool yb, .int .i64 st, .bool lo, .string tx] (wr.alloc (.cells #[.bool yb, .int .i64 st, .bool lo, .string tx] 113)) from ⟨hT.out.up (below_box _ (Nat.le_refl _)), heap_alloc_new wr _⟩)
        have v11 := (hT.out.var 11 _ rfl).1
        have nbx : ¬ w.heap.size = wr.heap.size := by have := lt_of_cell v11; omega
        obtain ⟨D, hD⟩ : ∃ D, wr.heap.size = D := ⟨_, rfl⟩
        clear hbase
        cases lo with
        | true =>
          go_wp2
          rw [hD] at TX nbx
          have TX1 := TX
          go_loopw [6, 10] (fun ov av wr2 => ∃ (j A c2 : Nat) (rb : Option Addr), j ≤ manyN tx.size z ∧ Hid (A = j * z) ∧ A ≤ 100 ∧ av = .int .i64 (A : Int) ∧ ov = .slice rb (k + j) c2 ∧ Hid (yb ≠ true → j = 0) ∧ Hid (Tly w [.int .i64 f, .int .i64 t, .int .i64 a0, .int .i64 a1, .int .i64 a2, .int .i64 a3, .int .i64 b0, .int .i64 b1, .int .i64 b2, .int .i64 b3, .int .i64 (z : Int), .slice (some x) len cap] (k + j) (.slice rb (k + j) c2) (base ++ cutP b3 ⟨yb, st, true, tx⟩ 0 z k j) D #[.bool yb, .int .i64 st, .bool true, .string tx] wr2)) (fun _ av _ => tx.size - (intOf av).toNat)
          case atStart => exact ⟨0, 0, cp, ra, Nat.zero_le _, Lib.hid (by simp), by omega, rfl, rfl, Lib.hid (fun _ => rfl), Lib.hid (by simpa [cutP] using TX1.out)⟩
          case round =>
            obtain ⟨j, A, c2, rb, hj, hA, hA100, rfl, rfl, hj0, hX2⟩ := hrel
            have y0 := (hX2.out.xvar 0 _ rfl).1
            have y1 := (hX2.out.xvar 1 _ rfl).1
            have y2 := (hX2.out.xvar 2 _ rfl).1
            have y3 := (hX2.out.xvar 3 _ rfl).1
            have v10 := (hX2.out.tk.var 10 _ rfl).1
            have txi : (tx.size : Int) ≤ 60 := by have := OX.out; omega
            by_cases hAt : A < tx.size
            · by_cases hyb : yb = true
              · have hyb : yb = true := by simpa using hyb
                subst hyb
                have hjm : j < manyN tx.size z := (lt_many hz.out.1).1 (by rw [← hA.out]; exact hAt)
                have ai : (A : Int) < (tx.size : Int) := by omega
                obtain ⟨E, hE⟩ : ∃ E, min (A + z) tx.size = E := ⟨_, rfl⟩
                have hAE : A ≤ E ∧ E ≤ tx.size := by omega
                have wE : min ((A : Int) + (z : Int)) (tx.size : Int) = (E : Int) := by omega
                have HE := Lib.hid hE
                have wA : IntKind.i64.wrap ((A : Int) + (z : Int)) = (A : Int) + (z : Int) := IntWalk.i64_in _ ⟨by omega, by have := hz.out; omega⟩
                have PI := Lib.hid (pieceP_is (first := b3) (yb := true) (st := st) (lo := true) (tx := tx) (q := 0) (n0 := k) hz.out.1 hA.out HE.out.symm)
                clear hE
                have nbx2 : ¬ w.heap.size = wr.heap.size := by have := lt_of_cell v10; omega
                have nDx2 : ¬ D = wr.heap.size := by have := lt_of_cell y0; omega
                go_upto_region 16 with fail
                refine region_by 17 [63, 64, 65, 66, 67, 68, 69, 70, 71, 72, 73, 74, 75, 76, 77, 12, 0] 16 15 14 [0, 1, 2, 3, 4, 5, 6, 7, 8, 9, 10, 11, 12, 13, 14, 15] [] [[], [], [1], [0, 2], [], [4], [], [], [7], [], [9], [], [], [10, 11, 12], [3, 5, 6, 8, 13], [], [15, 14]] (PcG (b3) st (0) (k + j) A E true tx D wr.heap.size rb c2) (PcP (b3) st (0) (k + j) true (tx.extract A E) wr.heap.size) wr.heap.size wr [63, 64, 65, 66, 67, 68, 69, 70, 71, 72, 73, 74, 75, 76, 77, 12] (by kernel_rfl) (by kernel_rfl) (by rfl) (fun k hk => Nat.lt_of_lt_of_le ((by decide : ∀ k ∈ [63, 64, 65, 66, 67, 68, 69, 70, 71, 72, 73, 74, 75, 76, 77, 12], k < 92) k hk) (by simp)) PcG.below PcP.below (Below.drew (Below.refl _ _)) (Nat.le_refl _) ?_ ?_ ?_
                · intro i b W hi hne hB hs hf hd
                  rcases (by omega : i = 0 ∨ i = 1 ∨ i = 2 ∨ i = 3 ∨ i = 4 ∨ i = 5 ∨ i = 6 ∨ i = 7 ∨ i = 8 ∨ i = 9 ∨ i = 10 ∨ i = 11 ∨ i = 12 ∨ i = 13 ∨ i = 14 ∨ i = 15 ∨ i = 16) with rfl | rfl | rfl | rfl | rfl | rfl | rfl | rfl | rfl | rfl | rfl | rfl | rfl | rfl | rfl | rfl | rfl
                  · have x5 : b.tmps[5]?.getD undef = .int .i64 (b3) := raw_of (k := 5) ((hf 5 (by decide)).trans rfl)
                    refine wpOp_plain (by rfl) (by rfl) (Oper.wp_mono (K := fun b' w' => b' = b.put (some 63) (.int .i64 (b3)) ∧ w' = W) ?_ ?_)
                    · rintro b' w' ⟨rfl, rfl⟩
                      exact ⟨_, rfl, rfl, Below.refl _ _⟩
                    · clear hd hs
                      go_simp
                  · have x6 : b.tmps[6]?.getD undef = .slice rb (k + j) c2 := raw_of (k := 6) ((hf 6 (by decide)).trans rfl)
                    refine wpOp_plain (by rfl) (by rfl) (Oper.wp_mono (K := fun b' w' => b' = b.put (some 64) (.slice rb (k + j) c2) ∧ w' = W) ?_ ?_)
                    · rintro b' w' ⟨rfl, rfl⟩
                      exact ⟨_, rfl, rfl, Below.refl _ _⟩
                    · clear hd hs
                      go_simp
                  · have x64 : b.tmps[64]?.getD undef = .slice rb (k + j) c2 := raw_of (k := 64) (hd 1 (by kernel_rfl))
                    refine wpOp_plain (by rfl) (by rfl) (Oper.wp_mono (K := fun b' w' => b' = b.put (some 65) (.int .i64 ((k + j : Nat) : Int)) ∧ w' = W) ?_ ?_)
                    · rintro b' w' ⟨rfl, rfl⟩
                      exact ⟨_, rfl, rfl, Below.refl _ _⟩
                    · clear hd hs
                      go_simp
                  · have x63 : b.tmps[63]?.getD undef = .int .i64 (b3) := raw_of (k := 63) (hd 0 (by kernel_rfl))
                    have x65 : b.tmps[65]?.getD undef = .int .i64 ((k + j : Nat) : Int) := raw_of (k := 65) (hd 2 (by kernel_rfl))
                    refine wpOp_plain (by rfl) (by rfl) ?_
                    clear hd hs
                    go_simp
                    go_at_call 39
                    refine (l3Add_any (b3) _ _ HSB.out).mono ?_
                    rintro e w' ⟨rfl, rfl⟩
                    exact ⟨_, rfl, rfl, Below.refl _ _⟩
                  · have x8 : b.tmps[8]?.getD undef = .pointer (some ⟨D, 0, none⟩) := raw_of (k := 8) ((hf 8 (by decide)).trans rfl)
                    refine wpOp_plain (by rfl) (by rfl) (Oper.wp_mono (K := fun b' w' => b' = b.put (some 67) (.pointer (some ⟨D, 1, none⟩)) ∧ w' = W) ?_ ?_)
                    · rintro b' w' ⟨rfl, rfl⟩
                      exact ⟨_, rfl, rfl, Below.refl _ _⟩
                    · clear hd hs
                      go_simp
                  · have x67 : b.tmps[67]?.getD undef = .pointer (some ⟨D, 1, none⟩) := raw_of (k := 67) (hd 4 (by kernel_rfl))
                    have cy1 := (hB.cell (World.block_lt_of_cell? _ _ y1)).trans y1
                    refine wpOp_plain (by rfl) (by rfl) (Oper.wp_mono (K := fun b' w' => b' = b.put (some 68) (.int .i64 st) ∧ w' = W) ?_ ?_)
                    · rintro b' w' ⟨rfl, rfl⟩
                      exact ⟨_, rfl, rfl, Below.refl _ _⟩
                    · clear hd hs
                      go_simp
                  · have x9 : b.tmps[9]?.getD undef = .int .i64 (0) := raw_of (k := 9) ((hf 9 (by decide)).trans rfl)
                    refine wpOp_plain (by rfl) (by rfl) (Oper.wp_mono (K := fun b' w' => b' = b.put (some 69) (.int .i64 (0)) ∧ w' = W) ?_ ?_)
                    · rintro b' w' ⟨rfl, rfl⟩
                      exact ⟨_, rfl, rfl, Below.refl _ _⟩
                    · clear hd hs
                      go_simp
                  · have x8 : b.tmps[8]?.getD undef = .pointer (some ⟨D, 0, none⟩) := raw_of (k := 8) ((hf 8 (by decide)).trans rfl)
                    refine wpOp_plain (by rfl) (by rfl) (Oper.wp_mono (K := fun b' w' => b' = b.put (some 70) (.pointer (some ⟨D, 2, none⟩)) ∧ w' = W) ?_ ?_)
                    · rintro b' w' ⟨rfl, rfl⟩
                      exact ⟨_, rfl, rfl, Below.refl _ _⟩
                    · clear hd hs
                      go_simp
                  · have x70 : b.tmps[70]?.getD undef = .pointer (some ⟨D, 2, none⟩) := raw_of (k := 70) (hd 7 (by kernel_rfl))
                    have cy2 := (hB.cell (World.block_lt_of_cell? _ _ y2)).trans y2
                    refine wpOp_plain (by rfl) (by rfl) (Oper.wp_mono (K := fun b' w' => b' = b.put (some 71) (.bool true) ∧ w' = W) ?_ ?_)
                    · rintro b' w' ⟨rfl, rfl⟩
                      exact ⟨_, rfl, rfl, Below.refl _ _⟩
                    · clear hd hs
                      go_simp
                  · have x8 : b.tmps[8]?.getD undef = .pointer (some ⟨D, 0, none⟩) := raw_of (k := 8) ((hf 8 (by decide)).trans rfl)
                    refine wpOp_plain (by rfl) (by rfl) (Oper.wp_mono (K := fun b' w' => b' = b.put (some 72) (.pointer (some ⟨D, 3, none⟩)) ∧ w' = W) ?_ ?_)
                    · rintro b' w' ⟨rfl, rfl⟩
                      exact ⟨_, rfl, rfl, Below.refl _ _⟩
                    · clear hd hs
                      go_simp
                  · have x72 : b.tmps[72]?.getD undef = .pointer (some ⟨D, 3, none⟩) := raw_of (k := 72) (hd 9 (by kernel_rfl))
                    have cy3 := (hB.cell (World.block_lt_of_cell? _ _ y3)).trans y3
                    refine wpOp_plain (by rfl) (by rfl) (Oper.wp_mono (K := fun b' w' => b' = b.put (some 73) (.string tx) ∧ w' = W) ?_ ?_)
                    · rintro b' w' ⟨rfl, rfl⟩
                      exact ⟨_, rfl, rfl, Below.refl _ _⟩
                    · clear hd hs
                      go_simp
                  · have x10 : b.tmps[10]?.getD undef = .int .i64 (A : Int) := raw_of (k := 10) ((hf 10 (by decide)).trans rfl)
                    refine wpOp_plain (by rfl) (by rfl) (Oper.wp_mono (K := fun b' w' => b' = b.put (some 74) (.int .i64 (A : Int)) ∧ w' = W) ?_ ?_)
                    · rintro b' w' ⟨rfl, rfl⟩
                      exact ⟨_, rfl, rfl, Below.refl _ _⟩
                    · clear hd hs
                      go_simp
                  · have x11 : b.tmps[11]?.getD undef = .int .i64 (E : Int) := raw_of (k := 11) ((hf 11 (by decide)).trans rfl)
                    refine wpOp_plain (by rfl) (by rfl) (Oper.wp_mono (K := fun b' w' => b' = b.put (some 75) (.int .i64 (E : Int)) ∧ w' = W) ?_ ?_)
                    · rintro b' w' ⟨rfl, rfl⟩
                      exact ⟨_, rfl, rfl, Below.refl _ _⟩
                    · clear hd hs
                      go_simp
                  · have x73 : b.tmps[73]?.getD undef = .string tx := raw_of (k := 73) (hd 10 (by kernel_rfl))
                    have x74 : b.tmps[74]?.getD undef = .int .i64 (A : Int) := raw_of (k := 74) (hd 11 (by kernel_rfl))
                    have x75 : b.tmps[75]?.getD undef = .int .i64 (E : Int) := raw_of (k := 75) (hd 12 (by kernel_rfl))
                    refine wpOp_plain (by rfl) (by rfl) (Oper.wp_mono (K := fun b' w' => b' = b.put (some 76) (.string (tx.extract A E)) ∧ w' = W) ?_ ?_)
                    · rintro b' w' ⟨rfl, rfl⟩
                      exact ⟨_, rfl, rfl, Below.refl _ _⟩
                    · clear hd hs
                      go_simp
                  · have x66 : b.tmps[66]?.getD undef = .int .i64 (addS b3 ((k + j : Nat) : Int)) := raw_of (k := 66) (hd 3 (by kernel_rfl))
                    have x68 : b.tmps[68]?.getD undef = .int .i64 st := raw_of (k := 68) (hd 5 (by kernel_rfl))
                    have x69 : b.tmps[69]?.getD undef = .int .i64 (0) := raw_of (k := 69) (hd 6 (by kernel_rfl))
                    have x71 : b.tmps[71]?.getD undef = .bool true := raw_of (k := 71) (hd 8 (by kernel_rfl))
                    have x76 : b.tmps[76]?.getD undef = .string (tx.extract A E) := raw_of (k := 76) (hd 13 (by kernel_rfl))
                    refine wpOp_plain (by rfl) (by rfl) (Oper.wp_mono (K := fun b' w' => b' = b.put (some 77) (.agg #[.int .i64 (addS b3 ((k + j : Nat) : Int)), .int .i64 st, .int .i64 (0), .bool false, .bool false, .bool true, .string (tx.extract A E)]) ∧ w' = W) ?_ ?_)
                    · rintro b' w' ⟨rfl, rfl⟩
                      exact ⟨_, rfl, rfl, Below.refl _ _⟩
                    · clear hd hs
                      go_simp
                  · have hle : wr.heap.size ≤ W.heap.size := hB.size
                    refine wpOp_plain (by rfl) (by rfl) (Oper.wp_mono (K := fun b' w' => b' = b.put (some 12) (.pointer (some ⟨W.heap.size, 0, none⟩)) ∧ w' = W.alloc (.cells #[.int .i64 0, .int .i64 0, .int .i64 0, .bool false, .bool false, .bool false, .string (ByteArray.mk #[])] 28)) ?_ ?_)
                    · rintro b' w' ⟨rfl, rfl⟩
                      exact ⟨_, rfl, ⟨W.heap.size, _, _, _, _, _, _, _, rfl, hle, heap_alloc_new W _⟩, below_box _ (Nat.le_refl _)⟩
                    · clear hd hs
                      go_simp
                  · exact absurd rfl hne
                · intro b W hB hf hga hgv
                  obtain ⟨D2, u0, u1, u2, u3, u4, u5, u6, h12, hDn, hDb⟩ : PcB wr.heap.size (valsOf b 12) W := PcG.box hga
                  have x12 : b.tmps[12]?.getD undef = .pointer (some ⟨D2, 0, none⟩) := raw_of (k := 12) (h12)
                  have x77 : b.tmps[77]?.getD undef = .agg #[.int .i64 (addS b3 ((k + j : Nat) : Int)), .int .i64 st, .int .i64 (0), .bool false, .bool false, .bool true, .string (tx.extract A E)] := raw_of (k := 77) (hgv)
                  have k0 := Lib.cell_of_heap hDb 0
                  have q0 := Lib.frozen_of_heap hDb 0
                  have k1 := Lib.cell_of_heap hDb 1
                  have q1 := Lib.frozen_of_heap hDb 1
                  have k2 := Lib.cell_of_heap hDb 2
                  have q2 := Lib.frozen_of_heap hDb 2
                  have k3 := Lib.cell_of_heap hDb 3
                  have q3 := Lib.frozen_of_heap hDb 3
                  have k4 := Lib.cell_of_heap hDb 4
                  have q4 := Lib.frozen_of_heap hDb 4
                  have k5 := Lib.cell_of_heap hDb 5
                  have q5 := Lib.frozen_of_heap hDb 5
                  have k6 := Lib.cell_of_heap hDb 6
                  have q6 := Lib.frozen_of_heap hDb 6
                  change W.cell? _ = some u0 at k0
                  change W.cell? _ = some u1 at k1
                  change W.cell? _ = some u2 at k2
                  change W.cell? _ = some u3 at k3
                  change W.cell? _ = some u4 at k4
                  change W.cell? _ = some u5 at k5
                  change W.cell? _ = some u6 at k6
                  refine wpOp_plain (by rfl) (by rfl) (Oper.wp_mono (K := fun b' w' => b' = b ∧ w' = (((((((W.setCell ⟨D2, 0, none⟩ (.int .i64 (addS b3 ((k + j : Nat) : Int)))).setCell ⟨D2, 1, none⟩ (.int .i64 st)).setCell ⟨D2, 2, none⟩ (.int .i64 (0))).setCell ⟨D2, 3, none⟩ (.bool false)).setCell ⟨D2, 4, none⟩ (.bool false)).setCell ⟨D2, 5, none⟩ (.bool true)).setCell ⟨D2, 6, none⟩ (.string (tx.extract A E)))) ?_ ?_)
                  · rintro b' w' ⟨rfl, rfl⟩
                    refine ⟨rfl, ?_, ?_, ?_⟩
                    · show PcP _ _ _ _ _ _ _ (valsOf b' 12) _
                      rw [h12]
                      exact PcP.put hDn hDb
                    · exact PcP.under hB hDn
                    · intro k' v hk' hkeep; exact absurd hkeep (by simp)
                  · clear h12
                    go_simp
                intro V w9 hb9 hk9 h2
                obtain ⟨D2, e12, hDn, hDb⟩ : PcP (b3) st (0) (k + j) true (tx.extract A E) wr.heap.size (V 12) w9 := h2
                simp only [List.foldl, Act.put, List.setIfInBounds_toArray, List.set_cons_zero, List.set_cons_succ]
                rw [e12]
                generalize V 63 = z63
                generalize V 64 = z64
                generalize V 65 = z65
                generalize V 66 = z66
                generalize V 67 = z67
                generalize V 68 = z68
                generalize V 69 = z69
                generalize V 70 = z70
                generalize V 71 = z71
                generalize V 72 = z72
                generalize V 73 = z73
                generalize V 74 = z74
                generalize V 75 = z75
                generalize V 76 = z76
                generalize V 77 = z77
                clear hk9 e12
                obtain ⟨fa, hfa⟩ : ∃ fa, decide (A = 0) = fa := ⟨_, rfl⟩
                obtain ⟨fe, hfe⟩ : ∃ fe, decide (E = tx.size) = fe := ⟨_, rfl⟩
                have PI := Lib.hid (by have := PI.out; rw [hfa, hfe] at this; exact this)
                have fa1 : ((A : Int) == 0) = fa := by rw [← hfa]; by_cases h0 : A = 0 <;> simp [h0]
                have fa2 : decide ((A : Int) = 0) = fa := by rw [← hfa]; by_cases h0 : A = 0 <;> simp [h0]
                have fe1 : ((E : Int) == (tx.size : Int)) = fe := by rw [← hfe]; by_cases h0 : E = tx.size <;> simp [h0, Int.ofNat_inj]
                have fe2 : decide ((E : Int) = (tx.size : Int)) = fe := by rw [← hfe]; by_cases h0 : E = tx.size <;> simp [h0, Int.ofNat_inj]
                have X10 := Lib.hid (hX2.out.up ((hb9.setCell (p := ⟨D2, 3, none⟩) hDn (.bool fa)).setCell (p := ⟨D2, 4, none⟩) hDn (.bool fe)))
                have SA := Lib.hid (X10.out.up (below_box (.cells #[.int .i64 (addS b3 ((k + j : Nat) : Int)), .int .i64 st, .int .i64 (0), .bool fa, .bool fe, .bool true, .string (tx.extract A E)] 28) (Nat.le_refl _)))
                have y3' := ((hX2.out.up hb9).xvar 3 _ rfl).1
                have nD2 : ¬ D2 = D := by have := lt_of_cell y0; omega
                have hrs : w.heap.size ≤ w9.heap.size := Nat.le_trans hX2.out.tk.o.b.size hb9.size
                have d0 := (var_of_heap (vs := [.int .i64 (addS b3 ((k + j : Nat) : Int)), .int .i64 st, .int .i64 (0), .bool false, .bool false, .bool true, .string (tx.extract A E)]) hDb 0 _ rfl).1
                have d1 := (var_of_heap (vs := [.int .i64 (addS b3 ((k + j : Nat) : Int)), .int .i64 st, .int .i64 (0), .bool false, .bool false, .bool true, .string (tx.extract A E)]) hDb 1 _ rfl).1
                have d2 := (var_of_heap (vs := [.int .i64 (addS b3 ((k + j : Nat) : Int)), .int .i64 st, .int .i64 (0), .bool false, .bool false, .bool true, .string (tx.extract A E)]) hDb 2 _ rfl).1
                have d3 := (var_of_heap (vs := [.int .i64 (addS b3 ((k + j : Nat) : Int)), .int .i64 st, .int .i64 (0), .bool false, .bool false, .bool true, .string (tx.extract A E)]) hDb 3 _ rfl).1
                have d4 := (var_of_heap (vs := [.int .i64 (addS b3 ((k + j : Nat) : Int)), .int .i64 st, .int .i64 (0), .bool false, .bool false, .bool true, .string (tx.extract A E)]) hDb 4 _ rfl).1
                have d5 := (var_of_heap (vs := [.int .i64 (addS b3 ((k + j : Nat) : Int)), .int .i64 st, .int .i64 (0), .bool false, .bool false, .bool true, .string (tx.extract A E)]) hDb 5 _ rfl).1
                have d6 := (var_of_heap (vs := [.int .i64 (addS b3 ((k + j : Nat) : Int)), .int .i64 st, .int .i64 (0), .bool false, .bool false, .bool true, .string (tx.extract A E)]) hDb 6 _ rfl).1
                have g3 := Lib.frozen_of_heap hDb 3
                have g4 := Lib.frozen_of_heap hDb 4
                have hmn := manyN_le OX.out.2 hz.out.1
                clear hDb y0 y1 y2 y3 v10 hfa hfe
                go_wp2_with (at_builtin; go_loud (refine wpList_append_lies _ rfl _ _ 24 rfl w.heap.size 28 i0 (partV ⟨0, 0, 0, false, false, false, ByteArray.mk #[]⟩) 7 48 Try.underlying24 HI.out.1 HI.out.2.1 HI.out.2.2.1 HI.out.2.2.2 rfl (by decide) (.slice rb (k + j) c2) (k + j) (flatP (base ++ cutP b3 ⟨true, st, true, tx⟩ (0) z k j)) rfl SA.out.tk.o.own ⟨w9.heap.size, 0, none⟩ 1 1 (cellsP ⟨addS b3 ((k + j : Nat) : Int), st, 0, fa, fe, true, tx.extract A E⟩) rfl rfl (news_box (by simp)) (cellsP_one _) (by decide) (by unfold maxLen; omega) (by omega) (by simp; omega) _ rfl ?_))
                intro gg cap3 w11 hown hgrow hat hlt9
                have X12 := Lib.hid (show Tly w [.int .i64 f, .int .i64 t, .int .i64 a0, .int .i64 a1, .int .i64 a2, .int .i64 a3, .int .i64 b0, .int .i64 b1, .int .i64 b2, .int .i64 b3, .int .i64 (z : Int), .slice (some x) len cap] (k + (j + 1)) (.slice (some ⟨gg, 0, none⟩) (k + (j + 1)) cap3) (base ++ cutP b3 ⟨true, st, true, tx⟩ (0) z k (j + 1)) D #[.bool true, .int .i64 st, .bool true, .string tx] w11 by have h0 := SA.out.push hgrow hown; rw [cutP_snoc, ← List.append_assoc, PI.out]; exact h0)
                have v10 := (X12.out.tk.var 10 _ rfl).1
                have hA2 := Lib.hid (show A + z = (j + 1) * z by rw [Nat.succ_mul, hA.out])
                clear hown hgrow hat hlt9 SA X10 d0 d1 d2 d3 d4 d5 d6 g3 g4 y3' fa1 fa2 fe1 fe2
                go_wp2
                go_roundw
                case rel => exact ⟨j + 1, A + z, cap3, _, by omega, hA2, by have := hz.out; omega, by go_num, rfl, Lib.hid (fun h => absurd rfl h), X12⟩
                case measure => simp [intOf]; have := hz.out; omega
              · have ai : (A : Int) < (tx.size : Int) := by omega
                have hyb2 : yb = false := by cases yb <;> simp_all
                subst hyb2
                have j0 : j = 0 := hj0.out (by decide)
                subst j0
                have T9 := Lib.hid (show Tlk w [.int .i64 f, .int .i64 t, .int .i64 a0, .int .i64 a1, .int .i64 a2, .int .i64 a3, .int .i64 b0, .int .i64 b1, .int .i64 b2, .int .i64 b3, .int .i64 (z : Int), .slice (some x) len cap] (k + 0) (.slice rb (k + 0) c2) (partsS b3 z true (ss.take (i + 1))) wr by rw [SN.out, addSay_no (first := b3) (size := z) (b := true) (x := ⟨false, st, true, tx⟩) (by intro h; cases h)]; have h0 := hX2.out.tk; simpa [cutP] using h0)
                go_wp2
                go_roundw
                case rel => exact ⟨i + 1, k + 0, c2, rb, by omega, by go_num, rfl, T9⟩
                case measure => simp [intOf]; omega
            · have ai : ¬ (A : Int) < (tx.size : Int) := by omega
              have hyb : yb = true := by
                apply Classical.byContradiction
                intro hne
                have := hj0.out hne
                subst this
                have h1 := hA.out
                rw [Nat.zero_mul] at h1
                have := OX.out.1
                omega
              subst hyb
              have hjm : j = manyN tx.size z := by
                have h1 : ¬ j < manyN tx.size z := fun h => hAt (by rw [hA.out]; exact (lt_many hz.out.1).2 h)
                omega
              have T9 := Lib.hid (show Tlk w [.int .i64 f, .int .i64 t, .int .i64 a0, .int .i64 a1, .int .i64 a2, .int .i64 a3, .int .i64 b0, .int .i64 b1, .int .i64 b2, .int .i64 b3, .int .i64 (z : Int), .slice (some x) len cap] (k + j) (.slice rb (k + j) c2) (partsS b3 z true (ss.take (i + 1))) wr by rw [SN.out, addSay_is (first := b3) (z := z) (b := true) (x := ⟨true, st, true, tx⟩) (q := 0) (k0 := k) (j := j) rfl rfl KL.out hjm]; exact hX2.out.tk)
              go_wp2
              go_roundw
              case rel => exact ⟨i + 1, k + j, c2, rb, by omega, by go_num, rfl, T9⟩
              case measure => simp [intOf]; omega
        | false =>
          obtain ⟨q, hq⟩ : ∃ q, beginsIn base st = q := ⟨_, rfl⟩
          have HQ := Lib.hid hq
          clear hq
          go_wp2_with fail
          refine (l31Ssn_any ra k cp base st _ TX.out.tk.o.pts).mono ?_
          rw [HQ.out]
          rintro e w2 ⟨rfl, hb2⟩
          have TX1 := Lib.hid (TX.out.up hb2)
          rw [hD] at TX1 nbx
          clear hb2 TX
          go_wp2
          go_loopw [6, 10] (fun ov av wr2 => ∃ (j A c2 : Nat) (rb : Option Addr), j ≤ manyN tx.size z ∧ Hid (A = j * z) ∧ A ≤ 100 ∧ av = .int .i64 (A : Int) ∧ ov = .slice rb (k + j) c2 ∧ Hid (yb ≠ true → j = 0) ∧ Hid (Tly w [.int .i64 f, .int .i64 t, .int .i64 a0, .int .i64 a1, .int .i64 a2, .int .i64 a3, .int .i64 b0, .int .i64 b1, .int .i64 b2, .int .i64 b3, .int .i64 (z : Int), .slice (some x) len cap] (k + j) (.slice rb (k + j) c2) (base ++ cutP b3 ⟨yb, st, false, tx⟩ (q : Int) z k j) D #[.bool yb, .int .i64 st, .bool false, .string tx] wr2)) (fun _ av _ => tx.size - (intOf av).toNat)
          case atStart => exact ⟨0, 0, cp, ra, Nat.zero_le _, Lib.hid (by simp), by omega, rfl, rfl, Lib.hid (fun _ => rfl), Lib.hid (by simpa [cutP] using TX1.out)⟩
          case round =>
            obtain ⟨j, A, c2, rb, hj, hA, hA100, rfl, rfl, hj0, hX2⟩ := hrel
            have y0 := (hX2.out.xvar 0 _ rfl).1
            have y1 := (hX2.out.xvar 1 _ rfl).1
            have y2 := (hX2.out.xvar 2 _ rfl).1
            have y3 := (hX2.out.xvar 3 _ rfl).1
            have v10 := (hX2.out.tk.var 10 _ rfl).1
            have txi : (tx.size : Int) ≤ 60 := by have := OX.out; omega
            by_cases hAt : A < tx.size
            · by_cases hyb : yb = true
              · have hyb : yb = true := by simpa using hyb
                subst hyb
                have hjm : j < manyN tx.size z := (lt_many hz.out.1).1 (by rw [← hA.out]; exact hAt)
                have ai : (A : Int) < (tx.size : Int) := by omega
                obtain ⟨E, hE⟩ : ∃ E, min (A + z) tx.size = E := ⟨_, rfl⟩
                have hAE : A ≤ E ∧ E ≤ tx.size := by omega
                have wE : min ((A : Int) + (z : Int)) (tx.size : Int) = (E : Int) := by omega
                have HE := Lib.hid hE
                have wA : IntKind.i64.wrap ((A : Int) + (z : Int)) = (A : Int) + (z : Int) := IntWalk.i64_in _ ⟨by omega, by have := hz.out; omega⟩
                have PI := Lib.hid (pieceP_is (first := b3) (yb := true) (st := st) (lo := false) (tx := tx) (q := (q : Int)) (n0 := k) hz.out.1 hA.out HE.out.symm)
                clear hE
                have nbx2 : ¬ w.heap.size = wr.heap.size := by have := lt_of_cell v10; omega
                have nDx2 : ¬ D = wr.heap.size := by have := lt_of_cell y0; omega
                go_upto_region 16 with fail
                refine region_by 17 [63, 64, 65, 66, 67, 68, 69, 70, 71, 72, 73, 74, 75, 76, 77, 12, 0] 16 15 14 [0, 1, 2, 3, 4, 5, 6, 7, 8, 9, 10, 11, 12, 13, 14, 15] [] [[], [], [1], [0, 2], [], [4], [], [], [7], [], [9], [], [], [10, 11, 12], [3, 5, 6, 8, 13], [], [15, 14]] (PcG (b3) st ((q : Int)) (k + j) A E false tx D wr.heap.size rb c2) (PcP (b3) st ((q : Int)) (k + j) false (tx.extract A E) wr.heap.size) wr.heap.size wr [63, 64, 65, 66, 67, 68, 69, 70, 71, 72, 73, 74, 75, 76, 77, 12] (by kernel_rfl) (by kernel_rfl) (by rfl) (fun k hk => Nat.lt_of_lt_of_le ((by decide : ∀ k ∈ [63, 64, 65, 66, 67, 68, 69, 70, 71, 72, 73, 74, 75, 76, 77, 12], k < 92) k hk) (by simp)) PcG.below PcP.below (Below.drew (Below.refl _ _)) (Nat.le_refl _) ?_ ?_ ?_
                · intro i b W hi hne hB hs hf hd
                  rcases (by omega : i = 0 ∨ i = 1 ∨ i = 2 ∨ i = 3 ∨ i = 4 ∨ i = 5 ∨ i = 6 ∨ i = 7 ∨ i = 8 ∨ i = 9 ∨ i = 10 ∨ i = 11 ∨ i = 12 ∨ i = 13 ∨ i = 14 ∨ i = 15 ∨ i = 16) with rfl | rfl | rfl | rfl | rfl | rfl | rfl | rfl | rfl | rfl | rfl | rfl | rfl | rfl | rfl | rfl | rfl
                  · have x5 : b.tmps[5]?.getD undef = .int .i64 (b3) := raw_of (k := 5) ((hf 5 (by decide)).trans rfl)
                    refine wpOp_plain (by rfl) (by rfl) (Oper.wp_mono (K := fun b' w' => b' = b.put (some 63) (.int .i64 (b3)) ∧ w' = W) ?_ ?_)
                    · rintro b' w' ⟨rfl, rfl⟩
                      exact ⟨_, rfl, rfl, Below.refl _ _⟩
                    · clear hd hs
                      go_simp
                  · have x6 : b.tmps[6]?.getD undef = .slice rb (k + j) c2 := raw_of (k := 6) ((hf 6 (by decide)).trans rfl)
                    refine wpOp_plain (by rfl) (by rfl) (Oper.wp_mono (K := fun b' w' => b' = b.put (some 64) (.slice rb (k + j) c2) ∧ w' = W) ?_ ?_)
                    · rintro b' w' ⟨rfl, rfl⟩
                      exact ⟨_, rfl, rfl, Below.refl _ _⟩
                    · clear hd hs
                      go_simp
                  · have x64 : b.tmps[64]?.getD undef = .slice rb (k + j) c2 := raw_of (k := 64) (hd 1 (by kernel_rfl))
                    refine wpOp_plain (by rfl) (by rfl) (Oper.wp_mono (K := fun b' w' => b' = b.put (some 65) (.int .i64 ((k + j : Nat) : Int)) ∧ w' = W) ?_ ?_)
                    · rintro b' w' ⟨rfl, rfl⟩
                      exact ⟨_, rfl, rfl, Below.refl _ _⟩
                    · clear hd hs
                      go_simp
                  · have x63 : b.tmps[63]?.getD undef = .int .i64 (b3) := raw_of (k := 63) (hd 0 (by kernel_rfl))
                    have x65 : b.tmps[65]?.getD undef = .int .i64 ((k + j : Nat) : Int) := raw_of (k := 65) (hd 2 (by kernel_rfl))
                    refine wpOp_plain (by rfl) (by rfl) ?_
                    clear hd hs
                    go_simp
                    go_at_call 39
                    refine (l3Add_any (b3) _ _ HSB.out).mono ?_
                    rintro e w' ⟨rfl, rfl⟩
                    exact ⟨_, rfl, rfl, Below.refl _ _⟩
                  · have x8 : b.tmps[8]?.getD undef = .pointer (some ⟨D, 0, none⟩) := raw_of (k := 8) ((hf 8 (by decide)).trans rfl)
                    refine wpOp_plain (by rfl) (by rfl) (Oper.wp_mono (K := fun b' w' => b' = b.put (some 67) (.pointer (some ⟨D, 1, none⟩)) ∧ w' = W) ?_ ?_)
                    · rintro b' w' ⟨rfl, rfl⟩
                      exact ⟨_, rfl, rfl, Below.refl _ _⟩
                    · clear hd hs
                      go_simp
                  · have x67 : b.tmps[67]?.getD undef = .pointer (some ⟨D, 1, none⟩) := raw_of (k := 67) (hd 4 (by kernel_rfl))
                    have cy1 := (hB.cell (World.block_lt_of_cell? _ _ y1)).trans y1
                    refine wpOp_plain (by rfl) (by rfl) (Oper.wp_mono (K := fun b' w' => b' = b.put (some 68) (.int .i64 st) ∧ w' = W) ?_ ?_)
                    · rintro b' w' ⟨rfl, rfl⟩
                      exact ⟨_, rfl, rfl, Below.refl _ _⟩
                    · clear hd hs
                      go_simp
                  · have x9 : b.tmps[9]?.getD undef = .int .i64 ((q : Int)) := raw_of (k := 9) ((hf 9 (by decide)).trans rfl)
                    refine wpOp_plain (by rfl) (by rfl) (Oper.wp_mono (K := fun b' w' => b' = b.put (some 69) (.int .i64 ((q : Int))) ∧ w' = W) ?_ ?_)
                    · rintro b' w' ⟨rfl, rfl⟩
                      exact ⟨_, rfl, rfl, Below.refl _ _⟩
                    · clear hd hs
                      go_simp
                  · have x8 : b.tmps[8]?.getD undef = .pointer (some ⟨D, 0, none⟩) := raw_of (k := 8) ((hf 8 (by decide)).trans rfl)
                    refine wpOp_plain (by rfl) (by rfl) (Oper.wp_mono (K := fun b' w' => b' = b.put (some 70) (.pointer (some ⟨D, 2, none⟩)) ∧ w' = W) ?_ ?_)
                    · rintro b' w' ⟨rfl, rfl⟩
                      exact ⟨_, rfl, rfl, Below.refl _ _⟩
                    · clear hd hs
                      go_simp
                  · have x70 : b.tmps[70]?.getD undef = .pointer (some ⟨D, 2, none⟩) := raw_of (k := 70) (hd 7 (by kernel_rfl))
                    have cy2 := (hB.cell (World.block_lt_of_cell? _ _ y2)).trans y2
                    refine wpOp_plain (by rfl) (by rfl) (Oper.wp_mono (K := fun b' w' => b' = b.put (some 71) (.bool false) ∧ w' = W) ?_ ?_)
                    · rintro b' w' ⟨rfl, rfl⟩
                      exact ⟨_, rfl, rfl, Below.refl _ _⟩
                    · clear hd hs
                      go_simp
                  · have x8 : b.tmps[8]?.getD undef = .pointer (some ⟨D, 0, none⟩) := raw_of (k := 8) ((hf 8 (by decide)).trans rfl)
                    refine wpOp_plain (by rfl) (by rfl) (Oper.wp_mono (K := fun b' w' => b' = b.put (some 72) (.pointer (some ⟨D, 3, none⟩)) ∧ w' = W) ?_ ?_)
                    · rintro b' w' ⟨rfl, rfl⟩
                      exact ⟨_, rfl, rfl, Below.refl _ _⟩
                    · clear hd hs
                      go_simp
                  · have x72 : b.tmps[72]?.getD undef = .pointer (some ⟨D, 3, none⟩) := raw_of (k := 72) (hd 9 (by kernel_rfl))
                    have cy3 := (hB.cell (World.block_lt_of_cell? _ _ y3)).trans y3
                    refine wpOp_plain (by rfl) (by rfl) (Oper.wp_mono (K := fun b' w' => b' = b.put (some 73) (.string tx) ∧ w' = W) ?_ ?_)
                    · rintro b' w' ⟨rfl, rfl⟩
                      exact ⟨_, rfl, rfl, Below.refl _ _⟩
                    · clear hd hs
                      go_simp
                  · have x10 : b.tmps[10]?.getD undef = .int .i64 (A : Int) := raw_of (k := 10) ((hf 10 (by decide)).trans rfl)
                    refine wpOp_plain (by rfl) (by rfl) (Oper.wp_mono (K := fun b' w' => b' = b.put (some 74) (.int .i64 (A : Int)) ∧ w' = W) ?_ ?_)
                    · rintro b' w' ⟨rfl, rfl⟩
                      exact ⟨_, rfl, rfl, Below.refl _ _⟩
                    · clear hd hs
                      go_simp
                  · have x11 : b.tmps[11]?.getD undef = .int .i64 (E : Int) := raw_of (k := 11) ((hf 11 (by decide)).trans rfl)
                    refine wpOp_plain (by rfl) (by rfl) (Oper.wp_mono (K := fun b' w' => b' = b.put (some 75) (.int .i64 (E : Int)) ∧ w' = W) ?_ ?_)
                    · rintro b' w' ⟨rfl, rfl⟩
                      exact ⟨_, rfl, rfl, Below.refl _ _⟩
                    · clear hd hs
                      go_simp
                  · have x73 : b.tmps[73]?.getD undef = .string tx := raw_of (k := 73) (hd 10 (by kernel_rfl))
                    have x74 : b.tmps[74]?.getD undef = .int .i64 (A : Int) := raw_of (k := 74) (hd 11 (by kernel_rfl))
                    have x75 : b.tmps[75]?.getD undef = .int .i64 (E : Int) := raw_of (k := 75) (hd 12 (by kernel_rfl))
                    refine wpOp_plain (by rfl) (by rfl) (Oper.wp_mono (K := fun b' w' => b' = b.put (some 76) (.string (tx.extract A E)) ∧ w' = W) ?_ ?_)
                    · rintro b' w' ⟨rfl, rfl⟩
                      exact ⟨_, rfl, rfl, Below.refl _ _⟩
                    · clear hd hs
                      go_simp
                  · have x66 : b.tmps[66]?.getD undef = .int .i64 (addS b3 ((k + j : Nat) : Int)) := raw_of (k := 66) (hd 3 (by kernel_rfl))
                    have x68 : b.tmps[68]?.getD undef = .int .i64 st := raw_of (k := 68) (hd 5 (by kernel_rfl))
                    have x69 : b.tmps[69]?.getD undef = .int .i64 ((q : Int)) := raw_of (k := 69) (hd 6 (by kernel_rfl))
                    have x71 : b.tmps[71]?.getD undef = .bool false := raw_of (k := 71) (hd 8 (by kernel_rfl))
                    have x76 : b.tmps[76]?.getD undef = .string (tx.extract A E) := raw_of (k := 76) (hd 13 (by kernel_rfl))
                    refine wpOp_plain (by rfl) (by rfl) (Oper.wp_mono (K := fun b' w' => b' = b.put (some 77) (.agg #[.int .i64 (addS b3 ((k + j : Nat) : Int)), .int .i64 st, .int .i64 ((q : Int)), .bool false, .bool false, .bool false, .string (tx.extract A E)]) ∧ w' = W) ?_ ?_)
                    · rintro b' w' ⟨rfl, rfl⟩
                      exact ⟨_, rfl, rfl, Below.refl _ _⟩
                    · clear hd hs
                      go_simp
                  · have hle : wr.heap.size ≤ W.heap.size := hB.size
                    refine wpOp_plain (by rfl) (by rfl) (Oper.wp_mono (K := fun b' w' => b' = b.put (some 12) (.pointer (some ⟨W.heap.size, 0, none⟩)) ∧ w' = W.alloc (.cells #[.int .i64 0, .int .i64 0, .int .i64 0, .bool false, .bool false, .bool false, .string (ByteArray.mk #[])] 28)) ?_ ?_)
                    · rintro b' w' ⟨rfl, rfl⟩
                      exact ⟨_, rfl, ⟨W.heap.size, _, _, _, _, _, _, _, rfl, hle, heap_alloc_new W _⟩, below_box _ (Nat.le_refl _)⟩
                    · clear hd hs
                      go_simp
                  · exact absurd rfl hne
                · intro b W hB hf hga hgv
                  obtain ⟨D2, u0, u1, u2, u3, u4, u5, u6, h12, hDn, hDb⟩ : PcB wr.heap.size (valsOf b 12) W := PcG.box hga
                  have x12 : b.tmps[12]?.getD undef = .pointer (some ⟨D2, 0, none⟩) := raw_of (k := 12) (h12)
                  have x77 : b.tmps[77]?.getD undef = .agg #[.int .i64 (addS b3 ((k + j : Nat) : Int)), .int .i64 st, .int .i64 ((q : Int)), .bool false, .bool false, .bool false, .string (tx.extract A E)] := raw_of (k := 77) (hgv)
                  have k0 := Lib.cell_of_heap hDb 0
                  have q0 := Lib.frozen_of_heap hDb 0
                  have k1 := Lib.cell_of_heap hDb 1
                  have q1 := Lib.frozen_of_heap hDb 1
                  have k2 := Lib.cell_of_heap hDb 2
                  have q2 := Lib.frozen_of_heap hDb 2
                  have k3 := Lib.cell_of_heap hDb 3
                  have q3 := Lib.frozen_of_heap hDb 3
                  have k4 := Lib.cell_of_heap hDb 4
                  have q4 := Lib.frozen_of_heap hDb 4
                  have k5 := Lib.cell_of_heap hDb 5
                  have q5 := Lib.frozen_of_heap hDb 5
                  have k6 := Lib.cell_of_heap hDb 6
                  have q6 := Lib.frozen_of_heap hDb 6
                  change W.cell? _ = some u0 at k0
                  change W.cell? _ = some u1 at k1
                  change W.cell? _ = some u2 at k2
                  change W.cell? _ = some u3 at k3
                  change W.cell? _ = some u4 at k4
                  change W.cell? _ = some u5 at k5
                  change W.cell? _ = some u6 at k6
                  refine wpOp_plain (by rfl) (by rfl) (Oper.wp_mono (K := fun b' w' => b' = b ∧ w' = (((((((W.setCell ⟨D2, 0, none⟩ (.int .i64 (addS b3 ((k + j : Nat) : Int)))).setCell ⟨D2, 1, none⟩ (.int .i64 st)).setCell ⟨D2, 2, none⟩ (.int .i64 ((q : Int)))).setCell ⟨D2, 3, none⟩ (.bool false)).setCell ⟨D2, 4, none⟩ (.bool false)).setCell ⟨D2, 5, none⟩ (.bool false)).setCell ⟨D2, 6, none⟩ (.string (tx.extract A E)))) ?_ ?_)
                  · rintro b' w' ⟨rfl, rfl⟩
                    refine ⟨rfl, ?_, ?_, ?_⟩
                    · show PcP _ _ _ _ _ _ _ (valsOf b' 12) _
                      rw [h12]
                      exact PcP.put hDn hDb
                    · exact PcP.under hB hDn
                    · intro k' v hk' hkeep; exact absurd hkeep (by simp)
                  · clear h12
                    go_simp
                intro V w9 hb9 hk9 h2
                obtain ⟨D2, e12, hDn, hDb⟩ : PcP (b3) st ((q : Int)) (k + j) false (tx.extract A E) wr.heap.size (V 12) w9 := h2
                simp only [List.foldl, Act.put, List.setIfInBounds_toArray, List.set_cons_zero, List.set_cons_succ]
                rw [e12]
                generalize V 63 = z63
                generalize V 64 = z64
                generalize V 65 = z65
                generalize V 66 = z66
                generalize V 67 = z67
                generalize V 68 = z68
                generalize V 69 = z69
                generalize V 70 = z70
                generalize V 71 = z71
                generalize V 72 = z72
                generalize V 73 = z73
                generalize V 74 = z74
                generalize V 75 = z75
                generalize V 76 = z76
                generalize V 77 = z77
                clear hk9 e12
                obtain ⟨fa, hfa⟩ : ∃ fa, decide (A = 0) = fa := ⟨_, rfl⟩
                obtain ⟨fe, hfe⟩ : ∃ fe, decide (E = tx.size) = fe := ⟨_, rfl⟩
                have PI := Lib.hid (by have := PI.out; rw [hfa, hfe] at this; exact this)
                have fa1 : ((A : Int) == 0) = fa := by rw [← hfa]; by_cases h0 : A = 0 <;> simp [h0]
                have fa2 : decide ((A : Int) = 0) = fa := by rw [← hfa]; by_cases h0 : A = 0 <;> simp [h0]
                have fe1 : ((E : Int) == (tx.size : Int)) = fe := by rw [← hfe]; by_cases h0 : E = tx.size <;> simp [h0, Int.ofNat_inj]
                have fe2 : decide ((E : Int) = (tx.size : Int)) = fe := by rw [← hfe]; by_cases h0 : E = tx.size <;> simp [h0, Int.ofNat_inj]
                have X10 := Lib.hid (hX2.out.up ((hb9.setCell (p := ⟨D2, 3, none⟩) hDn (.bool fa)).setCell (p := ⟨D2, 4, none⟩) hDn (.bool fe)))
                have SA := Lib.hid (X10.out.up (below_box (.cells #[.int .i64 (addS b3 ((k + j : Nat) : Int)), .int .i64 st, .int .i64 ((q : Int)), .bool fa, .bool fe, .bool false, .string (tx.extract A E)] 28) (Nat.le_refl _)))
                have y3' := ((hX2.out.up hb9).xvar 3 _ rfl).1
                have nD2 : ¬ D2 = D := by have := lt_of_cell y0; omega
                have hrs : w.heap.size ≤ w9.heap.size := Nat.le_trans hX2.out.tk.o.b.size hb9.size
                have d0 := (var_of_heap (vs := [.int .i64 (addS b3 ((k + j : Nat) : Int)), .int .i64 st, .int .i64 ((q : Int)), .bool false, .bool false, .bool false, .string (tx.extract A E)]) hDb 0 _ rfl).1
                have d1 := (var_of_heap (vs := [.int .i64 (addS b3 ((k + j : Nat) : Int)), .int .i64 st, .int .i64 ((q : Int)), .bool false, .bool false, .bool false, .string (tx.extract A E)]) hDb 1 _ rfl).1
                have d2 := (var_of_heap (vs := [.int .i64 (addS b3 ((k + j : Nat) : Int)), .int .i64 st, .int .i64 ((q : Int)), .bool false, .bool false, .bool false, .string (tx.extract A E)]) hDb 2 _ rfl).1
                have d3 := (var_of_heap (vs := [.int .i64 (addS b3 ((k + j : Nat) : Int)), .int .i64 st, .int .i64 ((q : Int)), .bool false, .bool false, .bool false, .string (tx.extract A E)]) hDb 3 _ rfl).1
                have d4 := (var_of_heap (vs := [.int .i64 (addS b3 ((k + j : Nat) : Int)), .int .i64 st, .int .i64 ((q : Int)), .bool false, .bool false, .bool false, .string (tx.extract A E)]) hDb 4 _ rfl).1
                have d5 := (var_of_heap (vs := [.int .i64 (addS b3 ((k + j : Nat) : Int)), .int .i64 st, .int .i64 ((q : Int)), .bool false, .bool false, .bool false, .string (tx.extract A E)]) hDb 5 _ rfl).1
                have d6 := (var_of_heap (vs := [.int .i64 (addS b3 ((k + j : Nat) : Int)), .int .i64 st, .int .i64 ((q : Int)), .bool false, .bool false, .bool false, .string (tx.extract A E)]) hDb 6 _ rfl).1
                have g3 := Lib.frozen_of_heap hDb 3
                have g4 := Lib.frozen_of_heap hDb 4
                have hmn := manyN_le OX.out.2 hz.out.1
                clear hDb y0 y1 y2 y3 v10 hfa hfe
                go_wp2_with (at_builtin; go_loud (refine wpList_append_lies _ rfl _ _ 24 rfl w.heap.size 28 i0 (partV ⟨0, 0, 0, false, false, false, ByteArray.mk #[]⟩) 7 48 Try.underlying24 HI.out.1 HI.out.2.1 HI.out.2.2.1 HI.out.2.2.2 rfl (by decide) (.slice rb (k + j) c2) (k + j) (flatP (base ++ cutP b3 ⟨true, st, false, tx⟩ ((q : Int)) z k j)) rfl SA.out.tk.o.own ⟨w9.heap.size, 0, none⟩ 1 1 (cellsP ⟨addS b3 ((k + j : Nat) : Int), st, (q : Int), fa, fe, false, tx.extract A E⟩) rfl rfl (news_box (by simp)) (cellsP_one _) (by decide) (by unfold maxLen; omega) (by omega) (by simp; omega) _ rfl ?_))
                intro gg cap3 w11 hown hgrow hat hlt9
                have X12 := Lib.hid (show Tly w [.int .i64 f, .int .i64 t, .int .i64 a0, .int .i64 a1, .int .i64 a2, .int .i64 a3, .int .i64 b0, .int .i64 b1, .int .i64 b2, .int .i64 b3, .int .i64 (z : Int), .slice (some x) len cap] (k + (j + 1)) (.slice (some ⟨gg, 0, none⟩) (k + (j + 1)) cap3) (base ++ cutP b3 ⟨true, st, false, tx⟩ ((q : Int)) z k (j + 1)) D #[.bool true, .int .i64 st, .bool false, .string tx] w11 by have h0 := SA.out.push hgrow hown; rw [cutP_snoc, ← List.append_assoc, PI.out]; exact h0)
                have v10 := (X12.out.tk.var 10 _ rfl).1
                have hA2 := Lib.hid (show A + z = (j + 1) * z by rw [Nat.succ_mul, hA.out])
                clear hown hgrow hat hlt9 SA X10 d0 d1 d2 d3 d4 d5 d6 g3 g4 y3' fa1 fa2 fe1 fe2
                go_wp2
                go_roundw
                case rel => exact ⟨j + 1, A + z, cap3, _, by omega, hA2, by have := hz.out; omega, by go_num, rfl, Lib.hid (fun h => absurd rfl h), X12⟩
                case measure => simp [intOf]; have := hz.out; omega
              · have ai : (A : Int) < (tx.size : Int) := by omega
                have hyb2 : yb = false := by cases yb <;> simp_all
                subst hyb2
                have j0 : j = 0 := hj0.out (by decide)
                subst j0
                have T9 := Lib.hid (show Tlk w [.int .i64 f, .int .i64 t, .int .i64 a0, .int .i64 a1, .int .i64 a2, .int .i64 a3, .int .i64 b0, .int .i64 b1, .int .i64 b2, .int .i64 b3, .int .i64 (z : Int), .slice (some x) len cap] (k + 0) (.slice rb (k + 0) c2) (partsS b3 z true (ss.take (i + 1))) wr by rw [SN.out, addSay_no (first := b3) (size := z) (b := true) (x := ⟨false, st, false, tx⟩) (by intro h; cases h)]; have h0 := hX2.out.tk; simpa [cutP] using h0)
                go_wp2
                go_roundw
                case rel => exact ⟨i + 1, k + 0, c2, rb, by omega, by go_num, rfl, T9⟩
                case measure => simp [intOf]; omega
            · have ai : ¬ (A : Int) < (tx.size : Int) := by omega
              have hyb : yb = true := by
                apply Classical.byContradiction
                intro hne
                have := hj0.out hne
                subst this
                have h1 := hA.out
                rw [Nat.zero_mul] at h1
                have := OX.out.1
                omega
              subst hyb
              have hjm : j = manyN tx.size z := by
                have h1 : ¬ j < manyN tx.size z := fun h => hAt (by rw [hA.out]; exact (lt_many hz.out.1).2 h)
                omega
              have T9 := Lib.hid (show Tlk w [.int .i64 f, .int .i64 t, .int .i64 a0, .int .i64 a1, .int .i64 a2, .int .i64 a3, .int .i64 b0, .int .i64 b1, .int .i64 b2, .int .i64 b3, .int .i64 (z : Int), .slice (some x) len cap] (k + j) (.slice rb (k + j) c2) (partsS b3 z true (ss.take (i + 1))) wr by rw [SN.out, addSay_is (first := b3) (z := z) (b := true) (x := ⟨true, st, false, tx⟩) (q := (q : Int)) (k0 := k) (j := j) rfl (by unfold ssnOf; rw [if_neg (by intro h; cases h)]; exact congrArg _ HQ.out) KL.out hjm]; exact hX2.out.tk)
              go_wp2
              go_roundw
              case rel => exact ⟨i + 1, k + j, c2, rb, by omega, by go_num, rfl, T9⟩
              case measure => simp [intOf]; omega
      · obtain rfl : i = len := by omega
        have E9 := Lib.hid (show partsT ⟨f, t, ⟨a0, a1, a2, a3⟩, ⟨b0, b1, b2, b3⟩, (z : Int), ss⟩ true = partsS b3 z true (ss.take i) by rw [List.take_of_length_le (by omega)]; simp [partsT, sideI])
        have v11 := (hT.out.var 11 _ rfl).1
        have O9 := hT.out.o
        go_wp2
        go_ret
        exact ⟨ra, k, cp, rfl, by rw [E9.out]; exact O9⟩
  | false =>
    have hfew := Lib.hid (hfewA false a3)
    clear hfewA ok
    go_enter Try.func92, Try.ntmps92
    go_wp2
    go_loopw [6, 7] (fun ov iv wr => ∃ (i k cp : Nat) (ra : Option Addr), i ≤ len ∧ iv = .int .i64 i ∧ ov = .slice ra k cp ∧ Hid (Tlk w [.int .i64 f, .int .i64 t, .int .i64 a0, .int .i64 a1, .int .i64 a2, .int .i64 a3, .int .i64 b0, .int .i64 b1, .int .i64 b2, .int .i64 b3, .int .i64 (z : Int), .slice sa len cap] k (.slice ra k cp) (partsS a3 z false (ss.take i)) wr)) (fun _ iv _ => len - (intOf iv).toNat)
    case atStart => exact ⟨0, 0, 0, _, Nat.zero_le _, rfl, rfl, T0⟩
    case round =>
      obtain ⟨i, k, cp, ra, hi, rfl, rfl, hT⟩ := hrel
      by_cases hlt : i < len
      · obtain ⟨x, rfl⟩ := HS.out.addr hlt
        obtain ⟨p0, p1, p2, p3⟩ := HS.out.at hT.out.o.b hlt
        have hil : i < ss.length := by omega
        have SN := Lib.hid (partsS_snoc (ss := ss) (i := i) a3 z false hil)
        have OKX := HX.out _ (sAt_mem hil)
        obtain ⟨⟨yb, st, lo, tx⟩, he⟩ : ∃ e, sAt ss i = e := ⟨_, rfl⟩
        rw [he] at p0 p1 p2 p3 SN OKX
        dsimp only at p0 p1 p2 p3
        have OX := Lib.hid (show 1 ≤ tx.size ∧ tx.size ≤ 60 from ⟨OKX.1, OKX.2.1⟩)
        clear he OKX
        obtain ⟨base, hbase⟩ : ∃ ps, partsS a3 z false (ss.take i) = ps := ⟨_, rfl⟩
        rw [hbase] at hT SN
        have KL := Lib.hid (show base.length = k by have := hT.out.o.own.1; rw [flatP_length] at this; omega)
        have few := hfew.out i hi
        rw [hbase, KL.out] at few
        have ii : (i : Int) < (len : Int) := by omega
        have TX := Lib.hid (show Tly w [.int .i64 f, .int .i64 t, .int .i64 a0, .int .i64 a1, .int .i64 a2, .int .i64 a3, .int .i64 b0, .int .i64 b1, .int .i64 b2, .int .i64 b3, .int .i64 (z : Int), .slice (some x) len cap] k (.slice ra k cp) base wr.heap.size #[.bool yb, .int .i64 st, .bool lo, .string tx] (wr.alloc (.cells #[.bool yb, .int .i64 st, .bool lo, .string tx] 113)) from ⟨hT.out.up (below_box _ (Nat.le_refl _)), heap_alloc_new wr _⟩)
        have v11 := (hT.out.var 11 _ rfl).1
        have nbx : ¬ w.heap.size = wr.heap.size := by have := lt_of_cell v11; omega
        obtain ⟨D, hD⟩ : ∃ D, wr.heap.size = D := ⟨_, rfl⟩
        clear hbase
        cases lo with
        | true =>
          go_wp2
          rw [hD] at TX nbx
          have TX1 := TX
          go_loopw [6, 10] (fun ov av wr2 => ∃ (j A c2 : Nat) (rb : Option Addr), j ≤ manyN tx.size z ∧ Hid (A = j * z) ∧ A ≤ 100 ∧ av = .int .i64 (A : Int) ∧ ov = .slice rb (k + j) c2 ∧ Hid (yb ≠ false → j = 0) ∧ Hid (Tly w [.int .i64 f, .int .i64 t, .int .i64 a0, .int .i64 a1, .int .i64 a2, .int .i64 a3, .int .i64 b0, .int .i64 b1, .int .i64 b2, .int .i64 b3, .int .i64 (z : Int), .slice (some x) len cap] (k + j) (.slice rb (k + j) c2) (base ++ cutP a3 ⟨yb, st, true, tx⟩ 0 z k j) D #[.bool yb, .int .i64 st, .bool true, .string tx] wr2)) (fun _ av _ => tx.size - (intOf av).toNat)
          case atStart => exact ⟨0, 0, cp, ra, Nat.zero_le _, Lib.hid (by simp), by omega, rfl, rfl, Lib.hid (fun _ => rfl), Lib.hid (by simpa [cutP] using TX1.out)⟩
          case round =>
            obtain ⟨j, A, c2, rb, hj, hA, hA100, rfl, rfl, hj0, hX2⟩ := hrel
            have y0 := (hX2.out.xvar 0 _ rfl).1
            have y1 := (hX2.out.xvar 1 _ rfl).1
            have y2 := (hX2.out.xvar 2 _ rfl).1
            have y3 := (hX2.out.xvar 3 _ rfl).1
            have v10 := (hX2.out.tk.var 10 _ rfl).1
            have txi : (tx.size : Int) ≤ 60 := by have := OX.out; omega
            by_cases hAt : A < tx.size
            · by_cases hyb : yb = false
              · have hyb : yb = false := by simpa using hyb
                subst hyb
                have hjm : j < manyN tx.size z := (lt_many hz.out.1).1 (by rw [← hA.out]; exact hAt)
                have ai : (A : Int) < (tx.size : Int) := by omega
                obtain ⟨E, hE⟩ : ∃ E, min (A + z) tx.size = E := ⟨_, rfl⟩
                have hAE : A ≤ E ∧ E ≤ tx.size := by omega
                have wE : min ((A : Int) + (z : Int)) (tx.size : Int) = (E : Int) := by omega
                have HE := Lib.hid hE
                have wA : IntKind.i64.wrap ((A : Int) + (z : Int)) = (A : Int) + (z : Int) := IntWalk.i64_in _ ⟨by omega, by have := hz.out; omega⟩
                have PI := Lib.hid (pieceP_is (first := a3) (yb := false) (st := st) (lo := true) (tx := tx) (q := 0) (n0 := k) hz.out.1 hA.out HE.out.symm)
                clear hE
                have nbx2 : ¬ w.heap.size = wr.heap.size := by have := lt_of_cell v10; omega
                have nDx2 : ¬ D = wr.heap.size := by have := lt_of_cell y0; omega
                go_upto_region 16 with fail
                refine region_by 17 [63, 64, 65, 66, 67, 68, 69, 70, 71, 72, 73, 74, 75, 76, 77, 12, 0] 16 15 14 [0, 1, 2, 3, 4, 5, 6, 7, 8, 9, 10, 11, 12, 13, 14, 15] [] [[], [], [1], [0, 2], [], [4], [], [], [7], [], [9], [], [], [10, 11, 12], [3, 5, 6, 8, 13], [], [15, 14]] (PcG (a3) st (0) (k + j) A E true tx D wr.heap.size rb c2) (PcP (a3) st (0) (k + j) true (tx.extract A E) wr.heap.size) wr.heap.size wr [63, 64, 65, 66, 67, 68, 69, 70, 71, 72, 73, 74, 75, 76, 77, 12] (by kernel_rfl) (by kernel_rfl) (by rfl) (fun k hk => Nat.lt_of_lt_of_le ((by decide : ∀ k ∈ [63, 64, 65, 66, 67, 68, 69, 70, 71, 72, 73, 74, 75, 76, 77, 12], k < 92) k hk) (by simp)) PcG.below PcP.below (Below.drew (Below.refl _ _)) (Nat.le_refl _) ?_ ?_ ?_
                · intro i b W hi hne hB hs hf hd
                  rcases (by omega : i = 0 ∨ i = 1 ∨ i = 2 ∨ i = 3 ∨ i = 4 ∨ i = 5 ∨ i = 6 ∨ i = 7 ∨ i = 8 ∨ i = 9 ∨ i = 10 ∨ i = 11 ∨ i = 12 ∨ i = 13 ∨ i = 14 ∨ i = 15 ∨ i = 16) with rfl | rfl | rfl | rfl | rfl | rfl | rfl | rfl | rfl | rfl | rfl | rfl | rfl | rfl | rfl | rfl | rfl
                  · have x5 : b.tmps[5]?.getD undef = .int .i64 (a3) := raw_of (k := 5) ((hf 5 (by decide)).trans rfl)
                    refine wpOp_plain (by rfl) (by rfl) (Oper.wp_mono (K := fun b' w' => b' = b.put (some 63) (.int .i64 (a3)) ∧ w' = W) ?_ ?_)
                    · rintro b' w' ⟨rfl, rfl⟩
                      exact ⟨_, rfl, rfl, Below.refl _ _⟩
                    · clear hd hs
                      go_simp
                  · have x6 : b.tmps[6]?.getD undef = .slice rb (k + j) c2 := raw_of (k := 6) ((hf 6 (by decide)).trans rfl)
                    refine wpOp_plain (by rfl) (by rfl) (Oper.wp_mono (K := fun b' w' => b' = b.put (some 64) (.slice rb (k + j) c2) ∧ w' = W) ?_ ?_)
                    · rintro b' w' ⟨rfl, rfl⟩
                      exact ⟨_, rfl, rfl, Below.refl _ _⟩
                    · clear hd hs
                      go_simp
                  · have x64 : b.tmps[64]?.getD undef = .slice rb (k + j) c2 := raw_of (k := 64) (hd 1 (by kernel_rfl))
                    refine wpOp_plain (by rfl) (by rfl) (Oper.wp_mono (K := fun b' w' => b' = b.put (some 65) (.int .i64 ((k + j : Nat) : Int)) ∧ w' = W) ?_ ?_)
                    · rintro b' w' ⟨rfl, rfl⟩
                      exact ⟨_, rfl, rfl, Below.refl _ _⟩
                    · clear hd hs
                      go_simp
                  · have x63 : b.tmps[63]?.getD undef = .int .i64 (a3) := raw_of (k := 63) (hd 0 (by kernel_rfl))
                    have x65 : b.tmps[65]?.getD undef = .int .i64 ((k + j : Nat) : Int) := raw_of (k := 65) (hd 2 (by kernel_rfl))
                    refine wpOp_plain (by rfl) (by rfl) ?_
                    clear hd hs
                    go_simp
                    go_at_call 39
                    refine (l3Add_any (a3) _ _ HSA.out).mono ?_
                    rintro e w' ⟨rfl, rfl⟩
                    exact ⟨_, rfl, rfl, Below.refl _ _⟩
                  · have x8 : b.tmps[8]?.getD undef = .pointer (some ⟨D, 0, none⟩) := raw_of (k := 8) ((hf 8 (by decide)).trans rfl)
                    refine wpOp_plain (by rfl) (by rfl) (Oper.wp_mono (K := fun b' w' => b' = b.put (some 67) (.pointer (some ⟨D, 1, none⟩)) ∧ w' = W) ?_ ?_)
                    · rintro b' w' ⟨rfl, rfl⟩
                      exact ⟨_, rfl, rfl, Below.refl _ _⟩
                    · clear hd hs
                      go_simp
                  · have x67 : b.tmps[67]?.getD undef = .pointer (some ⟨D, 1, none⟩) := raw_of (k := 67) (hd 4 (by kernel_rfl))
                    have cy1 := (hB.cell (World.block_lt_of_cell? _ _ y1)).trans y1
                    refine wpOp_plain (by rfl) (by rfl) (Oper.wp_mono (K := fun b' w' => b' = b.put (some 68) (.int .i64 st) ∧ w' = W) ?_ ?_)
                    · rintro b' w' ⟨rfl, rfl⟩
                      exact ⟨_, rfl, rfl, Below.refl _ _⟩
                    · clear hd hs
                      go_simp
                  · have x9 : b.tmps[9]?.getD undef = .int .i64 (0) := raw_of (k := 9) ((hf 9 (by decide)).trans rfl)
                    refine wpOp_plain (by rfl) (by rfl) (Oper.wp_mono (K := fun b' w' => b' = b.put (some 69) (.int .i64 (0)) ∧ w' = W) ?_ ?_)
                    · rintro b' w' ⟨rfl, rfl⟩
                      exact ⟨_, rfl, rfl, Below.refl _ _⟩
                    · clear hd hs
                      go_simp
                  · have x8 : b.tmps[8]?.getD undef = .pointer (some ⟨D, 0, none⟩) := raw_of (k := 8) ((hf 8 (by decide)).trans rfl)
                    refine wpOp_plain (by rfl) (by rfl) (Oper.wp_mono (K := fun b' w' => b' = b.put (some 70) (.pointer (some ⟨D, 2, none⟩)) ∧ w' = W) ?_ ?_)
                    · rintro b' w' ⟨rfl, rfl⟩
                      exact ⟨_, rfl, rfl, Below.refl _ _⟩
                    · clear hd hs
                      go_simp
                  · have x70 : b.tmps[70]?.getD undef = .pointer (some ⟨D, 2, none⟩) := raw_of (k := 70) (hd 7 (by kernel_rfl))
                    have cy2 := (hB.cell (World.block_lt_of_cell? _ _ y2)).trans y2
                    refine wpOp_plain (by rfl) (by rfl) (Oper.wp_mono (K := fun b' w' => b' = b.put (some 71) (.bool true) ∧ w' = W) ?_ ?_)
                    · rintro b' w' ⟨rfl, rfl⟩
                      exact ⟨_, rfl, rfl, Below.refl _ _⟩
                    · clear hd hs
                      go_simp
                  · have x8 : b.tmps[8]?.getD undef = .pointer (some ⟨D, 0, none⟩) := raw_of (k := 8) ((hf 8 (by decide)).trans rfl)
                    refine wpOp_plain (by rfl) (by rfl) (Oper.wp_mono (K := fun b' w' => b' = b.put (some 72) (.pointer (some ⟨D, 3, none⟩)) ∧ w' = W) ?_ ?_)
                    · rintro b' w' ⟨rfl, rfl⟩
                      exact ⟨_, rfl, rfl, Below.refl _ _⟩
                    · clear hd hs
                      go_simp
                  · have x72 : b.tmps[72]?.getD undef = .pointer (some ⟨D, 3, none⟩) := raw_of (k := 72) (hd 9 (by kernel_rfl))
                    have cy3 := (hB.cell (World.block_lt_of_cell? _ _ y3)).trans y3
                    refine wpOp_plain (by rfl) (by rfl) (Oper.wp_mono (K := fun b' w' => b' = b.put (some 73) (.string tx) ∧ w' = W) ?_ ?_)
                    · rintro b' w' ⟨rfl, rfl⟩
                      exact ⟨_, rfl, rfl, Below.refl _ _⟩
                    · clear hd hs
                      go_simp
                  · have x10 : b.tmps[10]?.getD undef = .int .i64 (A : Int) := raw_of (k := 10) ((hf 10 (by decide)).trans rfl)
                    refine wpOp_plain (by rfl) (by rfl) (Oper.wp_mono (K := fun b' w' => b' = b.put (some 74) (.int .i64 (A : Int)) ∧ w' = W) ?_ ?_)
                    · rintro b' w' ⟨rfl, rfl⟩
                      exact ⟨_, rfl, rfl, Below.refl _ _⟩
                    · clear hd hs
                      go_simp
                  · have x11 : b.tmps[11]?.getD undef = .int .i64 (E : Int) := raw_of (k := 11) ((hf 11 (by decide)).trans rfl)
                    refine wpOp_plain (by rfl) (by rfl) (Oper.wp_mono (K := fun b' w' => b' = b.put (some 75) (.int .i64 (E : Int)) ∧ w' = W) ?_ ?_)
                    · rintro b' w' ⟨rfl, rfl⟩
                      exact ⟨_, rfl, rfl, Below.refl _ _⟩
                    · clear hd hs
                      go_simp
                  · have x73 : b.tmps[73]?.getD undef = .string tx := raw_of (k := 73) (hd 10 (by kernel_rfl))
                    have x74 : b.tmps[74]?.getD undef = .int .i64 (A : Int) := raw_of (k := 74) (hd 11 (by kernel_rfl))
                    have x75 : b.tmps[75]?.getD undef = .int .i64 (E : Int) := raw_of (k := 75) (hd 12 (by kernel_rfl))
                    refine wpOp_plain (by rfl) (by rfl) (Oper.wp_mono (K := fun b' w' => b' = b.put (some 76) (.string (tx.extract A E)) ∧ w' = W) ?_ ?_)
                    · rintro b' w' ⟨rfl, rfl⟩
                      exact ⟨_, rfl, rfl, Below.refl _ _⟩
                    · clear hd hs
                      go_simp
                  · have x66 : b.tmps[66]?.getD undef = .int .i64 (addS a3 ((k + j : Nat) : Int)) := raw_of (k := 66) (hd 3 (by kernel_rfl))
                    have x68 : b.tmps[68]?.getD undef = .int .i64 st := raw_of (k := 68) (hd 5 (by kernel_rfl))
                    have x69 : b.tmps[69]?.getD undef = .int .i64 (0) := raw_of (k := 69) (hd 6 (by kernel_rfl))
                    have x71 : b.tmps[71]?.getD undef = .bool true := raw_of (k := 71) (hd 8 (by kernel_rfl))
                    have x76 : b.tmps[76]?.getD undef = .string (tx.extract A E) := raw_of (k := 76) (hd 13 (by kernel_rfl))
                    refine wpOp_plain (by rfl) (by rfl) (Oper.wp_mono (K := fun b' w' => b' = b.put (some 77) (.agg #[.int .i64 (addS a3 ((k + j : Nat) : Int)), .int .i64 st, .int .i64 (0), .bool false, .bool false, .bool true, .string (tx.extract A E)]) ∧ w' = W) ?_ ?_)
                    · rintro b' w' ⟨rfl, rfl⟩
                      exact ⟨_, rfl, rfl, Below.refl _ _⟩
                    · clear hd hs
                      go_simp
                  · have hle : wr.heap.size ≤ W.heap.size := hB.size
                    refine wpOp_plain (by rfl) (by rfl) (Oper.wp_mono (K := fun b' w' => b' = b.put (some 12) (.pointer (some ⟨W.heap.size, 0, none⟩)) ∧ w' = W.alloc (.cells #[.int .i64 0, .int .i64 0, .int .i64 0, .bool false, .bool false, .bool false, .string (ByteArray.mk #[])] 28)) ?_ ?_)
                    · rintro b' w' ⟨rfl, rfl⟩
                      exact ⟨_, rfl, ⟨W.heap.size, _, _, _, _, _, _, _, rfl, hle, heap_alloc_new W _⟩, below_box _ (Nat.le_refl _)⟩
                    · clear hd hs
                      go_simp
                  · exact absurd rfl hne
                · intro b W hB hf hga hgv
                  obtain ⟨D2, u0, u1, u2, u3, u4, u5, u6, h12, hDn, hDb⟩ : PcB wr.heap.size (valsOf b 12) W := PcG.box hga
                  have x12 : b.tmps[12]?.getD undef = .pointer (some ⟨D2, 0, none⟩) := raw_of (k := 12) (h12)
                  have x77 : b.tmps[77]?.getD undef = .agg #[.int .i64 (addS a3 ((k + j : Nat) : Int)), .int .i64 st, .int .i64 (0), .bool false, .bool false, .bool true, .string (tx.extract A E)] := raw_of (k := 77) (hgv)
                  have k0 := Lib.cell_of_heap hDb 0
                  have q0 := Lib.frozen_of_heap hDb 0
                  have k1 := Lib.cell_of_heap hDb 1
                  have q1 := Lib.frozen_of_heap hDb 1
                  have k2 := Lib.cell_of_heap hDb 2
                  have q2 := Lib.frozen_of_heap hDb 2
                  have k3 := Lib.cell_of_heap hDb 3
                  have q3 := Lib.frozen_of_heap hDb 3
                  have k4 := Lib.cell_of_heap hDb 4
                  have q4 := Lib.frozen_of_heap hDb 4
                  have k5 := Lib.cell_of_heap hDb 5
                  have q5 := Lib.frozen_of_heap hDb 5
                  have k6 := Lib.cell_of_heap hDb 6
                  have q6 := Lib.frozen_of_heap hDb 6
                  change W.cell? _ = some u0 at k0
                  change W.cell? _ = some u1 at k1
                  change W.cell? _ = some u2 at k2
                  change W.cell? _ = some u3 at k3
                  change W.cell? _ = some u4 at k4
                  change W.cell? _ = some u5 at k5
                  change W.cell? _ = some u6 at k6
                  refine wpOp_plain (by rfl) (by rfl) (Oper.wp_mono (K := fun b' w' => b' = b ∧ w' = (((((((W.setCell ⟨D2, 0, none⟩ (.int .i64 (addS a3 ((k + j : Nat) : Int)))).setCell ⟨D2, 1, none⟩ (.int .i64 st)).setCell ⟨D2, 2, none⟩ (.int .i64 (0))).setCell ⟨D2, 3, none⟩ (.bool false)).setCell ⟨D2, 4, none⟩ (.bool false)).setCell ⟨D2, 5, none⟩ (.bool true)).setCell ⟨D2, 6, none⟩ (.string (tx.extract A E)))) ?_ ?_)
                  · rintro b' w' ⟨rfl, rfl⟩
                    refine ⟨rfl, ?_, ?_, ?_⟩
                    · show PcP _ _ _ _ _ _ _ (valsOf b' 12) _
                      rw [h12]
                      exact PcP.put hDn hDb
                    · exact PcP.under hB hDn
                    · intro k' v hk' hkeep; exact absurd hkeep (by simp)
                  · clear h12
                    go_simp
                intro V w9 hb9 hk9 h2
                obtain ⟨D2, e12, hDn, hDb⟩ : PcP (a3) st (0) (k + j) true (tx.extract A E) wr.heap.size (V 12) w9 := h2
                simp only [List.foldl, Act.put, List.setIfInBounds_toArray, List.set_cons_zero, List.set_cons_succ]
                rw [e12]
                generalize V 63 = z63
                generalize V 64 = z64
                generalize V 65 = z65
                generalize V 66 = z66
                generalize V 67 = z67
                generalize V 68 = z68
                generalize V 69 = z69
                generalize V 70 = z70
                generalize V 71 = z71
                generalize V 72 = z72
                generalize V 73 = z73
                generalize V 74 = z74
                generalize V 75 = z75
                generalize V 76 = z76
                generalize V 77 = z77
                clear hk9 e12
                obtain ⟨fa, hfa⟩ : ∃ fa, decide (A = 0) = fa := ⟨_, rfl⟩
                obtain ⟨fe, hfe⟩ : ∃ fe, decide (E = tx.size) = fe := ⟨_, rfl⟩
                have PI := Lib.hid (by have := PI.out; rw [hfa, hfe] at this; exact this)
                have fa1 : ((A : Int) == 0) = fa := by rw [← hfa]; by_cases h0 : A = 0 <;> simp [h0]
                have fa2 : decide ((A : Int) = 0) = fa := by rw [← hfa]; by_cases h0 : A = 0 <;> simp [h0]
                have fe1 : ((E : Int) == (tx.size : Int)) = fe := by rw [← hfe]; by_cases h0 : E = tx.size <;> simp [h0, Int.ofNat_inj]
                have fe2 : decide ((E : Int) = (tx.size : Int)) = fe := by rw [← hfe]; by_cases h0 : E = tx.size <;> simp [h0, Int.ofNat_inj]
                have X10 := Lib.hid (hX2.out.up ((hb9.setCell (p := ⟨D2, 3, none⟩) hDn (.bool fa)).setCell (p := ⟨D2, 4, none⟩) hDn (.bool fe)))
                have SA := Lib.hid (X10.out.up (below_box (.cells #[.int .i64 (addS a3 ((k + j : Nat) : Int)), .int .i64 st, .int .i64 (0), .bool fa, .bool fe, .bool true, .string (tx.extract A E)] 28) (Nat.le_refl _)))
                have y3' := ((hX2.out.up hb9).xvar 3 _ rfl).1
                have nD2 : ¬ D2 = D := by have := lt_of_cell y0; omega
                have hrs : w.heap.size ≤ w9.heap.size := Nat.le_trans hX2.out.tk.o.b.size hb9.size
                have d0 := (var_of_heap (vs := [.int .i64 (addS a3 ((k + j : Nat) : Int)), .int .i64 st, .int .i64 (0), .bool false, .bool false, .bool true, .string (tx.extract A E)]) hDb 0 _ rfl).1
                have d1 := (var_of_heap (vs := [.int .i64 (addS a3 ((k + j : Nat) : Int)), .int .i64 st, .int .i64 (0), .bool false, .bool false, .bool true, .string (tx.extract A E)]) hDb 1 _ rfl).1
                have d2 := (var_of_heap (vs := [.int .i64 (addS a3 ((k + j : Nat) : Int)), .int .i64 st, .int .i64 (0), .bool false, .bool false, .bool true, .string (tx.extract A E)]) hDb 2 _ rfl).1
                have d3 := (var_of_heap (vs := [.int .i64 (addS a3 ((k + j : Nat) : Int)), .int .i64 st, .int .i64 (0), .bool false, .bool false, .bool true, .string (tx.extract A E)]) hDb 3 _ rfl).1
                have d4 := (var_of_heap (vs := [.int .i64 (addS a3 ((k + j : Nat) : Int)), .int .i64 st, .int .i64 (0), .bool false, .bool false, .bool true, .string (tx.extract A E)]) hDb 4 _ rfl).1
                have d5 := (var_of_heap (vs := [.int .i64 (addS a3 ((k + j : Nat) : Int)), .int .i64 st, .int .i64 (0), .bool false, .bool false, .bool true, .string (tx.extract A E)]) hDb 5 _ rfl).1
                have d6 := (var_of_heap (vs := [.int .i64 (addS a3 ((k + j : Nat) : Int)), .int .i64 st, .int .i64 (0), .bool false, .bool false, .bool true, .string (tx.extract A E)]) hDb 6 _ rfl).1
                have g3 := Lib.frozen_of_heap hDb 3
                have g4 := Lib.frozen_of_heap hDb 4
                have hmn := manyN_le OX.out.2 hz.out.1
                clear hDb y0 y1 y2 y3 v10 hfa hfe
                go_wp2_with (at_builtin; go_loud (refine wpList_append_lies _ rfl _ _ 24 rfl w.heap.size 28 i0 (partV ⟨0, 0, 0, false, false, false, ByteArray.mk #[]⟩) 7 48 Try.underlying24 HI.out.1 HI.out.2.1 HI.out.2.2.1 HI.out.2.2.2 rfl (by decide) (.slice rb (k + j) c2) (k + j) (flatP (base ++ cutP a3 ⟨false, st, true, tx⟩ (0) z k j)) rfl SA.out.tk.o.own ⟨w9.heap.size, 0, none⟩ 1 1 (cellsP ⟨addS a3 ((k + j : Nat) : Int), st, 0, fa, fe, true, tx.extract A E⟩) rfl rfl (news_box (by simp)) (cellsP_one _) (by decide) (by unfold maxLen; omega) (by omega) (by simp; omega) _ rfl ?_))
                intro gg cap3 w11 hown hgrow hat hlt9
                have X12 := Lib.hid (show Tly w [.int .i64 f, .int .i64 t, .int .i64 a0, .int .i64 a1, .int .i64 a2, .int .i64 a3, .int .i64 b0, .int .i64 b1, .int .i64 b2, .int .i64 b3, .int .i64 (z : Int), .slice (some x) len cap] (k + (j + 1)) (.slice (some ⟨gg, 0, none⟩) (k + (j + 1)) cap3) (base ++ cutP a3 ⟨false, st, true, tx⟩ (0) z k (j + 1)) D #[.bool false, .int .i64 st, .bool true, .string tx] w11 by have h0 := SA.out.push hgrow hown; rw [cutP_snoc, ← List.append_assoc, PI.out]; exact h0)
                have v10 := (X12.out.tk.var 10 _ rfl).1
                have hA2 := Lib.hid (show A + z = (j + 1) * z by rw [Nat.succ_mul, hA.out])
                clear hown hgrow hat hlt9 SA X10 d0 d1 d2 d3 d4 d5 d6 g3 g4 y3' fa1 fa2 fe1 fe2
                go_wp2
                go_roundw
                case rel => exact ⟨j + 1, A + z, cap3, _, by omega, hA2, by have := hz.out; omega, by go_num, rfl, Lib.hid (fun h => absurd rfl h), X12⟩
                case measure => simp [intOf]; have := hz.out; omega
              · have ai : (A : Int) < (tx.size : Int) := by omega
                have hyb2 : yb = true := by cases yb <;> simp_all
                subst hyb2
                have j0 : j = 0 := hj0.out (by decide)
                subst j0
                have T9 := Lib.hid (show Tlk w [.int .i64 f, .int .i64 t, .int .i64 a0, .int .i64 a1, .int .i64 a2, .int .i64 a3, .int .i64 b0, .int .i64 b1, .int .i64 b2, .int .i64 b3, .int .i64 (z : Int), .slice (some x) len cap] (k + 0) (.slice rb (k + 0) c2) (partsS a3 z false (ss.take (i + 1))) wr by rw [SN.out, addSay_no (first := a3) (size := z) (b := false) (x := ⟨true, st, true, tx⟩) (by intro h; cases h)]; have h0 := hX2.out.tk; simpa [cutP] using h0)
                go_wp2
                go_roundw
                case rel => exact ⟨i + 1, k + 0, c2, rb, by omega, by go_num, rfl, T9⟩
                case measure => simp [intOf]; omega
            · have ai : ¬ (A : Int) < (tx.size : Int) := by omega
              have hyb : yb = false := by
                apply Classical.byContradiction
                intro hne
                have := hj0.out hne
                subst this
                have h1 := hA.out
                rw [Nat.zero_mul] at h1
                have := OX.out.1
                omega
              subst hyb
              have hjm : j = manyN tx.size z := by
                have h1 : ¬ j < manyN tx.size z := fun h => hAt (by rw [hA.out]; exact (lt_many hz.out.1).2 h)
                omega
              have T9 := Lib.hid (show Tlk w [.int .i64 f, .int .i64 t, .int .i64 a0, .int .i64 a1, .int .i64 a2, .int .i64 a3, .int .i64 b0, .int .i64 b1, .int .i64 b2, .int .i64 b3, .int .i64 (z : Int), .slice (some x) len cap] (k + j) (.slice rb (k + j) c2) (partsS a3 z false (ss.take (i + 1))) wr by rw [SN.out, addSay_is (first := a3) (z := z) (b := false) (x := ⟨false, st, true, tx⟩) (q := 0) (k0 := k) (j := j) rfl rfl KL.out hjm]; exact hX2.out.tk)
              go_wp2
              go_roundw
              case rel => exact ⟨i + 1, k + j, c2, rb, by omega, by go_num, rfl, T9⟩
              case measure => simp [intOf]; omega
        | false =>
          obtain ⟨q, hq⟩ : ∃ q, beginsIn base st = q := ⟨_, rfl⟩
          have HQ := Lib.hid hq
          clear hq
          go_wp2_with fail
          refine (l31Ssn_any ra k cp base st _ TX.out.tk.o.pts).mono ?_
          rw [HQ.out]
          rintro e w2 ⟨rfl, hb2⟩
          have TX1 := Lib.hid (TX.out.up hb2)
          rw [hD] at TX1 nbx
          clear hb2 TX
          go_wp2
          go_loopw [6, 10] (fun ov av wr2 => ∃ (j A c2 : Nat) (rb : Option Addr), j ≤ manyN tx.size z ∧ Hid (A = j * z) ∧ A ≤ 100 ∧ av = .int .i64 (A : Int) ∧ ov = .slice rb (k + j) c2 ∧ Hid (yb ≠ false → j = 0) ∧ Hid (Tly w [.int .i64 f, .int .i64 t, .int .i64 a0, .int .i64 a1, .int .i64 a2, .int .i64 a3, .int .i64 b0, .int .i64 b1, .int .i64 b2, .int .i64 b3, .int .i64 (z : Int), .slice (some x) len cap] (k + j) (.slice rb (k + j) c2) (base ++ cutP a3 ⟨yb, st, false, tx⟩ (q : Int) z k j) D #[.bool yb, .int .i64 st, .bool false, .string tx] wr2)) (fun _ av _ => tx.size - (intOf av).toNat)
          case atStart => exact ⟨0, 0, cp, ra, Nat.zero_le _, Lib.hid (by simp), by omega, rfl, rfl, Lib.hid (fun _ => rfl), Lib.hid (by simpa [cutP] using TX1.out)⟩
          case round =>
            obtain ⟨j, A, c2, rb, hj, hA, hA100, rfl, rfl, hj0, hX2⟩ := hrel
            have y0 := (hX2.out.xvar 0 _ rfl).1
            have y1 := (hX2.out.xvar 1 _ rfl).1
            have y2 := (hX2.out.xvar 2 _ rfl).1
            have y3 := (hX2.out.xvar 3 _ rfl).1
            have v10 := (hX2.out.tk.var 10 _ rfl).1
            have txi : (tx.size : Int) ≤ 60 := by have := OX.out; omega
            by_cases hAt : A < tx.size
            · by_cases hyb : yb = false
              · have hyb : yb = false := by simpa using hyb
                subst hyb
                have hjm : j < manyN tx.size z := (lt_many hz.out.1).1 (by rw [← hA.out]; exact hAt)
                have ai : (A : Int) < (tx.size : Int) := by omega
                obtain ⟨E, hE⟩ : ∃ E, min (A + z) tx.size = E := ⟨_, rfl⟩
                have hAE : A ≤ E ∧ E ≤ tx.size := by omega
                have wE : min ((A : Int) + (z : Int)) (tx.size : Int) = (E : Int) := by omega
                have HE := Lib.hid hE
                have wA : IntKind.i64.wrap ((A : Int) + (z : Int)) = (A : Int) + (z : Int) := IntWalk.i64_in _ ⟨by omega, by have := hz.out; omega⟩
                have PI := Lib.hid (pieceP_is (first := a3) (yb := false) (st := st) (lo := false) (tx := tx) (q := (q : Int)) (n0 := k) hz.out.1 hA.out HE.out.symm)
                clear hE
                have nbx2 : ¬ w.heap.size = wr.heap.size := by have := lt_of_cell v10; omega
                have nDx2 : ¬ D = wr.heap.size := by have := lt_of_cell y0; omega
                go_upto_region 16 with fail
                refine region_by 17 [63, 64, 65, 66, 67, 68, 69, 70, 71, 72, 73, 74, 75, 76, 77, 12, 0] 16 15 14 [0, 1, 2, 3, 4, 5, 6, 7, 8, 9, 10, 11, 12, 13, 14, 15] [] [[], [], [1], [0, 2], [], [4], [], [], [7], [], [9], [], [], [10, 11, 12], [3, 5, 6, 8, 13], [], [15, 14]] (PcG (a3) st ((q : Int)) (k + j) A E false tx D wr.heap.size rb c2) (PcP (a3) st ((q : Int)) (k + j) false (tx.extract A E) wr.heap.size) wr.heap.size wr [63, 64, 65, 66, 67, 68, 69, 70, 71, 72, 73, 74, 75, 76, 77, 12] (by kernel_rfl) (by kernel_rfl) (by rfl) (fun k hk => Nat.lt_of_lt_of_le ((by decide : ∀ k ∈ [63, 64, 65, 66, 67, 68, 69, 70, 71, 72, 73, 74, 75, 76, 77, 12], k < 92) k hk) (by simp)) PcG.below PcP.below (Below.drew (Below.refl _ _)) (Nat.le_refl _) ?_ ?_ ?_
                · intro i b W hi hne hB hs hf hd
                  rcases (by omega : i = 0 ∨ i = 1 ∨ i = 2 ∨ i = 3 ∨ i = 4 ∨ i = 5 ∨ i = 6 ∨ i = 7 ∨ i = 8 ∨ i = 9 ∨ i = 10 ∨ i = 11 ∨ i = 12 ∨ i = 13 ∨ i = 14 ∨ i = 15 ∨ i = 16) with rfl | rfl | rfl | rfl | rfl | rfl | rfl | rfl | rfl | rfl | rfl | rfl | rfl | rfl | rfl | rfl | rfl
                  · have x5 : b.tmps[5]?.getD undef = .int .i64 (a3) := raw_of (k := 5) ((hf 5 (by decide)).trans rfl)
                    refine wpOp_plain (by rfl) (by rfl) (Oper.wp_mono (K := fun b' w' => b' = b.put (some 63) (.int .i64 (a3)) ∧ w' = W) ?_ ?_)
                    · rintro b' w' ⟨rfl, rfl⟩
                      exact ⟨_, rfl, rfl, Below.refl _ _⟩
                    · clear hd hs
                      go_simp
                  · have x6 : b.tmps[6]?.getD undef = .slice rb (k + j) c2 := raw_of (k := 6) ((hf 6 (by decide)).trans rfl)
                    refine wpOp_plain (by rfl) (by rfl) (Oper.wp_mono (K := fun b' w' => b' = b.put (some 64) (.slice rb (k + j) c2) ∧ w' = W) ?_ ?_)
                    · rintro b' w' ⟨rfl, rfl⟩
                      exact ⟨_, rfl, rfl, Below.refl _ _⟩
                    · clear hd hs
                      go_simp
                  · have x64 : b.tmps[64]?.getD undef = .slice rb (k + j) c2 := raw_of (k := 64) (hd 1 (by kernel_rfl))
                    refine wpOp_plain (by rfl) (by rfl) (Oper.wp_mono (K := fun b' w' => b' = b.put (some 65) (.int .i64 ((k + j : Nat) : Int)) ∧ w' = W) ?_ ?_)
                    · rintro b' w' ⟨rfl, rfl⟩
                      exact ⟨_, rfl, rfl, Below.refl _ _⟩
                    · clear hd hs
                      go_simp
                  · have x63 : b.tmps[63]?.getD undef = .int .i64 (a3) := raw_of (k := 63) (hd 0 (by kernel_rfl))
                    have x65 : b.tmps[65]?.getD undef = .int .i64 ((k + j : Nat) : Int) := raw_of (k := 65) (hd 2 (by kernel_rfl))
                    refine wpOp_plain (by rfl) (by rfl) ?_
                    clear hd hs
                    go_simp
                    go_at_call 39
                    refine (l3Add_any (a3) _ _ HSA.out).mono ?_
                    rintro e w' ⟨rfl, rfl⟩
                    exact ⟨_, rfl, rfl, Below.refl _ _⟩
                  · have x8 : b.tmps[8]?.getD undef = .pointer (some ⟨D, 0, none⟩) := raw_of (k := 8) ((hf 8 (by decide)).trans rfl)
                    refine wpOp_plain (by rfl) (by rfl) (Oper.wp_mono (K := fun b' w' => b' = b.put (some 67) (.pointer (some ⟨D, 1, none⟩)) ∧ w' = W) ?_ ?_)
                    · rintro b' w' ⟨rfl, rfl⟩
                      exact ⟨_, rfl, rfl, Below.refl _ _⟩
                    · clear hd hs
                      go_simp
                  · have x67 : b.tmps[67]?.getD undef = .pointer (some ⟨D, 1, none⟩) := raw_of (k := 67) (hd 4 (by kernel_rfl))
                    have cy1 := (hB.cell (World.block_lt_of_cell? _ _ y1)).trans y1
                    refine wpOp_plain (by rfl) (by rfl) (Oper.wp_mono (K := fun b' w' => b' = b.put (some 68) (.int .i64 st) ∧ w' = W) ?_ ?_)
                    · rintro b' w' ⟨rfl, rfl⟩
                      exact ⟨_, rfl, rfl, Below.refl _ _⟩
                    · clear hd hs
                      go_simp
                  · have x9 : b.tmps[9]?.getD undef = .int .i64 ((q : Int)) := raw_of (k := 9) ((hf 9 (by decide)).trans rfl)
                    refine wpOp_plain (by rfl) (by rfl) (Oper.wp_mono (K := fun b' w' => b' = b.put (some 69) (.int .i64 ((q : Int))) ∧ w' = W) ?_ ?_)
                    · rintro b' w' ⟨rfl, rfl⟩
                      exact ⟨_, rfl, rfl, Below.refl _ _⟩
                    · clear hd hs
                      go_simp
                  · have x8 : b.tmps[8]?.getD undef = .pointer (some ⟨D, 0, none⟩) := raw_of (k := 8) ((hf 8 (by decide)).trans rfl)
                    refine wpOp_plain (by rfl) (by rfl) (Oper.wp_mono (K := fun b' w' => b' = b.put (some 70) (.pointer (some ⟨D, 2, none⟩)) ∧ w' = W) ?_ ?_)
                    · rintro b' w' ⟨rfl, rfl⟩
                      exact ⟨_, rfl, rfl, Below.refl _ _⟩
                    · clear hd hs
                      go_simp
                  · have x70 : b.tmps[70]?.getD undef = .pointer (some ⟨D, 2, none⟩) := raw_of (k := 70) (hd 7 (by kernel_rfl))
                    have cy2 := (hB.cell (World.block_lt_of_cell? _ _ y2)).trans y2
                    refine wpOp_plain (by rfl) (by rfl) (Oper.wp_mono (K := fun b' w' => b' = b.put (some 71) (.bool false) ∧ w' = W) ?_ ?_)
                    · rintro b' w' ⟨rfl, rfl⟩
                      exact ⟨_, rfl, rfl, Below.refl _ _⟩
                    · clear hd hs
                      go_simp
                  · have x8 : b.tmps[8]?.getD undef = .pointer (some ⟨D, 0, none⟩) := raw_of (k := 8) ((hf 8 (by decide)).trans rfl)
                    refine wpOp_plain (by rfl) (by rfl) (Oper.wp_mono (K := fun b' w' => b' = b.put (some 72) (.pointer (some ⟨D, 3, none⟩)) ∧ w' = W) ?_ ?_)
                    · rintro b' w' ⟨rfl, rfl⟩
                      exact ⟨_, rfl, rfl, Below.refl _ _⟩
                    · clear hd hs
                      go_simp
                  · have x72 : b.tmps[72]?.getD undef = .pointer (some ⟨D, 3, none⟩) := raw_of (k := 72) (hd 9 (by kernel_rfl))
                    have cy3 := (hB.cell (World.block_lt_of_cell? _ _ y3)).trans y3
                    refine wpOp_plain (by rfl) (by rfl) (Oper.wp_mono (K := fun b' w' => b' = b.put (some 73) (.string tx) ∧ w' = W) ?_ ?_)
                    · rintro b' w' ⟨rfl, rfl⟩
                      exact ⟨_, rfl, rfl, Below.refl _ _⟩
                    · clear hd hs
                      go_simp
                  · have x10 : b.tmps[10]?.getD undef = .int .i64 (A : Int) := raw_of (k := 10) ((hf 10 (by decide)).trans rfl)
                    refine wpOp_plain (by rfl) (by rfl) (Oper.wp_mono (K := fun b' w' => b' = b.put (some 74) (.int .i64 (A : Int)) ∧ w' = W) ?_ ?_)
                    · rintro b' w' ⟨rfl, rfl⟩
                      exact ⟨_, rfl, rfl, Below.refl _ _⟩
                    · clear hd hs
                      go_simp
                  · have x11 : b.tmps[11]?.getD undef = .int .i64 (E : Int) := raw_of (k := 11) ((hf 11 (by decide)).trans rfl)
                    refine wpOp_plain (by rfl) (by rfl) (Oper.wp_mono (K := fun b' w' => b' = b.put (some 75) (.int .i64 (E : Int)) ∧ w' = W) ?_ ?_)
                    · rintro b' w' ⟨rfl, rfl⟩
                      exact ⟨_, rfl, rfl, Below.refl _ _⟩
                    · clear hd hs
                      go_simp
                  · have x73 : b.tmps[73]?.getD undef = .string tx := raw_of (k := 73) (hd 10 (by kernel_rfl))
                    have x74 : b.tmps[74]?.getD undef = .int .i64 (A : Int) := raw_of (k := 74) (hd 11 (by kernel_rfl))
                    have x75 : b.tmps[75]?.getD undef = .int .i64 (E : Int) := raw_of (k := 75) (hd 12 (by kernel_rfl))
                    refine wpOp_plain (by rfl) (by rfl) (Oper.wp_mono (K := fun b' w' => b' = b.put (some 76) (.string (tx.extract A E)) ∧ w' = W) ?_ ?_)
                    · rintro b' w' ⟨rfl, rfl⟩
                      exact ⟨_, rfl, rfl, Below.refl _ _⟩
                    · clear hd hs
                      go_simp
                  · have x66 : b.tmps[66]?.getD undef = .int .i64 (addS a3 ((k + j : Nat) : Int)) := raw_of (k := 66) (hd 3 (by kernel_rfl))
                    have x68 : b.tmps[68]?.getD undef = .int .i64 st := raw_of (k := 68) (hd 5 (by kernel_rfl))
                    have x69 : b.tmps[69]?.getD undef = .int .i64 ((q : Int)) := raw_of (k := 69) (hd 6 (by kernel_rfl))
                    have x71 : b.tmps[71]?.getD undef = .bool false := raw_of (k := 71) (hd 8 (by kernel_rfl))
                    have x76 : b.tmps[76]?.getD undef = .string (tx.extract A E) := raw_of (k := 76) (hd 13 (by kernel_rfl))
                    refine wpOp_plain (by rfl) (by rfl) (Oper.wp_mono (K := fun b' w' => b' = b.put (some 77) (.agg #[.int .i64 (addS a3 ((k + j : Nat) : Int)), .int .i64 st, .int .i64 ((q : Int)), .bool false, .bool false, .bool false, .string (tx.extract A E)]) ∧ w' = W) ?_ ?_)
                    · rintro b' w' ⟨rfl, rfl⟩
                      exact ⟨_, rfl, rfl, Below.refl _ _⟩
                    · clear hd hs
                      go_simp
                  · have hle : wr.heap.size ≤ W.heap.size := hB.size
                    refine wpOp_plain (by rfl) (by rfl) (Oper.wp_mono (K := fun b' w' => b' = b.put (some 12) (.pointer (some ⟨W.heap.size, 0, none⟩)) ∧ w' = W.alloc (.cells #[.int .i64 0, .int .i64 0, .int .i64 0, .bool false, .bool false, .bool false, .string (ByteArray.mk #[])] 28)) ?_ ?_)
                    · rintro b' w' ⟨rfl, rfl⟩
                      exact ⟨_, rfl, ⟨W.heap.size, _, _, _, _, _, _, _, rfl, hle, heap_alloc_new W _⟩, below_box _ (Nat.le_refl _)⟩
                    · clear hd hs
                      go_simp
                  · exact absurd rfl hne
                · intro b W hB hf hga hgv
                  obtain ⟨D2, u0, u1, u2, u3, u4, u5, u6, h12, hDn, hDb⟩ : PcB wr.heap.size (valsOf b 12) W := PcG.box hga
                  have x12 : b.tmps[12]?.getD undef = .pointer (some ⟨D2, 0, none⟩) := raw_of (k := 12) (h12)
                  have x77 : b.tmps[77]?.getD undef = .agg #[.int .i64 (addS a3 ((k + j : Nat) : Int)), .int .i64 st, .int .i64 ((q : Int)), .bool false, .bool false, .bool false, .string (tx.extract A E)] := raw_of (k := 77) (hgv)
                  have k0 := Lib.cell_of_heap hDb 0
                  have q0 := Lib.frozen_of_heap hDb 0
                  have k1 := Lib.cell_of_heap hDb 1
                  have q1 := Lib.frozen_of_heap hDb 1
                  have k2 := Lib.cell_of_heap hDb 2
                  have q2 := Lib.frozen_of_heap hDb 2
                  have k3 := Lib.cell_of_heap hDb 3
                  have q3 := Lib.frozen_of_heap hDb 3
                  have k4 := Lib.cell_of_heap hDb 4
                  have q4 := Lib.frozen_of_heap hDb 4
                  have k5 := Lib.cell_of_heap hDb 5
                  have q5 := Lib.frozen_of_heap hDb 5
                  have k6 := Lib.cell_of_heap hDb 6
                  have q6 := Lib.frozen_of_heap hDb 6
                  change W.cell? _ = some u0 at k0
                  change W.cell? _ = some u1 at k1
                  change W.cell? _ = some u2 at k2
                  change W.cell? _ = some u3 at k3
                  change W.cell? _ = some u4 at k4
                  change W.cell? _ = some u5 at k5
                  change W.cell? _ = some u6 at k6
                  refine wpOp_plain (by rfl) (by rfl) (Oper.wp_mono (K := fun b' w' => b' = b ∧ w' = (((((((W.setCell ⟨D2, 0, none⟩ (.int .i64 (addS a3 ((k + j : Nat) : Int)))).setCell ⟨D2, 1, none⟩ (.int .i64 st)).setCell ⟨D2, 2, none⟩ (.int .i64 ((q : Int)))).setCell ⟨D2, 3, none⟩ (.bool false)).setCell ⟨D2, 4, none⟩ (.bool false)).setCell ⟨D2, 5, none⟩ (.bool false)).setCell ⟨D2, 6, none⟩ (.string (tx.extract A E)))) ?_ ?_)
                  · rintro b' w' ⟨rfl, rfl⟩
                    refine ⟨rfl, ?_, ?_, ?_⟩
                    · show PcP _ _ _ _ _ _ _ (valsOf b' 12) _
                      rw [h12]
                      exact PcP.put hDn hDb
                    · exact PcP.under hB hDn
                    · intro k' v hk' hkeep; exact absurd hkeep (by simp)
                  · clear h12
                    go_simp
                intro V w9 hb9 hk9 h2
                obtain ⟨D2, e12, hDn, hDb⟩ : PcP (a3) st ((q : Int)) (k + j) false (tx.extract A E) wr.heap.size (V 12) w9 := h2
                simp only [List.foldl, Act.put, List.setIfInBounds_toArray, List.set_cons_zero, List.set_cons_succ]
                rw [e12]
                generalize V 63 = z63
                generalize V 64 = z64
                generalize V 65 = z65
                generalize V 66 = z66
                generalize V 67 = z67
                generalize V 68 = z68
                generalize V 69 = z69
                generalize V 70 = z70
                generalize V 71 = z71
                generalize V 72 = z72
                generalize V 73 = z73
                generalize V 74 = z74
                generalize V 75 = z75
                generalize V 76 = z76
                generalize V 77 = z77
                clear hk9 e12
                obtain ⟨fa, hfa⟩ : ∃ fa, decide (A = 0) = fa := ⟨_, rfl⟩
                obtain ⟨fe, hfe⟩ : ∃ fe, decide (E = tx.size) = fe := ⟨_, rfl⟩
                have PI := Lib.hid (by have := PI.out; rw [hfa, hfe] at this; exact this)
                have fa1 : ((A : Int) == 0) = fa := by rw [← hfa]; by_cases h0 : A = 0 <;> simp [h0]
                have fa2 : decide ((A : Int) = 0) = fa := by rw [← hfa]; by_cases h0 : A = 0 <;> simp [h0]
                have fe1 : ((E : Int) == (tx.size : Int)) = fe := by rw [← hfe]; by_cases h0 : E = tx.size <;> simp [h0, Int.ofNat_inj]
                have fe2 : decide ((E : Int) = (tx.size : Int)) = fe := by rw [← hfe]; by_cases h0 : E = tx.size <;> simp [h0, Int.ofNat_inj]
                have X10 := Lib.hid (hX2.out.up ((hb9.setCell (p := ⟨D2, 3, none⟩) hDn (.bool fa)).setCell (p := ⟨D2, 4, none⟩) hDn (.bool fe)))
                have SA := Lib.hid (X10.out.up (below_box (.cells #[.int .i64 (addS a3 ((k + j : Nat) : Int)), .int .i64 st, .int .i64 ((q : Int)), .bool fa, .bool fe, .bool false, .string (tx.extract A E)] 28) (Nat.le_refl _)))
                have y3' := ((hX2.out.up hb9).xvar 3 _ rfl).1
                have nD2 : ¬ D2 = D := by have := lt_of_cell y0; omega
                have hrs : w.heap.size ≤ w9.heap.size := Nat.le_trans hX2.out.tk.o.b.size hb9.size
                have d0 := (var_of_heap (vs := [.int .i64 (addS a3 ((k + j : Nat) : Int)), .int .i64 st, .int .i64 ((q : Int)), .bool false, .bool false, .bool false, .string (tx.extract A E)]) hDb 0 _ rfl).1
                have d1 := (var_of_heap (vs := [.int .i64 (addS a3 ((k + j : Nat) : Int)), .int .i64 st, .int .i64 ((q : Int)), .bool false, .bool false, .bool false, .string (tx.extract A E)]) hDb 1 _ rfl).1
                have d2 := (var_of_heap (vs := [.int .i64 (addS a3 ((k + j : Nat) : Int)), .int .i64 st, .int .i64 ((q : Int)), .bool false, .bool false, .bool false, .string (tx.extract A E)]) hDb 2 _ rfl).1
                have d3 := (var_of_heap (vs := [.int .i64 (addS a3 ((k + j : Nat) : Int)), .int .i64 st, .int .i64 ((q : Int)), .bool false, .bool false, .bool false, .string (tx.extract A E)]) hDb 3 _ rfl).1
                have d4 := (var_of_heap (vs := [.int .i64 (addS a3 ((k + j : Nat) : Int)), .int .i64 st, .int .i64 ((q : Int)), .bool false, .bool false, .bool false, .string (tx.extract A E)]) hDb 4 _ rfl).1
                have d5 := (var_of_heap (vs := [.int .i64 (addS a3 ((k + j : Nat) : Int)), .int .i64 st, .int .i64 ((q : Int)), .bool false, .bool false, .bool false, .string (tx.extract A E)]) hDb 5 _ rfl).1
                have d6 := (var_of_heap (vs := [.int .i64 (addS a3 ((k + j : Nat) : Int)), .int .i64 st, .int .i64 ((q : Int)), .bool false, .bool false, .bool false, .string (tx.extract A E)]) hDb 6 _ rfl).1
                have g3 := Lib.frozen_of_heap hDb 3
                have g4 := Lib.frozen_of_heap hDb 4
                have hmn := manyN_le OX.out.2 hz.out.1
                clear hDb y0 y1 y2 y3 v10 hfa hfe
                go_wp2_with (at_builtin; go_loud (refine wpList_append_lies _ rfl _ _ 24 rfl w.heap.size 28 i0 (partV ⟨0, 0, 0, false, false, false, ByteArray.mk #[]⟩) 7 48 Try.underlying24 HI.out.1 HI.out.2.1 HI.out.2.2.1 HI.out.2.2.2 rfl (by decide) (.slice rb (k + j) c2) (k + j) (flatP (base ++ cutP a3 ⟨false, st, false, tx⟩ ((q : Int)) z k j)) rfl SA.out.tk.o.own ⟨w9.heap.size, 0, none⟩ 1 1 (cellsP ⟨addS a3 ((k + j : Nat) : Int), st, (q : Int), fa, fe, false, tx.extract A E⟩) rfl rfl (news_box (by simp)) (cellsP_one _) (by decide) (by unfold maxLen; omega) (by omega) (by simp; omega) _ rfl ?_))
                intro gg cap3 w11 hown hgrow hat hlt9
                have X12 := Lib.hid (show Tly w [.int .i64 f, .int .i64 t, .int .i64 a0, .int .i64 a1, .int .i64 a2, .int .i64 a3, .int .i64 b0, .int .i64 b1, .int .i64 b2, .int .i64 b3, .int .i64 (z : Int), .slice (some x) len cap] (k + (j + 1)) (.slice (some ⟨gg, 0, none⟩) (k + (j + 1)) cap3) (base ++ cutP a3 ⟨false, st, false, tx⟩ ((q : Int)) z k (j + 1)) D #[.bool false, .int .i64 st, .bool false, .string tx] w11 by have h0 := SA.out.push hgrow hown; rw [cutP_snoc, ← List.append_assoc, PI.out]; exact h0)
                have v10 := (X12.out.tk.var 10 _ rfl).1
                have hA2 := Lib.hid (show A + z = (j + 1) * z by rw [Nat.succ_mul, hA.out])
                clear hown hgrow hat hlt9 SA X10 d0 d1 d2 d3 d4 d5 d6 g3 g4 y3' fa1 fa2 fe1 fe2
                go_wp2
                go_roundw
                case rel => exact ⟨j + 1, A + z, cap3, _, by omega, hA2, by have := hz.out; omega, by go_num, rfl, Lib.hid (fun h => absurd rfl h), X12⟩
                case measure => simp [intOf]; have := hz.out; omega
              · have ai : (A : Int) < (tx.size : Int) := by omega
                have hyb2 : yb = true := by cases yb <;> simp_all
                subst hyb2
                have j0 : j = 0 := hj0.out (by decide)
                subst j0
                have T9 := Lib.hid (show Tlk w [.int .i64 f, .int .i64 t, .int .i64 a0, .int .i64 a1, .int .i64 a2, .int .i64 a3, .int .i64 b0, .int .i64 b1, .int .i64 b2, .int .i64 b3, .int .i64 (z : Int), .slice (some x) len cap] (k + 0) (.slice rb (k + 0) c2) (partsS a3 z false (ss.take (i + 1))) wr by rw [SN.out, addSay_no (first := a3) (size := z) (b := false) (x := ⟨true, st, false, tx⟩) (by intro h; cases h)]; have h0 := hX2.out.tk; simpa [cutP] using h0)
                go_wp2
                go_roundw
                case rel => exact ⟨i + 1, k + 0, c2, rb, by omega, by go_num, rfl, T9⟩
                case measure => simp [intOf]; omega
            · have ai : ¬ (A : Int) < (tx.size : Int) := by omega
              have hyb : yb = false := by
                apply Classical.byContradiction
                intro hne
                have := hj0.out hne
                subst this
                have h1 := hA.out
                rw [Nat.zero_mul] at h1
                have := OX.out.1
                omega
              subst hyb
              have hjm : j = manyN tx.size z := by
                have h1 : ¬ j < manyN tx.size z := fun h => hAt (by rw [hA.out]; exact (lt_many hz.out.1).2 h)
                omega
              have T9 := Lib.hid (show Tlk w [.int .i64 f, .int .i64 t, .int .i64 a0, .int .i64 a1, .int .i64 a2, .int .i64 a3, .int .i64 b0, .int .i64 b1, .int .i64 b2, .int .i64 b3, .int .i64 (z : Int), .slice (some x) len cap] (k + j) (.slice rb (k + j) c2) (partsS a3 z false (ss.take (i + 1))) wr by rw [SN.out, addSay_is (first := a3) (z := z) (b := false) (x := ⟨false, st, false, tx⟩) (q := (q : Int)) (k0 := k) (j := j) rfl (by unfold ssnOf; rw [if_neg (by intro h; cases h)]; exact congrArg _ HQ.out) KL.out hjm]; exact hX2.out.tk)
              go_wp2
              go_roundw
              case rel => exact ⟨i + 1, k + j, c2, rb, by omega, by go_num, rfl, T9⟩
              case measure => simp [intOf]; omega
      · obtain rfl : i = len := by omega
        have E9 := Lib.hid (show partsT ⟨f, t, ⟨a0, a1, a2, a3⟩, ⟨b0, b1, b2, b3⟩, (z : Int), ss⟩ false = partsS a3 z false (ss.take i) by rw [List.take_of_length_le (by omega)]; simp [partsT, sideI])
        have v11 := (hT.out.var 11 _ rfl).1
        have O9 := hT.out.o
        go_wp2
        go_ret
        exact ⟨ra, k, cp, rfl, by rw [E9.out]; exact O9⟩

end Go.Proofs.Ytncbgejggfkdmaa

/- What a drawing function leaves: the blocks below B, and of those that were there all but the reader's. -/
namespace Go.Proofs.Ytncbgejggfkdmaa
open Go.RowKit

/-- From w to w' nothing below B has turned, and of the blocks that w has none but block r. -/
structure Fr (B r : Nat) (w w' : World) : Prop where
  below : Below B w w'
  aside : Aside w.heap.size r w w'
theorem Fr.refl (B r : Nat) (w : World) : Fr B r w w := ⟨Below.refl _ _, Aside.refl _ _ _⟩
theorem Fr.size {B r : Nat} {w a : World} (h : Fr B r w a) : w.heap.size ≤ a.heap.size := h.below.size
theorem Fr.only {B r : Nat} {w a b : World} (h : Fr B r w a) (hB : B ≤ r) (ho : Only r a b) : Fr B r w b := ⟨h.below.trans (ho.below hB), h.aside.trans ho.aside⟩
theorem Fr.alloc {B r : Nat} {w a : World} (h : Fr B r w a) (hB : B ≤ w.heap.size) (o : Obj) : Fr B r w (a.alloc o) :=
  ⟨h.below.alloc (Nat.le_trans hB h.size) o, h.aside.trans (aside_alloc a o h.size)⟩
theorem Fr.set {B r d i : Nat} {w a : World} (h : Fr B r w a) (hd : w.heap.size ≤ d) (hB : B ≤ w.heap.size) (v : Value) : Fr B r w (a.setCell ⟨d, i, none⟩ v) :=
  ⟨h.below.setCell (Nat.le_trans hB hd) v, h.aside.trans (below_aside ((Below.refl d a).setCell (p := ⟨d, i, none⟩) (Nat.le_refl d) v) hd)⟩
theorem Fr.drewN {B r : Nat} {w a : World} (h : Fr B r w a) (q : Nat) : Fr B r w (a.drewN q) := ⟨below_drewN h.below q, h.aside.trans (below_aside (below_drewN (Below.refl a.heap.size a) q) h.size)⟩
theorem Fr.step {B r : Nat} {w a b : World} (h : Fr B r w a) (hb : Below B a b) (ha : Aside a.heap.size r a b) : Fr B r w b := ⟨h.below.trans hb, h.aside.trans (ha.less h.size)⟩
theorem Fr.trans {B r : Nat} {w a b : World} (h : Fr B r w a) (k : Fr B r a b) : Fr B r w b := h.step k.below k.aside
/-- A callee that touches nothing that was there. -/
theorem Fr.grow {B r : Nat} {w a b : World} (h : Fr B r w a) (hB : B ≤ w.heap.size) (hb : Below a.heap.size a b) : Fr B r w b :=
  h.step (hb.mono (Nat.le_trans hB h.size)) (below_aside hb (Nat.le_refl _))
theorem Rd.far {B r m d : Nat} {w : World} (h : Rd B r m w) (hd : r < d) (i : Nat) (v : Value) : Rd B r m (w.setCell ⟨d, i, none⟩ v) :=
  h.keep ((Below.refl (r + 1) w).setCell (p := ⟨d, i, none⟩) hd v) (Nat.lt_succ_self r)

end Go.Proofs.Ytncbgejggfkdmaa
