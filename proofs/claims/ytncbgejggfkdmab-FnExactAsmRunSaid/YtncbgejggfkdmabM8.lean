/- Texts that a proof needs, merged: K172, K173, K187, K169. -/
import Derived.Test.YtncbgejggfkdmabM7
import Derived.Deep.RegionLaw
import Derived.Deep.SlicePairs
import Derived.Lib.SmallJoins
import Derived.ProofKit
import Derived.OpenShut

/- The contract of the program's AsmRun. -/
namespace Go.Proofs.Ytncbgejggfkdmab
open Go.RowKit Go.PlainAid

def runV (n : Int) (ds : List Part) : List Msg := if 1 ≤ n ∧ n ≤ 4 then runL n.toNat ds else []
/-- The messages of a list of parts, in a row of one's own. -/
def RunAns (n : Int) (ds : List Part) (w : World) (e : Ending) (w' : World) : Prop :=
  ∃ a k c, e = .returned (.slice a k c) ∧ w'.ownsRow w.heap.size 46 4 (.slice a k c) k (flatM (runV n ds)) ∧ Below w.heap.size w w'
theorem setKind {base e size n D e2 i : Nat} {v : Value} {xs : List Value} {c : Array Value} {W : World} (h : W.ownsRow base e size v n xs) (hD : W.heap[D]? = some (.cells c e2 (0, 0))) (hne : e ≠ e2) (u : Value) : (W.setCell ⟨D, i, none⟩ u).ownsRow base e size v n xs := by
  refine ⟨h.1, ?_⟩
  rcases h.2 with h1 | ⟨g, cap, cur, h1, h2, h3, h4⟩
  · exact .inl h1
  · exact .inr ⟨g, cap, cur, h1, h2, by rw [Below.heap_setCell _ _ _ _ (kind_ne h3 hD hne)]; exact h3, h4⟩
theorem ownB {w w' : World} {base e size n : Nat} {v : Value} {xs : List Value} (h : w.ownsRow base e size v n xs) (hb : Below w.heap.size w w') : w'.ownsRow base e size v n xs := row_same h fun x _ h2 => hb.block x h2
/-- Another kind of row has grown. -/
theorem ownGrown {base e size n r e2 : Nat} {c2 : Array Value} {v : Value} {xs : List Value} {w w' : World} (h : w.ownsRow base e size v n xs) (hg : w.grownBy w' (some r)) (hk : w.heap[r]? = some (.cells c2 e2 (0, 0))) (hne : e ≠ e2) : w'.ownsRow base e size v n xs := by
  refine ⟨h.1, ?_⟩
  rcases h.2 with h1 | ⟨g, cap, cur, h1, h2, h3, h4⟩
  · exact .inl h1
  · exact .inr ⟨g, cap, cur, h1, h2, by rw [hg.block g (Array.getElem?_eq_some_iff.1 h3).1 fun hh => kind_ne h3 hk hne (by simpa using hh)]; exact h3, h4⟩
theorem ownGrownO {base base2 e size size2 n n2 e2 : Nat} {v v2 : Value} {xs ys : List Value} {w w' : World} (h : w.ownsRow base e size v n xs) (hg : w.grownBy w' v2.ownBlock) (h2 : w.ownsRow base2 e2 size2 v2 n2 ys) (hne : e ≠ e2) : w'.ownsRow base e size v n xs := by
  rcases h2.2 with ⟨rfl, _⟩ | ⟨g, cap, cur, rfl, _, h3, _⟩
  · exact row_same h fun x _ hx => hg.block x hx (by simp [Value.ownBlock])
  · exact ownGrown h hg h3 hne
/-- The assembly of a run, in a variable at D. -/
structure Ar (w : World) (D : Nat) (a1 : Option Addr) (n1 c1 : Nat) (a2 : Option Addr) (n2 c2 : Nat) (next : List Int) (ps : List Part) (W : World) : Prop where
  dv : W.heap[D]? = some (.cells #[.slice a1 n1 c1, .slice a2 n2 c2] 27 (0, 0))
  n : W.ownsRow w.heap.size 3 1 (.slice a1 n1 c1) n1 (flatN next)
  p : W.ownsRow w.heap.size 43 7 (.slice a2 n2 c2) n2 (flatP ps)
  b : Below w.heap.size w W
  lo : w.heap.size ≤ D
section
variable {w W W' : World} {D n1 c1 n2 c2 m1 d1 m2 d2 B : Nat} {a1 a2 b1 b2 : Option Addr} {next next2 : List Int} {ps ps2 : List Part}
theorem Ar.zD (h : Ar w D a1 n1 c1 a2 n2 c2 next ps W) : D < W.heap.size := (Array.getElem?_eq_some_iff.1 h.dv).1
theorem Ar.var (h : Ar w D a1 n1 c1 a2 n2 c2 next ps W) : VarN D [.slice a1 n1 c1, .slice a2 n2 c2] W := var_of_heap h.dv
theorem Ar.step (h : Ar w D a1 n1 c1 a2 n2 c2 next ps W) (hb : Below W.heap.size W W') : Ar w D a1 n1 c1 a2 n2 c2 next ps W' :=
  ⟨(hb.block D h.zD).trans h.dv, ownB h.n hb, ownB h.p hb, h.b.trans (hb.mono h.b.size), h.lo⟩
theorem Ar.store (h : Ar w D a1 n1 c1 a2 n2 c2 next ps W) (h1 : W.ownsRow w.heap.size 3 1 (.slice b1 m1 d1) m1 (flatN next2)) (h2 : W.ownsRow w.heap.size 43 7 (.slice b2 m2 d2) m2 (flatP ps2)) :
    Ar w D b1 m1 d1 b2 m2 d2 next2 ps2 ((W.setCell ⟨D, 0, none⟩ (.slice b1 m1 d1)).setCell ⟨D, 1, none⟩ (.slice b2 m2 d2)) := by
  have e1 := heap_setCell_same W D 0 _ _ (.slice b1 m1 d1) h.dv
  exact ⟨box_set h.dv _ _, setKind (setKind h1 h.dv (by decide) _) e1 (by decide) _, setKind (setKind h2 h.dv (by decide) _) e1 (by decide) _, (h.b.setCell (p := ⟨D, 0, none⟩) h.lo _).setCell (p := ⟨D, 1, none⟩) h.lo _, h.lo⟩
theorem Ar.keep {base size n : Nat} {v : Value} {xs : List Value} (h : Ar w D a1 n1 c1 a2 n2 c2 next ps W) (h1 : W.ownsRow base 46 size v n xs) (x y : Value) : ((W.setCell ⟨D, 0, none⟩ x).setCell ⟨D, 1, none⟩ y).ownsRow base 46 size v n xs :=
  setKind (setKind h1 h.dv (by decide) _) (heap_setCell_same W D 0 _ _ x h.dv) (by decide) _
theorem Ar.grow {base n : Nat} {v : Value} {xs : List Value} (h : Ar w D a1 n1 c1 a2 n2 c2 next ps W) (hg : W.grownBy W' v.ownBlock) (h2 : W.ownsRow base 46 4 v n xs) (hB : w.heap.size ≤ base) : Ar w D a1 n1 c1 a2 n2 c2 next ps W' := by
  refine ⟨?_, ownGrownO h.n hg h2 (by decide), ownGrownO h.p hg h2 (by decide), Below.grown h.b hg h.b.size fun x hx => Nat.le_trans hB (own_ge h2 hx), h.lo⟩
  rcases h2.2 with ⟨rfl, _⟩ | ⟨g, cap, cur, rfl, _, h3, _⟩
  · exact (hg.block D h.zD (by simp [Value.ownBlock])).trans h.dv
  · exact (hg.block D h.zD fun hh => kind_ne h.dv h3 (by decide) (by simpa [Value.ownBlock] using hh)).trans h.dv
end
theorem runV_yes {m : Nat} (ds : List Part) (h : 1 ≤ m ∧ m ≤ 4) : runV (m : Int) ds = runL m ds := by
  unfold runV
  rw [if_pos (by omega)]
  rfl
theorem ok_keys {next : List Int} {ps : List Part} (h : AsmOk next ps) : ∀ p ∈ ps, Key p.tsn := fun p hp => by
  have := (h.ok p hp).1.1
  unfold Key
  omega

set_option maxRecDepth 8000 in
set_option maxHeartbeats 8000000 in
theorem asmRun_any (n : Int) (a : Option Addr) (len cap : Nat) (ds : List Part) (w : World) (h : Pts w a len cap ds) (hz : len ≤ 1048576) :
    Calls Try.prog 20 #[.int .i64 n, .slice a len cap] w (RunAns n ds w) := by
  have hl := h.length
  have HP := Lib.hid h
  have LD := Lib.hid hl
  clear h hl
  by_cases hn : 1 ≤ n ∧ n ≤ 4
  · obtain ⟨m, rfl⟩ : ∃ m : Nat, n = (m : Int) := ⟨n.toNat, by omega⟩
    have HM := Lib.hid (show 1 ≤ m ∧ m ≤ 4 by omega)
    have RV := Lib.hid (runV_yes ds HM.out)
    clear hn
    go_enter Try.func20, Try.ntmps20
    go_wp2_with fail
    refine (asmNew_at m _ HM.out).mono ?_
    rintro e w1 ⟨g, p, rfl, o1, o2, hb1⟩
    have A1 := Lib.hid (show Ar w w1.heap.size (some ⟨g, 0, none⟩) m m p 0 0 (List.replicate m 0) [] (w1.alloc (.cells #[.slice (some ⟨g, 0, none⟩) m m, .slice p 0 0] 27)) from ⟨heap_alloc_new w1 _, o1.alloc _, o2.alloc _, hb1.alloc hb1.size _, hb1.size⟩)
    have O1 := Lib.hid (World.ownsRow_nil (w1.alloc (.cells #[.slice (some ⟨g, 0, none⟩) m m, .slice p 0 0] 27)) w.heap.size 46 4)
    have G0 := Lib.hid (show goP m (ds.take 0) (List.replicate m 0) [] = ⟨List.replicate m 0, [], []⟩ from rfl)
    clear o1 o2 hb1
    go_wp2
    obtain ⟨D, hD⟩ : ∃ D, w1.heap.size = D := ⟨_, rfl⟩
    rw [hD] at A1 ⊢
    clear hD
    go_loopw [22, 7] (fun i o wr => ∃ (j : Nat) (sa : Option Addr) (k cap3 : Nat) (next : List Int) (ps : List Part) (ms : List Msg) (a1 : Option Addr) (n1 c1 : Nat) (a2 : Option Addr) (n2 c2 : Nat), j ≤ len ∧ i = .int .i64 j ∧ o = .slice sa k cap3 ∧ k ≤ j ∧
      Hid (k = ms.length ∧ ms.length + ps.length ≤ j) ∧ Hid (goP m (ds.take j) (List.replicate m 0) [] = ⟨next, ps, ms⟩) ∧ Hid (Ar w D a1 n1 c1 a2 n2 c2 next ps wr) ∧ Hid (wr.ownsRow w.heap.size 46 4 (.slice sa k cap3) k (flatM ms))) (fun i _ _ => len - (intOf i).toNat)
    case atStart => exact ⟨0, none, 0, 0, List.replicate m 0, [], [], _, _, _, _, _, _, Nat.zero_le _, rfl, rfl, Nat.le_refl _, Lib.hid ⟨rfl, Nat.le_refl _⟩, G0, A1, O1⟩
    case round =>
      obtain ⟨j, sa, k, cap3, next, ps, ms, a1, n1, c1, a2, n2, c2, hj, rfl, rfl, hkj, HC, HG, hA, hO⟩ := hrel
      clear A1 O1 G0
      by_cases hlt : j < len
      · obtain ⟨x, rfl⟩ := HP.out.addr hlt
        obtain ⟨p0, p1, p2, p3, p4, p5, p6⟩ := HP.out.at hA.out.b hlt
        have hT := Lib.hid (take_pAt (ps := ds) (k := j) (by rw [LD.out]; exact hlt))
        obtain ⟨⟨t, s, q, fi, la, lo, tx⟩, hd⟩ : ∃ d, pAt ds j = d := ⟨_, rfl⟩
        rw [hd] at p0 p1 p2 p3 p4 p5 p6 hT
        dsimp only at p0 p1 p2 p3 p4 p5 p6
        have OKN := Lib.hid (by have := go_next (ds.take j) HM.out; rw [HG.out] at this; exact this)
        have ji : (j : Int) < (len : Int) := by omega
        have AB := Lib.hid (hA.out.step (below_box (.cells #[.int .i64 t, .int .i64 s, .int .i64 q, .bool fi, .bool la, .bool lo, .string tx] 43) (Nat.le_refl _)))
        have OB := Lib.hid (ownB hO.out (below_box (.cells #[.int .i64 t, .int .i64 s, .int .i64 q, .bool fi, .bool la, .bool lo, .string tx] 43) (Nat.le_refl _)))
        have v0 := (hA.out.var 0 _ rfl).1
        have v1 := (hA.out.var 1 _ rfl).1
        have lv0 := lt_of_cell v0
        clear hd hA hO
        go_wp2_with fail
        refine (asmAdd_any a1 n1 c1 next a2 n2 c2 ps ⟨t, s, q, fi, la, lo, tx⟩ _ (own_ns AB.out.n) (own_pts AB.out.p) (ok_keys OKN.out.1)).mono ?_
        rintro e w3 ⟨b1, m1, d1, b2, m2, d2, b3, m3, d3, rfl, hown, hb3⟩
        have hR : w.heap.size ≤ (wr.alloc (.cells #[.int .i64 t, .int .i64 s, .int .i64 q, .bool fi, .bool la, .bool lo, .string tx] 43)).heap.size := AB.out.b.size
        have A3 := Lib.hid (AB.out.step hb3)
        have BX := below_box (w := w3) (.cells #[.slice b1 m1 d1, .slice b2 m2 d2] 27) (Nat.le_refl _)
        have A4 := Lib.hid (A3.out.step BX)
        have O3 := Lib.hid (ownB OB.out hb3)
        have O4 := Lib.hid (ownB O3.out BX)
        have N3 := Lib.hid (row_low hown.o1 hR)
        have P3 := Lib.hid (row_low hown.o2 hR)
        have S3 := Lib.hid (row_low hown.o3 hR)
        have STP := Lib.hid (go_step (d := ⟨t, s, q, fi, la, lo, tx⟩) HG.out OKN.out.1 OKN.out.2)
        have CNT := Lib.hid (ansR_count (d := ⟨t, s, q, fi, la, lo, tx⟩) OKN.out.1)
        have M3 := Lib.hid (show (ansR next ps ⟨t, s, q, fi, la, lo, tx⟩).ms.length = m3 by have := hown.o3.1; rw [flatM_length] at this; omega)
        have zD := A3.out.zD
        obtain ⟨code, hcode⟩ : ∃ c, ansC next ps ⟨t, s, q, fi, la, lo, tx⟩ = c := ⟨_, rfl⟩
        rw [hcode] at STP ⊢
        unfold ansV
        clear hcode hown hb3 BX AB OB p0 p1 p2 p3 p4 p5 p6 v0 v1 lv0 hR
        by_cases hc : code = 0
        · subst hc
          have m3j : k + m3 ≤ j + 1 := by have := CNT.out; have := M3.out; have := HC.out; omega
          have c0 := (A3.out.var 0 _ rfl).1
          have c1 := (A3.out.var 1 _ rfl).1
          have c0f := (A3.out.var 0 _ rfl).2
          have c1f := (A3.out.var 1 _ rfl).2
          have nD : ¬ D = w3.heap.size := by omega
          have BY := below_box (w := ((w3.setCell ⟨D, 0, none⟩ (.slice b1 m1 d1)).setCell ⟨D, 1, none⟩ (.slice b2 m2 d2))) (.cells #[.slice b1 m1 d1, .slice b2 m2 d2] 27) (Nat.le_refl _)
          have A5 := Lib.hid ((A3.out.store N3.out P3.out).step BY)
          have O5 := Lib.hid (ownB (A3.out.keep O3.out (.slice b1 m1 d1) (.slice b2 m2 d2)) BY)
          have S5 := Lib.hid (ownB (A3.out.keep S3.out (.slice b1 m1 d1) (.slice b2 m2 d2)) BY)
          have hz5 := Lib.hid A5.out.b.size
          clear BY
          go_wp2_with (at_builtin; go_loud (refine list_catM rfl _ _ rfl w.heap.size w.heap.size k m3 cap3 d3 sa b3 ms (ansR next ps ⟨t, s, q, fi, la, lo, tx⟩).ms rfl O5.out rfl S5.out (by omega) hz5.out ?_))
          intro g3 cap4 w6 hown6 hgrow
          have A6 := Lib.hid (A5.out.grow hgrow O5.out (Nat.le_refl _))
          have O6 := Lib.hid hown6
          have HG2 := Lib.hid (show goP m (ds.take (j + 1)) (List.replicate m 0) [] = ⟨(ansR next ps ⟨t, s, q, fi, la, lo, tx⟩).next, (ansR next ps ⟨t, s, q, fi, la, lo, tx⟩).ps, ms ++ (ansR next ps ⟨t, s, q, fi, la, lo, tx⟩).ms⟩ by rw [hT.out]; exact STP.out.1 (by decide))
          have HC2 := Lib.hid (show k + m3 = (ms ++ (ansR next ps ⟨t, s, q, fi, la, lo, tx⟩).ms).length ∧ (ms ++ (ansR next ps ⟨t, s, q, fi, la, lo, tx⟩).ms).length + (ansR next ps ⟨t, s, q, fi, la, lo, tx⟩).ps.length ≤ j + 1 from by
            have h1 := HC.out
            have h2 := CNT.out
            have h3 := M3.out
            rw [List.length_append]
            omega)
          clear hown6 hgrow A5 O5 S5 c0 c1 c0f c1f nD
          go_wp2
          go_roundw
          case rel => exact ⟨j + 1, g3, k + m3, cap4, _, _, _, b1, m1, d1, b2, m2, d2, by omega, by go_num, rfl, m3j, HC2, HG2, A6, O6⟩
          case measure => simp [intOf]; omega
        · have hcd : decide (code = 0) = false := decide_eq_false hc
          have HG2 := Lib.hid (show goP m (ds.take (j + 1)) (List.replicate m 0) [] = ⟨next, ps, ms⟩ by rw [hT.out]; exact (STP.out.2 hc).1)
          have HC2 := Lib.hid (show k = ms.length ∧ ms.length + ps.length ≤ j + 1 from ⟨HC.out.1, by have := HC.out.2; omega⟩)
          go_wp2
          go_roundw
          case rel => exact ⟨j + 1, sa, k, cap3, next, ps, ms, a1, n1, c1, a2, n2, c2, by omega, by go_num, rfl, by omega, HC2, HG2, A4, O4⟩
          case measure => simp [intOf]; omega
      · obtain rfl : j = len := by omega
        have E := Lib.hid (show runV (m : Int) ds = ms by
          rw [RV.out]
          unfold runL
          have := HG.out
          rw [List.take_of_length_le (by rw [LD.out]; exact Nat.le_refl _)] at this
          rw [this])
        go_wp2
        go_ret
        exact ⟨sa, k, cap3, rfl, by rw [E.out]; exact hO.out, hA.out.b⟩
  · have HN := Lib.hid hn
    have RV := Lib.hid (show runV n ds = [] by unfold runV; rw [if_neg hn])
    clear hn
    go_enter Try.func20, Try.ntmps20
    go_wp2_with fail
    refine (asmNew_no n _ HN.out).mono ?_
    rintro e w1 ⟨rfl, hb1⟩
    have B1 := Lib.hid (hb1.alloc hb1.size (.cells #[.slice none 0 0, .slice none 0 0] 27))
    clear hb1
    go_wp2
    go_ret
    exact ⟨none, 0, 0, rfl, by rw [RV.out]; exact World.ownsRow_nil _ _ _ _, B1.out⟩

end Go.Proofs.Ytncbgejggfkdmab

/- The contract of the model's AsmRun. -/
namespace Go.Proofs.Ytncbgejggfkdmab
open Go.RowKit Go.PlainAid

/-- Behind a call of AsmAdd: its answer lies in a variable at x and in rows of one's own. -/
structure Aft (w : World) (D x : Nat) (a1 : Option Addr) (n1 c1 : Nat) (a2 : Option Addr) (n2 c2 : Nat) (next : List Int) (ps : List Part) (v : Value) (k : Nat) (ms : List Msg) (b1 : Option Addr) (m1 d1 : Nat) (b2 : Option Addr) (m2 d2 : Nat) (b3 : Option Addr) (m3 d3 : Nat) (r : Ran) (W : World) : Prop where
  bv : VarN x [.slice b1 m1 d1, .slice b2 m2 d2] W
  a : Ar w D a1 n1 c1 a2 n2 c2 next ps W
  o : W.ownsRow w.heap.size 46 4 v k (flatM ms)
  n : W.ownsRow w.heap.size 3 1 (.slice b1 m1 d1) m1 (flatN r.next)
  p : W.ownsRow w.heap.size 43 7 (.slice b2 m2 d2) m2 (flatP r.ps)
  s : W.ownsRow w.heap.size 46 4 (.slice b3 m3 d3) m3 (flatM r.ms)
  ne : D ≠ x
theorem Ar.box {w W : World} {D x n1 c1 n2 c2 : Nat} {a1 a2 : Option Addr} {next : List Int} {ps : List Part} {c : Array Value} (h : Ar w D a1 n1 c1 a2 n2 c2 next ps W) (hx : W.heap[x]? = some (.cells c 27 (0, 0))) (hne : D ≠ x) (hlo : w.heap.size ≤ x) (u v : Value) :
    Ar w D a1 n1 c1 a2 n2 c2 next ps ((W.setCell ⟨x, 0, none⟩ u).setCell ⟨x, 1, none⟩ v) := by
  have e1 := heap_setCell_same W x 0 _ _ u hx
  exact ⟨by rw [Below.heap_setCell _ _ _ _ hne, Below.heap_setCell _ _ _ _ hne]; exact h.dv, setKind (setKind h.n hx (by decide) _) e1 (by decide) _, setKind (setKind h.p hx (by decide) _) e1 (by decide) _, (h.b.setCell (p := ⟨x, 0, none⟩) hlo _).setCell (p := ⟨x, 1, none⟩) hlo _, h.lo⟩
section
variable {w wr w3 : World} {D n1 c1 n2 c2 k m1 d1 m2 d2 m3 d3 : Nat} {a1 a2 b1 b2 b3 : Option Addr} {next : List Int} {ps : List Part} {v : Value} {ms : List Msg} {r : Ran}
theorem Aft.late (AB : Ar w D a1 n1 c1 a2 n2 c2 next ps wr.drew) (OB : wr.drew.ownsRow w.heap.size 46 4 v k (flatM ms)) (hown : AnsOwn wr.drew.heap.size b1 m1 d1 b2 m2 d2 b3 m3 d3 r w3) (hb : Below wr.drew.heap.size wr.drew w3) :
    Aft w D w3.heap.size a1 n1 c1 a2 n2 c2 next ps v k ms b1 m1 d1 b2 m2 d2 b3 m3 d3 r (w3.alloc (.cells #[.slice b1 m1 d1, .slice b2 m2 d2] 27)) := by
  have hR : w.heap.size ≤ wr.drew.heap.size := AB.b.size
  have BX := below_box (w := w3) (.cells #[.slice b1 m1 d1, .slice b2 m2 d2] 27) (Nat.le_refl _)
  have A3 := AB.step hb
  exact ⟨VarN.new w3 _ _, A3.step BX, ownB (ownB OB hb) BX, ownB (row_low hown.o1 hR) BX, ownB (row_low hown.o2 hR) BX, ownB (row_low hown.o3 hR) BX, by have := A3.zD; omega⟩
theorem Aft.early (AB : Ar w D a1 n1 c1 a2 n2 c2 next ps wr.drew) (OB : wr.drew.ownsRow w.heap.size 46 4 v k (flatM ms)) (hown : AnsOwn (wr.drew.alloc (.cells #[.slice none 0 0, .slice none 0 0] 27)).heap.size b1 m1 d1 b2 m2 d2 b3 m3 d3 r w3) (hb : Below (wr.drew.alloc (.cells #[.slice none 0 0, .slice none 0 0] 27)).heap.size (wr.drew.alloc (.cells #[.slice none 0 0, .slice none 0 0] 27)) w3) :
    Aft w D wr.heap.size a1 n1 c1 a2 n2 c2 next ps v k ms b1 m1 d1 b2 m2 d2 b3 m3 d3 r ((w3.setCell ⟨wr.heap.size, 0, none⟩ (.slice b1 m1 d1)).setCell ⟨wr.heap.size, 1, none⟩ (.slice b2 m2 d2)) := by
  have BZ := below_box (w := wr.drew) (.cells #[.slice none 0 0, .slice none 0 0] 27) (Nat.le_refl _)
  have hR1 : w.heap.size ≤ wr.heap.size := AB.b.size
  have hR : w.heap.size ≤ (wr.drew.alloc (.cells #[.slice none 0 0, .slice none 0 0] 27)).heap.size := (AB.step BZ).b.size
  have hx : w3.heap[wr.heap.size]? = some (.cells #[.slice none 0 0, .slice none 0 0] 27 (0, 0)) := (hb.block wr.heap.size (by simp)).trans (heap_alloc_new wr.drew _)
  have e1 := heap_setCell_same w3 wr.heap.size 0 _ _ (.slice b1 m1 d1) hx
  have A3 := (AB.step BZ).step hb
  have hne : D ≠ wr.heap.size := by have := AB.zD; have e : wr.drew.heap.size = wr.heap.size := rfl; omega
  exact ⟨var_of_heap (box_set hx _ _), A3.box hx hne hR1 _ _, setKind (setKind (ownB (ownB OB BZ) hb) hx (by decide) _) e1 (by decide) _, setKind (setKind (row_low hown.o1 hR) hx (by decide) _) e1 (by decide) _, setKind (setKind (row_low hown.o2 hR) hx (by decide) _) e1 (by decide) _, setKind (setKind (row_low hown.o3 hR) hx (by decide) _) e1 (by decide) _, hne⟩
end

set_option maxRecDepth 8000 in
set_option maxHeartbeats 8000000 in
theorem sAsmRun_any (n : Int) (a : Option Addr) (len cap : Nat) (ds : List Part) (w : World) (h : Pts w a len cap ds) (hz : len ≤ 1048576) :
    Calls Try.prog 21 #[.int .i64 n, .slice a len cap] w (RunAns n ds w) := by
  have hl := h.length
  have HP := Lib.hid h
  have LD := Lib.hid hl
  have BL := Lib.hid (below_box (w := w) (.cells #[] 46) (Nat.le_refl _))
  have OL := Lib.hid (show (w.alloc (.cells #[] 46)).ownsRow w.heap.size 46 4 (.slice (some ⟨w.heap.size, 0, none⟩) 0 0) 0 (flatM []) from World.ownsRow_lit w #[] 0 (Nat.le_refl _) (by decide) rfl)
  clear h hl
  by_cases hn : 1 ≤ n ∧ n ≤ 4
  · obtain ⟨m, rfl⟩ : ∃ m : Nat, n = (m : Int) := ⟨n.toNat, by omega⟩
    have HM := Lib.hid (show 1 ≤ m ∧ m ≤ 4 by omega)
    have RV := Lib.hid (runV_yes ds HM.out)
    clear hn
    go_enter Try.func21, Try.ntmps21
    go_wp2_with fail
    refine (sAsmNew_at m _ HM.out).mono ?_
    rintro e w1 ⟨g, p, rfl, o1, o2, hb1⟩
    have A1 := Lib.hid (show Ar w w1.heap.size (some ⟨g, 0, none⟩) m m p 0 0 (List.replicate m 0) [] (w1.alloc (.cells #[.slice (some ⟨g, 0, none⟩) m m, .slice p 0 0] 27)) from ⟨heap_alloc_new w1 _, (row_low o1 BL.out.size).alloc _, (row_low o2 BL.out.size).alloc _, (BL.out.trans (hb1.mono BL.out.size)).alloc (Nat.le_trans BL.out.size hb1.size) _, Nat.le_trans BL.out.size hb1.size⟩)
    have O1 := Lib.hid ((ownB OL.out hb1).alloc (.cells #[.slice (some ⟨g, 0, none⟩) m m, .slice p 0 0] 27))
    have G0 := Lib.hid (show goP m (ds.take 0) (List.replicate m 0) [] = ⟨List.replicate m 0, [], []⟩ from rfl)
    clear o1 o2 hb1
    go_wp2
    obtain ⟨D, hD⟩ : ∃ D, w1.heap.size = D := ⟨_, rfl⟩
    rw [hD] at A1 ⊢
    clear hD
    go_loopw [8, 5] (fun i o wr => ∃ (j : Nat) (sa : Option Addr) (k cap3 : Nat) (next : List Int) (ps : List Part) (ms : List Msg) (a1 : Option Addr) (n1 c1 : Nat) (a2 : Option Addr) (n2 c2 : Nat), j ≤ len ∧ i = .int .i64 j ∧ o = .slice sa k cap3 ∧ k ≤ j ∧
      Hid (k = ms.length ∧ ms.length + ps.length ≤ j) ∧ Hid (goP m (ds.take j) (List.replicate m 0) [] = ⟨next, ps, ms⟩) ∧ Hid (Ar w D a1 n1 c1 a2 n2 c2 next ps wr) ∧ Hid (wr.ownsRow w.heap.size 46 4 (.slice sa k cap3) k (flatM ms))) (fun i _ _ => len - (intOf i).toNat)
    case atStart => exact ⟨0, _, 0, 0, List.replicate m 0, [], [], _, _, _, _, _, _, Nat.zero_le _, rfl, rfl, Nat.le_refl _, Lib.hid ⟨rfl, Nat.le_refl _⟩, G0, A1, O1⟩
    case round =>
      obtain ⟨j, sa, k, cap3, next, ps, ms, a1, n1, c1, a2, n2, c2, hj, rfl, rfl, hkj, HC, HG, hA, hO⟩ := hrel
      clear A1 O1 G0
      by_cases hlt : j < len
      · obtain ⟨x, rfl⟩ := HP.out.addr hlt
        obtain ⟨p0, p1, p2, p3, p4, p5, p6⟩ := HP.out.at hA.out.b hlt
        have hT := Lib.hid (take_pAt (ps := ds) (k := j) (by rw [LD.out]; exact hlt))
        obtain ⟨⟨t, s, q, fi, la, lo, tx⟩, hd⟩ : ∃ d, pAt ds j = d := ⟨_, rfl⟩
        rw [hd] at p0 p1 p2 p3 p4 p5 p6 hT
        dsimp only at p0 p1 p2 p3 p4 p5 p6
        have OKN := Lib.hid (by have := go_next (ds.take j) HM.out; rw [HG.out] at this; exact this)
        have ji : (j : Int) < (len : Int) := by omega
        have AB := Lib.hid (hA.out.step (Below.drew (Below.refl _ _)))
        have OB := Lib.hid (ownB hO.out (Below.drew (Below.refl _ _)))
        have BZ := Lib.hid (below_box (w := wr.drew) (.cells #[.slice none 0 0, .slice none 0 0] 27) (Nat.le_refl _))
        have AZ := Lib.hid (AB.out.step BZ.out)
        have VZ := Lib.hid (show VarN wr.heap.size [.slice none 0 0, .slice none 0 0] (wr.drew.alloc (.cells #[.slice none 0 0, .slice none 0 0] 27)) from VarN.new wr.drew [.slice none 0 0, .slice none 0 0] 27)
        have LZ : wr.heap.size < (wr.drew.alloc (.cells #[.slice none 0 0, .slice none 0 0] 27)).heap.size := lt_of_cell (VZ.out 0 _ rfl).1
        have v0 := (hA.out.var 0 _ rfl).1
        have v1 := (hA.out.var 1 _ rfl).1
        have lv0 := lt_of_cell v0
        have lx : (x.add (j * 7)).block < wr.heap.size := World.block_lt_of_cell? wr _ p0
        clear hd hA hO
        go_wp2_with fail
        go_region_law (go_simp; go_at_call 49; (first | refine (sAsmAdd_any a1 n1 c1 next a2 n2 c2 ps ⟨t, s, q, fi, la, lo, tx⟩ _ (own_ns AB.out.n) (own_pts AB.out.p)).mono ?_ | refine (sAsmAdd_any a1 n1 c1 next a2 n2 c2 ps ⟨t, s, q, fi, la, lo, tx⟩ _ (own_ns AZ.out.n) (own_pts AZ.out.p)).mono ?_); rintro e w3 ⟨b1, m1, d1, b2, m2, d2, b3, m3, d3, rfl, hown, hb3⟩; unfold ansV; dsimp only; try (have y0 := ((VZ.out.below hb3 LZ) 0 _ rfl).1; have y1 := ((VZ.out.below hb3 LZ) 1 _ rfl).1; have y0f := ((VZ.out.below hb3 LZ) 0 _ rfl).2; have y1f := ((VZ.out.below hb3 LZ) 1 _ rfl).2))
        all_goals
          first
            | (have F := Lib.hid (Aft.late AB.out OB.out hown hb3); generalize (w3.alloc (.cells #[.slice b1 m1 d1, .slice b2 m2 d2] 27)) = W9 at F ⊢)
            | (have F := Lib.hid (Aft.early AB.out OB.out hown hb3); generalize ((w3.setCell ⟨wr.heap.size, 0, none⟩ (.slice b1 m1 d1)).setCell ⟨wr.heap.size, 1, none⟩ (.slice b2 m2 d2)) = W9 at F ⊢)
          have STP := Lib.hid (go_step (d := ⟨t, s, q, fi, la, lo, tx⟩) HG.out OKN.out.1 OKN.out.2)
          have CNT := Lib.hid (ansR_count (d := ⟨t, s, q, fi, la, lo, tx⟩) OKN.out.1)
          have M3 := Lib.hid (show (ansR next ps ⟨t, s, q, fi, la, lo, tx⟩).ms.length = m3 by have := F.out.s.1; rw [flatM_length] at this; omega)
          have m3j : k + m3 ≤ j + 1 := by have := CNT.out; have := M3.out; have := HC.out; omega
          obtain ⟨code, hcode⟩ : ∃ c, ansC next ps ⟨t, s, q, fi, la, lo, tx⟩ = c := ⟨_, rfl⟩
          rw [hcode] at STP ⊢
          try clear y0 y1 y0f y1f
          clear hcode hown hb3 AB OB BZ AZ VZ LZ p0 p1 p2 p3 p4 p5 p6 v0 v1 lv0 lx
          by_cases hc : code = 3
          · subst hc
            have hR3 := Lib.hid (STP.out.2 (by decide))
            have HG2 := Lib.hid (show goP m (ds.take (j + 1)) (List.replicate m 0) [] = ⟨next, ps, ms ++ (ansR next ps ⟨t, s, q, fi, la, lo, tx⟩).ms⟩ by rw [hT.out, hR3.out.1, hR3.out.2, List.append_nil])
            have HC2 := Lib.hid (show k + m3 = (ms ++ (ansR next ps ⟨t, s, q, fi, la, lo, tx⟩).ms).length ∧ (ms ++ (ansR next ps ⟨t, s, q, fi, la, lo, tx⟩).ms).length + ps.length ≤ j + 1 from by
              have h1 := HC.out
              have h3 := M3.out
              rw [List.length_append]
              rw [hR3.out.2] at h3 ⊢
              simp at h3 ⊢
              omega)
            go_wp2_with (at_builtin; go_loud (refine list_catM rfl _ _ rfl w.heap.size w.heap.size k m3 cap3 d3 sa b3 ms (ansR next ps ⟨t, s, q, fi, la, lo, tx⟩).ms rfl F.out.o rfl F.out.s (by omega) F.out.a.b.size ?_))
            intro g3 cap4 w6 hown6 hgrow
            have A6 := Lib.hid (F.out.a.grow hgrow F.out.o (Nat.le_refl _))
            have O6 := Lib.hid hown6
            clear hown6 hgrow F
            go_wp2
            go_roundw
            case rel => exact ⟨j + 1, g3, k + m3, cap4, _, _, _, a1, n1, c1, a2, n2, c2, by omega, by go_num, rfl, m3j, HC2, HG2, A6, O6⟩
            case measure => simp [intOf]; omega
          · have hcd : decide (code = 3) = false := decide_eq_false hc
            have c0 := (F.out.a.var 0 _ rfl).1
            have c1' := (F.out.a.var 1 _ rfl).1
            have c0f := (F.out.a.var 0 _ rfl).2
            have c1f := (F.out.a.var 1 _ rfl).2
            have x0 := (F.out.bv 0 _ rfl).1
            have x1 := (F.out.bv 1 _ rfl).1
            have A5 := Lib.hid (F.out.a.store F.out.n F.out.p)
            have O5 := Lib.hid (F.out.a.keep F.out.o (.slice b1 m1 d1) (.slice b2 m2 d2))
            have S5 := Lib.hid (F.out.a.keep F.out.s (.slice b1 m1 d1) (.slice b2 m2 d2))
            have HG2 := Lib.hid (show goP m (ds.take (j + 1)) (List.replicate m 0) [] = ⟨(ansR next ps ⟨t, s, q, fi, la, lo, tx⟩).next, (ansR next ps ⟨t, s, q, fi, la, lo, tx⟩).ps, ms ++ (ansR next ps ⟨t, s, q, fi, la, lo, tx⟩).ms⟩ by rw [hT.out]; exact STP.out.1 hc)
            have HC2 := Lib.hid (show k + m3 = (ms ++ (ansR next ps ⟨t, s, q, fi, la, lo, tx⟩).ms).length ∧ (ms ++ (ansR next ps ⟨t, s, q, fi, la, lo, tx⟩).ms).length + (ansR next ps ⟨t, s, q, fi, la, lo, tx⟩).ps.length ≤ j + 1 from by
              have h1 := HC.out
              have h2 := CNT.out
              have h3 := M3.out
              rw [List.length_append]
              omega)
            go_wp2_with (at_builtin; go_loud (refine list_catM rfl _ _ rfl w.heap.size w.heap.size k m3 cap3 d3 sa b3 ms (ansR next ps ⟨t, s, q, fi, la, lo, tx⟩).ms rfl O5.out rfl S5.out (by omega) A5.out.b.size ?_))
            intro g3 cap4 w6 hown6 hgrow
            have A6 := Lib.hid (A5.out.grow hgrow O5.out (Nat.le_refl _))
            have O6 := Lib.hid hown6
            clear hown6 hgrow A5 O5 S5 c0 c1' c0f c1f x0 x1 F
            go_wp2
            go_roundw
            case rel => exact ⟨j + 1, g3, k + m3, cap4, _, _, _, b1, m1, d1, b2, m2, d2, by omega, by go_num, rfl, m3j, HC2, HG2, A6, O6⟩
            case measure => simp [intOf]; omega
      · obtain rfl : j = len := by omega
        have E := Lib.hid (show runV (m : Int) ds = ms by
          rw [RV.out]
          unfold runL
          have := HG.out
          rw [List.take_of_length_le (by rw [LD.out]; exact Nat.le_refl _)] at this
          rw [this])
        go_wp2
        go_ret
        exact ⟨sa, k, cap3, rfl, by rw [E.out]; exact hO.out, hA.out.b⟩
  · have HN := Lib.hid hn
    have RV := Lib.hid (show runV n ds = [] by unfold runV; rw [if_neg hn])
    clear hn
    go_enter Try.func21, Try.ntmps21
    go_wp2_with fail
    refine (sAsmNew_no n _ HN.out).mono ?_
    rintro e w1 ⟨rfl, hb1⟩
    have O1 := Lib.hid ((ownB OL.out hb1).alloc (.cells #[.slice none 0 0, .slice none 0 0] 27))
    have B1 := Lib.hid ((BL.out.trans (hb1.mono BL.out.size)).alloc (Nat.le_trans BL.out.size hb1.size) (.cells #[.slice none 0 0, .slice none 0 0] 27))
    clear hb1
    go_wp2
    go_loopw [8, 5] (fun i o wr => i = .int .i64 0 ∧ o = .slice (some ⟨w.heap.size, 0, none⟩) 0 0 ∧ wr = w1.alloc (.cells #[.slice none 0 0, .slice none 0 0] 27)) (fun _ _ _ => 0)
    case atStart => exact ⟨rfl, rfl, rfl⟩
    case round =>
      obtain ⟨rfl, rfl, rfl⟩ := hrel
      by_cases h0 : (0 : Int) < (len : Int)
      all_goals
        go_wp2
        go_ret
        exact ⟨_, 0, 0, rfl, by rw [RV.out]; exact O1.out, B1.out⟩

end Go.Proofs.Ytncbgejggfkdmab

/- The answer of a run, its length known; marks in a copy of a list of parts. -/
namespace Go.Proofs.Ytncbgejggfkdmab
open Go.RowKit Go.PlainAid

theorem goP_count {m : Nat} (h : 1 ≤ m ∧ m ≤ 4) : ∀ (k : Nat) (ds : List Part), ds.length = k → (goP m ds (List.replicate m 0) []).ms.length + (goP m ds (List.replicate m 0) []).ps.length ≤ ds.length := by
  intro k
  induction k with
  | zero =>
    intro ds hd
    obtain rfl : ds = [] := List.eq_nil_of_length_eq_zero hd
    simp [goP]
  | succ k ih =>
    intro ds hd
    obtain ⟨L, d, rfl⟩ : ∃ L d, ds = L ++ [d] := by
      rcases List.eq_nil_or_concat ds with rfl | ⟨L, d, rfl⟩
      · simp at hd
      · exact ⟨L, d, by simp⟩
    rw [List.length_append, List.length_singleton] at hd
    have h1 := ih L (by omega)
    obtain ⟨h2, h3⟩ := go_next L h
    obtain ⟨⟨next, ps, ms⟩, hg⟩ : ∃ r, goP m L (List.replicate m 0) [] = r := ⟨_, rfl⟩
    rw [hg] at h1 h2 h3
    dsimp only at h1 h2 h3
    obtain ⟨s1, s2⟩ := go_step (d := d) hg h2 h3
    have hc := ansR_count (d := d) h2
    rw [List.length_append, List.length_singleton]
    by_cases h0 : ansC next ps d = 0
    · rw [s1 (by rw [h0]; decide)]
      dsimp only
      rw [List.length_append]
      omega
    · rw [(s2 h0).1]
      dsimp only
      omega
theorem runV_few {n : Int} {ds : List Part} {rm : List Msg} (h : runV n ds = rm) : rm.length ≤ ds.length := by
  subst h
  unfold runV
  split
  · rename_i hn
    have := goP_count (m := n.toNat) (by omega) _ ds rfl
    unfold runL
    omega
  · simp
/-- What a run answers, its length known. -/
def RunIs (rm : List Msg) (n3 : Nat) (w : World) (e : Ending) (w' : World) : Prop :=
  ∃ a3 c3, e = .returned (.slice a3 n3 c3) ∧ w'.ownsRow w.heap.size 46 4 (.slice a3 n3 c3) n3 (flatM rm) ∧ Below w.heap.size w w'
theorem RunAns.is {n : Int} {ds : List Part} {w w' : World} {e : Ending} {rm : List Msg} {n3 : Nat} (h : RunAns n ds w e w') (hr : runV n ds = rm) (h3 : rm.length = n3) : RunIs rm n3 w e w' := by
  obtain ⟨a, k, cap, rfl, ho, hb⟩ := h
  rw [hr] at ho
  have e3 : k = n3 := by have := ho.1; rw [flatM_length] at this; omega
  subst e3
  exact ⟨a, cap, rfl, ho, hb⟩
theorem asmRun_is (n : Int) (a : Option Addr) (len cap : Nat) (ds : List Part) (w : World) {rm : List Msg} {n3 : Nat} (h : Pts w a len cap ds) (hz : len ≤ 1048576) (hr : runV n ds = rm) (h3 : rm.length = n3) :
    Calls Try.prog 20 #[.int .i64 n, .slice a len cap] w (RunIs rm n3 w) := (asmRun_any n a len cap ds w h hz).mono fun _ _ h => h.is hr h3
theorem sAsmRun_is (n : Int) (a : Option Addr) (len cap : Nat) (ds : List Part) (w : World) {rm : List Msg} {n3 : Nat} (h : Pts w a len cap ds) (hz : len ≤ 1048576) (hr : runV n ds = rm) (h3 : rm.length = n3) :
    Calls Try.prog 21 #[.int .i64 n, .slice a len cap] w (RunIs rm n3 w) := (sAsmRun_any n a len cap ds w h hz).mono fun _ _ h => h.is hr h3
/-- A copy of a list of parts. -/
structure FreP (d len : Nat) (ps : List Part) (W : World) : Prop where
  f : FilP d len len ps W
  r : FreeN d W
  l : d < W.heap.size
theorem FreP.below {d len : Nat} {ps : List Part} {W W' : World} (h : FreP d len ps W) (hb : Below W.heap.size W W') : FreP d len ps W' := ⟨h.f.below hb, h.r.below h.l hb, Nat.lt_of_lt_of_le h.l hb.size⟩
theorem markFreP {R d len : Nat} {ps : List Part} {W : World} {z : Int} (h : FreP d len ps W) (hl : len ≤ 1048576) (hR : R ≤ d) (hz : ((1 + 7 * len : Nat) : Int) = z) :
    Calls Try.prog 34 #[.slice (some ⟨d, 0, none⟩) len len, .int .i64 1] W fun e w' => e = .returned (.int .i64 z) ∧ W.heap.size ≤ w'.heap.size ∧ Mgl R [some d] W w' := by
  subst hz
  refine (markDataS_any d len len 1 W hl (Nat.le_refl _) (by omega) h.l h.f.blank h.r).mono ?_
  rintro e w' ⟨rfl, _, _, hm⟩
  exact ⟨rfl, hm.z, Mgl.of_mw hm hR (by simp)⟩

end Go.Proofs.Ytncbgejggfkdmab

/- A slice of parts that is handed to a law, opened: structs of seven fields of one cell each. -/
namespace Go.Proofs.Ytncbgejggfkdmab
open Go.ChangeShapes Go.WideShapes Go.ChangeAt Go.RowKit Go.Joins Go.Deep

theorem open_sevens {H : Type} {enc : TypeId × Value → H} {P : Program} {w : World} {base : Nat} {spare : Nat → Bool} {held : Bool} {t e : TypeId} {f0 f1 f2 f3 f4 f5 f6 : Field} {fuel : Nat} {cs : List Value} {x : DataW H × List MemPlace} (ht : P.underlying t = some (.slice e)) (he : P.underlying e = some (.struct #[f0, f1, f2, f3, f4, f5, f6]))
    (ce : P.cellsOf e = 7) (o0 : f0.offset = 0) (o1 : f1.offset = 1) (o2 : f2.offset = 2) (o3 : f3.offset = 3) (o4 : f4.offset = 4) (o5 : f5.offset = 5) (o6 : f6.offset = 6) (c0 : P.cellsOf f0.type = 1) (c1 : P.cellsOf f1.type = 1) (c2 : P.cellsOf f2.type = 1) (c3 : P.cellsOf f3.type = 1) (c4 : P.cellsOf f4.type = 1) (c5 : P.cellsOf f5.type = 1) (c6 : P.cellsOf f6.type = 1)
    (h : DataW.trod enc P w base spare held fuel t cs = some x) :
    cs = [.slice none 0 0] ∨ ∃ (a : Addr) (len cap n : Nat), cs = [.slice (some a) len cap] ∧ len ≤ cap ∧ cap ≤ maxLen ∧ ∀ i, i < len → ∃ v0 v1 v2 v3 v4 v5 v6 y0 y1 y2 y3 y4 y5 y6, w.cell? (a.add (i * 7)) = some v0 ∧ w.cell? (a.add (i * 7 + 1)) = some v1 ∧ w.cell? (a.add (i * 7 + 2)) = some v2 ∧ w.cell? (a.add (i * 7 + 3)) = some v3 ∧ w.cell? (a.add (i * 7 + 4)) = some v4 ∧ w.cell? (a.add (i * 7 + 5)) = some v5 ∧ w.cell? (a.add (i * 7 + 6)) = some v6 ∧
      DataW.trod enc P w base spare held n f0.type [v0] = some y0 ∧ DataW.trod enc P w base spare held n f1.type [v1] = some y1 ∧ DataW.trod enc P w base spare held n f2.type [v2] = some y2 ∧ DataW.trod enc P w base spare held n f3.type [v3] = some y3 ∧ DataW.trod enc P w base spare held n f4.type [v4] = some y4 ∧ DataW.trod enc P w base spare held n f5.type [v5] = some y5 ∧ DataW.trod enc P w base spare held n f6.type [v6] = some y6 := by
  rcases open_slice ht h with ⟨h0, _⟩ | ⟨a, len, cap, m, n, D, Pl, rfl, hb, hl, hm, hmm, rfl, hx⟩
  · exact Or.inl h0
  right
  have hlm : len ≤ m := by rw [hmm]; split <;> omega
  refine ⟨a, len, cap, n - 1, rfl, hl, hm, fun i hi => ?_⟩
  obtain ⟨cs', h1, h2⟩ := hx i (by omega)
  rw [ce] at h1
  obtain ⟨_, hlen, hcell⟩ := World.cells?_some h1
  obtain ⟨xs, k, hk, hxy, _, hxl, hf⟩ := DataW.trod_struct he h2
  have hk' : k = n - 1 := by omega
  subst hk'
  match xs, hxl, cs', hlen with
  | [y0, y1, y2, y3, y4, y5, y6], _, [v0, v1, v2, v3, v4, v5, v6], _ =>
    have g0 := hf 0 f0 rfl
    have g1 := hf 1 f1 rfl
    have g2 := hf 2 f2 rfl
    have g3 := hf 3 f3 rfl
    have g4 := hf 4 f4 rfl
    have g5 := hf 5 f5 rfl
    have g6 := hf 6 f6 rfl
    simp [o0, c0, o1, c1, o2, c2, o3, c3, o4, c4, o5, c5, o6, c6] at g0 g1 g2 g3 g4 g5 g6
    have e0 := hcell 0 (by omega)
    have e1 := hcell 1 (by omega)
    have e2 := hcell 2 (by omega)
    have e3 := hcell 3 (by omega)
    have e4 := hcell 4 (by omega)
    have e5 := hcell 5 (by omega)
    have e6 := hcell 6 (by omega)
    rw [add_add] at e0 e1 e2 e3 e4 e5 e6
    exact ⟨v0, v1, v2, v3, v4, v5, v6, y0, y1, y2, y3, y4, y5, y6, by simpa using e0, by simpa using e1, by simpa using e2, by simpa using e3, by simpa using e4, by simpa using e5, by simpa using e6, g0, g1, g2, g3, g4, g5, g6⟩
theorem addr_past (a : Addr) (n j : Nat) (hj : 0 < j) : a.add (n + j) = ⟨(a.add n).block, (a.add n).off + j, none⟩ := by
  unfold Addr.add
  by_cases h : n = 0
  · subst h
    simp
    omega
  · have e : ¬ n + j = 0 := by omega
    rw [if_neg e, if_neg h, Nat.add_assoc]
theorem atP_any (a : Addr) (i j : Nat) : atP a i j = a.add (i * 7 + j) := by
  cases j with
  | zero => rfl
  | succ j =>
    show (⟨(a.add (i * 7)).block, (a.add (i * 7)).off + (j + 1), none⟩ : Addr) = _
    rw [addr_past _ _ _ (by omega)]
theorem key_wf_of {t : Int} (h : (Lit.int .i64 t).wf = true) : Key t := by
  have e1 : IntKind.i64.min = -9223372036854775808 := by decide
  have e2 : IntKind.i64.max = 9223372036854775807 := by decide
  simp [Lit.wf, e1, e2] at h
  unfold Key
  omega
instance : Inhabited Part := ⟨⟨0, 0, 0, false, false, false, ByteArray.mk #[]⟩⟩
/-- The parts of a slice that is read. -/
theorem open_pts {H : Type} {enc : TypeId × Value → H} {P : Program} (W : World) {sp : Nat → Bool} {hd : Bool} {n : Nat} {v : Value} {y : DataW H × List MemPlace} {t e ti tb ts : TypeId} {f0 f1 f2 f3 f4 f5 f6 : Field} (ht : P.underlying t = some (.slice e)) (he : P.underlying e = some (.struct #[f0, f1, f2, f3, f4, f5, f6]))
    (ce : P.cellsOf e = 7) (o0 : f0.offset = 0) (o1 : f1.offset = 1) (o2 : f2.offset = 2) (o3 : f3.offset = 3) (o4 : f4.offset = 4) (o5 : f5.offset = 5) (o6 : f6.offset = 6) (c0 : P.cellsOf f0.type = 1) (c1 : P.cellsOf f1.type = 1) (c2 : P.cellsOf f2.type = 1) (c3 : P.cellsOf f3.type = 1) (c4 : P.cellsOf f4.type = 1) (c5 : P.cellsOf f5.type = 1) (c6 : P.cellsOf f6.type = 1) (t0 : f0.type = ti) (t1 : f1.type = ti) (t2 : f2.type = ti) (t3 : f3.type = tb) (t4 : f4.type = tb) (t5 : f5.type = tb) (t6 : f6.type = ts) (hi : P.underlying ti = some (.int .i64)) (hb : P.underlying tb = some .bool) (hs : P.underlying ts = some .string)
    (h : DataW.trod enc P W 0 sp hd n t [v] = some y) :
    ∃ a len cap ps, v = .slice a len cap ∧ Pts W a len cap ps ∧ (∀ p ∈ ps, p.text.size ≤ maxLen) ∧ ∀ p ∈ ps, Key p.tsn := by
  rcases open_sevens ht he ce o0 o1 o2 o3 o4 o5 o6 c0 c1 c2 c3 c4 c5 c6 h with e | ⟨a, len, cap, m, e, hl, hm, hx⟩
  · obtain rfl : v = .slice none 0 0 := by simpa using e
    exact ⟨none, 0, 0, [], rfl, .inl ⟨rfl, rfl, rfl, rfl⟩, fun c hc => by simp at hc, fun c hc => by simp at hc⟩
  · obtain rfl : v = .slice (some a) len cap := by simpa using e
    have each : ∀ i, i < len → ∃ q : Part, (∀ j u, (cellsP q)[j]? = some u → W.cell? (atP a i j) = some u) ∧ q.text.size ≤ maxLen ∧ Key q.tsn := by
      intro i hi'
      obtain ⟨v0, v1, v2, v3, v4, v5, v6, y0, y1, y2, y3, y4, y5, y6, p0, p1, p2, p3, p4, p5, p6, g0, g1, g2, g3, g4, g5, g6⟩ := hx i hi'
      rw [t0] at g0
      rw [t1] at g1
      rw [t2] at g2
      rw [t3] at g3
      rw [t4] at g4
      rw [t5] at g5
      rw [t6] at g6
      obtain ⟨z0, e0, _, w0⟩ := DataW.trod_int hi g0
      obtain rfl : v0 = .int .i64 z0 := by simpa using e0
      obtain ⟨z1, e1, _, w1⟩ := DataW.trod_int hi g1
      obtain rfl : v1 = .int .i64 z1 := by simpa using e1
      obtain ⟨z2, e2, _, w2⟩ := DataW.trod_int hi g2
      obtain rfl : v2 = .int .i64 z2 := by simpa using e2
      obtain ⟨z3, e3, _⟩ := DataW.trod_bool hb g3
      obtain rfl : v3 = .bool z3 := by simpa using e3
      obtain ⟨z4, e4, _⟩ := DataW.trod_bool hb g4
      obtain rfl : v4 = .bool z4 := by simpa using e4
      obtain ⟨z5, e5, _⟩ := DataW.trod_bool hb g5
      obtain rfl : v5 = .bool z5 := by simpa using e5
      obtain ⟨z6, e6, _, w6⟩ := DataW.trod_string hs g6
      obtain rfl : v6 = .string z6 := by simpa using e6
      refine ⟨⟨z0, z1, z2, z3, z4, z5, z6⟩, fun j u hu => ?_, w6, key_wf_of w0⟩
      have hj : j < 7 := (List.getElem?_eq_some_iff.1 hu).1
      rw [atP_any]
      rcases (show j = 0 ∨ j = 1 ∨ j = 2 ∨ j = 3 ∨ j = 4 ∨ j = 5 ∨ j = 6 by omega) with rfl | rfl | rfl | rfl | rfl | rfl | rfl
      · exact p0.trans hu
      · exact p1.trans hu
      · exact p2.trans hu
      · exact p3.trans hu
      · exact p4.trans hu
      · exact p5.trans hu
      · exact p6.trans hu
    obtain ⟨q, hq⟩ := choose_lt each
    have e : ∀ i, i < len → pAt ((List.range len).map q) i = q i := fun i hi' => by
      unfold pAt
      rw [List.getD_eq_getElem?_getD, List.getElem?_map, List.getElem?_range hi']
      rfl
    refine ⟨some a, len, cap, (List.range len).map q, rfl, .inr ⟨a, rfl, hl, hm, by simp, fun i hi' j u hu => ?_⟩, fun c hc => ?_, fun c hc => ?_⟩
    · rw [e i hi'] at hu
      exact (hq i hi').1 j u hu
    · obtain ⟨i, hi', rfl⟩ := List.mem_map.1 hc
      exact (hq i (List.mem_range.1 hi')).2.1
    · obtain ⟨i, hi', rfl⟩ := List.mem_map.1 hc
      exact (hq i (List.mem_range.1 hi')).2.2

end Go.Proofs.Ytncbgejggfkdmab
