/- Texts that a proof needs, merged: K172, K173, K187, K169, G30, K190, K23, K191, K192, G31. -/
import Derived.Test.YtncbgejggfkdmabM7
import Derived.Deep.RegionLaw
import Derived.Deep.SlicePairs
import Derived.Lib.SmallJoins
import Derived.ProofKit
import Derived.OpenShut
import Derived.Deep.DeepCutAuto
import Derived.Handy

/- The contract of the program's AsmRun. -/
namespace Go.Proofs.Ytncbgejggfkdmab
open Go.RowKit Go.PlainAid

def runV (n : Int) (ds : List Part) : List Msg := if 1 ≤ n ∧ n ≤ 4 then runL n.toNat ds else []
/-- The messages of a list of parts, in a row of one's own. -/
def RunAns (n : Int) (ds : List Part) (w : World) (e : Ending) (w' : World) : Prop :=
  ∃ a k c, e = .returned (.slice a k c) ∧ w'.ownsRow w.heap.size 46 4 (.slice a k c) k (flatM (runV n ds)) ∧ Below w.heap.size w w'
theorem setKind {base e size n D e2 i : Nat} {v : Value} {xs : List Value} {c : Array Value} {W : World} (h : W.ownsRow base e size v n xs) (hD : W.heap[D]? = some (.cells c e2 (0, 0))) (hne : e ≠ e2) (u : Value) : (W.setCell ⟨D, i, none⟩ u).ownsRow base e size v n xs := by
  refine ⟨h.1, ?_⟩
  rcases h.2 with h1 | ⟨g, cap, cur, h1, h2, h3, h4⟩
  · exact .inl h1
  · exact .inr ⟨g, cap, cur, h1, h2, by rw [Below.heap_setCell _ _ _ _ (kind_ne h3 hD hne)]; exact h3, h4⟩
theorem ownB {w w' : World} {base e size n : Nat} {v : Value} {xs : List Value} (h : w.ownsRow base e size v n xs) (hb : Below w.heap.size w w') : w'.ownsRow base e size v n xs := row_same h fun x _ h2 => hb.block x h2
/-- Another kind of row has grown. -/
theorem ownGrown {base e size n r e2 : Nat} {c2 : Array Value} {v : Value} {xs : List Value} {w w' : World} (h : w.ownsRow base e size v n xs) (hg : w.grownBy w' (some r)) (hk : w.heap[r]? = some (.cells c2 e2 (0, 0))) (hne : e ≠ e2) : w'.ownsRow base e size v n xs := by
  refine ⟨h.1, ?_⟩
  rcases h.2 with h1 | ⟨g, cap, cur, h1, h2, h3, h4⟩
  · exact .inl h1
  · exact .inr ⟨g, cap, cur, h1, h2, by rw [hg.block g (Array.getElem?_eq_some_iff.1 h3).1 fun hh => kind_ne h3 hk hne (by simpa using hh)]; exact h3, h4⟩
theorem ownGrownO {base base2 e size size2 n n2 e2 : Nat} {v v2 : Value} {xs ys : List Value} {w w' : World} (h : w.ownsRow base e size v n xs) (hg : w.grownBy w' v2.ownBlock) (h2 : w.ownsRow base2 e2 size2 v2 n2 ys) (hne : e ≠ e2) : w'.ownsRow base e size v n xs := by
  rcases h2.2 with ⟨rfl, _⟩ | ⟨g, cap, cur, rfl, _, h3, _⟩
  · exact row_same h fun x _ hx => hg.block x hx (by simp [Value.ownBlock])
  · exact ownGrown h hg h3 hne
/-- The assembly of a run, in a variable at D. -/
structure Ar (w : World) (D : Nat) (a1 : Option Addr) (n1 c1 : Nat) (a2 : Option Addr) (n2 c2 : Nat) (next : List Int) (ps : List Part) (W : World) : Prop where
  dv : W.heap[D]? = some (.cells #[.slice a1 n1 c1, .slice a2 n2 c2] 27 (0, 0))
  n : W.ownsRow w.heap.size 3 1 (.slice a1 n1 c1) n1 (flatN next)
  p : W.ownsRow w.heap.size 43 7 (.slice a2 n2 c2) n2 (flatP ps)
  b : Below w.heap.size w W
  lo : w.heap.size ≤ D
section
variable {w W W' : World} {D n1 c1 n2 c2 m1 d1 m2 d2 B : Nat} {a1 a2 b1 b2 : Option Addr} {next next2 : List Int} {ps ps2 : List Part}
theorem Ar.zD (h : Ar w D a1 n1 c1 a2 n2 c2 next ps W) : D < W.heap.size := (Array.getElem?_eq_some_iff.1 h.dv).1
theorem Ar.var (h : Ar w D a1 n1 c1 a2 n2 c2 next ps W) : VarN D [.slice a1 n1 c1, .slice a2 n2 c2] W := var_of_heap h.dv
theorem Ar.step (h : Ar w D a1 n1 c1 a2 n2 c2 next ps W) (hb : Below W.heap.size W W') : Ar w D a1 n1 c1 a2 n2 c2 next ps W' :=
  ⟨(hb.block D h.zD).trans h.dv, ownB h.n hb, ownB h.p hb, h.b.trans (hb.mono h.b.size), h.lo⟩
theorem Ar.store (h : Ar w D a1 n1 c1 a2 n2 c2 next ps W) (h1 : W.ownsRow w.heap.size 3 1 (.slice b1 m1 d1) m1 (flatN next2)) (h2 : W.ownsRow w.heap.size 43 7 (.slice b2 m2 d2) m2 (flatP ps2)) :
    Ar w D b1 m1 d1 b2 m2 d2 next2 ps2 ((W.setCell ⟨D, 0, none⟩ (.slice b1 m1 d1)).setCell ⟨D, 1, none⟩ (.slice b2 m2 d2)) := by
  have e1 := heap_setCell_same W D 0 _ _ (.slice b1 m1 d1) h.dv
  exact ⟨box_set h.dv _ _, setKind (setKind h1 h.dv (by decide) _) e1 (by decide) _, setKind (setKind h2 h.dv (by decide) _) e1 (by decide) _, (h.b.setCell (p := ⟨D, 0, none⟩) h.lo _).setCell (p := ⟨D, 1, none⟩) h.lo _, h.lo⟩
theorem Ar.keep {base size n : Nat} {v : Value} {xs : List Value} (h : Ar w D a1 n1 c1 a2 n2 c2 next ps W) (h1 : W.ownsRow base 46 size v n xs) (x y : Value) : ((W.setCell ⟨D, 0, none⟩ x).setCell ⟨D, 1, none⟩ y).ownsRow base 46 size v n xs :=
  setKind (setKind h1 h.dv (by decide) _) (heap_setCell_same W D 0 _ _ x h.dv) (by decide) _
theorem Ar.grow {base n : Nat} {v : Value} {xs : List Value} (h : Ar w D a1 n1 c1 a2 n2 c2 next ps W) (hg : W.grownBy W' v.ownBlock) (h2 : W.ownsRow base 46 4 v n xs) (hB : w.heap.size ≤ base) : Ar w D a1 n1 c1 a2 n2 c2 next ps W' := by
  refine ⟨?_, ownGrownO h.n hg h2 (by decide), ownGrownO h.p hg h2 (by decide), Below.grown h.b hg h.b.size fun x hx => Nat.le_trans hB (own_ge h2 hx), h.lo⟩
  rcases h2.2 with ⟨rfl, _⟩ | ⟨g, cap, cur, rfl, _, h3, _⟩
  · exact (hg.block D h.zD (by simp [Value.ownBlock])).trans h.dv
  · exact (hg.block D h.zD fun hh => kind_ne h.dv h3 (by decide) (by simpa [Value.ownBlock] using hh)).trans h.dv
end
theorem runV_yes {m : Nat} (ds : List Part) (h : 1 ≤ m ∧ m ≤ 4) : runV (m : Int) ds = runL m ds := by
  unfold runV
  rw [if_pos (by omega)]
  rfl
theorem ok_keys {next : List Int} {ps : List Part} (h : AsmOk next ps) : ∀ p ∈ ps, Key p.tsn := fun p hp => by
  have := (h.ok p hp).1.1
  unfold Key
  omega

set_option maxRecDepth 8000 in
set_option maxHeartbeats 8000000 in
theorem asmRun_any (n : Int) (a : Option Addr) (len cap : Nat) (ds : List Part) (w : World) (h : Pts w a len cap ds) (hz : len ≤ 1048576) :
    Calls Try.prog 20 #[.int .i64 n, .slice a len cap] w (RunAns n ds w) := by
  have hl := h.length
  have HP := Lib.hid h
  have LD := Lib.hid hl
  clear h hl
  by_cases hn : 1 ≤ n ∧ n ≤ 4
  · obtain ⟨m, rfl⟩ : ∃ m : Nat, n = (m : Int) := ⟨n.toNat, by omega⟩
    have HM := Lib.hid (show 1 ≤ m ∧ m ≤ 4 by omega)
    have RV := Lib.hid (runV_yes ds HM.out)
    clear hn
    go_enter Try.func20, Try.ntmps20
    go_wp2_with fail
    refine (asmNew_at m _ HM.out).mono ?_
    rintro e w1 ⟨g, p, rfl, o1, o2, hb1⟩
    have A1 := Lib.hid (show Ar w w1.heap.size (some ⟨g, 0, none⟩) m m p 0 0 (List.replicate m 0) [] (w1.alloc (.cells #[.slice (some ⟨g, 0, none⟩) m m, .slice p 0 0] 27)) from ⟨heap_alloc_new w1 _, o1.alloc _, o2.alloc _, hb1.alloc hb1.size _, hb1.size⟩)
    have O1 := Lib.hid (World.ownsRow_nil (w1.alloc (.cells #[.slice (some ⟨g, 0, none⟩) m m, .slice p 0 0] 27)) w.heap.size 46 4)
    have G0 := Lib.hid (show goP m (ds.take 0) (List.replicate m 0) [] = ⟨List.replicate m 0, [], []⟩ from rfl)
    clear o1 o2 hb1
    go_wp2
    obtain ⟨D, hD⟩ : ∃ D, w1.heap.size = D := ⟨_, rfl⟩
    rw [hD] at A1 ⊢
    clear hD
    go_loopw [22, 7] (fun i o wr => ∃ (j : Nat) (sa : Option Addr) (k cap3 : Nat) (next : List Int) (ps : List Part) (ms : List Msg) (a1 : Option Addr) (n1 c1 : Nat) (a2 : Option Addr) (n2 c2 : Nat), j ≤ len ∧ i = .int .i64 j ∧ o = .slice sa k cap3 ∧ k ≤ j ∧
      Hid (k = ms.length ∧ ms.length + ps.length ≤ j) ∧ Hid (goP m (ds.take j) (List.replicate m 0) [] = ⟨next, ps, ms⟩) ∧ Hid (Ar w D a1 n1 c1 a2 n2 c2 next ps wr) ∧ Hid (wr.ownsRow w.heap.size 46 4 (.slice sa k cap3) k (flatM ms))) (fun i _ _ => len - (intOf i).toNat)
    case atStart => exact ⟨0, none, 0, 0, List.replicate m 0, [], [], _, _, _, _, _, _, Nat.zero_le _, rfl, rfl, Nat.le_refl _, Lib.hid ⟨rfl, Nat.le_refl _⟩, G0, A1, O1⟩
    case round =>
      obtain ⟨j, sa, k, cap3, next, ps, ms, a1, n1, c1, a2, n2, c2, hj, rfl, rfl, hkj, HC, HG, hA, hO⟩ := hrel
      clear A1 O1 G0
      by_cases hlt : j < len
      · obtain ⟨x, rfl⟩ := HP.out.addr hlt
        obtain ⟨p0, p1, p2, p3, p4, p5, p6⟩ := HP.out.at hA.out.b hlt
        have hT := Lib.hid (take_pAt (ps := ds) (k := j) (by rw [LD.out]; exact hlt))
        obtain ⟨⟨t, s, q, fi, la, lo, tx⟩, hd⟩ : ∃ d, pAt ds j = d := ⟨_, rfl⟩
        rw [hd] at p0 p1 p2 p3 p4 p5 p6 hT
        dsimp only at p0 p1 p2 p3 p4 p5 p6
        have OKN := Lib.hid (by have := go_next (ds.take j) HM.out; rw [HG.out] at this; exact this)
        have ji : (j : Int) < (len : Int) := by omega
        have AB := Lib.hid (hA.out.step (below_box (.cells #[.int .i64 t, .int .i64 s, .int .i64 q, .bool fi, .bool la, .bool lo, .string tx] 43) (Nat.le_refl _)))
        have OB := Lib.hid (ownB hO.out (below_box (.cells #[.int .i64 t, .int .i64 s, .int .i64 q, .bool fi, .bool la, .bool lo, .string tx] 43) (Nat.le_refl _)))
        have v0 := (hA.out.var 0 _ rfl).1
        have v1 := (hA.out.var 1 _ rfl).1
        have lv0 := lt_of_cell v0
        clear hd hA hO
        go_wp2_with fail
        refine (asmAdd_any a1 n1 c1 next a2 n2 c2 ps ⟨t, s, q, fi, la, lo, tx⟩ _ (own_ns AB.out.n) (own_pts AB.out.p) (ok_keys OKN.out.1)).mono ?_
        rintro e w3 ⟨b1, m1, d1, b2, m2, d2, b3, m3, d3, rfl, hown, hb3⟩
        have hR : w.heap.size ≤ (wr.alloc (.cells #[.int .i64 t, .int .i64 s, .int .i64 q, .bool fi, .bool la, .bool lo, .string tx] 43)).heap.size := AB.out.b.size
        have A3 := Lib.hid (AB.out.step hb3)
        have BX := below_box (w := w3) (.cells #[.slice b1 m1 d1, .slice b2 m2 d2] 27) (Nat.le_refl _)
        have A4 := Lib.hid (A3.out.step BX)
        have O3 := Lib.hid (ownB OB.out hb3)
        have O4 := Lib.hid (ownB O3.out BX)
        have N3 := Lib.hid (row_low hown.o1 hR)
        have P3 := Lib.hid (row_low hown.o2 hR)
        have S3 := Lib.hid (row_low hown.o3 hR)
        have STP := Lib.hid (go_step (d := ⟨t, s, q, fi, la, lo, tx⟩) HG.out OKN.out.1 OKN.out.2)
        have CNT := Lib.hid (ansR_count (d := ⟨t, s, q, fi, la, lo, tx⟩) OKN.out.1)
        have M3 := Lib.hid (show (ansR next ps ⟨t, s, q, fi, la, lo, tx⟩).ms.length = m3 by have := hown.o3.1; rw [flatM_length] at this; omega)
        have zD := A3.out.zD
        obtain ⟨code, hcode⟩ : ∃ c, ansC next ps ⟨t, s, q, fi, la, lo, tx⟩ = c := ⟨_, rfl⟩
        rw [hcode] at STP ⊢
        unfold ansV
        clear hcode hown hb3 BX AB OB p0 p1 p2 p3 p4 p5 p6 v0 v1 lv0 hR
        by_cases hc : code = 0
        · subst hc
          have m3j : k + m3 ≤ j + 1 := by have := CNT.out; have := M3.out; have := HC.out; omega
          have c0 := (A3.out.var 0 _ rfl).1
          have c1 := (A3.out.var 1 _ rfl).1
          have c0f := (A3.out.var 0 _ rfl).2
          have c1f := (A3.out.var 1 _ rfl).2
          have nD : ¬ D = w3.heap.size := by omega
          have BY := below_box (w := ((w3.setCell ⟨D, 0, none⟩ (.slice b1 m1 d1)).setCell ⟨D, 1, none⟩ (.slice b2 m2 d2))) (.cells #[.slice b1 m1 d1, .slice b2 m2 d2] 27) (Nat.le_refl _)
          have A5 := Lib.hid ((A3.out.store N3.out P3.out).step BY)
          have O5 := Lib.hid (ownB (A3.out.keep O3.out (.slice b1 m1 d1) (.slice b2 m2 d2)) BY)
          have S5 := Lib.hid (ownB (A3.out.keep S3.out (.slice b1 m1 d1) (.slice b2 m2 d2)) BY)
          have hz5 := Lib.hid A5.out.b.size
          clear BY
          go_wp2_with (at_builtin; go_loud (refine list_catM rfl _ _ rfl w.heap.size w.heap.size k m3 cap3 d3 sa b3 ms (ansR next ps ⟨t, s, q, fi, la, lo, tx⟩).ms rfl O5.out rfl S5.out (by omega) hz5.out ?_))
          intro g3 cap4 w6 hown6 hgrow
          have A6 := Lib.hid (A5.out.grow hgrow O5.out (Nat.le_refl _))
          have O6 := Lib.hid hown6
          have HG2 := Lib.hid (show goP m (ds.take (j + 1)) (List.replicate m 0) [] = ⟨(ansR next ps ⟨t, s, q, fi, la, lo, tx⟩).next, (ansR next ps ⟨t, s, q, fi, la, lo, tx⟩).ps, ms ++ (ansR next ps ⟨t, s, q, fi, la, lo, tx⟩).ms⟩ by rw [hT.out]; exact STP.out.1 (by decide))
          have HC2 := Lib.hid (show k + m3 = (ms ++ (ansR next ps ⟨t, s, q, fi, la, lo, tx⟩).ms).length ∧ (ms ++ (ansR next ps ⟨t, s, q, fi, la, lo, tx⟩).ms).length + (ansR next ps ⟨t, s, q, fi, la, lo, tx⟩).ps.length ≤ j + 1 from by
            have h1 := HC.out
            have h2 := CNT.out
            have h3 := M3.out
            rw [List.length_append]
            omega)
          clear hown6 hgrow A5 O5 S5 c0 c1 c0f c1f nD
          go_wp2
          go_roundw
          case rel => exact ⟨j + 1, g3, k + m3, cap4, _, _, _, b1, m1, d1, b2, m2, d2, by omega, by go_num, rfl, m3j, HC2, HG2, A6, O6⟩
          case measure => simp [intOf]; omega
        · have hcd : decide (code = 0) = false := decide_eq_false hc
          have HG2 := Lib.hid (show goP m (ds.take (j + 1)) (List.replicate m 0) [] = ⟨next, ps, ms⟩ by rw [hT.out]; exact (STP.out.2 hc).1)
          have HC2 := Lib.hid (show k = ms.length ∧ ms.length + ps.length ≤ j + 1 from ⟨HC.out.1, by have := HC.out.2; omega⟩)
          go_wp2
          go_roundw
          case rel => exact ⟨j + 1, sa, k, cap3, next, ps, ms, a1, n1, c1, a2, n2, c2, by omega, by go_num, rfl, by omega, HC2, HG2, A4, O4⟩
          case measure => simp [intOf]; omega
      · obtain rfl : j = len := by omega
        have E := Lib.hid (show runV (m : Int) ds = ms by
          rw [RV.out]
          unfold runL
          have := HG.out
          rw [List.take_of_length_le (by rw [LD.out]; exact Nat.le_refl _)] at this
          rw [this])
        go_wp2
        go_ret
        exact ⟨sa, k, cap3, rfl, by rw [E.out]; exact hO.out, hA.out.b⟩
  · have HN := Lib.hid hn
    have RV := Lib.hid (show runV n ds = [] by unfold runV; rw [if_neg hn])
    clear hn
    go_enter Try.func20, Try.ntmps20
    go_wp2_with fail
    refine (asmNew_no n _ HN.out).mono ?_
    rintro e w1 ⟨rfl, hb1⟩
    have B1 := Lib.hid (hb1.alloc hb1.size (.cells #[.slice none 0 0, .slice none 0 0] 27))
    clear hb1
    go_wp2
    go_ret
    exact ⟨none, 0, 0, rfl, by rw [RV.out]; exact World.ownsRow_nil _ _ _ _, B1.out⟩

end Go.Proofs.Ytncbgejggfkdmab

/- The contract of the model's AsmRun. -/
namespace Go.Proofs.Ytncbgejggfkdmab
open Go.RowKit Go.PlainAid

/-- Behind a call of AsmAdd: its answer lies in a variable at x and in rows of one's own. -/
structure Aft (w : World) (D x : Nat) (a1 : Option Addr) (n1 c1 : Nat) (a2 : Option Addr) (n2 c2 : Nat) (next : List Int) (ps : List Part) (v : Value) (k : Nat) (ms : List Msg) (b1 : Option Addr) (m1 d1 : Nat) (b2 : Option Addr) (m2 d2 : Nat) (b3 : Option Addr) (m3 d3 : Nat) (r : Ran) (W : World) : Prop where
  bv : VarN x [.slice b1 m1 d1, .slice b2 m2 d2] W
  a : Ar w D a1 n1 c1 a2 n2 c2 next ps W
  o : W.ownsRow w.heap.size 46 4 v k (flatM ms)
  n : W.ownsRow w.heap.size 3 1 (.slice b1 m1 d1) m1 (flatN r.next)
  p : W.ownsRow w.heap.size 43 7 (.slice b2 m2 d2) m2 (flatP r.ps)
  s : W.ownsRow w.heap.size 46 4 (.slice b3 m3 d3) m3 (flatM r.ms)
  ne : D ≠ x
theorem Ar.box {w W : World} {D x n1 c1 n2 c2 : Nat} {a1 a2 : Option Addr} {next : List Int} {ps : List Part} {c : Array Value} (h : Ar w D a1 n1 c1 a2 n2 c2 next ps W) (hx : W.heap[x]? = some (.cells c 27 (0, 0))) (hne : D ≠ x) (hlo : w.heap.size ≤ x) (u v : Value) :
    Ar w D a1 n1 c1 a2 n2 c2 next ps ((W.setCell ⟨x, 0, none⟩ u).setCell ⟨x, 1, none⟩ v) := by
  have e1 := heap_setCell_same W x 0 _ _ u hx
  exact ⟨by rw [Below.heap_setCell _ _ _ _ hne, Below.heap_setCell _ _ _ _ hne]; exact h.dv, setKind (setKind h.n hx (by decide) _) e1 (by decide) _, setKind (setKind h.p hx (by decide) _) e1 (by decide) _, (h.b.setCell (p := ⟨x, 0, none⟩) hlo _).setCell (p := ⟨x, 1, none⟩) hlo _, h.lo⟩
section
variable {w wr w3 : World} {D n1 c1 n2 c2 k m1 d1 m2 d2 m3 d3 : Nat} {a1 a2 b1 b2 b3 : Option Addr} {next : List Int} {ps : List Part} {v : Value} {ms : List Msg} {r : Ran}
theorem Aft.late (AB : Ar w D a1 n1 c1 a2 n2 c2 next ps wr.drew) (OB : wr.drew.ownsRow w.heap.size 46 4 v k (flatM ms)) (hown : AnsOwn wr.drew.heap.size b1 m1 d1 b2 m2 d2 b3 m3 d3 r w3) (hb : Below wr.drew.heap.size wr.drew w3) :
    Aft w D w3.heap.size a1 n1 c1 a2 n2 c2 next ps v k ms b1 m1 d1 b2 m2 d2 b3 m3 d3 r (w3.alloc (.cells #[.slice b1 m1 d1, .slice b2 m2 d2] 27)) := by
  have hR : w.heap.size ≤ wr.drew.heap.size := AB.b.size
  have BX := below_box (w := w3) (.cells #[.slice b1 m1 d1, .slice b2 m2 d2] 27) (Nat.le_refl _)
  have A3 := AB.step hb
  exact ⟨VarN.new w3 _ _, A3.step BX, ownB (ownB OB hb) BX, ownB (row_low hown.o1 hR) BX, ownB (row_low hown.o2 hR) BX, ownB (row_low hown.o3 hR) BX, by have := A3.zD; omega⟩
theorem Aft.early (AB : Ar w D a1 n1 c1 a2 n2 c2 next ps wr.drew) (OB : wr.drew.ownsRow w.heap.size 46 4 v k (flatM ms)) (hown : AnsOwn (wr.drew.alloc (.cells #[.slice none 0 0, .slice none 0 0] 27)).heap.size b1 m1 d1 b2 m2 d2 b3 m3 d3 r w3) (hb : Below (wr.drew.alloc (.cells #[.slice none 0 0, .slice none 0 0] 27)).heap.size (wr.drew.alloc (.cells #[.slice none 0 0, .slice none 0 0] 27)) w3) :
    Aft w D wr.heap.size a1 n1 c1 a2 n2 c2 next ps v k ms b1 m1 d1 b2 m2 d2 b3 m3 d3 r ((w3.setCell ⟨wr.heap.size, 0, none⟩ (.slice b1 m1 d1)).setCell ⟨wr.heap.size, 1, none⟩ (.slice b2 m2 d2)) := by
  have BZ := below_box (w := wr.drew) (.cells #[.slice none 0 0, .slice none 0 0] 27) (Nat.le_refl _)
  have hR1 : w.heap.size ≤ wr.heap.size := AB.b.size
  have hR : w.heap.size ≤ (wr.drew.alloc (.cells #[.slice none 0 0, .slice none 0 0] 27)).heap.size := (AB.step BZ).b.size
  have hx : w3.heap[wr.heap.size]? = some (.cells #[.slice none 0 0, .slice none 0 0] 27 (0, 0)) := (hb.block wr.heap.size (by simp)).trans (heap_alloc_new wr.drew _)
  have e1 := heap_setCell_same w3 wr.heap.size 0 _ _ (.slice b1 m1 d1) hx
  have A3 := (AB.step BZ).step hb
  have hne : D ≠ wr.heap.size := by have := AB.zD; have e : wr.drew.heap.size = wr.heap.size := rfl; omega
  exact ⟨var_of_heap (box_set hx _ _), A3.box hx hne hR1 _ _, setKind (setKind (ownB (ownB OB BZ) hb) hx (by decide) _) e1 (by decide) _, setKind (setKind (row_low hown.o1 hR) hx (by decide) _) e1 (by decide) _, setKind (setKind (row_low hown.o2 hR) hx (by decide) _) e1 (by decide) _, setKind (setKind (row_low hown.o3 hR) hx (by decide) _) e1 (by decide) _, hne⟩
end

set_option maxRecDepth 8000 in
set_option maxHeartbeats 8000000 in
theorem sAsmRun_any (n : Int) (a : Option Addr) (len cap : Nat) (ds : List Part) (w : World) (h : Pts w a len cap ds) (hz : len ≤ 1048576) :
    Calls Try.prog 21 #[.int .i64 n, .slice a len cap] w (RunAns n ds w) := by
  have hl := h.length
  have HP := Lib.hid h
  have LD := Lib.hid hl
  have BL := Lib.hid (below_box (w := w) (.cells #[] 46) (Nat.le_refl _))
  have OL := Lib.hid (show (w.alloc (.cells #[] 46)).ownsRow w.heap.size 46 4 (.slice (some ⟨w.heap.size, 0, none⟩) 0 0) 0 (flatM []) from World.ownsRow_lit w #[] 0 (Nat.le_refl _) (by decide) rfl)
  clear h hl
  by_cases hn : 1 ≤ n ∧ n ≤ 4
  · obtain ⟨m, rfl⟩ : ∃ m : Nat, n = (m : Int) := ⟨n.toNat, by omega⟩
    have HM := Lib.hid (show 1 ≤ m ∧ m ≤ 4 by omega)
    have RV := Lib.hid (runV_yes ds HM.out)
    clear hn
    go_enter Try.func21, Try.ntmps21
    go_wp2_with fail
    refine (sAsmNew_at m _ HM.out).mono ?_
    rintro e w1 ⟨g, p, rfl, o1, o2, hb1⟩
    have A1 := Lib.hid (show Ar w w1.heap.size (some ⟨g, 0, none⟩) m m p 0 0 (List.replicate m 0) [] (w1.alloc (.cells #[.slice (some ⟨g, 0, none⟩) m m, .slice p 0 0] 27)) from ⟨heap_alloc_new w1 _, (row_low o1 BL.out.size).alloc _, (row_low o2 BL.out.size).alloc _, (BL.out.trans (hb1.mono BL.out.size)).alloc (Nat.le_trans BL.out.size hb1.size) _, Nat.le_trans BL.out.size hb1.size⟩)
    have O1 := Lib.hid ((ownB OL.out hb1).alloc (.cells #[.slice (some ⟨g, 0, none⟩) m m, .slice p 0 0] 27))
    have G0 := Lib.hid (show goP m (ds.take 0) (List.replicate m 0) [] = ⟨List.replicate m 0, [], []⟩ from rfl)
    clear o1 o2 hb1
    go_wp2
    obtain ⟨D, hD⟩ : ∃ D, w1.heap.size = D := ⟨_, rfl⟩
    rw [hD] at A1 ⊢
    clear hD
    go_loopw [8, 5] (fun i o wr => ∃ (j : Nat) (sa : Option Addr) (k cap3 : Nat) (next : List Int) (ps : List Part) (ms : List Msg) (a1 : Option Addr) (n1 c1 : Nat) (a2 : Option Addr) (n2 c2 : Nat), j ≤ len ∧ i = .int .i64 j ∧ o = .slice sa k cap3 ∧ k ≤ j ∧
      Hid (k = ms.length ∧ ms.length + ps.length ≤ j) ∧ Hid (goP m (ds.take j) (List.replicate m 0) [] = ⟨next, ps, ms⟩) ∧ Hid (Ar w D a1 n1 c1 a2 n2 c2 next ps wr) ∧ Hid (wr.ownsRow w.heap.size 46 4 (.slice sa k cap3) k (flatM ms))) (fun i _ _ => len - (intOf i).toNat)
    case atStart => exact ⟨0, _, 0, 0, List.replicate m 0, [], [], _, _, _, _, _, _, Nat.zero_le _, rfl, rfl, Nat.le_refl _, Lib.hid ⟨rfl, Nat.le_refl _⟩, G0, A1, O1⟩
    case round =>
      obtain ⟨j, sa, k, cap3, next, ps, ms, a1, n1, c1, a2, n2, c2, hj, rfl, rfl, hkj, HC, HG, hA, hO⟩ := hrel
      clear A1 O1 G0
      by_cases hlt : j < len
      · obtain ⟨x, rfl⟩ := HP.out.addr hlt
        obtain ⟨p0, p1, p2, p3, p4, p5, p6⟩ := HP.out.at hA.out.b hlt
        have hT := Lib.hid (take_pAt (ps := ds) (k := j) (by rw [LD.out]; exact hlt))
        obtain ⟨⟨t, s, q, fi, la, lo, tx⟩, hd⟩ : ∃ d, pAt ds j = d := ⟨_, rfl⟩
        rw [hd] at p0 p1 p2 p3 p4 p5 p6 hT
        dsimp only at p0 p1 p2 p3 p4 p5 p6
        have OKN := Lib.hid (by have := go_next (ds.take j) HM.out; rw [HG.out] at this; exact this)
        have ji : (j : Int) < (len : Int) := by omega
        have AB := Lib.hid (hA.out.step (Below.drew (Below.refl _ _)))
        have OB := Lib.hid (ownB hO.out (Below.drew (Below.refl _ _)))
        have BZ := Lib.hid (below_box (w := wr.drew) (.cells #[.slice none 0 0, .slice none 0 0] 27) (Nat.le_refl _))
        have AZ := Lib.hid (AB.out.step BZ.out)
        have VZ := Lib.hid (show VarN wr.heap.size [.slice none 0 0, .slice none 0 0] (wr.drew.alloc (.cells #[.slice none 0 0, .slice none 0 0] 27)) from VarN.new wr.drew [.slice none 0 0, .slice none 0 0] 27)
        have LZ : wr.heap.size < (wr.drew.alloc (.cells #[.slice none 0 0, .slice none 0 0] 27)).heap.size := lt_of_cell (VZ.out 0 _ rfl).1
        have v0 := (hA.out.var 0 _ rfl).1
        have v1 := (hA.out.var 1 _ rfl).1
        have lv0 := lt_of_cell v0
        have lx : (x.add (j * 7)).block < wr.heap.size := World.block_lt_of_cell? wr _ p0
        clear hd hA hO
        go_wp2_with fail
        go_region_law (go_simp; go_at_call 49; (first | refine (sAsmAdd_any a1 n1 c1 next a2 n2 c2 ps ⟨t, s, q, fi, la, lo, tx⟩ _ (own_ns AB.out.n) (own_pts AB.out.p)).mono ?_ | refine (sAsmAdd_any a1 n1 c1 next a2 n2 c2 ps ⟨t, s, q, fi, la, lo, tx⟩ _ (own_ns AZ.out.n) (own_pts AZ.out.p)).mono ?_); rintro e w3 ⟨b1, m1, d1, b2, m2, d2, b3, m3, d3, rfl, hown, hb3⟩; unfold ansV; dsimp only; try (have y0 := ((VZ.out.below hb3 LZ) 0 _ rfl).1; have y1 := ((VZ.out.below hb3 LZ) 1 _ rfl).1; have y0f := ((VZ.out.below hb3 LZ) 0 _ rfl).2; have y1f := ((VZ.out.below hb3 LZ) 1 _ rfl).2))
        all_goals
          first
            | (have F := Lib.hid (Aft.late AB.out OB.out hown hb3); generalize (w3.alloc (.cells #[.slice b1 m1 d1, .slice b2 m2 d2] 27)) = W9 at F ⊢)
            | (have F := Lib.hid (Aft.early AB.out OB.out hown hb3); generalize ((w3.setCell ⟨wr.heap.size, 0, none⟩ (.slice b1 m1 d1)).setCell ⟨wr.heap.size, 1, none⟩ (.slice b2 m2 d2)) = W9 at F ⊢)
          have STP := Lib.hid (go_step (d := ⟨t, s, q, fi, la, lo, tx⟩) HG.out OKN.out.1 OKN.out.2)
          have CNT := Lib.hid (ansR_count (d := ⟨t, s, q, fi, la, lo, tx⟩) OKN.out.1)
          have M3 := Lib.hid (show (ansR next ps ⟨t, s, q, fi, la, lo, tx⟩).ms.length = m3 by have := F.out.s.1; rw [flatM_length] at this; omega)
          have m3j : k + m3 ≤ j + 1 := by have := CNT.out; have := M3.out; have := HC.out; omega
          obtain ⟨code, hcode⟩ : ∃ c, ansC next ps ⟨t, s, q, fi, la, lo, tx⟩ = c := ⟨_, rfl⟩
          rw [hcode] at STP ⊢
          try clear y0 y1 y0f y1f
          clear hcode hown hb3 AB OB BZ AZ VZ LZ p0 p1 p2 p3 p4 p5 p6 v0 v1 lv0 lx
          by_cases hc : code = 3
          · subst hc
            have hR3 := Lib.hid (STP.out.2 (by decide))
            have HG2 := Lib.hid (show goP m (ds.take (j + 1)) (List.replicate m 0) [] = ⟨next, ps, ms ++ (ansR next ps ⟨t, s, q, fi, la, lo, tx⟩).ms⟩ by rw [hT.out, hR3.out.1, hR3.out.2, List.append_nil])
            have HC2 := Lib.hid (show k + m3 = (ms ++ (ansR next ps ⟨t, s, q, fi, la, lo, tx⟩).ms).length ∧ (ms ++ (ansR next ps ⟨t, s, q, fi, la, lo, tx⟩).ms).length + ps.length ≤ j + 1 from by
              have h1 := HC.out
              have h3 := M3.out
              rw [List.length_append]
              rw [hR3.out.2] at h3 ⊢
              simp at h3 ⊢
              omega)
            go_wp2_with (at_builtin; go_loud (refine list_catM rfl _ _ rfl w.heap.size w.heap.size k m3 cap3 d3 sa b3 ms (ansR next ps ⟨t, s, q, fi, la, lo, tx⟩).ms rfl F.out.o rfl F.out.s (by omega) F.out.a.b.size ?_))
            intro g3 cap4 w6 hown6 hgrow
            have A6 := Lib.hid (F.out.a.grow hgrow F.out.o (Nat.le_refl _))
            have O6 := Lib.hid hown6
            clear hown6 hgrow F
            go_wp2
            go_roundw
            case rel => exact ⟨j + 1, g3, k + m3, cap4, _, _, _, a1, n1, c1, a2, n2, c2, by omega, by go_num, rfl, m3j, HC2, HG2, A6, O6⟩
            case measure => simp [intOf]; omega
          · have hcd : decide (code = 3) = false := decide_eq_false hc
            have c0 := (F.out.a.var 0 _ rfl).1
            have c1' := (F.out.a.var 1 _ rfl).1
            have c0f := (F.out.a.var 0 _ rfl).2
            have c1f := (F.out.a.var 1 _ rfl).2
            have x0 := (F.out.bv 0 _ rfl).1
            have x1 := (F.out.bv 1 _ rfl).1
            have A5 := Lib.hid (F.out.a.store F.out.n F.out.p)
            have O5 := Lib.hid (F.out.a.keep F.out.o (.slice b1 m1 d1) (.slice b2 m2 d2))
            have S5 := Lib.hid (F.out.a.keep F.out.s (.slice b1 m1 d1) (.slice b2 m2 d2))
            have HG2 := Lib.hid (show goP m (ds.take (j + 1)) (List.replicate m 0) [] = ⟨(ansR next ps ⟨t, s, q, fi, la, lo, tx⟩).next, (ansR next ps ⟨t, s, q, fi, la, lo, tx⟩).ps, ms ++ (ansR next ps ⟨t, s, q, fi, la, lo, tx⟩).ms⟩ by rw [hT.out]; exact STP.out.1 hc)
            have HC2 := Lib.hid (show k + m3 = (ms ++ (ansR next ps ⟨t, s, q, fi, la, lo, tx⟩).ms).length ∧ (ms ++ (ansR next ps ⟨t, s, q, fi, la, lo, tx⟩).ms).length + (ansR next ps ⟨t, s, q, fi, la, lo, tx⟩).ps.length ≤ j + 1 from by
              have h1 := HC.out
              have h2 := CNT.out
              have h3 := M3.out
              rw [List.length_append]
              omega)
            go_wp2_with (at_builtin; go_loud (refine list_catM rfl _ _ rfl w.heap.size w.heap.size k m3 cap3 d3 sa b3 ms (ansR next ps ⟨t, s, q, fi, la, lo, tx⟩).ms rfl O5.out rfl S5.out (by omega) A5.out.b.size ?_))
            intro g3 cap4 w6 hown6 hgrow
            have A6 := Lib.hid (A5.out.grow hgrow O5.out (Nat.le_refl _))
            have O6 := Lib.hid hown6
            clear hown6 hgrow A5 O5 S5 c0 c1' c0f c1f x0 x1 F
            go_wp2
            go_roundw
            case rel => exact ⟨j + 1, g3, k + m3, cap4, _, _, _, b1, m1, d1, b2, m2, d2, by omega, by go_num, rfl, m3j, HC2, HG2, A6, O6⟩
            case measure => simp [intOf]; omega
      · obtain rfl : j = len := by omega
        have E := Lib.hid (show runV (m : Int) ds = ms by
          rw [RV.out]
          unfold runL
          have := HG.out
          rw [List.take_of_length_le (by rw [LD.out]; exact Nat.le_refl _)] at this
          rw [this])
        go_wp2
        go_ret
        exact ⟨sa, k, cap3, rfl, by rw [E.out]; exact hO.out, hA.out.b⟩
  · have HN := Lib.hid hn
    have RV := Lib.hid (show runV n ds = [] by unfold runV; rw [if_neg hn])
    clear hn
    go_enter Try.func21, Try.ntmps21
    go_wp2_with fail
    refine (sAsmNew_no n _ HN.out).mono ?_
    rintro e w1 ⟨rfl, hb1⟩
    have O1 := Lib.hid ((ownB OL.out hb1).alloc (.cells #[.slice none 0 0, .slice none 0 0] 27))
    have B1 := Lib.hid ((BL.out.trans (hb1.mono BL.out.size)).alloc (Nat.le_trans BL.out.size hb1.size) (.cells #[.slice none 0 0, .slice none 0 0] 27))
    clear hb1
    go_wp2
    go_loopw [8, 5] (fun i o wr => i = .int .i64 0 ∧ o = .slice (some ⟨w.heap.size, 0, none⟩) 0 0 ∧ wr = w1.alloc (.cells #[.slice none 0 0, .slice none 0 0] 27)) (fun _ _ _ => 0)
    case atStart => exact ⟨rfl, rfl, rfl⟩
    case round =>
      obtain ⟨rfl, rfl, rfl⟩ := hrel
      by_cases h0 : (0 : Int) < (len : Int)
      all_goals
        go_wp2
        go_ret
        exact ⟨_, 0, 0, rfl, by rw [RV.out]; exact O1.out, B1.out⟩

end Go.Proofs.Ytncbgejggfkdmab

/- The answer of a run, its length known; marks in a copy of a list of parts. -/
namespace Go.Proofs.Ytncbgejggfkdmab
open Go.RowKit Go.PlainAid

theorem goP_count {m : Nat} (h : 1 ≤ m ∧ m ≤ 4) : ∀ (k : Nat) (ds : List Part), ds.length = k → (goP m ds (List.replicate m 0) []).ms.length + (goP m ds (List.replicate m 0) []).ps.length ≤ ds.length := by
  intro k
  induction k with
  | zero =>
    intro ds hd
    obtain rfl : ds = [] := List.eq_nil_of_length_eq_zero hd
    simp [goP]
  | succ k ih =>
    intro ds hd
    obtain ⟨L, d, rfl⟩ : ∃ L d, ds = L ++ [d] := by
      rcases List.eq_nil_or_concat ds with rfl | ⟨L, d, rfl⟩
      · simp at hd
      · exact ⟨L, d, by simp⟩
    rw [List.length_append, List.length_singleton] at hd
    have h1 := ih L (by omega)
    obtain ⟨h2, h3⟩ := go_next L h
    obtain ⟨⟨next, ps, ms⟩, hg⟩ : ∃ r, goP m L (List.replicate m 0) [] = r := ⟨_, rfl⟩
    rw [hg] at h1 h2 h3
    dsimp only at h1 h2 h3
    obtain ⟨s1, s2⟩ := go_step (d := d) hg h2 h3
    have hc := ansR_count (d := d) h2
    rw [List.length_append, List.length_singleton]
    by_cases h0 : ansC next ps d = 0
    · rw [s1 (by rw [h0]; decide)]
      dsimp only
      rw [List.length_append]
      omega
    · rw [(s2 h0).1]
      dsimp only
      omega
theorem runV_few {n : Int} {ds : List Part} {rm : List Msg} (h : runV n ds = rm) : rm.length ≤ ds.length := by
  subst h
  unfold runV
  split
  · rename_i hn
    have := goP_count (m := n.toNat) (by omega) _ ds rfl
    unfold runL
    omega
  · simp
/-- What a run answers, its length known. -/
def RunIs (rm : List Msg) (n3 : Nat) (w : World) (e : Ending) (w' : World) : Prop :=
  ∃ a3 c3, e = .returned (.slice a3 n3 c3) ∧ w'.ownsRow w.heap.size 46 4 (.slice a3 n3 c3) n3 (flatM rm) ∧ Below w.heap.size w w'
theorem RunAns.is {n : Int} {ds : List Part} {w w' : World} {e : Ending} {rm : List Msg} {n3 : Nat} (h : RunAns n ds w e w') (hr : runV n ds = rm) (h3 : rm.length = n3) : RunIs rm n3 w e w' := by
  obtain ⟨a, k, cap, rfl, ho, hb⟩ := h
  rw [hr] at ho
  have e3 : k = n3 := by have := ho.1; rw [flatM_length] at this; omega
  subst e3
  exact ⟨a, cap, rfl, ho, hb⟩
theorem asmRun_is (n : Int) (a : Option Addr) (len cap : Nat) (ds : List Part) (w : World) {rm : List Msg} {n3 : Nat} (h : Pts w a len cap ds) (hz : len ≤ 1048576) (hr : runV n ds = rm) (h3 : rm.length = n3) :
    Calls Try.prog 20 #[.int .i64 n, .slice a len cap] w (RunIs rm n3 w) := (asmRun_any n a len cap ds w h hz).mono fun _ _ h => h.is hr h3
theorem sAsmRun_is (n : Int) (a : Option Addr) (len cap : Nat) (ds : List Part) (w : World) {rm : List Msg} {n3 : Nat} (h : Pts w a len cap ds) (hz : len ≤ 1048576) (hr : runV n ds = rm) (h3 : rm.length = n3) :
    Calls Try.prog 21 #[.int .i64 n, .slice a len cap] w (RunIs rm n3 w) := (sAsmRun_any n a len cap ds w h hz).mono fun _ _ h => h.is hr h3
/-- A copy of a list of parts. -/
structure FreP (d len : Nat) (ps : List Part) (W : World) : Prop where
  f : FilP d len len ps W
  r : FreeN d W
  l : d < W.heap.size
theorem FreP.below {d len : Nat} {ps : List Part} {W W' : World} (h : FreP d len ps W) (hb : Below W.heap.size W W') : FreP d len ps W' := ⟨h.f.below hb, h.r.below h.l hb, Nat.lt_of_lt_of_le h.l hb.size⟩
theorem markFreP {R d len : Nat} {ps : List Part} {W : World} {z : Int} (h : FreP d len ps W) (hl : len ≤ 1048576) (hR : R ≤ d) (hz : ((1 + 7 * len : Nat) : Int) = z) :
    Calls Try.prog 34 #[.slice (some ⟨d, 0, none⟩) len len, .int .i64 1] W fun e w' => e = .returned (.int .i64 z) ∧ W.heap.size ≤ w'.heap.size ∧ Mgl R [some d] W w' := by
  subst hz
  refine (markDataS_any d len len 1 W hl (Nat.le_refl _) (by omega) h.l h.f.blank h.r).mono ?_
  rintro e w' ⟨rfl, _, _, hm⟩
  exact ⟨rfl, hm.z, Mgl.of_mw hm hR (by simp)⟩

end Go.Proofs.Ytncbgejggfkdmab

/- A slice of parts that is handed to a law, opened: structs of seven fields of one cell each. -/
namespace Go.Proofs.Ytncbgejggfkdmab
open Go.ChangeShapes Go.WideShapes Go.ChangeAt Go.RowKit Go.Joins Go.Deep

theorem open_sevens {H : Type} {enc : TypeId × Value → H} {P : Program} {w : World} {base : Nat} {spare : Nat → Bool} {held : Bool} {t e : TypeId} {f0 f1 f2 f3 f4 f5 f6 : Field} {fuel : Nat} {cs : List Value} {x : DataW H × List MemPlace} (ht : P.underlying t = some (.slice e)) (he : P.underlying e = some (.struct #[f0, f1, f2, f3, f4, f5, f6]))
    (ce : P.cellsOf e = 7) (o0 : f0.offset = 0) (o1 : f1.offset = 1) (o2 : f2.offset = 2) (o3 : f3.offset = 3) (o4 : f4.offset = 4) (o5 : f5.offset = 5) (o6 : f6.offset = 6) (c0 : P.cellsOf f0.type = 1) (c1 : P.cellsOf f1.type = 1) (c2 : P.cellsOf f2.type = 1) (c3 : P.cellsOf f3.type = 1) (c4 : P.cellsOf f4.type = 1) (c5 : P.cellsOf f5.type = 1) (c6 : P.cellsOf f6.type = 1)
    (h : DataW.trod enc P w base spare held fuel t cs = some x) :
    cs = [.slice none 0 0] ∨ ∃ (a : Addr) (len cap n : Nat), cs = [.slice (some a) len cap] ∧ len ≤ cap ∧ cap ≤ maxLen ∧ ∀ i, i < len → ∃ v0 v1 v2 v3 v4 v5 v6 y0 y1 y2 y3 y4 y5 y6, w.cell? (a.add (i * 7)) = some v0 ∧ w.cell? (a.add (i * 7 + 1)) = some v1 ∧ w.cell? (a.add (i * 7 + 2)) = some v2 ∧ w.cell? (a.add (i * 7 + 3)) = some v3 ∧ w.cell? (a.add (i * 7 + 4)) = some v4 ∧ w.cell? (a.add (i * 7 + 5)) = some v5 ∧ w.cell? (a.add (i * 7 + 6)) = some v6 ∧
      DataW.trod enc P w base spare held n f0.type [v0] = some y0 ∧ DataW.trod enc P w base spare held n f1.type [v1] = some y1 ∧ DataW.trod enc P w base spare held n f2.type [v2] = some y2 ∧ DataW.trod enc P w base spare held n f3.type [v3] = some y3 ∧ DataW.trod enc P w base spare held n f4.type [v4] = some y4 ∧ DataW.trod enc P w base spare held n f5.type [v5] = some y5 ∧ DataW.trod enc P w base spare held n f6.type [v6] = some y6 := by
  rcases open_slice ht h with ⟨h0, _⟩ | ⟨a, len, cap, m, n, D, Pl, rfl, hb, hl, hm, hmm, rfl, hx⟩
  · exact Or.inl h0
  right
  have hlm : len ≤ m := by rw [hmm]; split <;> omega
  refine ⟨a, len, cap, n - 1, rfl, hl, hm, fun i hi => ?_⟩
  obtain ⟨cs', h1, h2⟩ := hx i (by omega)
  rw [ce] at h1
  obtain ⟨_, hlen, hcell⟩ := World.cells?_some h1
  obtain ⟨xs, k, hk, hxy, _, hxl, hf⟩ := DataW.trod_struct he h2
  have hk' : k = n - 1 := by omega
  subst hk'
  match xs, hxl, cs', hlen with
  | [y0, y1, y2, y3, y4, y5, y6], _, [v0, v1, v2, v3, v4, v5, v6], _ =>
    have g0 := hf 0 f0 rfl
    have g1 := hf 1 f1 rfl
    have g2 := hf 2 f2 rfl
    have g3 := hf 3 f3 rfl
    have g4 := hf 4 f4 rfl
    have g5 := hf 5 f5 rfl
    have g6 := hf 6 f6 rfl
    simp [o0, c0, o1, c1, o2, c2, o3, c3, o4, c4, o5, c5, o6, c6] at g0 g1 g2 g3 g4 g5 g6
    have e0 := hcell 0 (by omega)
    have e1 := hcell 1 (by omega)
    have e2 := hcell 2 (by omega)
    have e3 := hcell 3 (by omega)
    have e4 := hcell 4 (by omega)
    have e5 := hcell 5 (by omega)
    have e6 := hcell 6 (by omega)
    rw [add_add] at e0 e1 e2 e3 e4 e5 e6
    exact ⟨v0, v1, v2, v3, v4, v5, v6, y0, y1, y2, y3, y4, y5, y6, by simpa using e0, by simpa using e1, by simpa using e2, by simpa using e3, by simpa using e4, by simpa using e5, by simpa using e6, g0, g1, g2, g3, g4, g5, g6⟩
theorem addr_past (a : Addr) (n j : Nat) (hj : 0 < j) : a.add (n + j) = ⟨(a.add n).block, (a.add n).off + j, none⟩ := by
  unfold Addr.add
  by_cases h : n = 0
  · subst h
    simp
    omega
  · have e : ¬ n + j = 0 := by omega
    rw [if_neg e, if_neg h, Nat.add_assoc]
theorem atP_any (a : Addr) (i j : Nat) : atP a i j = a.add (i * 7 + j) := by
  cases j with
  | zero => rfl
  | succ j =>
    show (⟨(a.add (i * 7)).block, (a.add (i * 7)).off + (j + 1), none⟩ : Addr) = _
    rw [addr_past _ _ _ (by omega)]
theorem key_wf_of {t : Int} (h : (Lit.int .i64 t).wf = true) : Key t := by
  have e1 : IntKind.i64.min = -9223372036854775808 := by decide
  have e2 : IntKind.i64.max = 9223372036854775807 := by decide
  simp [Lit.wf, e1, e2] at h
  unfold Key
  omega
instance : Inhabited Part := ⟨⟨0, 0, 0, false, false, false, ByteArray.mk #[]⟩⟩
/-- The parts of a slice that is read. -/
theorem open_pts {H : Type} {enc : TypeId × Value → H} {P : Program} (W : World) {sp : Nat → Bool} {hd : Bool} {n : Nat} {v : Value} {y : DataW H × List MemPlace} {t e ti tb ts : TypeId} {f0 f1 f2 f3 f4 f5 f6 : Field} (ht : P.underlying t = some (.slice e)) (he : P.underlying e = some (.struct #[f0, f1, f2, f3, f4, f5, f6]))
    (ce : P.cellsOf e = 7) (o0 : f0.offset = 0) (o1 : f1.offset = 1) (o2 : f2.offset = 2) (o3 : f3.offset = 3) (o4 : f4.offset = 4) (o5 : f5.offset = 5) (o6 : f6.offset = 6) (c0 : P.cellsOf f0.type = 1) (c1 : P.cellsOf f1.type = 1) (c2 : P.cellsOf f2.type = 1) (c3 : P.cellsOf f3.type = 1) (c4 : P.cellsOf f4.type = 1) (c5 : P.cellsOf f5.type = 1) (c6 : P.cellsOf f6.type = 1) (t0 : f0.type = ti) (t1 : f1.type = ti) (t2 : f2.type = ti) (t3 : f3.type = tb) (t4 : f4.type = tb) (t5 : f5.type = tb) (t6 : f6.type = ts) (hi : P.underlying ti = some (.int .i64)) (hb : P.underlying tb = some .bool) (hs : P.underlying ts = some .string)
    (h : DataW.trod enc P W 0 sp hd n t [v] = some y) :
    ∃ a len cap ps, v = .slice a len cap ∧ Pts W a len cap ps ∧ (∀ p ∈ ps, p.text.size ≤ maxLen) ∧ ∀ p ∈ ps, Key p.tsn := by
  rcases open_sevens ht he ce o0 o1 o2 o3 o4 o5 o6 c0 c1 c2 c3 c4 c5 c6 h with e | ⟨a, len, cap, m, e, hl, hm, hx⟩
  · obtain rfl : v = .slice none 0 0 := by simpa using e
    exact ⟨none, 0, 0, [], rfl, .inl ⟨rfl, rfl, rfl, rfl⟩, fun c hc => by simp at hc, fun c hc => by simp at hc⟩
  · obtain rfl : v = .slice (some a) len cap := by simpa using e
    have each : ∀ i, i < len → ∃ q : Part, (∀ j u, (cellsP q)[j]? = some u → W.cell? (atP a i j) = some u) ∧ q.text.size ≤ maxLen ∧ Key q.tsn := by
      intro i hi'
      obtain ⟨v0, v1, v2, v3, v4, v5, v6, y0, y1, y2, y3, y4, y5, y6, p0, p1, p2, p3, p4, p5, p6, g0, g1, g2, g3, g4, g5, g6⟩ := hx i hi'
      rw [t0] at g0
      rw [t1] at g1
      rw [t2] at g2
      rw [t3] at g3
      rw [t4] at g4
      rw [t5] at g5
      rw [t6] at g6
      obtain ⟨z0, e0, _, w0⟩ := DataW.trod_int hi g0
      obtain rfl : v0 = .int .i64 z0 := by simpa using e0
      obtain ⟨z1, e1, _, w1⟩ := DataW.trod_int hi g1
      obtain rfl : v1 = .int .i64 z1 := by simpa using e1
      obtain ⟨z2, e2, _, w2⟩ := DataW.trod_int hi g2
      obtain rfl : v2 = .int .i64 z2 := by simpa using e2
      obtain ⟨z3, e3, _⟩ := DataW.trod_bool hb g3
      obtain rfl : v3 = .bool z3 := by simpa using e3
      obtain ⟨z4, e4, _⟩ := DataW.trod_bool hb g4
      obtain rfl : v4 = .bool z4 := by simpa using e4
      obtain ⟨z5, e5, _⟩ := DataW.trod_bool hb g5
      obtain rfl : v5 = .bool z5 := by simpa using e5
      obtain ⟨z6, e6, _, w6⟩ := DataW.trod_string hs g6
      obtain rfl : v6 = .string z6 := by simpa using e6
      refine ⟨⟨z0, z1, z2, z3, z4, z5, z6⟩, fun j u hu => ?_, w6, key_wf_of w0⟩
      have hj : j < 7 := (List.getElem?_eq_some_iff.1 hu).1
      rw [atP_any]
      rcases (show j = 0 ∨ j = 1 ∨ j = 2 ∨ j = 3 ∨ j = 4 ∨ j = 5 ∨ j = 6 by omega) with rfl | rfl | rfl | rfl | rfl | rfl | rfl
      · exact p0.trans hu
      · exact p1.trans hu
      · exact p2.trans hu
      · exact p3.trans hu
      · exact p4.trans hu
      · exact p5.trans hu
      · exact p6.trans hu
    obtain ⟨q, hq⟩ := choose_lt each
    have e : ∀ i, i < len → pAt ((List.range len).map q) i = q i := fun i hi' => by
      unfold pAt
      rw [List.getD_eq_getElem?_getD, List.getElem?_map, List.getElem?_range hi']
      rfl
    refine ⟨some a, len, cap, (List.range len).map q, rfl, .inr ⟨a, rfl, hl, hm, by simp, fun i hi' j u hu => ?_⟩, fun c hc => ?_, fun c hc => ?_⟩
    · rw [e i hi'] at hu
      exact (hq i hi').1 j u hu
    · obtain ⟨i, hi', rfl⟩ := List.mem_map.1 hc
      exact (hq i (List.mem_range.1 hi')).2.1
    · obtain ⟨i, hi', rfl⟩ := List.mem_map.1 hc
      exact (hq i (List.mem_range.1 hi')).2.2

end Go.Proofs.Ytncbgejggfkdmab

/- Talks, plain: what is said, and the parts of a side. -/
namespace Go.Proofs.Ytncbgejggfkdmab
open Go.RowKit Go.PlainAid

/-- A message of a talk. -/
structure SayP where
  byB : Bool
  stream : Int
  loose : Bool
  text : ByteArray
def noSay : SayP := ⟨false, 0, false, ByteArray.mk #[]⟩
def sAt (ss : List SayP) (i : Nat) : SayP := ss.getD i noSay
theorem sAt_get {ss : List SayP} {i : Nat} (h : i < ss.length) : ss[i] = sAt ss i := by
  unfold sAt
  rw [List.getD_eq_getElem?_getD, List.getElem?_eq_getElem h]
  rfl
theorem sAt_mem {ss : List SayP} {i : Nat} (h : i < ss.length) : sAt ss i ∈ ss := by
  rw [← sAt_get h]
  exact List.getElem_mem _
theorem take_snoc {ss : List SayP} {i : Nat} (h : i < ss.length) : ss.take (i + 1) = ss.take i ++ [sAt ss i] := by
  rw [← sAt_get h, List.take_add_one, List.getElem?_eq_getElem h]
  rfl
/-- How many parts a message has. -/
def manyN (len size : Nat) : Nat := (len + size - 1) / size
/-- Whether a message is of a side's streams, and of a size. -/
def sayOk (sa sb : Int) (x : SayP) : Prop := 1 ≤ x.text.size ∧ x.text.size ≤ 60 ∧ 0 ≤ x.stream ∧ x.stream < (if x.byB then sb else sa)
/-- How many parts the messages of a side have. -/
def sumMany (size : Nat) (b : Bool) : List SayP → Nat
  | [] => 0
  | x :: xs => (if x.byB = b then manyN x.text.size size else 0) + sumMany size b xs
theorem sumMany_append (size : Nat) (b : Bool) : ∀ xs ys, sumMany size b (xs ++ ys) = sumMany size b xs + sumMany size b ys
  | [], ys => by simp [sumMany]
  | x :: xs, ys => by
    show (if x.byB = b then _ else 0) + sumMany size b (xs ++ ys) = (if x.byB = b then _ else 0) + sumMany size b xs + sumMany size b ys
    rw [sumMany_append size b xs ys]
    omega
theorem sumMany_snoc {ss : List SayP} {i : Nat} (size : Nat) (b : Bool) (h : i < ss.length) : sumMany size b (ss.take (i + 1)) = sumMany size b (ss.take i) + (if (sAt ss i).byB = b then manyN (sAt ss i).text.size size else 0) := by
  rw [take_snoc h, sumMany_append]
  simp [sumMany]
theorem manyN_le {len size : Nat} (h : len ≤ 60) (hs : 1 ≤ size) : manyN len size ≤ 60 := by
  unfold manyN
  have h1 : (len + size - 1) / size ≤ (60 * size) / size := Nat.div_le_div_right (by
    have := Nat.mul_le_mul_left 59 hs
    omega)
  rw [Nat.mul_div_cancel _ (by omega)] at h1
  exact h1
/-- What a side tells first. -/
structure IniP where
  tag : Int
  window : Int
  streams : Int
  tsn : Int
/-- A talk. -/
structure TalkP where
  f : Int
  t : Int
  a : IniP
  b : IniP
  size : Int
  says : List SayP
def iniOk (x : IniP) : Prop := InitOk x.tag x.window x.streams x.tsn
/-- The talk is valid but for what is said. -/
def headOk (t : TalkP) : Prop := (1 ≤ t.f ∧ t.f ≤ 65535) ∧ (1 ≤ t.t ∧ t.t ≤ 65535) ∧ t.f ≠ t.t ∧ iniOk t.a ∧ iniOk t.b ∧ 1 ≤ t.size ∧ t.size ≤ 20
def TalkOk (t : TalkP) : Prop := headOk t ∧ (∀ x ∈ t.says, sayOk t.a.streams t.b.streams x) ∧ t.says.length ≤ 4 ∧ sumMany t.size.toNat false t.says ≤ 12 ∧ sumMany t.size.toNat true t.says ≤ 12
noncomputable instance (t : TalkP) : Decidable (TalkOk t) := Classical.propDecidable _
noncomputable def talkV (t : TalkP) : Bool := decide (TalkOk t)
theorem talkV_yes {t : TalkP} (h : TalkOk t) : talkV t = true := by unfold talkV; exact decide_eq_true h
theorem talkV_no {t : TalkP} (h : ¬ TalkOk t) : talkV t = false := by unfold talkV; exact decide_eq_false h
/-- How many ordered messages of a stream begin in parts. -/
def beginsIn (ps : List Part) (s : Int) : Nat := (ps.filter fun p => p.first && !p.loose && p.stream == s).length
theorem beginsIn_le (ps : List Part) (s : Int) : beginsIn ps s ≤ ps.length := List.length_filter_le _ _
theorem beginsIn_snoc {ps : List Part} {i : Nat} (s : Int) (h : i < ps.length) : beginsIn (ps.take (i + 1)) s = beginsIn (ps.take i) s + (if (pAt ps i).first && !(pAt ps i).loose && (pAt ps i).stream == s then 1 else 0) := by
  unfold beginsIn
  rw [List.take_add_one, List.getElem?_eq_getElem h, pAt_get h]
  rw [Option.toList_some, List.filter_append, List.length_append]
  congr 1
  by_cases hc : ((pAt ps i).first && !(pAt ps i).loose && (pAt ps i).stream == s) = true
  · rw [List.filter_cons_of_pos (by exact hc), if_pos hc]; rfl
  · rw [List.filter_cons_of_neg (by exact hc), if_neg hc]; rfl
/-- A piece of a message. -/
def pieceP (first : Int) (x : SayP) (ssn : Int) (size n0 k : Nat) : Part :=
  ⟨addS first ((n0 + k : Nat) : Int), x.stream, ssn, decide (k = 0), decide (min ((k + 1) * size) x.text.size = x.text.size), x.loose, x.text.extract (k * size) (min ((k + 1) * size) x.text.size)⟩
def cutP (first : Int) (x : SayP) (ssn : Int) (size n0 k : Nat) : List Part := (List.range k).map (pieceP first x ssn size n0)
theorem cutP_length (first : Int) (x : SayP) (ssn : Int) (size n0 k : Nat) : (cutP first x ssn size n0 k).length = k := by simp [cutP]
theorem cutP_snoc (first : Int) (x : SayP) (ssn : Int) (size n0 k : Nat) : cutP first x ssn size n0 (k + 1) = cutP first x ssn size n0 k ++ [pieceP first x ssn size n0 k] := by
  unfold cutP
  rw [List.range_succ, List.map_append]
  rfl
def ssnOf (out : List Part) (x : SayP) : Int := if x.loose then 0 else (beginsIn out x.stream : Int)
def addSay (first : Int) (size : Nat) (b : Bool) (out : List Part) (x : SayP) : List Part :=
  if x.byB = b then out ++ cutP first x (ssnOf out x) size out.length (manyN x.text.size size) else out
/-- The parts of a side. -/
def partsS (first : Int) (size : Nat) (b : Bool) (ss : List SayP) : List Part := ss.foldl (addSay first size b) []
theorem partsS_snoc {ss : List SayP} {i : Nat} (first : Int) (size : Nat) (b : Bool) (h : i < ss.length) : partsS first size b (ss.take (i + 1)) = addSay first size b (partsS first size b (ss.take i)) (sAt ss i) := by
  unfold partsS
  rw [take_snoc h, List.foldl_append]
  rfl
theorem addSay_yes {first : Int} {size : Nat} {b : Bool} {out : List Part} {x : SayP} (h : x.byB = b) : addSay first size b out x = out ++ cutP first x (ssnOf out x) size out.length (manyN x.text.size size) := by
  unfold addSay
  rw [if_pos h]
theorem addSay_no {first : Int} {size : Nat} {b : Bool} {out : List Part} {x : SayP} (h : x.byB ≠ b) : addSay first size b out x = out := by
  unfold addSay
  rw [if_neg h]
theorem partsS_length (first : Int) (size : Nat) (b : Bool) (ss : List SayP) : (partsS first size b ss).length = sumMany size b ss := by
  have key : ∀ (ss : List SayP) (out : List Part), (ss.foldl (addSay first size b) out).length = out.length + sumMany size b ss := by
    intro ss
    induction ss with
    | nil => intro out; simp [sumMany]
    | cons x xs ih =>
      intro out
      rw [List.foldl_cons, ih]
      show _ = out.length + ((if x.byB = b then manyN x.text.size size else 0) + sumMany size b xs)
      by_cases h : x.byB = b
      · rw [addSay_yes h, List.length_append, cutP_length, if_pos h]
        omega
      · rw [addSay_no h, if_neg h]
        omega
  have := key ss []
  simpa [partsS] using this
/-- The side that is asked about. -/
def sideI (t : TalkP) (b : Bool) : IniP := if b then t.b else t.a
def partsT (t : TalkP) (b : Bool) : List Part := partsS (sideI t b).tsn t.size.toNat b t.says
noncomputable def partsV (t : TalkP) (b : Bool) : List Part := if TalkOk t then partsT t b else []
theorem partsV_yes {t : TalkP} (b : Bool) (h : TalkOk t) : partsV t b = partsT t b := if_pos h
theorem partsV_no {t : TalkP} (b : Bool) (h : ¬ TalkOk t) : partsV t b = [] := if_neg h
/-- A part that a talk may have. -/
def Smally (p : Part) : Prop := (-1 ≤ p.tsn ∧ p.tsn ≤ 65536) ∧ (-1 ≤ p.stream ∧ p.stream ≤ 65536) ∧ (-1 ≤ p.ssn ∧ p.ssn ≤ 65536) ∧ p.text.size ≤ 30
theorem partsT_small {t : TalkP} (b : Bool) (h : TalkOk t) : ∀ p ∈ partsT t b, Smally p := by
  obtain ⟨⟨_, _, _, ha, hb, hs1, hs2⟩, hx, hl, h1, h2⟩ := h
  have hst : t.a.streams ≤ 4 ∧ t.b.streams ≤ 4 := ⟨ha.2.2.1.2, hb.2.2.1.2⟩
  have hsz : t.size.toNat ≤ 20 := by omega
  have key : ∀ (ss : List SayP) (out : List Part), (∀ x ∈ ss, x ∈ t.says) → out.length + sumMany t.size.toNat b ss ≤ 1000 → (∀ p ∈ out, Smally p) → ∀ p ∈ ss.foldl (addSay (sideI t b).tsn t.size.toNat b) out, Smally p := by
    intro ss
    induction ss with
    | nil => intro out _ _ ho; exact ho
    | cons x xs ih =>
      intro out hm hn ho
      rw [List.foldl_cons]
      have hn' : out.length + ((if x.byB = b then manyN x.text.size t.size.toNat else 0) + sumMany t.size.toNat b xs) ≤ 1000 := hn
      have hok := hx x (hm x List.mem_cons_self)
      have hsx : x.stream ≤ 4 := by
        have := hok.2.2.2
        split at this <;> omega
      refine ih _ (fun y hy => hm y (List.mem_cons_of_mem _ hy)) ?_ ?_
      · by_cases he : x.byB = b
        · rw [addSay_yes he, List.length_append, cutP_length]
          rw [if_pos he] at hn'
          omega
        · rw [addSay_no he]
          omega
      · by_cases he : x.byB = b
        · rw [addSay_yes he]
          intro p hp
          rcases List.mem_append.1 hp with hp | hp
          · exact ho p hp
          · obtain ⟨k, _, rfl⟩ := List.mem_map.1 hp
            refine ⟨?_, ⟨?_, ?_⟩, ?_, ?_⟩
            · have := addS_ser (sideI t b).tsn ((out.length + k : Nat) : Int)
              exact ⟨by show -1 ≤ addS _ _; have := this.1; omega, by show addS _ _ ≤ 65536; have := this.2; omega⟩
            · have := hok.2.2.1
              show -1 ≤ x.stream
              omega
            · show x.stream ≤ 65536
              omega
            · show -1 ≤ ssnOf out x ∧ ssnOf out x ≤ 65536
              unfold ssnOf
              have := beginsIn_le out x.stream
              split <;> omega
            · show (x.text.extract _ _).size ≤ 30
              rw [ByteArray.size_extract]
              have : (k + 1) * t.size.toNat = k * t.size.toNat + t.size.toNat := Nat.succ_mul _ _
              omega
        · rw [addSay_no he]
          exact ho
  exact key t.says [] (fun _ h => h) (by cases b <;> simp <;> omega) (by simp)
theorem partsT_length {t : TalkP} (b : Bool) (h : TalkOk t) : (partsT t b).length ≤ 12 := by
  unfold partsT
  rw [partsS_length]
  cases b
  · exact h.2.2.2.1
  · exact h.2.2.2.2

end Go.Proofs.Ytncbgejggfkdmab

/- What is said in a talk, in memory: slices of messages of a talk. -/
namespace Go.Proofs.Ytncbgejggfkdmab
open Go.RowKit Go.PlainAid

/-- The value of a message of a talk. -/
def sayV (m : SayP) : Value := .agg #[.bool m.byB, .int .i64 m.stream, .bool m.loose, .string m.text]
/-- The cells of a part. -/
def cellsY (p : SayP) : List Value := [.bool p.byB, .int .i64 p.stream, .bool p.loose, .string p.text]
def flatY : List SayP → List Value
  | [] => []
  | p :: ps => cellsY p ++ flatY ps
theorem flatY_append (ps qs : List SayP) : flatY (ps ++ qs) = flatY ps ++ flatY qs := by
  induction ps with
  | nil => rfl
  | cons p ps ih => simp [flatY, ih]
theorem cellsY_length (p : SayP) : (cellsY p).length = 4 := rfl
theorem flatY_length (ps : List SayP) : (flatY ps).length = ps.length * 4 := by
  induction ps with
  | nil => rfl
  | cons p ps ih =>
    show (cellsY p ++ flatY ps).length = _
    rw [List.length_append, cellsY_length, ih, List.length_cons]
    omega
theorem cellsY_one (p : SayP) : ∀ u ∈ cellsY p, u.oneCell' = true := by
  intro u hu
  simp only [cellsY, List.mem_cons, List.not_mem_nil, or_false] at hu
  rcases hu with rfl | rfl | rfl | rfl <;> rfl
theorem flatY_one (ps : List SayP) : ∀ u ∈ flatY ps, u.oneCell' = true := by
  induction ps with
  | nil => intro u hu; simp [flatY] at hu
  | cons p ps ih =>
    intro u hu
    rcases List.mem_append.1 hu with h | h
    · exact cellsY_one p u h
    · exact ih u h
theorem take_sAt {ps : List SayP} {k : Nat} (h : k < ps.length) : ps.take (k + 1) = ps.take k ++ [sAt ps k] := by
  unfold sAt
  rw [List.take_add_one, List.getD_eq_getElem?_getD, List.getElem?_eq_getElem h]
  rfl
theorem flatY_get (ps : List SayP) (i j : Nat) (h : i < ps.length) (hj : j < 4) : (flatY ps)[i * 4 + j]? = (cellsY (sAt ps i))[j]? := by
  induction ps generalizing i with
  | nil => simp at h
  | cons p ps ih =>
    show (cellsY p ++ flatY ps)[i * 4 + j]? = _
    cases i with
    | zero =>
      rw [Nat.zero_mul, Nat.zero_add, List.getElem?_append_left (by rw [cellsY_length]; exact hj)]
      rfl
    | succ i =>
      rw [List.getElem?_append_right (by rw [cellsY_length]; omega), cellsY_length, show (i + 1) * 4 + j - 4 = i * 4 + j from by omega, ih i (by simpa using h)]
      rfl
/-- The cell j of the part i. -/
def atY (x : Addr) (i : Nat) : Nat → Addr
  | 0 => x.add (i * 4)
  | j + 1 => ⟨(x.add (i * 4)).block, (x.add (i * 4)).off + (j + 1), none⟩
/-- A slice of parts: nil, or the cells of 'len' parts, seven each, from an address on. -/
def Sys (w : World) (a : Option Addr) (len cap : Nat) (ps : List SayP) : Prop :=
  (a = none ∧ len = 0 ∧ cap = 0 ∧ ps = []) ∨
  ∃ x : Addr, a = some x ∧ len ≤ cap ∧ cap ≤ maxLen ∧ ps.length = len ∧ ∀ i, i < len → ∀ j v, (cellsY (sAt ps i))[j]? = some v → w.cell? (atY x i j) = some v
theorem Sys.length {w : World} {a : Option Addr} {len cap : Nat} {ps : List SayP} (h : Sys w a len cap ps) : ps.length = len := by
  rcases h with ⟨_, rfl, _, rfl⟩ | ⟨_, _, _, _, h, _⟩
  · rfl
  · exact h
theorem Sys.len_le {w : World} {a : Option Addr} {len cap : Nat} {ps : List SayP} (h : Sys w a len cap ps) : len ≤ cap ∧ cap ≤ maxLen := by
  rcases h with ⟨_, rfl, rfl, rfl⟩ | ⟨_, _, h1, h2, _, _⟩
  · exact ⟨Nat.le_refl _, Nat.zero_le _⟩
  · exact ⟨h1, h2⟩
theorem Sys.len_int {w : World} {a : Option Addr} {len cap : Nat} {ps : List SayP} (h : Sys w a len cap ps) : len ≤ 9223372036854775807 := by
  have := h.len_le
  unfold maxLen at this
  omega
theorem Sys.nil (w : World) : Sys w none 0 0 [] := .inl ⟨rfl, rfl, rfl, rfl⟩
theorem Sys.moved {w w' : World} {a : Option Addr} {len cap : Nat} {ps : List SayP} (h : Sys w a len cap ps) (hk : ∀ x, a = some x → ∀ i j v, i < len → w.cell? (atY x i j) = some v → w'.cell? (atY x i j) = some v) : Sys w' a len cap ps := by
  rcases h with h | ⟨x, h1, h2, h3, h4, h5⟩
  · exact .inl h
  · exact .inr ⟨x, h1, h2, h3, h4, fun i hi j v hv => hk x h1 i j v hi (h5 i hi j v hv)⟩
theorem Sys.below {w w' : World} {a : Option Addr} {len cap : Nat} {ps : List SayP} (h : Sys w a len cap ps) (hb : Below w.heap.size w w') : Sys w' a len cap ps :=
  h.moved fun _ _ _ _ _ _ hc => (hb.cell (World.block_lt_of_cell? w _ hc)).trans hc
theorem Sys.addr {w : World} {a : Option Addr} {len cap : Nat} {ps : List SayP} (h : Sys w a len cap ps) {k : Nat} (hk : k < len) : ∃ x, a = some x := by
  rcases h with ⟨_, h0, _⟩ | ⟨y, hy, _⟩
  · omega
  · exact ⟨y, hy⟩
/-- The cells of the part at a place, in another world. -/
theorem Sys.cells {w wr : World} {x : Addr} {len cap : Nat} {ps : List SayP} (h : Sys w (some x) len cap ps) (hb : Below w.heap.size w wr) {k : Nat} (hk : k < len) (j : Nat) (v : Value) (hv : (cellsY (sAt ps k))[j]? = some v) : wr.cell? (atY x k j) = some v := by
  rcases h with ⟨h0, _⟩ | ⟨y, hy, _, _, _, h5⟩
  · cases h0
  · obtain rfl : x = y := by simpa using hy
    have := h5 k hk j v hv
    exact (hb.cell (World.block_lt_of_cell? w _ this)).trans this
theorem Sys.at {w wr : World} {x : Addr} {len cap : Nat} {ps : List SayP} (h : Sys w (some x) len cap ps) (hb : Below w.heap.size w wr) {k : Nat} (hk : k < len) :
    wr.cell? (x.add (k * 4)) = some (.bool (sAt ps k).byB) ∧ wr.cell? ⟨(x.add (k * 4)).block, (x.add (k * 4)).off + 1, none⟩ = some (.int .i64 (sAt ps k).stream) ∧ wr.cell? ⟨(x.add (k * 4)).block, (x.add (k * 4)).off + 2, none⟩ = some (.bool (sAt ps k).loose) ∧
      wr.cell? ⟨(x.add (k * 4)).block, (x.add (k * 4)).off + 3, none⟩ = some (.string (sAt ps k).text) :=
  ⟨h.cells hb hk 0 _ rfl, h.cells hb hk 1 _ rfl, h.cells hb hk 2 _ rfl, h.cells hb hk 3 _ rfl⟩
theorem sy_add (g j : Nat) : (⟨g, 0, none⟩ : Addr).add j = ⟨g, j, none⟩ := by unfold Addr.add; split <;> simp_all
theorem atY_zero (g i j : Nat) : atY ⟨g, 0, none⟩ i j = ⟨g, i * 4 + j, none⟩ := by
  cases j with
  | zero => exact sy_add g (i * 4)
  | succ j =>
    show (⟨((⟨g, 0, none⟩ : Addr).add (i * 4)).block, ((⟨g, 0, none⟩ : Addr).add (i * 4)).off + (j + 1), none⟩ : Addr) = _
    rw [sy_add]
theorem Sys.far {w : World} {g k cap d i : Nat} {ps : List SayP} (h : Sys w (some ⟨g, 0, none⟩) k cap ps) (hd : d ≠ g) (v : Value) : Sys (w.setCell ⟨d, i, none⟩ v) (some ⟨g, 0, none⟩) k cap ps :=
  h.moved fun x hx i j u _ hc => by
    obtain rfl : ⟨g, 0, none⟩ = x := by simpa using hx
    rw [atY_zero] at hc ⊢
    exact cell_far hd hc
theorem Sys.aside {w w' : World} {g k cap r : Nat} {ps : List SayP} (h : Sys w (some ⟨g, 0, none⟩) k cap ps) (ha : Aside w.heap.size r w w') (hr : g ≠ r) : Sys w' (some ⟨g, 0, none⟩) k cap ps :=
  h.moved fun x hx i j u _ hc => by
    obtain rfl : ⟨g, 0, none⟩ = x := by simpa using hx
    rw [atY_zero] at hc ⊢
    exact ha.cell (lt_of_cell hc) hr hc
theorem Sys.under {W W' : World} {g n cap C : Nat} {ps : List SayP} (h : Sys W (some ⟨g, 0, none⟩) n cap ps) (hb : Below C W W') (hg : g < C ∨ n = 0) : Sys W' (some ⟨g, 0, none⟩) n cap ps :=
  h.moved fun x hx i j u hi hc => by
    obtain rfl : ⟨g, 0, none⟩ = x := by simpa using hx
    rw [atY_zero] at hc ⊢
    rcases hg with hg | h0
    · exact kept_cell hb hg hc
    · omega
theorem sys_lt {W : World} {g n cap : Nat} {ps : List SayP} (h : Sys W (some ⟨g, 0, none⟩) n cap ps) : g < W.heap.size ∨ n = 0 := by
  by_cases hk0 : 0 < n
  · have := (h.at (Below.refl _ _) hk0).1
    rw [sy_add] at this
    exact .inl (lt_of_cell this)
  · exact .inr (by omega)
/-- The first parts of a slice. -/
theorem sys_take {w : World} {x : Addr} {len cap j : Nat} {ps : List SayP} (h : Sys w (some x) len cap ps) (hj : j ≤ len) : Sys w (some x) j cap (ps.take j) := by
  rcases h with ⟨h0, _⟩ | ⟨y, hy, h1, h2, h3, h4⟩
  · cases h0
  · refine .inr ⟨y, hy, by omega, h2, by rw [List.length_take]; omega, fun i hi => ?_⟩
    have e : sAt (ps.take j) i = sAt ps i := by
      unfold sAt
      rw [List.getD_eq_getElem?_getD, List.getD_eq_getElem?_getD, List.getElem?_take_of_lt hi]
    rw [e]
    exact h4 i (by omega)
/-- The cells of a slice of parts, as a source of an append. -/
theorem sys_flat {W : World} {g k cap : Nat} {ps : List SayP} (h : Sys W (some ⟨g, 0, none⟩) k cap ps) : ∀ j u, (flatY ps)[j]? = some u → W.cell? ((⟨g, 0, none⟩ : Addr).add j) = some u := by
  intro j u hu
  have hl := h.length
  have hj : j < k * 4 := by have := (List.getElem?_eq_some_iff.1 hu).1; rw [flatY_length, hl] at this; exact this
  have e : j = j / 4 * 4 + j % 4 := by omega
  have hm : j % 4 < 4 := by omega
  generalize hq : j / 4 = q at e
  generalize j % 4 = r at e hm
  subst e
  rw [flatY_get ps q r (by omega) hm] at hu
  have := h.cells (Below.refl _ _) (k := q) (by omega) r u hu
  rw [atY_zero] at this
  rw [sy_add]
  exact this

theorem own_sys {W : World} {base cap k : Nat} {a : Option Addr} {ps : List SayP} (h : W.ownsRow base 103 4 (.slice a k cap) k (flatY ps)) : Sys W a k cap ps := by
  have hl := h.1
  rw [flatY_length] at hl
  rcases h.2 with ⟨h1, h2⟩ | ⟨g, cap', cur, h1, _, _, h4, h5, _⟩
  · obtain ⟨rfl, rfl, rfl⟩ : a = none ∧ k = 0 ∧ cap = 0 := by simpa using h1
    exact .inl ⟨rfl, rfl, rfl, by cases ps with | nil => rfl | cons c l => simp at hl⟩
  · obtain ⟨rfl, rfl⟩ : a = some ⟨g, 0, none⟩ ∧ cap = cap' := by simpa using h1
    refine .inr ⟨_, rfl, h4, h5, by omega, fun i hi j v hv => ?_⟩
    have hj : j < 4 := by have := (List.getElem?_eq_some_iff.1 hv).1; rwa [cellsY_length] at this
    rw [atY_zero]
    exact (h.cellAt (i * 4 + j) (by omega)).trans ((flatY_get ps i j (by omega) hj).trans hv)
theorem info_sy : (Try.prog.info? 103).map (fun i => (i.zero, i.size, i.bytes)) = some (some (sayV ⟨false, 0, false, ByteArray.mk #[]⟩), 4, 40) := by kernel_rfl
/-- A slice of messages of one's own, in blocks from R on. -/
theorem flatY_one_ (m : SayP) : flatY [m] = cellsY m := by simp [flatY]

end Go.Proofs.Ytncbgejggfkdmab

/- The contracts of chapter 12's model: inits, written. -/
namespace Go.Proofs.Ytncbgejggfkdmab
open Go.RowKit Go.PlainAid

theorem VarN.drew {c : Nat} {vs : List Value} {w : World} (h : VarN c vs w) : VarN c vs w.drew := h
theorem pastD0 {w : World} {b i : Nat} {v : Value} (h : w.cell? ⟨b, i, none⟩ = some v) : (w).drew.cell? ⟨b, i, none⟩ = some v :=
  (World.cell?_drew _ _).trans (h)
theorem pastD1 {w : World} {b i : Nat} {v : Value} {o0 : Obj} (h : w.cell? ⟨b, i, none⟩ = some v) : (w.alloc o0).drew.cell? ⟨b, i, none⟩ = some v :=
  (World.cell?_drew _ _).trans (past_cell (h) _)
theorem pastD2 {w : World} {b i : Nat} {v : Value} {o0 o1 : Obj} (h : w.cell? ⟨b, i, none⟩ = some v) : ((w.alloc o0).alloc o1).drew.cell? ⟨b, i, none⟩ = some v :=
  (World.cell?_drew _ _).trans (past_cell (past_cell (h) _) _)
theorem pastD3 {w : World} {b i : Nat} {v : Value} {o0 o1 o2 : Obj} (h : w.cell? ⟨b, i, none⟩ = some v) : (((w.alloc o0).alloc o1).alloc o2).drew.cell? ⟨b, i, none⟩ = some v :=
  (World.cell?_drew _ _).trans (past_cell (past_cell (past_cell (h) _) _) _)
theorem pastD4 {w : World} {b i : Nat} {v : Value} {o0 o1 o2 o3 : Obj} (h : w.cell? ⟨b, i, none⟩ = some v) : ((((w.alloc o0).alloc o1).alloc o2).alloc o3).drew.cell? ⟨b, i, none⟩ = some v :=
  (World.cell?_drew _ _).trans (past_cell (past_cell (past_cell (past_cell (h) _) _) _) _)
theorem pastD5 {w : World} {b i : Nat} {v : Value} {o0 o1 o2 o3 o4 : Obj} (h : w.cell? ⟨b, i, none⟩ = some v) : (((((w.alloc o0).alloc o1).alloc o2).alloc o3).alloc o4).drew.cell? ⟨b, i, none⟩ = some v :=
  (World.cell?_drew _ _).trans (past_cell (past_cell (past_cell (past_cell (past_cell (h) _) _) _) _) _)
theorem pastD6 {w : World} {b i : Nat} {v : Value} {o0 o1 o2 o3 o4 o5 : Obj} (h : w.cell? ⟨b, i, none⟩ = some v) : ((((((w.alloc o0).alloc o1).alloc o2).alloc o3).alloc o4).alloc o5).drew.cell? ⟨b, i, none⟩ = some v :=
  (World.cell?_drew _ _).trans (past_cell (past_cell (past_cell (past_cell (past_cell (past_cell (h) _) _) _) _) _) _)
theorem pastD7 {w : World} {b i : Nat} {v : Value} {o0 o1 o2 o3 o4 o5 o6 : Obj} (h : w.cell? ⟨b, i, none⟩ = some v) : (((((((w.alloc o0).alloc o1).alloc o2).alloc o3).alloc o4).alloc o5).alloc o6).drew.cell? ⟨b, i, none⟩ = some v :=
  (World.cell?_drew _ _).trans (past_cell (past_cell (past_cell (past_cell (past_cell (past_cell (past_cell (h) _) _) _) _) _) _) _)

set_option maxHeartbeats 400000 in
theorem l12Init_any (a b c d : Int) (w : World) :
    Calls Try.prog 84 #[.agg #[.int .i64 a, .int .i64 b, .int .i64 c, .int .i64 d]] w fun e w' => e = .returned (.bool (initOkV a b c d)) ∧ Below w.heap.size w w' := by
  by_cases h0 : 1 ≤ a ∧ a ≤ 4294967295
  · have H0 := Lib.hid (decide_eq_true h0)
    have G0 := Lib.hid h0
    clear h0
    by_cases h1 : 0 ≤ b ∧ b ≤ 65535
    · have H1 := Lib.hid (decide_eq_true h1)
      have G1 := Lib.hid h1
      clear h1
      by_cases h2 : 1 ≤ c ∧ c ≤ 4
      · have H2 := Lib.hid (decide_eq_true h2)
        have G2 := Lib.hid h2
        clear h2
        by_cases h3 : Ser d
        · have E := Lib.hid (initOkV_yes (a := a) (b := b) (c := c) (d := d) ⟨G0.out, G1.out, G2.out, ser_le h3⟩)
          have H3 := Lib.hid h3
          clear h3
          rw [E.out]
          go_enter Try.func84, Try.ntmps84
          go_wp2_with fail
          refine (l6In_any a 1 4294967295 _).mono ?_
          rintro e w1 ⟨rfl, rfl⟩
          rw [H0.out]
          go_wp2_with fail
          refine (l6In_any b 0 65535 _).mono ?_
          rintro e w1 ⟨rfl, rfl⟩
          rw [H1.out]
          go_wp2_with fail
          refine (l6In_any c 1 4 _).mono ?_
          rintro e w1 ⟨rfl, rfl⟩
          rw [H2.out]
          go_wp2_with fail
          refine (l3Ok_yes d _ H3.out).mono ?_
          rintro e w1 ⟨rfl, rfl⟩
          go_wp2
          go_ret
          exact ⟨rfl, below_box _ (Nat.le_refl _)⟩
        · have H3 := Lib.hid h3
          clear h3
          rw [initOkV_no fun h => ser_not H3.out h.2.2.2]
          go_enter Try.func84, Try.ntmps84
          go_wp2_with fail
          refine (l6In_any a 1 4294967295 _).mono ?_
          rintro e w1 ⟨rfl, rfl⟩
          rw [H0.out]
          go_wp2_with fail
          refine (l6In_any b 0 65535 _).mono ?_
          rintro e w1 ⟨rfl, rfl⟩
          rw [H1.out]
          go_wp2_with fail
          refine (l6In_any c 1 4 _).mono ?_
          rintro e w1 ⟨rfl, rfl⟩
          rw [H2.out]
          go_wp2_with fail
          refine (l3Ok_no d _ H3.out).mono ?_
          rintro e w1 ⟨rfl, rfl⟩
          go_wp2
          go_ret
          exact ⟨rfl, below_box _ (Nat.le_refl _)⟩
      · have H2 := Lib.hid (decide_eq_false h2)
        rw [initOkV_no fun h => h2 h.2.2.1]
        clear h2
        go_enter Try.func84, Try.ntmps84
        go_wp2_with fail
        refine (l6In_any a 1 4294967295 _).mono ?_
        rintro e w1 ⟨rfl, rfl⟩
        rw [H0.out]
        go_wp2_with fail
        refine (l6In_any b 0 65535 _).mono ?_
        rintro e w1 ⟨rfl, rfl⟩
        rw [H1.out]
        go_wp2_with fail
        refine (l6In_any c 1 4 _).mono ?_
        rintro e w1 ⟨rfl, rfl⟩
        rw [H2.out]
        go_wp2
        go_ret
        exact ⟨rfl, below_box _ (Nat.le_refl _)⟩
    · have H1 := Lib.hid (decide_eq_false h1)
      rw [initOkV_no fun h => h1 h.2.1]
      clear h1
      go_enter Try.func84, Try.ntmps84
      go_wp2_with fail
      refine (l6In_any a 1 4294967295 _).mono ?_
      rintro e w1 ⟨rfl, rfl⟩
      rw [H0.out]
      go_wp2_with fail
      refine (l6In_any b 0 65535 _).mono ?_
      rintro e w1 ⟨rfl, rfl⟩
      rw [H1.out]
      go_wp2
      go_ret
      exact ⟨rfl, below_box _ (Nat.le_refl _)⟩
  · have H0 := Lib.hid (decide_eq_false h0)
    rw [initOkV_no fun h => h0 h.1]
    clear h0
    go_enter Try.func84, Try.ntmps84
    go_wp2_with fail
    refine (l6In_any a 1 4294967295 _).mono ?_
    rintro e w1 ⟨rfl, rfl⟩
    rw [H0.out]
    go_wp2
    go_ret
    exact ⟨rfl, below_box _ (Nat.le_refl _)⟩

end Go.Proofs.Ytncbgejggfkdmab

/- The contracts of the model's talks: how many parts a message has; how many messages of a stream begin. -/
namespace Go.Proofs.Ytncbgejggfkdmab
open Go.RowKit Go.PlainAid

theorem many_int (n z : Nat) (h1 : 1 ≤ z) : ((n : Int) + (z : Int) - 1) / (z : Int) = ((manyN n z : Nat) : Int) := by
  unfold manyN
  have e : (n : Int) + (z : Int) - 1 = ((n + z - 1 : Nat) : Int) := by omega
  rw [e]
  exact (Int.natCast_ediv _ _).symm

set_option maxHeartbeats 400000 in
theorem l41Many_any (tx : ByteArray) (z : Nat) (w : World) (h1 : 1 ≤ z) (h2 : z ≤ 1000000) (h3 : tx.size ≤ 1000000) :
    Calls Try.prog 85 #[.string tx, .int .i64 (z : Int)] w fun e w' => e = .returned (.int .i64 ((manyN tx.size z : Nat) : Int)) ∧ w' = w := by
  have hz : ¬ (z : Int) = 0 := by omega
  have hm : manyN tx.size z ≤ 2000000 := by
    unfold manyN
    exact Nat.le_trans (Nat.div_le_self _ _) (by omega)
  have e1 := many_int tx.size z h1
  have HE := Lib.hid e1
  have e2 : IntKind.i64.wrap (((manyN tx.size z : Nat) : Int)) = ((manyN tx.size z : Nat) : Int) := IntWalk.i64_in _ (by omega)
  have HW := Lib.hid e2
  clear e1 e2
  go_enter Try.func85, Try.ntmps85
  go_wp2
  go_ret
  exact ⟨congrArg (fun x => Ending.returned (Value.int .i64 x)) HE.out, rfl⟩

set_option maxHeartbeats 1000000 in
theorem l31Ssn_any (a : Option Addr) (len cap : Nat) (ps : List Part) (s : Int) (w : World) (h : Pts w a len cap ps) :
    Calls Try.prog 94 #[.slice a len cap, .int .i64 s] w fun e w' => e = .returned (.int .i64 ((beginsIn ps s : Nat) : Int)) ∧ Below w.heap.size w w' := by
  have hl := h.length
  have hm := h.len_int
  have HP := Lib.hid h
  clear h
  go_enter Try.func94, Try.ntmps94
  go_wp2
  go_loopw [5, 6] (fun n i wr => ∃ k m : Nat, k ≤ len ∧ i = .int .i64 k ∧ n = .int .i64 m ∧ m ≤ k ∧ Hid (beginsIn (ps.take k) s = m) ∧ Hid (Below w.heap.size w wr)) (fun _ i _ => len - (intOf i).toNat)
  case atStart => exact ⟨0, 0, Nat.zero_le _, rfl, rfl, Nat.le_refl _, Lib.hid (by simp [beginsIn]), Lib.hid (Below.refl _ _)⟩
  case round =>
    obtain ⟨k, m, hk, rfl, rfl, hmk, hB, hbel⟩ := hrel
    by_cases hlt : k < len
    · obtain ⟨x, rfl⟩ := HP.out.addr hlt
      obtain ⟨p0, p1, p2, p3, p4, p5, p6⟩ := HP.out.at hbel.out hlt
      have HS := Lib.hid (beginsIn_snoc (ps := ps) (i := k) s (by omega))
      obtain ⟨⟨t, st, q, fi, la, lo, tx⟩, he⟩ : ∃ e, pAt ps k = e := ⟨_, rfl⟩
      rw [he] at p0 p1 p2 p3 p4 p5 p6 HS
      dsimp only at p0 p1 p2 p3 p4 p5 p6
      clear he
      have ki : (k : Int) < (len : Int) := by omega
      by_cases hc : (fi && !lo && st == s) = true
      · have H1 := Lib.hid (show beginsIn (ps.take (k + 1)) s = m + 1 by rw [HS.out, hB.out]; dsimp only; rw [if_pos hc])
        simp only [Bool.and_eq_true, Bool.not_eq_true', beq_iff_eq] at hc
        obtain ⟨⟨rfl, rfl⟩, rfl⟩ := hc
        go_wp2
        go_roundw
        case rel => exact ⟨k + 1, m + 1, by omega, by go_num, by go_num, by omega, H1, hbel⟩
        case measure => simp [intOf]; omega
      · have H1 := Lib.hid (show beginsIn (ps.take (k + 1)) s = m by rw [HS.out, hB.out]; dsimp only; rw [if_neg hc, Nat.add_zero])
        cases fi with
        | false =>
          clear hc
          go_wp2
          go_roundw
          case rel => exact ⟨k + 1, m, by omega, by go_num, rfl, by omega, H1, hbel⟩
          case measure => simp [intOf]; omega
        | true =>
          cases lo with
          | true =>
            clear hc
            go_wp2
            go_roundw
            case rel => exact ⟨k + 1, m, by omega, by go_num, rfl, by omega, H1, hbel⟩
            case measure => simp [intOf]; omega
          | false =>
            have hn : ¬ st = s := by simpa using hc
            have hd : decide (st = s) = false := decide_eq_false hn
            clear hc
            go_wp2
            go_roundw
            case rel => exact ⟨k + 1, m, by omega, by go_num, rfl, by omega, H1, hbel⟩
            case measure => simp [intOf]; omega
    · obtain rfl : k = len := by omega
      have E := Lib.hid (show beginsIn ps s = m by have := hB.out; rwa [List.take_of_length_le (by omega)] at this)
      go_wp2
      go_ret
      exact ⟨by rw [E.out]; rfl, hbel.out⟩

end Go.Proofs.Ytncbgejggfkdmab

/- The contract of the model's TalkValid. -/
namespace Go.Proofs.Ytncbgejggfkdmab
open Go.RowKit Go.PlainAid

theorem initOkV_of {a b c d : Int} (h : initOkV a b c d = true) : InitOk a b c d := by
  apply Classical.byContradiction
  intro hn
  rw [initOkV_no hn] at h
  cases h
theorem sumMany_few {z : Nat} {b : Bool} {sa sb : Int} {xs : List SayP} (hz : 1 ≤ z) (h : ∀ x ∈ xs, sayOk sa sb x) : sumMany z b xs ≤ 60 * xs.length := by
  induction xs with
  | nil => simp [sumMany]
  | cons x xs ih =>
    have h1 := ih fun y hy => h y (List.mem_cons_of_mem _ hy)
    have h2 := manyN_le (h x List.mem_cons_self).2.1 hz
    show (if x.byB = b then manyN x.text.size z else 0) + sumMany z b xs ≤ 60 * (xs.length + 1)
    split <;> omega
theorem talkV_last {f t : Int} {a b : IniP} {z : Nat} {ss : List SayP} {k : Nat} (hd : headOk ⟨f, t, a, b, z, ss⟩) (hx : ∀ x ∈ ss, sayOk a.streams b.streams x) (hl : ss.length = k) :
    talkV ⟨f, t, a, b, z, ss⟩ = decide ((k : Int) ≤ 4 ∧ ((sumMany z false ss : Nat) : Int) ≤ 12 ∧ ((sumMany z true ss : Nat) : Int) ≤ 12) := by
  unfold talkV
  refine decide_eq_decide.2 ⟨fun h => ?_, fun h => ⟨hd, hx, ?_, ?_, ?_⟩⟩
  · obtain ⟨_, _, h1, h2, h3⟩ := h
    simp only [Int.toNat_natCast] at h2 h3
    dsimp only at h1
    omega
  · show ss.length ≤ 4
    omega
  · simp only [Int.toNat_natCast]
    omega
  · simp only [Int.toNat_natCast]
    omega

set_option maxRecDepth 4000 in
set_option maxHeartbeats 4000000 in
theorem sTalkValid_any (f t a0 a1 a2 a3 b0 b1 b2 b3 sz : Int) (sa : Option Addr) (len cap : Nat) (ss : List SayP) (w : World) (h : Sys w sa len cap ss) (hn : len ≤ 1048576) (htx : ∀ x ∈ ss, x.text.size ≤ 9223372036854775807) :
    Calls Try.prog 73 #[.agg #[.int .i64 f, .int .i64 t, .int .i64 a0, .int .i64 a1, .int .i64 a2, .int .i64 a3, .int .i64 b0, .int .i64 b1, .int .i64 b2, .int .i64 b3, .int .i64 sz, .slice sa len cap]] w fun e w' => e = .returned (.bool (talkV ⟨f, t, ⟨a0, a1, a2, a3⟩, ⟨b0, b1, b2, b3⟩, sz, ss⟩)) ∧ Below w.heap.size w w' := by
  have HS := Lib.hid h
  have HL := Lib.hid h.length
  have hl := h.length
  have HT := Lib.hid htx
  have VT := Lib.hid (VarN.new w [.int .i64 f, .int .i64 t, .int .i64 a0, .int .i64 a1, .int .i64 a2, .int .i64 a3, .int .i64 b0, .int .i64 b1, .int .i64 b2, .int .i64 b3, .int .i64 sz, .slice sa len cap] 75)
  have BB := Lib.hid (below_box (w := w) (.cells (List.toArray [.int .i64 f, .int .i64 t, .int .i64 a0, .int .i64 a1, .int .i64 a2, .int .i64 a3, .int .i64 b0, .int .i64 b1, .int .i64 b2, .int .i64 b3, .int .i64 sz, .slice sa len cap]) 75) (Nat.le_refl _))
  clear h htx
  have c0 := (VT.out 0 _ rfl).1
  have c1 := (VT.out 1 _ rfl).1
  have c2 := (VT.out 2 _ rfl).1
  have c3 := (VT.out 3 _ rfl).1
  have c4 := (VT.out 4 _ rfl).1
  have c5 := (VT.out 5 _ rfl).1
  have c6 := (VT.out 6 _ rfl).1
  have c7 := (VT.out 7 _ rfl).1
  have c8 := (VT.out 8 _ rfl).1
  have c9 := (VT.out 9 _ rfl).1
  have c10 := (VT.out 10 _ rfl).1
  have c11 := (VT.out 11 _ rfl).1
  by_cases h0 : 1 ≤ f ∧ f ≤ 65535
  · have H0 := Lib.hid (decide_eq_true h0)
    have Q0 := Lib.hid h0
    clear h0
    by_cases h1 : 1 ≤ t ∧ t ≤ 65535
    · have H1 := Lib.hid (decide_eq_true h1)
      have Q1 := Lib.hid h1
      clear h1
      by_cases h2 : ¬ f = t
      · have hft : decide (f = t) = false := decide_eq_false h2
        have hfe : (f == t) = false := beq_eq_false_iff_ne.2 h2
        have Q2 := Lib.hid h2
        by_cases h3 : initOkV a0 a1 a2 a3 = true
        · have H3 := Lib.hid h3
          clear h3
          by_cases h4 : initOkV b0 b1 b2 b3 = true
          · have H4 := Lib.hid h4
            clear h4
            by_cases h5 : 1 ≤ sz ∧ sz ≤ 20
            · have H5 := Lib.hid (decide_eq_true h5)
              have Q5 := Lib.hid h5
              clear h5
              have HD : Hid (headOk ⟨f, t, ⟨a0, a1, a2, a3⟩, ⟨b0, b1, b2, b3⟩, sz, ss⟩) := Lib.hid ⟨Q0.out, Q1.out, Q2.out, initOkV_of H3.out, initOkV_of H4.out, Q5.out.1, Q5.out.2⟩
              obtain ⟨z, rfl⟩ : ∃ z : Nat, sz = (z : Int) := ⟨sz.toNat, by have := Q5.out.1; omega⟩
              have hz : 1 ≤ z ∧ z ≤ 20 := by have := Q5.out; omega
              have hA : 1 ≤ a2 ∧ a2 ≤ 4 := (initOkV_of H3.out).2.2.1
              have hBs : 1 ≤ b2 ∧ b2 ≤ 4 := (initOkV_of H4.out).2.2.1
              go_enter Try.func73, Try.ntmps73
              go_wp2_with fail
              refine (l6In_any f 1 65535 _).mono ?_
              rintro e w' ⟨rfl, rfl⟩
              rw [H0.out]
              go_wp2_with fail
              refine (l6In_any t 1 65535 _).mono ?_
              rintro e w' ⟨rfl, rfl⟩
              rw [H1.out]
              go_wp2_with fail
              refine (l12Init_any a0 a1 a2 a3 _).mono ?_
              rw [H3.out]
              rintro e w3 ⟨rfl, hb3⟩
              have VT := Lib.hid (VT.out.below hb3 (lt_of_cell (VT.out 0 _ rfl).1))
              have BB := Lib.hid (BB.out.trans (hb3.mono BB.out.size))
              clear c0 c1 c2 c3 c4 c5 c6 c7 c8 c9 c10 c11
              clear hb3
              have c0 := (VT.out 0 _ rfl).1
              have c1 := (VT.out 1 _ rfl).1
              have c2 := (VT.out 2 _ rfl).1
              have c3 := (VT.out 3 _ rfl).1
              have c4 := (VT.out 4 _ rfl).1
              have c5 := (VT.out 5 _ rfl).1
              have c6 := (VT.out 6 _ rfl).1
              have c7 := (VT.out 7 _ rfl).1
              have c8 := (VT.out 8 _ rfl).1
              have c9 := (VT.out 9 _ rfl).1
              have c10 := (VT.out 10 _ rfl).1
              have c11 := (VT.out 11 _ rfl).1
              go_wp2_with fail
              refine (l12Init_any b0 b1 b2 b3 _).mono ?_
              rw [H4.out]
              rintro e w4 ⟨rfl, hb4⟩
              have VT := Lib.hid (VT.out.below hb4 (lt_of_cell (VT.out 0 _ rfl).1))
              have BB := Lib.hid (BB.out.trans (hb4.mono BB.out.size))
              clear c0 c1 c2 c3 c4 c5 c6 c7 c8 c9 c10 c11
              clear hb4
              have c0 := (VT.out 0 _ rfl).1
              have c1 := (VT.out 1 _ rfl).1
              have c2 := (VT.out 2 _ rfl).1
              have c3 := (VT.out 3 _ rfl).1
              have c4 := (VT.out 4 _ rfl).1
              have c5 := (VT.out 5 _ rfl).1
              have c6 := (VT.out 6 _ rfl).1
              have c7 := (VT.out 7 _ rfl).1
              have c8 := (VT.out 8 _ rfl).1
              have c9 := (VT.out 9 _ rfl).1
              have c10 := (VT.out 10 _ rfl).1
              have c11 := (VT.out 11 _ rfl).1
              go_wp2_with fail
              refine (l6In_any (z : Int) 1 20 _).mono ?_
              rintro e w' ⟨rfl, rfl⟩
              rw [H5.out]
              clear c0 c1 c2 c3 c4 c5 c6 c7 c8 c9 c10 c11
              go_wp2
              go_loopw [3, 4, 5] (fun av bv i wr => ∃ k : Nat, k ≤ len ∧ i = .int .i64 k ∧ av = .int .i64 ((sumMany z false (ss.take k) : Nat) : Int) ∧ bv = .int .i64 ((sumMany z true (ss.take k) : Nat) : Int) ∧ Hid (∀ x ∈ ss.take k, sayOk a2 b2 x) ∧ Hid (VarN w.heap.size [.int .i64 f, .int .i64 t, .int .i64 a0, .int .i64 a1, .int .i64 a2, .int .i64 a3, .int .i64 b0, .int .i64 b1, .int .i64 b2, .int .i64 b3, .int .i64 (z : Int), .slice sa len cap] wr) ∧ Hid (Below w.heap.size w wr)) (fun _ _ i _ => len - (intOf i).toNat)
              case atStart => exact ⟨0, Nat.zero_le _, rfl, by simp [sumMany], by simp [sumMany], Lib.hid (by simp), VT, BB⟩
              case round =>
                obtain ⟨k, hk, rfl, rfl, rfl, hX, hV, hbel⟩ := hrel
                have hsa := Lib.hid (show sumMany z false (ss.take k) ≤ 60 * k from Nat.le_trans (sumMany_few hz.1 hX.out) (Nat.mul_le_mul_left 60 (List.length_take_le _ _)))
                have hsb := Lib.hid (show sumMany z true (ss.take k) ≤ 60 * k from Nat.le_trans (sumMany_few hz.1 hX.out) (Nat.mul_le_mul_left 60 (List.length_take_le _ _)))
                by_cases hlt : k < len
                · obtain ⟨x, rfl⟩ := HS.out.addr hlt
                  obtain ⟨p0, p1, p2, p3⟩ := HS.out.at hbel.out hlt
                  have hkl : k < ss.length := by omega
                  have ST := Lib.hid (take_sAt (ps := ss) (k := k) hkl)
                  have S1 := Lib.hid (sumMany_snoc (ss := ss) (i := k) z false hkl)
                  have S2 := Lib.hid (sumMany_snoc (ss := ss) (i := k) z true hkl)
                  have hmm := sAt_mem hkl
                  obtain ⟨⟨yb, st, lo, tx⟩, he⟩ : ∃ e, sAt ss k = e := ⟨_, rfl⟩
                  rw [he] at p0 p1 p2 p3 ST S1 S2 hmm
                  dsimp only at p0 p1 p2 p3 S1 S2
                  clear he
                  have HM := Lib.hid hmm
                  clear hmm
                  have ki : (k : Int) < (len : Int) := by omega
                  have BX := Lib.hid (below_box (w := wr) (.cells #[.bool yb, .int .i64 st, .bool lo, .string tx] 103) (Nat.le_refl _))
                  have VB := Lib.hid (hV.out.below BX.out (lt_of_cell (hV.out 0 _ rfl).1))
                  have BE := Lib.hid (hbel.out.trans (BX.out.mono hbel.out.size))
                  have v11 := (hV.out 11 _ rfl).1
                  have v10 := (VB.out 10 _ rfl).1
                  have v4 := (VB.out 4 _ rfl).1
                  have v8 := (VB.out 8 _ rfl).1
                  have nb : ¬ w.heap.size = wr.heap.size := by have := lt_of_cell v11; omega
                  have txn : (tx.size : Int) ≤ 9223372036854775807 := by have := HT.out _ HM.out; dsimp only at this; omega
                  by_cases t0 : 1 ≤ (tx.size : Int) ∧ (tx.size : Int) ≤ 60
                  · have T0 := Lib.hid (show 1 ≤ tx.size ∧ tx.size ≤ 60 by omega)
                    have U0 := Lib.hid (decide_eq_true t0)
                    clear t0
                    cases yb with
                    | true =>
                      by_cases t1 : 0 ≤ st ∧ st ≤ b2 - 1
                      · have T1 := Lib.hid t1
                        have U1 := Lib.hid (decide_eq_true t1)
                        clear t1
                        go_wp2_with fail
                        refine (l6In_any tx.size 1 60 _).mono ?_
                        rintro e w' ⟨rfl, rfl⟩
                        rw [U0.out]
                        go_wp2_with fail
                        refine (l6In_any st 0 (b2 - 1) _).mono ?_
                        rintro e w' ⟨rfl, rfl⟩
                        rw [U1.out]
                        have OKX := Lib.hid (show ∀ x ∈ ss.take (k + 1), sayOk a2 b2 x by
                          intro x hx
                          rw [ST.out] at hx
                          rcases List.mem_append.1 hx with h | h
                          · exact hX.out x h
                          · rw [List.mem_singleton.1 h]
                            exact ⟨T0.out.1, T0.out.2, T1.out.1, by have := T1.out.2; show st < b2; omega⟩)
                        have E1 := Lib.hid (show sumMany z true (ss.take (k + 1)) = sumMany z true (ss.take k) + manyN tx.size z by rw [S2.out]; rfl)
                        have E2 := Lib.hid (show sumMany z false (ss.take (k + 1)) = sumMany z false (ss.take k) by rw [S1.out]; rfl)
                        have hmn := manyN_le T0.out.2 hz.1
                        have w1 : IntKind.i64.wrap (((sumMany z true (ss.take k) : Nat) : Int) + ((manyN tx.size z : Nat) : Int)) = ((sumMany z true (ss.take k) : Nat) : Int) + ((manyN tx.size z : Nat) : Int) := IntWalk.i64_in _ (by have := hsb.out; have : k ≤ 1048576 := (by omega); omega)
                        have x0 : (wr.alloc (.cells #[.bool true, .int .i64 st, .bool lo, .string tx] 103)).heap.size = wr.heap.size + 1 := by simp
                        clear x0
                        go_wp2_with fail
                        refine (l41Many_any tx z _ hz.1 (by omega) (by have := T0.out.2; omega)).mono ?_
                        rintro e w' ⟨rfl, rfl⟩
                        go_wp2
                        go_roundw
                        case rel => exact ⟨k + 1, by omega, by go_num, by rw [E2.out], by rw [E1.out]; go_num, OKX, VB, BE⟩
                        case measure => simp [intOf]; omega
                      · have NO := Lib.hid (talkV_no (t := ⟨f, t, ⟨a0, a1, a2, a3⟩, ⟨b0, b1, b2, b3⟩, (z : Int), ss⟩) (fun h => (fun q => t1 ⟨q.2.2.1, by have := q.2.2.2; simp at this; omega⟩) (h.2.1 _ HM.out)))
                        have U1 := Lib.hid (decide_eq_false t1)
                        clear t1
                        go_wp2_with fail
                        refine (l6In_any tx.size 1 60 _).mono ?_
                        rintro e w' ⟨rfl, rfl⟩
                        rw [U0.out]
                        go_wp2_with fail
                        refine (l6In_any st 0 (b2 - 1) _).mono ?_
                        rintro e w' ⟨rfl, rfl⟩
                        rw [U1.out]
                        go_wp2
                        go_ret
                        exact ⟨by rw [NO.out]; rfl, BE.out⟩
                    | false =>
                      by_cases t1 : 0 ≤ st ∧ st ≤ a2 - 1
                      · have T1 := Lib.hid t1
                        have U1 := Lib.hid (decide_eq_true t1)
                        clear t1
                        go_wp2_with fail
                        refine (l6In_any tx.size 1 60 _).mono ?_
                        rintro e w' ⟨rfl, rfl⟩
                        rw [U0.out]
                        go_wp2_with fail
                        refine (l6In_any st 0 (a2 - 1) _).mono ?_
                        rintro e w' ⟨rfl, rfl⟩
                        rw [U1.out]
                        have OKX := Lib.hid (show ∀ x ∈ ss.take (k + 1), sayOk a2 b2 x by
                          intro x hx
                          rw [ST.out] at hx
                          rcases List.mem_append.1 hx with h | h
                          · exact hX.out x h
                          · rw [List.mem_singleton.1 h]
                            exact ⟨T0.out.1, T0.out.2, T1.out.1, by have := T1.out.2; show st < a2; omega⟩)
                        have E1 := Lib.hid (show sumMany z false (ss.take (k + 1)) = sumMany z false (ss.take k) + manyN tx.size z by rw [S1.out]; rfl)
                        have E2 := Lib.hid (show sumMany z true (ss.take (k + 1)) = sumMany z true (ss.take k) by rw [S2.out]; rfl)
                        have hmn := manyN_le T0.out.2 hz.1
                        have w1 : IntKind.i64.wrap (((sumMany z false (ss.take k) : Nat) : Int) + ((manyN tx.size z : Nat) : Int)) = ((sumMany z false (ss.take k) : Nat) : Int) + ((manyN tx.size z : Nat) : Int) := IntWalk.i64_in _ (by have := hsa.out; have : k ≤ 1048576 := (by omega); omega)
                        have x0 : (wr.alloc (.cells #[.bool false, .int .i64 st, .bool lo, .string tx] 103)).heap.size = wr.heap.size + 1 := by simp
                        clear x0
                        go_wp2_with fail
                        refine (l41Many_any tx z _ hz.1 (by omega) (by have := T0.out.2; omega)).mono ?_
                        rintro e w' ⟨rfl, rfl⟩
                        go_wp2
                        go_roundw
                        case rel => exact ⟨k + 1, by omega, by go_num, by rw [E1.out]; go_num, by rw [E2.out], OKX, VB, BE⟩
                        case measure => simp [intOf]; omega
                      · have NO := Lib.hid (talkV_no (t := ⟨f, t, ⟨a0, a1, a2, a3⟩, ⟨b0, b1, b2, b3⟩, (z : Int), ss⟩) (fun h => (fun q => t1 ⟨q.2.2.1, by have := q.2.2.2; simp at this; omega⟩) (h.2.1 _ HM.out)))
                        have U1 := Lib.hid (decide_eq_false t1)
                        clear t1
                        go_wp2_with fail
                        refine (l6In_any tx.size 1 60 _).mono ?_
                        rintro e w' ⟨rfl, rfl⟩
                        rw [U0.out]
                        go_wp2_with fail
                        refine (l6In_any st 0 (a2 - 1) _).mono ?_
                        rintro e w' ⟨rfl, rfl⟩
                        rw [U1.out]
                        go_wp2
                        go_ret
                        exact ⟨by rw [NO.out]; rfl, BE.out⟩
                  · have NO := Lib.hid (talkV_no (t := ⟨f, t, ⟨a0, a1, a2, a3⟩, ⟨b0, b1, b2, b3⟩, (z : Int), ss⟩) (fun h => (fun q => t0 ⟨by have := q.1; dsimp only at this; omega, by have := q.2.1; dsimp only at this; omega⟩) (h.2.1 _ HM.out)))
                    have U0 := Lib.hid (decide_eq_false t0)
                    clear t0
                    go_wp2_with fail
                    refine (l6In_any tx.size 1 60 _).mono ?_
                    rintro e w' ⟨rfl, rfl⟩
                    rw [U0.out]
                    go_wp2
                    go_ret
                    exact ⟨by rw [NO.out]; rfl, BE.out⟩
                · obtain rfl : k = len := by omega
                  have TA := Lib.hid (show ss.take k = ss from List.take_of_length_le (by omega))
                  rw [TA.out] at hX hsa hsb ⊢
                  have v11 := (hV.out 11 _ rfl).1
                  have OK4 := Lib.hid (show talkV ⟨f, t, ⟨a0, a1, a2, a3⟩, ⟨b0, b1, b2, b3⟩, (z : Int), ss⟩ = decide ((k : Int) ≤ 4 ∧ ((sumMany z false ss : Nat) : Int) ≤ 12 ∧ ((sumMany z true ss : Nat) : Int) ≤ 12) from talkV_last HD.out hX.out HL.out)
                  by_cases q0 : (k : Int) ≤ 4
                  · by_cases q1 : ((sumMany z false ss : Nat) : Int) ≤ 12
                    · by_cases q2 : ((sumMany z true ss : Nat) : Int) ≤ 12
                      · go_wp2
                        go_ret
                        exact ⟨by rw [OK4.out]; simp [q0, q1, q2], hbel.out⟩
                      · go_wp2
                        go_ret
                        exact ⟨by rw [OK4.out, decide_eq_false (show ¬ ((k : Int) ≤ 4 ∧ ((sumMany z false ss : Nat) : Int) ≤ 12 ∧ ((sumMany z true ss : Nat) : Int) ≤ 12) from fun h => by omega)]; rfl, hbel.out⟩
                    · go_wp2
                      go_ret
                      exact ⟨by rw [OK4.out, decide_eq_false (show ¬ ((k : Int) ≤ 4 ∧ ((sumMany z false ss : Nat) : Int) ≤ 12 ∧ ((sumMany z true ss : Nat) : Int) ≤ 12) from fun h => by omega)]; rfl, hbel.out⟩
                  · go_wp2
                    go_ret
                    exact ⟨by rw [OK4.out, decide_eq_false (show ¬ ((k : Int) ≤ 4 ∧ ((sumMany z false ss : Nat) : Int) ≤ 12 ∧ ((sumMany z true ss : Nat) : Int) ≤ 12) from fun h => by omega)]; rfl, hbel.out⟩
            · rw [talkV_no (t := ⟨f, t, ⟨a0, a1, a2, a3⟩, ⟨b0, b1, b2, b3⟩, sz, ss⟩) (fun h => h5 h.1.2.2.2.2.2)]
              have H5 := Lib.hid (decide_eq_false h5)
              clear h5
              go_enter Try.func73, Try.ntmps73
              go_wp2_with fail
              refine (l6In_any f 1 65535 _).mono ?_
              rintro e w' ⟨rfl, rfl⟩
              rw [H0.out]
              go_wp2_with fail
              refine (l6In_any t 1 65535 _).mono ?_
              rintro e w' ⟨rfl, rfl⟩
              rw [H1.out]
              go_wp2_with fail
              refine (l12Init_any a0 a1 a2 a3 _).mono ?_
              rw [H3.out]
              rintro e w3 ⟨rfl, hb3⟩
              have VT := Lib.hid (VT.out.below hb3 (lt_of_cell (VT.out 0 _ rfl).1))
              have BB := Lib.hid (BB.out.trans (hb3.mono BB.out.size))
              clear c0 c1 c2 c3 c4 c5 c6 c7 c8 c9 c10 c11
              clear hb3
              have c0 := (VT.out 0 _ rfl).1
              have c1 := (VT.out 1 _ rfl).1
              have c2 := (VT.out 2 _ rfl).1
              have c3 := (VT.out 3 _ rfl).1
              have c4 := (VT.out 4 _ rfl).1
              have c5 := (VT.out 5 _ rfl).1
              have c6 := (VT.out 6 _ rfl).1
              have c7 := (VT.out 7 _ rfl).1
              have c8 := (VT.out 8 _ rfl).1
              have c9 := (VT.out 9 _ rfl).1
              have c10 := (VT.out 10 _ rfl).1
              have c11 := (VT.out 11 _ rfl).1
              go_wp2_with fail
              refine (l12Init_any b0 b1 b2 b3 _).mono ?_
              rw [H4.out]
              rintro e w4 ⟨rfl, hb4⟩
              have VT := Lib.hid (VT.out.below hb4 (lt_of_cell (VT.out 0 _ rfl).1))
              have BB := Lib.hid (BB.out.trans (hb4.mono BB.out.size))
              clear c0 c1 c2 c3 c4 c5 c6 c7 c8 c9 c10 c11
              clear hb4
              have c0 := (VT.out 0 _ rfl).1
              have c1 := (VT.out 1 _ rfl).1
              have c2 := (VT.out 2 _ rfl).1
              have c3 := (VT.out 3 _ rfl).1
              have c4 := (VT.out 4 _ rfl).1
              have c5 := (VT.out 5 _ rfl).1
              have c6 := (VT.out 6 _ rfl).1
              have c7 := (VT.out 7 _ rfl).1
              have c8 := (VT.out 8 _ rfl).1
              have c9 := (VT.out 9 _ rfl).1
              have c10 := (VT.out 10 _ rfl).1
              have c11 := (VT.out 11 _ rfl).1
              go_wp2_with fail
              refine (l6In_any sz 1 20 _).mono ?_
              rintro e w' ⟨rfl, rfl⟩
              rw [H5.out]
              go_wp2
              go_ret
              exact ⟨rfl, BB.out⟩
          · rw [talkV_no (t := ⟨f, t, ⟨a0, a1, a2, a3⟩, ⟨b0, b1, b2, b3⟩, sz, ss⟩) (fun h => h4 (initOkV_yes h.1.2.2.2.2.1))]
            have H4 := Lib.hid (Bool.eq_false_iff.2 h4)
            clear h4
            go_enter Try.func73, Try.ntmps73
            go_wp2_with fail
            refine (l6In_any f 1 65535 _).mono ?_
            rintro e w' ⟨rfl, rfl⟩
            rw [H0.out]
            go_wp2_with fail
            refine (l6In_any t 1 65535 _).mono ?_
            rintro e w' ⟨rfl, rfl⟩
            rw [H1.out]
            go_wp2_with fail
            refine (l12Init_any a0 a1 a2 a3 _).mono ?_
            rw [H3.out]
            rintro e w3 ⟨rfl, hb3⟩
            have VT := Lib.hid (VT.out.below hb3 (lt_of_cell (VT.out 0 _ rfl).1))
            have BB := Lib.hid (BB.out.trans (hb3.mono BB.out.size))
            clear c0 c1 c2 c3 c4 c5 c6 c7 c8 c9 c10 c11
            clear hb3
            have c0 := (VT.out 0 _ rfl).1
            have c1 := (VT.out 1 _ rfl).1
            have c2 := (VT.out 2 _ rfl).1
            have c3 := (VT.out 3 _ rfl).1
            have c4 := (VT.out 4 _ rfl).1
            have c5 := (VT.out 5 _ rfl).1
            have c6 := (VT.out 6 _ rfl).1
            have c7 := (VT.out 7 _ rfl).1
            have c8 := (VT.out 8 _ rfl).1
            have c9 := (VT.out 9 _ rfl).1
            have c10 := (VT.out 10 _ rfl).1
            have c11 := (VT.out 11 _ rfl).1
            go_wp2_with fail
            refine (l12Init_any b0 b1 b2 b3 _).mono ?_
            rw [H4.out]
            rintro e w4 ⟨rfl, hb4⟩
            have VT := Lib.hid (VT.out.below hb4 (lt_of_cell (VT.out 0 _ rfl).1))
            have BB := Lib.hid (BB.out.trans (hb4.mono BB.out.size))
            clear c0 c1 c2 c3 c4 c5 c6 c7 c8 c9 c10 c11
            clear hb4
            have c0 := (VT.out 0 _ rfl).1
            have c1 := (VT.out 1 _ rfl).1
            have c2 := (VT.out 2 _ rfl).1
            have c3 := (VT.out 3 _ rfl).1
            have c4 := (VT.out 4 _ rfl).1
            have c5 := (VT.out 5 _ rfl).1
            have c6 := (VT.out 6 _ rfl).1
            have c7 := (VT.out 7 _ rfl).1
            have c8 := (VT.out 8 _ rfl).1
            have c9 := (VT.out 9 _ rfl).1
            have c10 := (VT.out 10 _ rfl).1
            have c11 := (VT.out 11 _ rfl).1
            go_wp2
            go_ret
            exact ⟨rfl, BB.out⟩
        · rw [talkV_no (t := ⟨f, t, ⟨a0, a1, a2, a3⟩, ⟨b0, b1, b2, b3⟩, sz, ss⟩) (fun h => h3 (initOkV_yes h.1.2.2.2.1))]
          have H3 := Lib.hid (Bool.eq_false_iff.2 h3)
          clear h3
          go_enter Try.func73, Try.ntmps73
          go_wp2_with fail
          refine (l6In_any f 1 65535 _).mono ?_
          rintro e w' ⟨rfl, rfl⟩
          rw [H0.out]
          go_wp2_with fail
          refine (l6In_any t 1 65535 _).mono ?_
          rintro e w' ⟨rfl, rfl⟩
          rw [H1.out]
          go_wp2_with fail
          refine (l12Init_any a0 a1 a2 a3 _).mono ?_
          rw [H3.out]
          rintro e w3 ⟨rfl, hb3⟩
          have VT := Lib.hid (VT.out.below hb3 (lt_of_cell (VT.out 0 _ rfl).1))
          have BB := Lib.hid (BB.out.trans (hb3.mono BB.out.size))
          clear c0 c1 c2 c3 c4 c5 c6 c7 c8 c9 c10 c11
          clear hb3
          have c0 := (VT.out 0 _ rfl).1
          have c1 := (VT.out 1 _ rfl).1
          have c2 := (VT.out 2 _ rfl).1
          have c3 := (VT.out 3 _ rfl).1
          have c4 := (VT.out 4 _ rfl).1
          have c5 := (VT.out 5 _ rfl).1
          have c6 := (VT.out 6 _ rfl).1
          have c7 := (VT.out 7 _ rfl).1
          have c8 := (VT.out 8 _ rfl).1
          have c9 := (VT.out 9 _ rfl).1
          have c10 := (VT.out 10 _ rfl).1
          have c11 := (VT.out 11 _ rfl).1
          go_wp2
          go_ret
          exact ⟨rfl, BB.out⟩
      · rw [talkV_no (t := ⟨f, t, ⟨a0, a1, a2, a3⟩, ⟨b0, b1, b2, b3⟩, sz, ss⟩) (fun h => h2 h.1.2.2.1)]
        have hft : decide (f = t) = true := decide_eq_true (Classical.not_not.1 h2)
        have hfe : (f == t) = true := beq_iff_eq.2 (Classical.not_not.1 h2)
        clear h2
        go_enter Try.func73, Try.ntmps73
        go_wp2_with fail
        refine (l6In_any f 1 65535 _).mono ?_
        rintro e w' ⟨rfl, rfl⟩
        rw [H0.out]
        go_wp2_with fail
        refine (l6In_any t 1 65535 _).mono ?_
        rintro e w' ⟨rfl, rfl⟩
        rw [H1.out]
        go_wp2
        go_ret
        exact ⟨rfl, BB.out⟩
    · rw [talkV_no (t := ⟨f, t, ⟨a0, a1, a2, a3⟩, ⟨b0, b1, b2, b3⟩, sz, ss⟩) (fun h => h1 h.1.2.1)]
      have H1 := Lib.hid (decide_eq_false h1)
      clear h1
      go_enter Try.func73, Try.ntmps73
      go_wp2_with fail
      refine (l6In_any f 1 65535 _).mono ?_
      rintro e w' ⟨rfl, rfl⟩
      rw [H0.out]
      go_wp2_with fail
      refine (l6In_any t 1 65535 _).mono ?_
      rintro e w' ⟨rfl, rfl⟩
      rw [H1.out]
      go_wp2
      go_ret
      exact ⟨rfl, BB.out⟩
  · rw [talkV_no (t := ⟨f, t, ⟨a0, a1, a2, a3⟩, ⟨b0, b1, b2, b3⟩, sz, ss⟩) (fun h => h0 h.1.1)]
    have H0 := Lib.hid (decide_eq_false h0)
    clear h0
    go_enter Try.func73, Try.ntmps73
    go_wp2_with fail
    refine (l6In_any f 1 65535 _).mono ?_
    rintro e w' ⟨rfl, rfl⟩
    rw [H0.out]
    go_wp2
    go_ret
    exact ⟨rfl, BB.out⟩

end Go.Proofs.Ytncbgejggfkdmab

/- Talks, plain: the pieces of a message, one after the other. -/
namespace Go.Proofs.Ytncbgejggfkdmab
open Go.RowKit Go.PlainAid

theorem lt_many {n z j : Nat} (hz : 1 ≤ z) : j * z < n ↔ j < manyN n z := by
  unfold manyN
  have h1 := Nat.div_add_mod (n + z - 1) z
  have h2 := Nat.mod_lt (n + z - 1) (show z > 0 by omega)
  generalize (n + z - 1) / z = q at h1 ⊢
  generalize (n + z - 1) % z = r at h1 h2
  constructor
  · intro h
    apply Classical.byContradiction
    intro hn
    have h3 : q * z ≤ j * z := Nat.mul_le_mul_right z (by omega)
    rw [Nat.mul_comm] at h1
    omega
  · intro h
    have h3 : (j + 1) * z ≤ q * z := Nat.mul_le_mul_right z (by omega)
    rw [Nat.succ_mul] at h3
    rw [Nat.mul_comm] at h1
    omega
/-- A piece, by its ends. -/
theorem pieceP_is {first : Int} {yb : Bool} {st : Int} {lo : Bool} {tx : ByteArray} {q : Int} {z n0 j A E : Nat} (hz : 1 ≤ z) (hA : A = j * z) (hE : E = min (A + z) tx.size) :
    pieceP first ⟨yb, st, lo, tx⟩ q z n0 j = ⟨addS first ((n0 + j : Nat) : Int), st, q, decide (A = 0), decide (E = tx.size), lo, tx.extract A E⟩ := by
  subst hA
  have e : (j + 1) * z = j * z + z := Nat.succ_mul _ _
  unfold pieceP
  rw [hE]
  dsimp only
  rw [e]
  congr 1
  · rcases Nat.eq_zero_or_pos j with h | h
    · subst h; simp
    · have : ¬ j = 0 := by omega
      have h2 : ¬ j * z = 0 := by
        intro h0
        rcases Nat.mul_eq_zero.1 h0 with h1 | h1 <;> omega
      rw [decide_eq_false this, decide_eq_false h2]
theorem addSay_is {first : Int} {z : Nat} {b : Bool} {out : List Part} {x : SayP} {q : Int} {k0 j : Nat} (hb : x.byB = b) (hq : ssnOf out x = q) (hk : out.length = k0) (hj : j = manyN x.text.size z) : addSay first z b out x = out ++ cutP first x q z k0 j := by
  subst hq hk hj
  exact addSay_yes hb

end Go.Proofs.Ytncbgejggfkdmab
