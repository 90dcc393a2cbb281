/- The contracts of chapter 21's model: the value at the beginning, moving on, a part that arrives. -/
import Derived.Test.YtcjabomcndahbaaK90
import Derived.Test.YtcjabomcndahbaaG18
import Derived.Deep.AppendLies
import Derived.IntWalk
namespace Go.Proofs.Ytcjabomcndahbaa
open Go.RowKit Go.PlainAid

set_option maxHeartbeats 1000000 in
theorem sSeenNew_yes (t : Int) (w : World) (ht : Ser t) :
    Calls Try.prog 17 #[.int .i64 t] w fun e w' => ∃ x, e = .returned (.tuple #[.agg #[.int .i64 (addS t (-1)), .slice (some ⟨x, 0, none⟩) 0 0], .bool true]) ∧ OwnN 0 (.slice (some ⟨x, 0, none⟩) 0 0) [] w w' := by
  have HT := Lib.hid ht
  clear ht
  have O1 := Lib.hid (OwnN.start (below_box (w := w) (.cells #[.int .i64 (addS t (-1)), .slice (some ⟨w.heap.size + 1, 0, none⟩) 0 0] 26) (Nat.le_refl _)))
  go_enter Try.func17, Try.ntmps17
  go_wp2_with fail
  refine (l3Ok_yes t _ HT.out).mono ?_
  rintro e w1 ⟨rfl, rfl⟩
  go_wp2_with fail
  refine (l3Add_any t (-1) _ HT.out).mono ?_
  rintro e w1 ⟨rfl, rfl⟩
  go_wp2
  refine bodyPost_ret (v := .tuple #[.agg #[.int .i64 (addS t (-1)), .slice (some ⟨w.heap.size + 1, 0, none⟩) 0 0], .bool true]) ?_ rfl ?_
  · simp [results, Try.results17, go_sem]
  · exact ⟨_, rfl, by simpa using O1.out⟩

set_option maxHeartbeats 1000000 in
theorem sSeenNew_no (t : Int) (w : World) (ht : ¬ Ser t) :
    Calls Try.prog 17 #[.int .i64 t] w fun e w' => e = .returned (.tuple #[.agg #[.int .i64 0, .slice none 0 0], .bool false]) ∧ Below w.heap.size w w' := by
  have HT := Lib.hid ht
  clear ht
  go_enter Try.func17, Try.ntmps17
  go_wp2_with fail
  refine (l3Ok_no t _ HT.out).mono ?_
  rintro e w1 ⟨rfl, rfl⟩
  go_wp2
  refine bodyPost_ret (v := .tuple #[.agg #[.int .i64 0, .slice none 0 0], .bool false]) ?_ rfl ?_
  · simp [results, Try.results17, go_sem]
  · exact ⟨rfl, below_box _ (Nat.le_refl _)⟩

/-- While those left are collected: the result's variable, the value's at D, its row. -/
structure Mvw (w : World) (c : Int) (D m g cap2 : Nat) (ds : List Int) (W : World) : Prop where
  rb : VarN w.heap.size [.int .i64 0, .slice none 0 0] W
  ob : VarN D [.int .i64 c, .slice (some ⟨g, 0, none⟩) m cap2] W
  own : OwnN m (.slice (some ⟨g, 0, none⟩) m cap2) ds w W
  n1 : w.heap.size < D
  n2 : g ≠ D
  n3 : g ≠ w.heap.size
section
variable {w W W' : World} {c : Int} {D m g cap2 : Nat} {ds : List Int}
theorem Mvw.up (h : Mvw w c D m g cap2 ds W) (hb : Below W.heap.size W W') : Mvw w c D m g cap2 ds W' :=
  ⟨h.rb.below hb (lt_of_cell (h.rb 0 _ rfl).1), h.ob.below hb (lt_of_cell (h.ob 0 _ rfl).1), h.own.below hb, h.n1, h.n2, h.n3⟩
theorem OwnN.push {k g2 cap3 : Nat} {v : Value} {es : List Int} {W1 : World} {e : Int} (h : OwnN k v es w W) (hgrow : W.grownBy W1 v.ownBlock) (hown : W1.ownsRow w.heap.size 3 1 (.slice (some ⟨g2, 0, none⟩) (k + 1) cap3) (k + 1) (flatN es ++ [.int .i64 e])) : OwnN (k + 1) (.slice (some ⟨g2, 0, none⟩) (k + 1) cap3) (es ++ [e]) w W1 :=
  ⟨by rw [flatN_append]; exact hown, Below.grown h.b hgrow h.b.size fun x hx => h.base hx⟩
theorem OwnN.far {k g d i : Nat} {cap : Nat} {es : List Int} (h : OwnN k (.slice (some ⟨g, 0, none⟩) k cap) es w W) (hd : g ≠ d) (hw : w.heap.size ≤ d) (v : Value) : OwnN k (.slice (some ⟨g, 0, none⟩) k cap) es w (W.setCell ⟨d, i, none⟩ v) :=
  ⟨rowFar h.own hd v, h.b.setCell (p := ⟨d, i, none⟩) hw v⟩
theorem OwnN.lt {k g cap : Nat} {es : List Int} (h : OwnN k (.slice (some ⟨g, 0, none⟩) k cap) es w W) : g < W.heap.size := rowLt h.own
/-- A number is appended, and the new slice is laid into the value's variable. -/
theorem Mvw.push {g2 cap3 : Nat} {W1 : World} {e : Int} (h : Mvw w c D m g cap2 ds W) (hgrow : W.grownBy W1 (some g)) (hown : W1.ownsRow w.heap.size 3 1 (.slice (some ⟨g2, 0, none⟩) (m + 1) cap3) (m + 1) (flatN ds ++ [.int .i64 e])) (hat : g2 = g ∨ g2 = W.heap.size) :
    Mvw w c D (m + 1) g2 cap3 (ds ++ [e]) (W1.setCell ⟨D, 1, none⟩ (.slice (some ⟨g2, 0, none⟩) (m + 1) cap3)) := by
  have l1 := lt_of_cell (h.rb 0 _ rfl).1
  have l2 := lt_of_cell (h.ob 0 _ rfl).1
  have n1 := h.n1
  have n2 := h.n2
  have n3 := h.n3
  have x2 : g2 ≠ D := by rcases hat with rfl | rfl <;> omega
  have x3 : g2 ≠ w.heap.size := by rcases hat with rfl | rfl <;> omega
  exact ⟨(h.rb.plus hgrow l1 (fun e => n3 e.symm)).far _ (by omega), (h.ob.plus hgrow l2 (fun e => n2 e.symm)).set (i := 1) _, (h.own.push hgrow hown).far x2 (by omega) _, n1, x2, x3⟩
end

set_option maxHeartbeats 4000000 in
theorem l21Move_any (c : Int) (a : Option Addr) (len cap : Nat) (es : List Int) (w : World) (h : Ns w a len cap es) (hc : Ser c) (hr : ∀ j ∈ es, 1 ≤ j ∧ j ≤ 16) :
    Calls Try.prog 92 #[.int .i64 c, .slice a len cap] w fun e w' => ∃ n k g cap2 ds, e = .returned (.agg #[.int .i64 (addS c n), .slice (some ⟨g, 0, none⟩) k cap2]) ∧ Moved (fun j => j ∈ es) n ds ∧ OwnN k (.slice (some ⟨g, 0, none⟩) k cap2) ds w w' := by
  have HG := Lib.hid h
  have HR := Lib.hid hr
  have HC := Lib.hid hc
  have RB := Lib.hid (VarN.new w [.int .i64 0, .slice none 0 0] 26)
  clear h hr hc
  go_enter Try.func92, Try.ntmps92
  go_wp2
  go_loopw [5] (fun i wr => ∃ k : Nat, k ≤ 16 ∧ i = .int .i64 k ∧ Hid (∀ j : Int, 1 ≤ j → j ≤ k → j ∈ es) ∧ Hid (VarN w.heap.size [.int .i64 0, .slice none 0 0] wr) ∧ Hid (Below w.heap.size w wr)) (fun i _ => 17 - (intOf i).toNat)
  case atStart => exact ⟨0, by omega, rfl, Lib.hid (fun j h1 h2 => by omega), RB, Lib.hid (below_box _ (Nat.le_refl _))⟩
  case round =>
    obtain ⟨k, hk, rfl, hrun, hrb, hbel⟩ := hrel
    clear RB
    have w1 : IntKind.i64.wrap ((k : Int) + 1) = (k : Int) + 1 := IntWalk.i64_in _ ⟨by omega, by omega⟩
    have GA := Lib.hid (HG.out.below hbel.out)
    by_cases hin : (k : Int) + 1 ∈ es
    · have D := decide_eq_true hin
      have h16 := HR.out _ hin
      have RN := Lib.hid (show ∀ j : Int, 1 ≤ j → j ≤ ((k + 1 : Nat) : Int) → j ∈ es from fun j h1 h2 => by
        by_cases e : j = (k : Int) + 1
        · rw [e]; exact hin
        · exact hrun.out j h1 (by omega))
      clear hin
      go_wp2_with fail
      refine (l21Has_any a len cap es _ _ GA.out).mono ?_
      rw [D]
      rintro e w2 ⟨rfl, hb2⟩
      have RB2 := Lib.hid (hrb.out.below hb2 (lt_of_cell (hrb.out 0 _ rfl).1))
      have HB2 := Lib.hid (hbel.out.trans (hb2.mono hbel.out.size))
      clear hb2 D
      go_wp2
      go_roundw
      case rel => exact ⟨k + 1, by omega, by go_num, RN, RB2, HB2⟩
      case measure => simp [intOf]; omega
    · have D := decide_eq_false hin
      have HS := Lib.hid hin
      clear hin
      go_wp2_with fail
      refine (l21Has_any a len cap es _ _ GA.out).mono ?_
      rw [D]
      rintro e w2 ⟨rfl, hb2⟩
      have RB2 := Lib.hid (hrb.out.below hb2 (lt_of_cell (hrb.out 0 _ rfl).1))
      have HB2 := Lib.hid (hbel.out.trans (hb2.mono hbel.out.size))
      clear hb2 D GA hrb hbel
      go_wp2_with fail
      refine (l3Add_any c (k : Int) _ HC.out).mono ?_
      rintro e w3 ⟨rfl, rfl⟩
      have hsz := Lib.hid (lt_of_cell (RB2.out 0 _ rfl).1)
      have ON := OwnN.start HB2.out
      have M0 := Lib.hid (show Mvw w (addS c k) (w2.heap.size + 1) 0 w2.heap.size 0 [] ((w2.alloc (.cells #[] 3)).alloc (.cells #[.int .i64 (addS c k), .slice (some ⟨w2.heap.size, 0, none⟩) 0 0] 26)) from
        ⟨(RB2.out.alloc _ hsz.out).alloc _ (by have := hsz.out; simp; omega), VarN.new_at (by simp) [.int .i64 (addS c k), .slice (some ⟨w2.heap.size, 0, none⟩) 0 0] _, ON.below (below_box _ (Nat.le_refl _)), by have := hsz.out; omega, by omega, by have := hsz.out; omega⟩)
      clear ON RB2 HB2
      obtain ⟨i0, hi, hz0, hz1, hz2⟩ := info_parts info_n
      have HI := Lib.hid (And.intro hi (And.intro hz0 (And.intro hz1 hz2)))
      clear hi hz0 hz1 hz2
      go_wp2
      go_loopw [7] (fun i wr => ∃ (q : Nat) (ds : List Int) (m g cap2 : Nat), k + 1 ≤ q ∧ q ≤ 17 ∧ i = .int .i64 q ∧ Hid (Mv (fun j => j ∈ es) k q ds) ∧ ds.length = m ∧ Hid (Mvw w (addS c k) (w2.heap.size + 1) m g cap2 ds wr)) (fun i _ => 18 - (intOf i).toNat)
      case atStart => exact ⟨k + 1, [], 0, w2.heap.size, 0, by omega, by omega, rfl, Lib.hid (by have := mv_start (P := fun j => j ∈ es) (n := (k : Int)); simpa using this), rfl, M0⟩
      case round =>
        obtain ⟨q, ds, m, g, cap2, hq, hq7, rfl, hmv, hdm, hM⟩ := hrel
        clear M0
        have hga := Lib.hid (HG.out.below hM.out.own.b)
        have hm6 := mv_few hmv.out
        have w8 : IntKind.i64.wrap ((q : Int) + 1) = (q : Int) + 1 := IntWalk.i64_in _ ⟨by omega, by omega⟩
        by_cases hle : (q : Int) ≤ 16
        · by_cases hin : (q : Int) ∈ es
          · have D := decide_eq_true hin
            have MY := Lib.hid (mv_yes hmv.out (by omega) (by omega) hle HS.out hin)
            have w9 : IntKind.i64.wrap ((q : Int) - (k : Int)) = (q : Int) - (k : Int) := IntWalk.i64_in _ ⟨by omega, by omega⟩
            clear hin
            go_wp2_with fail
            refine (l21Has_any a len cap es _ _ hga.out).mono ?_
            rw [D]
            rintro e w5 ⟨rfl, hb5⟩
            have M5 := hM.out.up hb5
            have o0 := (M5.ob 0 _ rfl).1
            have o1 := (M5.ob 1 _ rfl).1
            have MA := Lib.hid (M5.up (below_box (.cells #[.int .i64 ((q : Int) - (k : Int))] 3) (Nat.le_refl _)))
            have hsz5 := M5.own.b.size
            clear hb5 D hga hM M5
            go_wp2_with (at_builtin; go_loud (refine wpList_append_lies _ rfl _ _ 24 rfl w.heap.size 3 i0 (.int .i64 0) 1 8 Try.underlying24 HI.out.1 HI.out.2.1 HI.out.2.2.1 HI.out.2.2.2 rfl (by decide) (.slice (some ⟨g, 0, none⟩) m cap2) m (flatN ds) rfl MA.out.own.own ⟨w5.heap.size, 0, none⟩ 1 1 [.int .i64 ((q : Int) - (k : Int))] rfl rfl (news_box rfl) (by simp [Value.oneCell']) (by decide) (by unfold maxLen; omega) (by omega) (by simp; omega) _ rfl ?_))
            intro g3 cap3 w9 hown hgrow hat hlt9
            have hat' : g3 = g ∨ g3 = (w5.alloc (.cells #[.int .i64 ((q : Int) - (k : Int))] 3)).heap.size := by
              rcases hat with h | h
              · exact .inl (by simpa [Value.ownBlock] using h.symm)
              · exact .inr (by simpa using h)
            have MP := Lib.hid (MA.out.push hgrow hown hat')
            have V9 := MA.out.ob.plus hgrow (lt_of_cell (MA.out.ob 0 _ rfl).1) (fun e => MA.out.n2 e.symm)
            have v1 := (V9 1 _ rfl).1
            have f1 := (V9 1 _ rfl).2
            clear V9 hown hgrow hat hat' hlt9 MA o0 o1
            go_wp2
            go_roundw
            case rel => exact ⟨q + 1, _, m + 1, g3, cap3, by omega, by omega, by go_num, MY, by rw [List.length_append, hdm]; rfl, MP⟩
            case measure => simp [intOf]; omega
          · have D := decide_eq_false hin
            have MN := Lib.hid (mv_no hmv.out (by omega) hin)
            clear hin
            go_wp2_with fail
            refine (l21Has_any a len cap es _ _ hga.out).mono ?_
            rw [D]
            rintro e w5 ⟨rfl, hb5⟩
            have M5 := Lib.hid (hM.out.up hb5)
            clear hb5 D hga hM
            go_wp2
            go_roundw
            case rel => exact ⟨q + 1, ds, m, g, cap2, by omega, by omega, by go_num, MN, hdm, M5⟩
            case measure => simp [intOf]; omega
        · have hq17 : (q : Int) = 17 := by omega
          have ME := Lib.hid (mv_end (hq17 ▸ hmv.out) (by omega) hrun.out HS.out HR.out)
          have M5 := hM.out
          have o0 := (M5.ob 0 _ rfl).1
          have o1 := (M5.ob 1 _ rfl).1
          have r0 := (M5.rb 0 _ rfl).1
          have r1 := (M5.rb 1 _ rfl).1
          have s0 := (M5.rb 0 _ rfl).2
          have s1 := (M5.rb 1 _ rfl).2
          have OF := Lib.hid ((M5.own.far (i := 0) M5.n3 (Nat.le_refl _) (.int .i64 (addS c k))).far (i := 1) M5.n3 (Nat.le_refl _) (.slice (some ⟨g, 0, none⟩) m cap2))
          clear M5 hM hq17 hga hmv
          go_wp2
          refine bodyPost_ret (v := .agg #[.int .i64 (addS c k), .slice (some ⟨g, 0, none⟩) m cap2]) ?_ rfl ?_
          · simp [results, Try.results92, go_sem, r0, r1]
          · exact ⟨_, m, g, cap2, rfl, ds, ME.out, OF.out⟩

end Go.Proofs.Ytcjabomcndahbaa
