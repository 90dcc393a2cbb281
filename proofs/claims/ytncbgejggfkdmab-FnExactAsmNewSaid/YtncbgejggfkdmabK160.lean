/- The contracts of chapter 22's model: the parts of a message. -/
import Derived.Test.YtncbgejggfkdmabK131
import Derived.Test.YtncbgejggfkdmabK91
import Derived.Test.YtncbgejggfkdmabG26
namespace Go.Proofs.Ytncbgejggfkdmab
open Go.RowKit Go.PlainAid

theorem quiet_loadQ {P : Program} {C : World → Prop} {a : Act} {o : Oper} {K : Act → Prop} {T : TypeId} {x : Operand} {p v : Value} (h : o.op = .load T x) (hp : a.eval x = p) (hl : ∀ W, C W → (Instr.loadAt T p).run P W = .ok v W) (hk : K (a.put o.dst v)) : o.quiet P a C K :=
  ⟨v, fun W hW => by
    unfold Oper.quietAt
    simp [execOp, h, hp, hl W hW, Oper.quietUpon], hk⟩
theorem load_parts {W : World} {x : Addr} {len cap i : Nat} {ps : List Part} (h : Pts W (some x) len cap ps) (hi : i < len) : (Instr.loadAt 43 (.pointer (some (x.add (i * 7))))).run Try.prog W = .ok (partV (pAt ps i)) W := by
  obtain ⟨l0, l1, l2, l3, l4, l5, l6⟩ := h.at (Below.refl _ _) hi
  obtain ⟨⟨t, s, q, fi, la, lo, tx⟩, hp⟩ : ∃ p, pAt ps i = p := ⟨_, rfl⟩
  rw [hp] at l0 l1 l2 l3 l4 l5 l6 ⊢
  dsimp only at l0 l1 l2 l3 l4 l5 l6
  clear h hp
  unfold partV
  go_simp
theorem load_first {W : World} {x : Addr} {len cap i : Nat} {ps : List Part} (h : Pts W (some x) len cap ps) (hi : i < len) : (Instr.loadAt 4 (.pointer (some ⟨(x.add (i * 7)).block, (x.add (i * 7)).off + 3, none⟩))).run Try.prog W = .ok (.bool (pAt ps i).first) W := by
  obtain ⟨l0, l1, l2, l3, l4, l5, l6⟩ := h.at (Below.refl _ _) hi
  clear h l0 l1 l2 l4 l5 l6
  go_simp
def lenQ : Value → Nat
  | .slice _ n _ => n
  | _ => 0
/-- Places as numbers. -/
def natI (l : List Nat) : List Int := l.map fun i : Nat => (i : Int)
theorem natI_length (l : List Nat) : (natI l).length = l.length := List.length_map _
theorem natI_snoc (l : List Nat) (i : Nat) : natI (l ++ [i]) = natI l ++ [(i : Int)] := by unfold natI; rw [List.map_append]; rfl
theorem natI_at {l : List Nat} {i : Nat} (h : i < l.length) : nAt (natI l) i = ((l.getD i 0 : Nat) : Int) := by
  unfold nAt natI
  rw [List.getD_eq_getElem?_getD, List.getElem?_map, List.getD_eq_getElem?_getD, List.getElem?_eq_getElem h]
  rfl
theorem natI_mem {l : List Nat} {i : Nat} : ((i : Int) ∈ natI l) ↔ i ∈ l := by
  unfold natI
  rw [List.mem_map]
  exact ⟨fun ⟨j, hj, e⟩ => by have : j = i := by omega
                              exact this ▸ hj, fun h => ⟨i, h, rfl⟩⟩
theorem OwnN.pushN {w W W1 : World} {k : Nat} {es : List Int} {v : Value} {g2 cap2 : Nat} {e : Int} (h : OwnN k v es w W) (hgrow : W.grownBy W1 v.ownBlock) (hown : W1.ownsRow w.heap.size 3 1 (.slice (some ⟨g2, 0, none⟩) (k + 1) cap2) (k + 1) (flatN es ++ [.int .i64 e])) : OwnN (k + 1) (.slice (some ⟨g2, 0, none⟩) (k + 1) cap2) (es ++ [e]) w W1 :=
  ⟨by rw [flatN_append]; exact hown, Below.grown h.b hgrow h.b.size fun x hx => h.base hx⟩
theorem OwnN.one {w W : World} {k : Nat} (hb : Below w.heap.size w W) : OwnN 1 (.slice (some ⟨W.heap.size, 0, none⟩) 1 1) (natI [k]) w (W.alloc (.cells #[.int .i64 k] 3)) :=
  ⟨World.ownsRow_lit (base := w.heap.size) (e := 3) (size := 1) W #[.int .i64 k] 1 hb.size (by decide) rfl, hb.alloc hb.size _⟩
theorem idxV_is {ps : List Part} {t : Int} : (idxP ps t = none → idxV ps t = -1) ∧ ∀ j, idxP ps t = some j → idxV ps t = (j : Int) := by
  unfold idxV
  exact ⟨fun h => by rw [h], fun j h => by rw [h]⟩
/-- While the parts of a message are sought. -/
structure Chw (ps : List Part) (k0 : Nat) (w : World) (k : Nat) (out : List Nat) (m g cap2 : Nat) (W : World) : Prop where
  f : chainP ps (15 - m) k out = chainOf ps k0
  lo : 1 ≤ m
  hi : m ≤ 13
  ln : out.length = m
  own : OwnN m (.slice (some ⟨g, 0, none⟩) m cap2) (natI out) w W

set_option maxRecDepth 8000 in
set_option maxHeartbeats 1500000 in
theorem l22Chain_any (x : Addr) (len cap : Nat) (ps : List Part) (k0 : Nat) (w : World) (h : Pts w (some x) len cap ps) (hk0 : k0 < len) (ht : ∀ p ∈ ps, Ser p.tsn) :
    Calls Try.prog 87 #[.slice (some x) len cap, .int .i64 k0] w fun e w' => ∃ m g cap2, e = .returned (.slice (some ⟨g, 0, none⟩) m cap2) ∧ m = (chainOf ps k0).length ∧ OwnN m (.slice (some ⟨g, 0, none⟩) m cap2) (natI (chainOf ps k0)) w w' := by
  have hl := h.length
  have hm := h.len_int
  have HG := Lib.hid h
  have HT := Lib.hid ht
  have S0 := Lib.hid (show Chw ps k0 w k0 [k0] 1 w.heap.size 1 (w.alloc (.cells #[.int .i64 k0] 3)) from ⟨rfl, by omega, by omega, rfl, OwnN.one (Below.refl _ _)⟩)
  obtain ⟨i0, hi, hz0, hz1, hz2⟩ := info_parts info_n
  have HI := Lib.hid (And.intro hi (And.intro hz0 (And.intro hz1 hz2)))
  have HL := Lib.hid hl
  clear hi hz0 hz1 hz2
  clear h ht hl
  go_enter Try.func87, Try.ntmps87
  go_wp2
  go_loopw [1, 5] (fun kv ov wr => ∃ (k : Nat) (out : List Nat) (m g cap2 : Nat), k < len ∧ kv = .int .i64 k ∧ ov = .slice (some ⟨g, 0, none⟩) m cap2 ∧ m ≤ 13 ∧ Hid (Chw ps k0 w k out m g cap2 wr)) (fun _ ov _ => 14 - lenQ ov)
  case atStart => exact ⟨k0, [k0], 1, w.heap.size, 1, hk0, rfl, rfl, by omega, S0⟩
  case round =>
    obtain ⟨k, out, m, g, cap2, hk, rfl, rfl, h13, hC⟩ := hrel
    clear S0
    have hkl : k < ps.length := by rw [HL.out]; exact hk
    obtain ⟨p0, p1, p2, p3, p4, p5, p6⟩ := HG.out.at hC.out.own.b hk
    have HS := Lib.hid (HT.out _ (pAt_mem hkl))
    have hf : 1 ≤ 15 - m := by omega
    cases hla : (pAt ps k).last with
    | true =>
      have E := Lib.hid (show chainOf ps k0 = out from hC.out.f.symm.trans (chain_last hf hla))
      have hln := Lib.hid hC.out.ln
      have O := Lib.hid hC.out.own
      rw [hla] at p4
      clear hC hla p1 p2 p3 p5 p6
      go_wp2
      go_ret
      exact ⟨m, g, cap2, rfl, by rw [E.out]; exact hln.out.symm, by rw [E.out]; exact O.out⟩
    | false =>
      rw [hla] at p4
      have HLA := Lib.hid hla
      have hsz := hC.out.own.b.size
      obtain ⟨t, htt⟩ : ∃ t, (pAt ps k).tsn = t := ⟨_, rfl⟩
      have HTT := Lib.hid htt
      rw [htt] at p0 HS
      clear hla htt p1 p2 p3 p5 p6
      go_wp2_with fail
      refine (l3Add_any t 1 _ HS.out).mono ?_
      rintro e w1 ⟨rfl, rfl⟩
      go_wp2_with fail
      refine (l22At_any _ len cap ps _ _ (HG.out.below hC.out.own.b)).mono ?_
      rintro e w2 ⟨rfl, hb2⟩
      have hC := Lib.hid (show Chw ps k0 w k out m g cap2 w2 from ⟨hC.out.f, hC.out.lo, hC.out.hi, hC.out.ln, hC.out.own.below hb2⟩)
      have hsz2 := hC.out.own.b.size
      clear hb2 p0 p4 hsz
      rcases idx_cases ps (addS t 1) with hx | ⟨j, hjl, hx⟩
      · have E := Lib.hid (show chainOf ps k0 = [] from hC.out.f.symm.trans (chain_stop hf HLA.out (by rw [HTT.out]; exact hx)))
        rw [idxV_is.1 hx]
        clear hx
        go_wp2_with fail
        go_quiet (fail)
        have hb := below_drewN hC.out.own.b nq
        go_wp2
        go_ret
        exact ⟨0, _, 0, rfl, by rw [E.out]; rfl, by rw [E.out]; exact OwnN.start hb⟩
      · have hj : j < len := by rw [← HL.out]; exact hjl
        have hj2 : decide ((j : Int) < 0) = false := decide_eq_false (by omega)
        have HX := Lib.hid (show idxP ps (addS (pAt ps k).tsn 1) = some j by rw [HTT.out]; exact hx)
        rw [idxV_is.2 j hx]
        have HW := Lib.hid (HG.out.below hC.out.own.b)
        have LK : ∀ W, Below w2.heap.size w2 W → (Instr.loadAt 43 (.pointer (some (x.add (k * 7))))).run Try.prog W = .ok (partV (pAt ps k)) W := fun W hW => load_parts (HW.out.below hW) hk
        have LJ : ∀ W, Below w2.heap.size w2 W → (Instr.loadAt 43 (.pointer (some (x.add (j * 7))))).run Try.prog W = .ok (partV (pAt ps j)) W := fun W hW => load_parts (HW.out.below hW) hj
        have SM := fun w => l22Same_any (pAt ps k) (pAt ps j) w
        clear hx hjl
        cases hfi : (pAt ps j).first with
        | true =>
          have LF : ∀ W, Below w2.heap.size w2 W → (Instr.loadAt 4 (.pointer (some ⟨(x.add (j * 7)).block, (x.add (j * 7)).off + 3, none⟩))).run Try.prog W = .ok (.bool true) W := fun W hW => hfi ▸ load_first (HW.out.below hW) hj
          have E := Lib.hid (show chainOf ps k0 = [] from hC.out.f.symm.trans (chain_bad hf HLA.out HX.out (.inl hfi)))
          have SMH := Lib.hid SM
          clear hfi SM
          go_wp2_with fail
          refine region_class (C := fun W => Below w2.heap.size w2 W) (by kernel_rfl) (by kernel_rfl) (Below.drew (Below.refl _ _)) ?_
          repeat (first
            | go_big_quiet_skip
            | (go_big_quiet_want; go_big_quiet_op; go_big_quiet_on)
            | (refine BigFrame.wpQuiet_want (by rfl) (fun K hK => ?_)
               first
                 | (refine quiet_loadQ (x := .tmp 35) (by with_reducible rfl) (by rfl) LK (hK _ ?_))
                 | (refine quiet_loadQ (x := .tmp 39) (by with_reducible rfl) (by rfl) LJ (hK _ ?_))
                 | (refine quiet_loadQ (x := .tmp 29) (by with_reducible rfl) (by rfl) LF (hK _ ?_))
                 | (apply Exists.intro
                    refine ⟨fun W hW => ?_, hK _ ?_⟩
                    next =>
                      go_simp
                      first
                        | with_reducible exact rfl
                        | (refine (SMH.out _).mono ?_; rintro e w3 ⟨rfl, hb3⟩; exact ⟨rfl, hW.trans (hb3.mono hW.size)⟩))
               conv => arg 6; simp only [Act.put, List.setIfInBounds_toArray, List.set_cons_zero, List.set_cons_succ]
               clear hK K))
          refine wpQuiet_nil ?_
          intro W hW
          clear LK LJ LF
          have hb := hC.out.own.b.trans (hW.mono hsz2)
          go_wp2
          go_ret
          exact ⟨0, _, 0, rfl, by rw [E.out]; rfl, by rw [E.out]; exact OwnN.start hb⟩
        | false =>
          have LF : ∀ W, Below w2.heap.size w2 W → (Instr.loadAt 4 (.pointer (some ⟨(x.add (j * 7)).block, (x.add (j * 7)).off + 3, none⟩))).run Try.prog W = .ok (.bool false) W := fun W hW => hfi ▸ load_first (HW.out.below hW) hj
          have HFI := Lib.hid hfi
          clear hfi
          cases hsm : sameM (pAt ps k) (pAt ps j) with
          | false =>
            have E := Lib.hid (show chainOf ps k0 = [] from hC.out.f.symm.trans (chain_bad hf HLA.out HX.out (.inr (.inl hsm))))
            simp only [hsm] at SM
            have SMH := Lib.hid SM
            clear hsm SM
            go_wp2_with fail
            refine region_class (C := fun W => Below w2.heap.size w2 W) (by kernel_rfl) (by kernel_rfl) (Below.drew (Below.refl _ _)) ?_
            repeat (first
              | go_big_quiet_skip
              | (go_big_quiet_want; go_big_quiet_op; go_big_quiet_on)
              | (refine BigFrame.wpQuiet_want (by rfl) (fun K hK => ?_)
                 first
                   | (refine quiet_loadQ (x := .tmp 35) (by with_reducible rfl) (by rfl) LK (hK _ ?_))
                   | (refine quiet_loadQ (x := .tmp 39) (by with_reducible rfl) (by rfl) LJ (hK _ ?_))
                   | (refine quiet_loadQ (x := .tmp 29) (by with_reducible rfl) (by rfl) LF (hK _ ?_))
                   | (apply Exists.intro
                      refine ⟨fun W hW => ?_, hK _ ?_⟩
                      next =>
                        go_simp
                        first
                          | with_reducible exact rfl
                          | (refine (SMH.out _).mono ?_; rintro e w3 ⟨rfl, hb3⟩; exact ⟨rfl, hW.trans (hb3.mono hW.size)⟩))
                 conv => arg 6; simp only [Act.put, List.setIfInBounds_toArray, List.set_cons_zero, List.set_cons_succ]
                 clear hK K))
            refine wpQuiet_nil ?_
            intro W hW
            clear LK LJ LF
            have hb := hC.out.own.b.trans (hW.mono hsz2)
            go_wp2
            go_ret
            exact ⟨0, _, 0, rfl, by rw [E.out]; rfl, by rw [E.out]; exact OwnN.start hb⟩
          | true =>
            have HSM := Lib.hid hsm
            simp only [hsm] at SM
            have SMH := Lib.hid SM
            clear hsm SM
            by_cases h12 : 12 < m
            · have E := Lib.hid (show chainOf ps k0 = [] from hC.out.f.symm.trans (chain_bad hf HLA.out HX.out (.inr (.inr (by rw [hC.out.ln]; exact h12)))))
              have hm2 : decide ((12 : Int) < (m : Int)) = true := decide_eq_true (by omega)
              go_wp2_with fail
              refine region_class (C := fun W => Below w2.heap.size w2 W) (by kernel_rfl) (by kernel_rfl) (Below.drew (Below.refl _ _)) ?_
              repeat (first
                | go_big_quiet_skip
                | (go_big_quiet_want; go_big_quiet_op; go_big_quiet_on)
                | (refine BigFrame.wpQuiet_want (by rfl) (fun K hK => ?_)
                   first
                     | (refine quiet_loadQ (x := .tmp 35) (by with_reducible rfl) (by rfl) LK (hK _ ?_))
                     | (refine quiet_loadQ (x := .tmp 39) (by with_reducible rfl) (by rfl) LJ (hK _ ?_))
                     | (refine quiet_loadQ (x := .tmp 29) (by with_reducible rfl) (by rfl) LF (hK _ ?_))
                     | (apply Exists.intro
                        refine ⟨fun W hW => ?_, hK _ ?_⟩
                        next =>
                          go_simp
                          first
                            | with_reducible exact rfl
                            | (refine (SMH.out _).mono ?_; rintro e w3 ⟨rfl, hb3⟩; exact ⟨rfl, hW.trans (hb3.mono hW.size)⟩))
                   conv => arg 6; simp only [Act.put, List.setIfInBounds_toArray, List.set_cons_zero, List.set_cons_succ]
                   clear hK K))
              refine wpQuiet_nil ?_
              intro W hW
              clear LK LJ LF
              have hb := hC.out.own.b.trans (hW.mono hsz2)
              go_wp2
              go_ret
              exact ⟨0, _, 0, rfl, by rw [E.out]; rfl, by rw [E.out]; exact OwnN.start hb⟩
            · have hm2 : decide ((12 : Int) < (m : Int)) = false := decide_eq_false (by omega)
              have F2 := Lib.hid (show chainP ps (15 - (m + 1)) j (out ++ [j]) = chainOf ps k0 from by
                have := chain_go hf HLA.out HX.out HFI.out HSM.out (by rw [hC.out.ln]; omega)
                rw [show 15 - m - 1 = 15 - (m + 1) from by omega] at this
                exact this.symm.trans hC.out.f)
              have hln := Lib.hid hC.out.ln
              go_wp2_with fail
              refine region_class (C := fun W => Below w2.heap.size w2 W) (by kernel_rfl) (by kernel_rfl) (Below.drew (Below.refl _ _)) ?_
              repeat (first
                | go_big_quiet_skip
                | (go_big_quiet_want; go_big_quiet_op; go_big_quiet_on)
                | (refine BigFrame.wpQuiet_want (by rfl) (fun K hK => ?_)
                   first
                     | (refine quiet_loadQ (x := .tmp 35) (by with_reducible rfl) (by rfl) LK (hK _ ?_))
                     | (refine quiet_loadQ (x := .tmp 39) (by with_reducible rfl) (by rfl) LJ (hK _ ?_))
                     | (refine quiet_loadQ (x := .tmp 29) (by with_reducible rfl) (by rfl) LF (hK _ ?_))
                     | (apply Exists.intro
                        refine ⟨fun W hW => ?_, hK _ ?_⟩
                        next =>
                          go_simp
                          first
                            | with_reducible exact rfl
                            | (refine (SMH.out _).mono ?_; rintro e w3 ⟨rfl, hb3⟩; exact ⟨rfl, hW.trans (hb3.mono hW.size)⟩))
                   conv => arg 6; simp only [Act.put, List.setIfInBounds_toArray, List.set_cons_zero, List.set_cons_succ]
                   clear hK K))
              refine wpQuiet_nil ?_
              intro W hW
              clear LK LJ LF
              have MA := Lib.hid ((hC.out.own.below hW).below (below_box (.cells #[.int .i64 (j : Int)] 3) (Nat.le_refl _)))
              have hszW := Nat.le_trans hsz2 hW.size
              clear hW hC hm2 hj2
              go_wp2_with (at_builtin; go_loud (refine wpList_append_lies _ rfl _ _ 24 rfl w.heap.size 3 i0 (.int .i64 0) 1 8 Try.underlying24 HI.out.1 HI.out.2.1 HI.out.2.2.1 HI.out.2.2.2 rfl (by decide) (.slice (some ⟨g, 0, none⟩) m cap2) m (flatN (natI out)) rfl MA.out.own ⟨W.heap.size, 0, none⟩ 1 1 [.int .i64 (j : Int)] rfl rfl (news_box rfl) (by simp [Value.oneCell']) (by decide) (by unfold maxLen; omega) (by omega) (by simp; omega) _ rfl ?_))
              intro g3 cap3 w9 hown hgrow hat hlt9
              have MP := Lib.hid (show Chw ps k0 w j (out ++ [j]) (m + 1) g3 cap3 w9 from ⟨F2.out, by omega, by omega, by rw [List.length_append, hln.out]; rfl, by rw [natI_snoc]; exact MA.out.pushN hgrow hown⟩)
              clear hown hgrow hat hlt9 MA
              go_wp2
              go_roundw
              case rel => exact ⟨j, out ++ [j], m + 1, g3, cap3, hj, rfl, rfl, by omega, MP⟩
              case measure => simp [lenQ]; omega

end Go.Proofs.Ytncbgejggfkdmab
