/- The contracts of chapter 21's model: a part that arrives; whether a part has arrived. -/
import Derived.Test.YtcjabomcndahbaaK91
import Derived.Maps.AppendAt
namespace Go.Proofs.Ytcjabomcndahbaa
open Go.RowKit Go.PlainAid

/-- Numbers that are appended to a row of one's own, none or some. -/
theorem wp_catN {o : Oper} {a : Act} {w : World} {K : Act → World → Prop} {Q : Exit → Act → World → Prop} (s x : Operand) (hop : o.op = Op.call { callee := Callee.builtin Builtin.append, args := #[s, x], argTypes := #[24, 24] })
    (base i m n cc e cap : Nat) (ad : Addr) (xs ys : List Int) (hn : i + m = n) (hv : a.eval s = .slice (some ⟨e, 0, none⟩) i cap) (hown : w.ownsRow base 3 1 (.slice (some ⟨e, 0, none⟩) i cap) i (flatN xs))
    (hx : a.eval x = .slice (some ad) m cc) (hl : ys.length = m) (hc : ∀ j u, (flatN ys)[j]? = some u → w.cell? (ad.add j) = some u) (him : i + m ≤ 10000000) (hb : base ≤ w.heap.size)
    (hK : ∀ g3 cap3 w', w'.ownsRow base 3 1 (.slice (some ⟨g3, 0, none⟩) n cap3) n (flatN (xs ++ ys)) → w.grownBy w' (some e) → (g3 = e ∨ g3 = w.heap.size) → K (a.put o.dst (.slice (some ⟨g3, 0, none⟩) n cap3)) w') :
    Oper.wp Try.prog o a w K Q := by
  subst hn
  obtain ⟨i0, hi, hz0, hz1, hz2⟩ := info_parts info_n
  obtain ⟨v', w', hr, h2, h3, h4, h5⟩ := run_append_own_at (P := Try.prog) w base 24 o.type 3 i0 (.int .i64 0) 1 8 Try.underlying24 hi hz0 hz1 hz2 rfl (by decide) _ i (flatN xs) hown ad m cc (flatN ys) (by rw [flatN_length, hl]; omega) hc (flatN_one ys) (by unfold maxLen; omega) (by omega) hb
  obtain ⟨g3, cap3, rfl⟩ : ∃ g3 cap3, v' = .slice (some ⟨g3, 0, none⟩) (i + m) cap3 := by
    rcases h2.2 with ⟨h0, _⟩ | ⟨g3, cap3, _, hv, _⟩
    · have := (h4.1 h0).1
      cases this
    · exact ⟨g3, cap3, hv⟩
  unfold Oper.wp execOp
  simp only [hop, resolve, invoke, builtin, Sem.run_bind, Sem.run_pure, Result.andThen_ok, List.map_toArray, List.map_cons, List.map_nil, hv, hx, hr]
  refine hK g3 cap3 w' (by rw [flatN_append]; exact h2) h3 ?_
  rcases h5 with h5 | h5
  · exact .inl (by simpa [Value.ownBlock] using h5)
  · exact .inr (by simpa [Value.ownBlock] using h5)

theorem list_catN {ops : Array Oper} {rest : List Oper} {o : Oper} {a : Act} {w : World} {Q : Exit → Act → World → Prop} (hg : o.guard = none) (s x : Operand) (hop : o.op = Op.call { callee := Callee.builtin Builtin.append, args := #[s, x], argTypes := #[24, 24] })
    (base i m n cc e cap : Nat) (ad : Addr) (xs ys : List Int) (hn : i + m = n) (hv : a.eval s = .slice (some ⟨e, 0, none⟩) i cap) (hown : w.ownsRow base 3 1 (.slice (some ⟨e, 0, none⟩) i cap) i (flatN xs))
    (hx : a.eval x = .slice (some ad) m cc) (hl : ys.length = m) (hc : ∀ j u, (flatN ys)[j]? = some u → w.cell? (ad.add j) = some u) (him : i + m ≤ 10000000) (hb : base ≤ w.heap.size)
    (hK : ∀ g3 cap3 w', w'.ownsRow base 3 1 (.slice (some ⟨g3, 0, none⟩) n cap3) n (flatN (xs ++ ys)) → w.grownBy w' (some e) → (g3 = e ∨ g3 = w.heap.size) → wpList Try.prog ops Q rest (a.put o.dst (.slice (some ⟨g3, 0, none⟩) n cap3)) w') :
    wpList Try.prog ops Q (o :: rest) a w :=
  wpList_plain hg fun _ h => wp_catN s x hop base i m n cc e cap ad xs ys hn hv hown hx hl hc him hb fun g3 cap3 w' h2 h3 h4 => h _ _ (hK g3 cap3 w' h2 h3 h4)

set_option maxHeartbeats 1000000 in
theorem sSeenHas_any (c : Int) (a : Option Addr) (len cap : Nat) (es : List Int) (t : Int) (w : World) (h : Ns w a len cap es) :
    Calls Try.prog 23 #[.agg #[.int .i64 c, .slice a len cap], .int .i64 t] w fun e w' => e = .returned (.bool (hasSV c es t)) ∧ Below w.heap.size w w' := by
  have HP := Lib.hid (below_box (w := w) (.cells #[.int .i64 c, .slice a len cap] 26) (Nat.le_refl _))
  have HG := Lib.hid (h.below HP.out)
  have V0 := Lib.hid (VarN.new w [.int .i64 c, .slice a len cap] 26)
  clear h
  by_cases hs : SeenOk c es
  · have S1 := Lib.hid (seenV_yes hs)
    have HS := Lib.hid (seen_ser hs)
    by_cases ht : Ser t
    · have HT := Lib.hid ht
      obtain ⟨n, hn⟩ : ∃ n, diffS c t = n := ⟨_, rfl⟩
      have HN := Lib.hid hn
      have V := Lib.hid (show hasSV c es t = (decide (n ≤ 0) || decide (n ∈ es)) by
        unfold hasSV
        rw [← hn, ← Bool.decide_or]
        exact decide_eq_decide.2 ⟨fun h => h.2.2, fun h => ⟨hs, ht, h⟩⟩)
      clear hs ht hn
      go_enter Try.func23, Try.ntmps23
      go_wp2_with fail
      refine (sSeenValid_any c a len cap es _ HG.out).mono ?_
      rw [S1.out]
      rintro e w1 ⟨rfl, hb1⟩
      have V1 := Lib.hid (V0.out.below hb1 (by simp))
      have G1 := Lib.hid (HG.out.below hb1)
      have B1 := Lib.hid (HP.out.trans (hb1.mono HP.out.size))
      have v0 := (V1.out 0 _ rfl).1
      have v1 := (V1.out 1 _ rfl).1
      clear hb1 V0 HG HP
      go_wp2_with fail
      refine (l3Ok_yes t _ HT.out).mono ?_
      rintro e w2 ⟨rfl, rfl⟩
      go_wp2_with fail
      refine (l3Diff_any c t _ HS.out HT.out).mono ?_
      rintro e w2 ⟨rfl, rfl⟩
      rw [HN.out]
      by_cases hz : n ≤ 0
      · have hz1 : decide (n ≤ 0) = true := decide_eq_true hz
        go_wp2
        go_ret
        exact ⟨ret_b (by rw [V.out, hz1, Bool.true_or]), B1.out⟩
      · have hz1 : decide (n ≤ 0) = false := decide_eq_false hz
        go_wp2_with fail
        refine (l21Has_any a len cap es n _ G1.out).mono ?_
        rintro e w3 ⟨rfl, hb3⟩
        have B3 := Lib.hid (B1.out.trans (hb3.mono B1.out.size))
        clear hb3
        go_wp2
        go_ret
        exact ⟨ret_b (by rw [V.out, hz1, Bool.false_or]), B3.out⟩
    · have HT := Lib.hid ht
      have V := Lib.hid (show hasSV c es t = false from decide_eq_false fun h => ht h.2.1)
      clear hs ht
      go_enter Try.func23, Try.ntmps23
      go_wp2_with fail
      refine (sSeenValid_any c a len cap es _ HG.out).mono ?_
      rw [S1.out]
      rintro e w1 ⟨rfl, hb1⟩
      have B1 := Lib.hid (HP.out.trans (hb1.mono HP.out.size))
      clear hb1 V0 HG HP
      go_wp2_with fail
      refine (l3Ok_no t _ HT.out).mono ?_
      rintro e w2 ⟨rfl, rfl⟩
      go_wp2
      go_ret
      exact ⟨ret_b V.out.symm, B1.out⟩
  · have S1 := Lib.hid (seenV_no hs)
    have V := Lib.hid (show hasSV c es t = false from decide_eq_false fun h => hs h.1)
    clear hs
    go_enter Try.func23, Try.ntmps23
    go_wp2_with fail
    refine (sSeenValid_any c a len cap es _ HG.out).mono ?_
    rw [S1.out]
    rintro e w1 ⟨rfl, hb1⟩
    have B1 := Lib.hid (HP.out.trans (hb1.mono HP.out.size))
    clear hb1 V0 HG HP
    go_wp2
    go_ret
    exact ⟨ret_b V.out.symm, B1.out⟩

end Go.Proofs.Ytcjabomcndahbaa
