/- The contracts of chapter 21's model: a part that arrives; whether a part has arrived. -/
import Derived.Test.YtncbgejggfkdmabK91
import Derived.Maps.AppendAt
namespace Go.Proofs.Ytncbgejggfkdmab
open Go.RowKit Go.PlainAid

/-- Numbers that are appended to a row of one's own, none or some. -/
theorem wp_catN {o : Oper} {a : Act} {w : World} {K : Act → World → Prop} {Q : Exit → Act → World → Prop} (s x : Operand) (hop : o.op = Op.call { callee := Callee.builtin Builtin.append, args := #[s, x], argTypes := #[24, 24] })
    (base i m n cc e cap : Nat) (ad : Addr) (xs ys : List Int) (hn : i + m = n) (hv : a.eval s = .slice (some ⟨e, 0, none⟩) i cap) (hown : w.ownsRow base 3 1 (.slice (some ⟨e, 0, none⟩) i cap) i (flatN xs))
    (hx : a.eval x = .slice (some ad) m cc) (hl : ys.length = m) (hc : ∀ j u, (flatN ys)[j]? = some u → w.cell? (ad.add j) = some u) (him : i + m ≤ 10000000) (hb : base ≤ w.heap.size)
    (hK : ∀ g3 cap3 w', w'.ownsRow base 3 1 (.slice (some ⟨g3, 0, none⟩) n cap3) n (flatN (xs ++ ys)) → w.grownBy w' (some e) → (g3 = e ∨ g3 = w.heap.size) → K (a.put o.dst (.slice (some ⟨g3, 0, none⟩) n cap3)) w') :
    Oper.wp Try.prog o a w K Q := by
  subst hn
  obtain ⟨i0, hi, hz0, hz1, hz2⟩ := info_parts info_n
  obtain ⟨v', w', hr, h2, h3, h4, h5⟩ := run_append_own_at (P := Try.prog) w base 24 o.type 3 i0 (.int .i64 0) 1 8 Try.underlying24 hi hz0 hz1 hz2 rfl (by decide) _ i (flatN xs) hown ad m cc (flatN ys) (by rw [flatN_length, hl]; omega) hc (flatN_one ys) (by unfold maxLen; omega) (by omega) hb
  obtain ⟨g3, cap3, rfl⟩ : ∃ g3 cap3, v' = .slice (some ⟨g3, 0, none⟩) (i + m) cap3 := by
    rcases h2.2 with ⟨h0, _⟩ | ⟨g3, cap3, _, hv, _⟩
    · have := (h4.1 h0).1
      cases this
    · exact ⟨g3, cap3, hv⟩
  unfold Oper.wp execOp
  simp only [hop, resolve, invoke, builtin, Sem.run_bind, Sem.run_pure, Result.andThen_ok, List.map_toArray, List.map_cons, List.map_nil, hv, hx, hr]
  refine hK g3 cap3 w' (by rw [flatN_append]; exact h2) h3 ?_
  rcases h5 with h5 | h5
  · exact .inl (by simpa [Value.ownBlock] using h5)
  · exact .inr (by simpa [Value.ownBlock] using h5)

theorem list_catN {ops : Array Oper} {rest : List Oper} {o : Oper} {a : Act} {w : World} {Q : Exit → Act → World → Prop} (hg : o.guard = none) (s x : Operand) (hop : o.op = Op.call { callee := Callee.builtin Builtin.append, args := #[s, x], argTypes := #[24, 24] })
    (base i m n cc e cap : Nat) (ad : Addr) (xs ys : List Int) (hn : i + m = n) (hv : a.eval s = .slice (some ⟨e, 0, none⟩) i cap) (hown : w.ownsRow base 3 1 (.slice (some ⟨e, 0, none⟩) i cap) i (flatN xs))
    (hx : a.eval x = .slice (some ad) m cc) (hl : ys.length = m) (hc : ∀ j u, (flatN ys)[j]? = some u → w.cell? (ad.add j) = some u) (him : i + m ≤ 10000000) (hb : base ≤ w.heap.size)
    (hK : ∀ g3 cap3 w', w'.ownsRow base 3 1 (.slice (some ⟨g3, 0, none⟩) n cap3) n (flatN (xs ++ ys)) → w.grownBy w' (some e) → (g3 = e ∨ g3 = w.heap.size) → wpList Try.prog ops Q rest (a.put o.dst (.slice (some ⟨g3, 0, none⟩) n cap3)) w') :
    wpList Try.prog ops Q (o :: rest) a w :=
  wpList_plain hg fun _ h => wp_catN s x hop base i m n cc e cap ad xs ys hn hv hown hx hl hc him hb fun g3 cap3 w' h2 h3 h4 => h _ _ (hK g3 cap3 w' h2 h3 h4)

end Go.Proofs.Ytncbgejggfkdmab
