/- The contracts of the program's chapter 21: a copy of a value, the heap of the parts ahead. -/
import Derived.Test.YtcjabomcndahbabK112
import Derived.Test.YtcjabomcndahbabK97
namespace Go.Proofs.Ytcjabomcndahbab
open Go.RowKit Go.PlainAid

theorem below_none {w w' : World} (h : w.grownBy w' none) : Below w.heap.size w w' := Below.grown (Below.refl _ _) h (Nat.le_refl _) fun x hx => by cases hx
/-- A copy of numbers, none or some, as a step of a region. -/
theorem step_copyN {ops : Array Oper} {o : Oper} {a : Act} {w : World} {K : Act → World → Prop} {Q : Exit → Act → World → Prop} {E : Prop} (hg : o.guard = none) (s x : Operand) (hop : o.op = Op.call { callee := Callee.builtin Builtin.append, args := #[s, x], argTypes := #[23, 23] })
    (base len cap : Nat) (q : Option Addr) (es : List Int) (hv : a.eval s = .slice none 0 0) (hx : a.eval x = .slice q len cap) (h : Ns w q len cap es) (him : len ≤ 10000000) (hb : base ≤ w.heap.size)
    (hK : ∀ q2 cap2 w', w'.ownsRow base 3 1 (.slice q2 len cap2) len (flatN es) → w.grownBy w' none → K (a.put o.dst (.slice q2 len cap2)) w') :
    if Region.wanted o (yielded ops a.tmps) = true then Oper.wp Try.prog o a w K Q else E := by
  have hw : Region.wanted o (yielded ops a.tmps) = true := by simp [Region.wanted, hg]
  rw [if_pos hw]
  obtain ⟨i0, hi, hz0, hz1, hz2⟩ := info_parts info_n
  obtain ⟨q2, cap2, w', hr, h2, h3⟩ : ∃ q2 cap2 w', (Builtin.append_ #[23, 23] o.type #[.slice none 0 0, .slice q len cap]).run Try.prog w = .ok (.slice q2 len cap2) w' ∧ w'.ownsRow base 3 1 (.slice q2 len cap2) len (flatN es) ∧ w.grownBy w' none := by
    rcases h with ⟨rfl, rfl, rfl, rfl⟩ | ⟨ad, rfl, h7, h8, h9, h10⟩
    · exact ⟨none, 0, w, run_append_owned_none w base 23 o.type 3 i0 1 Try.underlying23 hi _ 0 [] (World.ownsRow_nil w base _ _), World.ownsRow_nil w base _ _, ⟨rfl, rfl, rfl, Nat.le_refl _, fun _ _ _ => rfl⟩⟩
    · have hns : Ns w (some ad) len cap es := .inr ⟨ad, rfl, h7, h8, h9, h10⟩
      obtain ⟨v', w', hr, h2, h3, h4, h5⟩ := run_append_own_at (P := Try.prog) w base 23 o.type 3 i0 (.int .i64 0) 1 8 Try.underlying23 hi hz0 hz1 hz2 rfl (by decide) (.slice none 0 0) 0 [] (World.ownsRow_nil w base _ _) ad len cap (flatN es) (by rw [flatN_length, h9]; omega) (ns_flat hns) (flatN_one es) (by unfold maxLen; omega) (by omega) hb
      rw [Nat.zero_add, List.nil_append] at h2
      rcases h2.2 with ⟨rfl, h0⟩ | ⟨g3, cap3, cur, rfl, hh⟩
      · refine ⟨none, 0, w', by rw [h0]; rw [h0] at hr; exact hr, ?_, h3⟩
        rw [h0] at h2 ⊢
        exact h2
      · exact ⟨_, _, w', by simpa using hr, ⟨h2.1, .inr ⟨g3, cap3, cur, rfl, hh⟩⟩, h3⟩
  unfold Oper.wp execOp
  simp only [hop, resolve, invoke, builtin, Sem.run_bind, Sem.run_pure, Result.andThen_ok, List.map_toArray, List.map_cons, List.map_nil, hv, hx, hr]
  exact hK q2 cap2 w' h2 h3

set_option maxHeartbeats 1000000 in
theorem seenCopy_any (c : Int) (a : Option Addr) (len cap : Nat) (es : List Int) (w : World) (h : Ns w a len cap es) (hn : len ≤ 1000) :
    Calls Try.prog 33 #[.agg #[.int .i64 c, .slice a len cap]] w fun e w' => ∃ a2 cap2, e = .returned (.agg #[.int .i64 c, .slice a2 len cap2]) ∧ OwnN len (.slice a2 len cap2) es w w' := by
  have HP := below_box (w := w) (.cells #[.int .i64 c, .slice a len cap] 25) (Nat.le_refl _)
  have HP2 := HP.alloc (Nat.le_of_lt (by simp)) (.cells #[.int .i64 0, .slice none 0 0] 25)
  have PZ := Lib.hid (show Pz w c a len cap ((w.alloc (.cells #[.int .i64 c, .slice a len cap] 25)).alloc (.cells #[.int .i64 0, .slice none 0 0] 25)) from
    ⟨(VarN.new w [.int .i64 c, .slice a len cap] 25).alloc _ (by simp), VarN.new_at (w := w.alloc (.cells #[.int .i64 c, .slice a len cap] 25)) (d := w.heap.size + 1) (by simp) [.int .i64 0, .slice none 0 0] _, HP2, by simp⟩)
  have PZd := Lib.hid (PZ.out.up (Below.drew (Below.refl _ _)))
  have GN := Lib.hid (h.below HP2)
  have GNd := Lib.hid (GN.out.below (Below.drew (Below.refl _ _)))
  have hn1 : len ≤ 10000000 := by omega
  clear h HP HP2
  go_enter Try.func33, Try.ntmps33
  go_wp2_with fail
  go_region_law (first
    | (refine step_copyN (by rfl) _ _ (by rfl) (w.heap.size + 2) len cap a es (by rfl) (by rfl) GN.out hn1 PZ.out.lo ?_; intro a2 cap2 w9 hown hgrow; have S9 := Lib.hid (PZ.out.up (below_none hgrow)); have HO := Lib.hid hown; have p0 := (S9.out.pb 0 _ rfl).1; have p1 := (S9.out.pb 1 _ rfl).1; have r0 := (S9.out.rb 0 _ rfl).1; have r1 := (S9.out.rb 1 _ rfl).1; have s0 := (S9.out.rb 0 _ rfl).2; have s1 := (S9.out.rb 1 _ rfl).2; clear hown hgrow)
    | (refine step_copyN (by rfl) _ _ (by rfl) (w.heap.size + 2) len cap a es (by rfl) (by rfl) GNd.out hn1 PZd.out.lo ?_; intro a2 cap2 w9 hown hgrow; have S9 := Lib.hid (PZd.out.up (below_none hgrow)); have HO := Lib.hid hown; have p0 := (S9.out.pb 0 _ rfl).1; have p1 := (S9.out.pb 1 _ rfl).1; have r0 := (S9.out.rb 0 _ rfl).1; have r1 := (S9.out.rb 1 _ rfl).1; have s0 := (S9.out.rb 0 _ rfl).2; have s1 := (S9.out.rb 1 _ rfl).2; clear hown hgrow))
  all_goals
    have hne : ∀ g, (Value.slice a2 len cap2).ownBlock = some g → g ≠ w.heap.size + 1 := fun g hg => by have := own_ge HO.out hg; omega
    have K := Lib.hid (show OwnN len (.slice a2 len cap2) es w ((w9.setCell ⟨w.heap.size + 1, 0, none⟩ (.int .i64 c)).setCell ⟨w.heap.size + 1, 1, none⟩ (.slice a2 len cap2)) from
      ⟨ownN_low (ownFar (ownFar HO.out hne) hne) (show w.heap.size ≤ w.heap.size + 2 by omega), (S9.out.b.setCell (p := ⟨w.heap.size + 1, 0, none⟩) (Nat.le_succ _) _).setCell (p := ⟨w.heap.size + 1, 1, none⟩) (Nat.le_succ _) _⟩)
    clear hne
    go_wp2
    refine bodyPost_ret (v := .agg #[.int .i64 c, .slice a2 len cap2]) ?_ rfl ?_
    · simp [results, Try.results33, go_sem, r0, r1]
    · exact ⟨a2, cap2, rfl, K.out⟩

set_option maxHeartbeats 1000000 in
theorem aheadOf_any (c : Int) (a : Option Addr) (len cap : Nat) (es : List Int) (w : World) (h : Ns w a len cap es) (hn : len ≤ 1000) :
    Calls Try.prog 34 #[.agg #[.int .i64 c, .slice a len cap]] w fun e w' => ∃ P q cap2, e = .returned (.pointer (some ⟨P, 0, none⟩)) ∧ Hq w.heap.size P q len cap2 es w' ∧ Below w.heap.size w w' := by
  have HP := Lib.hid (below_box (w := w) (.cells #[.int .i64 c, .slice a len cap] 25) (Nat.le_refl _))
  have GN := Lib.hid (h.below HP.out)
  have hfd : ∀ (q : Option Addr) (k : Nat) (w : World), (Instr.field 25 (.agg #[.int .i64 c, .slice q len k]) 1).run Try.prog w = .ok (.slice q len k) w := fun q k w => by kernel_rfl
  clear h
  go_enter Try.func34, Try.ntmps34
  go_wp2_with fail
  refine (seenCopy_any c a len cap es _ GN.out hn).mono ?_
  rintro e w1 ⟨a2, cap2, rfl, ho⟩
  have hne : ∀ g, (Value.slice a2 len cap2).ownBlock = some g → g ≠ w1.heap.size := fun g hg => by have := (ho.own.lt g hg).2; omega
  have hlo : w.heap.size ≤ w1.heap.size := by have := ho.b.size; simp at this; omega
  have B1 := HP.out.trans (ho.b.mono HP.out.size)
  have K := Lib.hid (show Hq w.heap.size w1.heap.size a2 len cap2 es (w1.alloc (.cells #[.slice a2 len cap2] 65)) ∧ Below w.heap.size w (w1.alloc (.cells #[.slice a2 len cap2] 65)) from
    ⟨⟨VarN.new w1 [.slice a2 len cap2] 65, ownN_low (ownN_alloc ho.own) (by simp), hne, hlo⟩, B1.alloc hlo _⟩)
  clear ho hne B1
  go_wp2
  go_ret
  exact ⟨_, _, _, rfl, K.out⟩

end Go.Proofs.Ytcjabomcndahbab
