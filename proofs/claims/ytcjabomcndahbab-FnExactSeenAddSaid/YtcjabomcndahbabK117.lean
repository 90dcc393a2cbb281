/- SeenAdd at what it answers, the program's and the model's; what follows of an answer. -/
import Derived.Test.YtcjabomcndahbabK116
import Derived.Test.YtcjabomcndahbabK93
namespace Go.Proofs.Ytcjabomcndahbab
open Go.RowKit Go.PlainAid

theorem seenAdd_is (c : Int) (a : Option Addr) (len cap : Nat) (es : List Int) (t c2 code : Int) (e2 : List Int) (k2 : Nat) (w : World) (h : Ns w a len cap es) (hv : AddV c es t c2 e2 code) (hk : e2.length = k2) :
    Calls Try.prog 12 #[.agg #[.int .i64 c, .slice a len cap], .int .i64 t] w fun e w' => ∃ a2 cap2, e = .returned (.tuple #[.agg #[.int .i64 c2, .slice a2 k2 cap2], .int .i64 code]) ∧ Ns w' a2 k2 cap2 e2 ∧ Below w.heap.size w w' := by
  refine (seenAdd_any c a len cap es t w h).mono ?_
  rintro e w' ⟨c3, code3, e3, a3, k3, cap3, rfl, hav, ho⟩
  obtain ⟨rfl, rfl, rfl⟩ := addV_one hv hav
  obtain rfl : k3 = k2 := by have := ho.ns.length; omega
  exact ⟨a3, cap3, rfl, ho.ns, ho.b⟩
theorem seenAdd_own (c : Int) (a : Option Addr) (len cap : Nat) (es : List Int) (t c2 code : Int) (e2 : List Int) (k2 : Nat) (w : World) (h : Ns w a len cap es) (hv : AddV c es t c2 e2 code) (hk : e2.length = k2) :
    Calls Try.prog 12 #[.agg #[.int .i64 c, .slice a len cap], .int .i64 t] w fun e w' => ∃ a2 cap2, e = .returned (.tuple #[.agg #[.int .i64 c2, .slice a2 k2 cap2], .int .i64 code]) ∧ OwnN k2 (.slice a2 k2 cap2) e2 w w' := by
  refine (seenAdd_any c a len cap es t w h).mono ?_
  rintro e w' ⟨c3, code3, e3, a3, k3, cap3, rfl, hav, ho⟩
  obtain ⟨rfl, rfl, rfl⟩ := addV_one hv hav
  obtain rfl : k3 = k2 := by have := ho.ns.length; omega
  exact ⟨a3, cap3, rfl, ho⟩
theorem sSeenAdd_is (c : Int) (a : Option Addr) (len cap : Nat) (es : List Int) (t c2 code : Int) (e2 : List Int) (k2 : Nat) (w : World) (h : Ns w a len cap es) (hv : AddV c es t c2 e2 code) (hk : e2.length = k2) :
    Calls Try.prog 13 #[.agg #[.int .i64 c, .slice a len cap], .int .i64 t] w fun e w' => ∃ a2 cap2, e = .returned (.tuple #[.agg #[.int .i64 c2, .slice a2 k2 cap2], .int .i64 code]) ∧ Ns w' a2 k2 cap2 e2 ∧ Below w.heap.size w w' := by
  refine (sSeenAdd_any c a len cap es t w h).mono ?_
  rintro e w' ⟨c3, code3, e3, a3, k3, cap3, rfl, hav, ho⟩
  obtain ⟨rfl, rfl, rfl⟩ := addV_one hv hav
  obtain rfl : k3 = k2 := by have := ho.ns.length; omega
  exact ⟨a3, cap3, rfl, ho.ns, ho.b⟩
theorem hasSV_yes {c t : Int} {es : List Int} (h : SeenOk c es) (ht : Ser t) (hh : HasS c es t) : hasSV c es t = true := decide_eq_true ⟨h, ht, hh⟩
theorem hasSV_no {c t : Int} {es : List Int} (hh : ¬ HasS c es t) : hasSV c es t = false := decide_eq_false fun h => hh h.2.2
theorem addV_ok3 {c t c1 code : Int} {es e1 : List Int} (h : AddV c es t c1 e1 code) (hc : ¬ code = 3) : SeenOk c es ∧ Ser t ∧ AddIs c es t c1 e1 code := by
  rcases h with ⟨h1, h2⟩ | ⟨_, _, _, h3⟩
  · exact ⟨h1.1, h1.2, h2⟩
  · exact absurd h3 hc
theorem addV_fresh {c t c1 : Int} {es e1 : List Int} (h : AddV c es t c1 e1 0) : SeenOk c es ∧ Ser t ∧ Fresh es (diffS c t) ∧ ∃ n, Moved (With es (diffS c t)) n e1 ∧ c1 = addS c n := by
  obtain ⟨h1, h2, h3⟩ := addV_ok3 h (by decide)
  rcases h3 with ⟨_, _, _, h4⟩ | ⟨_, _, _, _, h4⟩ | ⟨h4, _, h5⟩
  · exact absurd h4 (by decide)
  · exact absurd h4 (by decide)
  · exact ⟨h1, h2, h4, h5⟩
/-- What follows of a fresh part. -/
theorem fresh_facts {c t c1 : Int} {es e1 : List Int} (h : AddV c es t c1 e1 0) : hasSV c es t = false ∧ hasSV c1 e1 t = true ∧ seenV c1 e1 = true ∧ AddV c1 e1 t c1 e1 1 := by
  obtain ⟨h1, h2, h3, n, h4, rfl⟩ := addV_fresh h
  obtain ⟨k1, _, _⟩ := fresh_ok h1 h3 h4
  have k2 := fresh_has h1 h2 h3 h4
  exact ⟨hasSV_no (fresh_not h3), hasSV_yes k1 h2 k2, seenV_yes k1, .inl ⟨⟨k1, h2⟩, .inl ⟨k2, rfl, rfl, rfl⟩⟩⟩
theorem old_facts {c t c1 code : Int} {es e1 : List Int} (h : AddV c es t c1 e1 code) (hc : ¬ code = 3) : hasSV c es t = decide (code = 1) ∧ (code = 1 → c1 = c ∧ e1 = es) := by
  obtain ⟨h1, h2, h3⟩ := addV_ok3 h hc
  obtain ⟨_, k1, _, k2⟩ := addIs_code h1.2 h3
  refine ⟨?_, fun e => k2 (by omega)⟩
  by_cases e : code = 1
  · rw [decide_eq_true e]
    exact hasSV_yes h1 h2 (k1.1 e)
  · rw [decide_eq_false e]
    exact hasSV_no fun h => e (k1.2 h)
theorem far_facts {c t c1 code : Int} {es e1 : List Int} (h : AddV c es t c1 e1 code) (hc : ¬ code = 3) : diffV c t = diffS c t ∧ (16 < diffS c t ↔ code = 2) ∧ (code = 2 → c1 = c ∧ e1 = es) := by
  obtain ⟨h1, h2, h3⟩ := addV_ok3 h hc
  obtain ⟨_, _, k1, k2⟩ := addIs_code h1.2 h3
  exact ⟨diffV_yes (seen_ser h1) h2, k1.symm, fun e => k2 (by omega)⟩
theorem next_facts {c : Int} {es : List Int} (h : SeenOk c es) : ∃ c5 e5, AddV c es (addS c 1) c5 e5 0 ∧ lessV c c5 = true := by
  have hs := seen_ser h
  have hf := next_fresh h
  obtain ⟨n, ds, hm⟩ := moved_some (with_range h.2 hf.1 hf.2.1)
  have hn : 1 ≤ n := next_moves hm (.inr (diff_near (by omega)).symm)
  have hn2 := (fresh_ok h hf hm).2.2
  exact ⟨addS c n, ds, .inl ⟨⟨h, addS_ser _ _⟩, .inr (.inr ⟨hf, rfl, n, hm, rfl⟩)⟩, lessV_yes hs (addS_ser _ _) (lessS_add hn (by omega))⟩
/-- Other parts are not concerned. -/
theorem others_facts {c t c1 : Int} {es e1 : List Int} (h : AddV c es t c1 e1 0) {k : Int} (hk : -3 ≤ k ∧ k ≤ 16) (hne : ¬ addS c k = t) : hasSV c1 e1 (addS c k) = hasSV c es (addS c k) := by
  obtain ⟨h1, h2, h3, n, h4, rfl⟩ := addV_fresh h
  have k1 := (fresh_ok h1 h3 h4).1
  have hd : k ≠ diffS c t := fun e => hne (by rw [e]; exact diffS_leads c h2)
  have := fresh_others h1 h3 h4 (k := k) (by omega) hd
  unfold hasSV
  exact decide_eq_decide.2 ⟨fun h => ⟨h1, h.2.1, this.1 h.2.2⟩, fun h => ⟨k1, h.2.1, this.2 h.2.2⟩⟩
/-- What two parts in either order lead to. -/
theorem order_facts {c t c1 : Int} {es e1 : List Int} (h : AddV c es t c1 e1 0) {d : Int} (hd : 1 ≤ d ∧ d ≤ 16) {ca cb one two : Int} {ea eb : List Int} (ha : AddV c1 e1 (addS c d) ca ea one) (hb : AddV c es (addS c d) cb eb two) :
    (¬ (one = 0 ∧ two = 0) → one = 1) ∧ (one = 0 → two = 0 → AddV cb eb t ca ea 0) := by
  obtain ⟨h1, h2, h3, n, h4, rfl⟩ := addV_fresh h
  obtain ⟨k1, n0, n16⟩ := fresh_ok h1 h3 h4
  have hx := addS_ser c d
  have a3 : ¬ one = 3 := by
    rintro rfl
    rcases ha with ⟨_, ⟨_, _, _, e⟩ | ⟨_, _, _, _, e⟩ | ⟨_, e, _⟩⟩ | ⟨e, _⟩
    · exact absurd e (by decide)
    · exact absurd e (by decide)
    · exact absurd e (by decide)
    · exact e ⟨k1, hx⟩
  have b3 : ¬ two = 3 := by
    rintro rfl
    rcases hb with ⟨_, ⟨_, _, _, e⟩ | ⟨_, _, _, _, e⟩ | ⟨_, e, _⟩⟩ | ⟨e, _⟩
    · exact absurd e (by decide)
    · exact absurd e (by decide)
    · exact absurd e (by decide)
    · exact e ⟨h1, hx⟩
  have hd0 := diff_near (c := c) (d := d) (by omega)
  have hd1 : diffS (addS c n) (addS c d) = d - n := diff_two (by omega) (by omega)
  obtain ⟨o1, o2, o3, _⟩ := addIs_code k1.2 (addV_ok3 ha a3).2.2
  obtain ⟨t1, t2, t3, _⟩ := addIs_code h1.2 (addV_ok3 hb b3).2.2
  rw [hd1] at o3
  rw [hd0] at t3
  have one2 : one ≠ 2 := fun e => by have := o3.1 e; omega
  have two2 : two ≠ 2 := fun e => by have := t3.1 e; omega
  refine ⟨fun hn => ?_, fun e1' e2' => ?_⟩
  · by_cases e0 : one = 0
    · have e2 : two = 1 := by omega
      have hh := t2.1 e2
      have hdt : d ≠ diffS c t := by
        rintro rfl
        rcases hh with hh | hh
        · rw [hd0] at hh; omega
        · rw [hd0] at hh; exact h3.2.2 hh
      exact o2.2 ((fresh_others h1 h3 h4 (by omega) hdt).2 hh)
    · omega
  · subst e1' e2'
    obtain ⟨_, _, fa, na, ma, rfl⟩ := addV_fresh ha
    obtain ⟨_, _, fb, nb, mb, rfl⟩ := addV_fresh hb
    rw [hd1] at fa ma
    rw [hd0] at fb mb
    obtain ⟨q1, _, q16⟩ := fresh_ok h1 (t := addS c d) (by rw [hd0]; exact fb) (by rw [hd0]; exact mb)
    have nb0 := mb.n0
    have hdt : diffS c t ≠ d := fun e => by
      have hh := fresh_has h1 h2 h3 h4
      rw [← diffS_leads c h2, e] at hh
      rcases hh with hh | hh
      · rw [hd1] at hh; have := fa.1; omega
      · rw [hd1] at hh; exact fa.2.2 hh
    have hdb : diffS (addS c nb) t = diffS c t - nb := by
      have h5 := diffS_leads c h2
      have h6 := h3.1
      have h7 := h3.2.1
      have := diff_two (c := c) (d := diffS c t) (n := nb) (by omega) (by omega)
      rwa [h5] at this
    have hnot : ¬ HasS (addS c nb) eb t := fun hh => by
      have h5 := (fresh_others h1 (t := addS c d) (by rw [hd0]; exact fb) (by rw [hd0]; exact mb) (k := diffS c t) (by have := h3.1; have := h3.2.1; omega) (by rw [hd0]; exact hdt)).1 (by rw [diffS_leads c h2]; exact hh)
      rw [diffS_leads c h2] at h5
      exact fresh_not h3 h5
    have ff : Fresh eb (diffS (addS c nb) t) := by
      refine ⟨Classical.byContradiction fun e => hnot (.inl (by omega)), by rw [hdb]; have := h3.2.1; omega, fun e => hnot (.inr e)⟩
    obtain ⟨m, ds, mm⟩ := moved_some (with_range q1.2 ff.1 ff.2.1)
    have := add_order (t := t) h4 ma mb (by rw [hdb] at mm; exact mm)
    refine .inl ⟨⟨q1, h2⟩, .inr (.inr ⟨ff, rfl, m, ?_, this.1⟩)⟩
    rw [this.2]
    exact mm

end Go.Proofs.Ytcjabomcndahbab
