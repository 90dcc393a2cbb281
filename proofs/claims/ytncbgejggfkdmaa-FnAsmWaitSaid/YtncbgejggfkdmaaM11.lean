/- Texts that a proof needs, merged: K177, K170, K178, K179, K182, K183, K184, K188, K198d. -/
import Derived.Test.YtncbgejggfkdmaaM10

/- The laws' marks in messages. -/
namespace Go.Proofs.Ytncbgejggfkdmaa
open Go.RowKit Go.PlainAid

/-- A row of messages that is being filled: k of 'len' messages lie there. -/
def FilM (d len k : Nat) (ms : List Msg) (w : World) : Prop :=
  ∀ i, i < len → ∀ j, j < 4 → ∃ u, w.cell? ⟨d, i * 4 + j, none⟩ = some u ∧ (i < k → (cellsM (mAt ms i))[j]? = some u)
theorem FilM.below {d len k : Nat} {ms : List Msg} {w w' : World} (h : FilM d len k ms w) (hb : Below w.heap.size w w') : FilM d len k ms w' := fun i hi j hj => by
  obtain ⟨u, h1, h2⟩ := h i hi j hj
  exact ⟨u, kept_cell hb (lt_of_cell h1) h1, h2⟩
theorem FilM.mgs {d len cap : Nat} {ms : List Msg} {w : World} (h : FilM d len len ms w) (hl : ms.length = len) (hc : len ≤ cap) (hm : cap ≤ maxLen) : Mgs w (some ⟨d, 0, none⟩) len cap ms := by
  refine .inr ⟨_, rfl, hc, hm, hl, fun i hi j v hv => ?_⟩
  have hj : j < 4 := (List.getElem?_eq_some_iff.1 hv).1
  obtain ⟨u, h1, h2⟩ := h i hi j hj
  have h3 := h2 hi
  rw [hv] at h3
  rw [atM_zero, h1, h3]
theorem FilM.cell {d len k o i j : Nat} {ms : List Msg} {w : World} (h : FilM d len k ms w) (hi : k ≤ i) (ho : o = i * 4 + j) (hj : j < 4) (y : Value) : FilM d len k ms (w.setCell ⟨d, o, none⟩ y) := fun i' hi' j' hj' => by
  obtain ⟨u, h1, h2⟩ := h i' hi' j' hj'
  by_cases e : i' = i ∧ j' = j
  · obtain ⟨rfl, rfl⟩ := e
    subst ho
    exact ⟨y, World.cell?_setCell_same _ _ _ h1, fun h => absurd h (by omega)⟩
  · exact ⟨u, cell_other (by omega) h1, h2⟩
theorem FilM.fill {d len k : Nat} {ms : List Msg} {w : World} (h : FilM d len k ms w) (hc : ∀ j v, (cellsM (mAt ms k))[j]? = some v → w.cell? ⟨d, k * 4 + j, none⟩ = some v) : FilM d len (k + 1) ms w := fun i hi j hj => by
  by_cases e : i = k
  · subst e
    obtain ⟨v, hv⟩ : ∃ v, (cellsM (mAt ms i))[j]? = some v := ⟨_, List.getElem?_eq_getElem (by exact hj)⟩
    exact ⟨v, hc j v hv, fun _ => hv⟩
  · obtain ⟨u, h1, h2⟩ := h i hi j hj
    exact ⟨u, h1, fun h => h2 (by omega)⟩
/-- The message that is marked from a number on. -/
def markM (c : Nat) : Msg := ⟨(c : Int), (c : Int) + 1, ((c : Int) + 1 + 1) % 3 == 0, markT (c + 3)⟩
def marksM (n c : Nat) : List Msg := (List.range n).map fun i => markM (c + 4 * i)
theorem marksM_length (n c : Nat) : (marksM n c).length = n := by simp [marksM]
theorem marksM_at (n c k : Nat) (h : k < n) : mAt (marksM n c) k = markM (c + 4 * k) := by
  unfold mAt
  rw [List.getD_eq_getElem?_getD]
  simp [marksM, h]
theorem load_textM {W : World} {x : Addr} {len cap i : Nat} {ms : List Msg} (h : Mgs W (some x) len cap ms) (hi : i < len) : (Instr.loadAt 9 (.pointer (some ⟨(x.add (i * 4)).block, (x.add (i * 4)).off + 3, none⟩))).run Try.prog W = .ok (.string (mAt ms i).text) W := by
  obtain ⟨l0, l1, l2, l3⟩ := h.at (Below.refl _ _) hi
  clear h l0 l1 l2
  go_simp

set_option maxHeartbeats 2000000 in
theorem markMessageS_any (g n cap c : Nat) (w : World) (hn : n ≤ 1048576) (hc1 : 1 ≤ c) (hc2 : c ≤ 100000000) (hg : g < w.heap.size) (h : FilM g n 0 (marksM n c) w) (hf : FreeN g w) :
    Calls Try.prog 32 #[.slice (some ⟨g, 0, none⟩) n cap, .int .i64 (c : Int)] w fun e w' => e = .returned (.int .i64 ((c + 4 * n : Nat) : Int)) ∧ FilM g n n (marksM n c) w' ∧ FreeN g w' ∧ MwN g w w' := by
  have HF := Lib.hid (And.intro h (And.intro hf (show MwN g w w from ⟨Aside.refl _ _ _, Below.refl _ _, Nat.le_refl _, hg⟩)))
  clear h hf
  go_enter Try.func32, Try.ntmps32
  go_wp2
  go_loopw [1, 5] (fun m i wr => ∃ j z : Nat, j ≤ n ∧ i = .int .i64 j ∧ m = .int .i64 (z : Int) ∧ Hid (z = c + 4 * j) ∧ Hid (FilM g n j (marksM n c) wr ∧ FreeN g wr ∧ MwN g w wr)) (fun _ i _ => n - (intOf i).toNat)
  case atStart => exact ⟨0, c, Nat.zero_le _, rfl, rfl, rfl, HF⟩
  case round =>
    obtain ⟨j, z, hj, rfl, rfl, HZ, hfi⟩ := hrel
    clear HF
    by_cases hlt : j < n
    · obtain ⟨F0, R0, M0⟩ := hfi.out
      obtain ⟨u0, s0, _⟩ := F0 j hlt 0 (by omega)
      obtain ⟨u1, s1, _⟩ := F0 j hlt 1 (by omega)
      obtain ⟨u2, s2, _⟩ := F0 j hlt 2 (by omega)
      have r0 := R0 (j * 4)
      have r1 := R0 (j * 4 + 1)
      have r2 := R0 (j * 4 + 2)
      simp only [Nat.add_zero] at s0
      have hz9 : z ≤ 110000000 := by have := HZ.out; omega
      have hz1 : 1 ≤ z := by have := HZ.out; omega
      have k1 : IntKind.i64.wrap ((z : Int) + 1) = (z : Int) + 1 := IntWalk.i64_in _ (by omega)
      have k2 : IntKind.i64.wrap ((z : Int) + 1 + 1) = (z : Int) + 1 + 1 := IntWalk.i64_in _ (by omega)
      have k3 : IntKind.i64.wrap ((z : Int) + 1 + 1 + 1) = (z : Int) + 1 + 1 + 1 := IntWalk.i64_in _ (by omega)
      obtain ⟨W6, hW6⟩ : ∃ W6, (((wr.setCell ⟨g, j * 4, none⟩ (.int .i64 ((z : Int)))).setCell ⟨g, j * 4 + 1, none⟩ (.int .i64 ((z : Int) + 1))).setCell ⟨g, j * 4 + 2, none⟩ (.bool (((z : Int) + 1 + 1) % 3 == 0))) = W6 := ⟨_, rfl⟩
      have F6 := Lib.hid (show FilM g n j (marksM n c) W6 ∧ FreeN g W6 ∧ MwN g w W6 from by rw [← hW6]; exact ⟨(((F0.cell (i := j) (j := 0) (Nat.le_refl _) rfl (by omega) (.int .i64 ((z : Int)))).cell (i := j) (j := 1) (Nat.le_refl _) rfl (by omega) (.int .i64 ((z : Int) + 1))).cell (i := j) (j := 2) (Nat.le_refl _) rfl (by omega) (.bool (((z : Int) + 1 + 1) % 3 == 0))), (FreeN.set (FreeN.set (FreeN.set R0 (e := g) (i := j * 4) (.int .i64 ((z : Int)))) (e := g) (i := j * 4 + 1) (.int .i64 ((z : Int) + 1))) (e := g) (i := j * 4 + 2) (.bool (((z : Int) + 1 + 1) % 3 == 0))), (MwN.set (MwN.set (MwN.set M0 (i := j * 4) (.int .i64 ((z : Int)))) (i := j * 4 + 1) (.int .i64 ((z : Int) + 1))) (i := j * 4 + 2) (.bool (((z : Int) + 1 + 1) % 3 == 0)))⟩)
      have Q0 := Lib.hid (show W6.cell? ⟨g, j * 4, none⟩ = some (.int .i64 ((z : Int))) from by rw [← hW6]; exact (cell_other (by omega) (cell_other (by omega) (World.cell?_setCell_same _ _ _ s0))))
      have Q1 := Lib.hid (show W6.cell? ⟨g, j * 4 + 1, none⟩ = some (.int .i64 ((z : Int) + 1)) from by rw [← hW6]; exact (cell_other (by omega) (World.cell?_setCell_same _ _ _ (cell_other (by omega) s1))))
      have Q2 := Lib.hid (show W6.cell? ⟨g, j * 4 + 2, none⟩ = some (.bool (((z : Int) + 1 + 1) % 3 == 0)) from by rw [← hW6]; exact (World.cell?_setCell_same _ _ _ (cell_other (by omega) (cell_other (by omega) s2))))
      have HW6 := Lib.hid hW6
      clear F0 R0 M0 hW6
      clear hfi
      go_wp2_with fail
      rw [HW6.out]
      clear s0 s1 s2 r0 r1 r2 HW6
      refine (markText_at _ (z + 3) _ (by omega) (by omega) (by omega)).mono ?_
      rintro e w2 ⟨rfl, hb2⟩
      have hg6 : g < W6.heap.size := Nat.lt_of_lt_of_le F6.out.2.2.l F6.out.2.2.z
      have F2 := F6.out.1.below hb2
      have R2 := F6.out.2.1.below hg6 hb2
      have M2 := F6.out.2.2.grow hb2
      obtain ⟨u6, s6, _⟩ := F2 j hlt 3 (by omega)
      have r6 := R2 (j * 4 + 3)
      have FN := Lib.hid (show FilM g n (j + 1) (marksM n c) (w2.setCell ⟨g, j * 4 + 3, none⟩ (.string (markT (z + 3)))) ∧ FreeN g (w2.setCell ⟨g, j * 4 + 3, none⟩ (.string (markT (z + 3)))) ∧ MwN g w (w2.setCell ⟨g, j * 4 + 3, none⟩ (.string (markT (z + 3)))) from by
        refine ⟨(F2.cell (i := j) (j := 3) (Nat.le_refl _) rfl (by omega) _).fill fun jj v hv => ?_, R2.set _, M2.set _⟩
        rw [marksM_at n c j hlt, ← HZ.out] at hv
        have hjj : jj < 4 := (List.getElem?_eq_some_iff.1 hv).1
        rcases (show jj = 0 ∨ jj = 1 ∨ jj = 2 ∨ jj = 3 by omega) with rfl | rfl | rfl | rfl
        · exact (cell_other (by omega) (kept_cell hb2 hg6 Q0.out)).trans hv
        · exact (cell_other (by omega) (kept_cell hb2 hg6 Q1.out)).trans hv
        · exact (cell_other (by omega) (kept_cell hb2 hg6 Q2.out)).trans hv
        · exact (World.cell?_setCell_same _ _ _ s6).trans hv)
      have k4 : IntKind.i64.wrap ((z : Int) + 1 + 1 + 1 + 1) = (z : Int) + 1 + 1 + 1 + 1 := IntWalk.i64_in _ (by omega)
      have HZ7 := Lib.hid (show z + 4 = c + 4 * (j + 1) by have := HZ.out; omega)
      clear F2 R2 M2 F6 Q0 Q1 Q2 hb2
      go_wp2
      go_roundw
      case rel => exact ⟨j + 1, z + 4, by omega, by go_num, by go_num, HZ7, FN⟩
      case measure => simp [intOf]; omega
    · obtain rfl : j = n := by omega
      go_wp2
      go_ret
      exact ⟨by rw [HZ.out]; rfl, hfi.out.1, hfi.out.2.1, hfi.out.2.2⟩

set_option maxRecDepth 20000 in
set_option maxHeartbeats 2000000 in
theorem heldMessageS_any (a : Option Addr) (n cap c : Nat) (w : World) (hn : n ≤ 1048576) (hc1 : 1 ≤ c) (hc2 : c ≤ 100000000) (h : Mgs w a n cap (marksM n c)) :
    Calls Try.prog 34 #[.slice a n cap, .int .i64 (c : Int)] w fun e w' => e = .returned (.int .i64 ((c + 4 * n : Nat) : Int)) ∧ Below w.heap.size w w' := by
  have HG := Lib.hid h
  clear h
  go_enter Try.func34, Try.ntmps34
  go_wp2
  go_loopw [1, 5] (fun m i wr => ∃ j z : Nat, j ≤ n ∧ i = .int .i64 j ∧ m = .int .i64 (z : Int) ∧ Hid (z = c + 4 * j) ∧ Hid (Below w.heap.size w wr)) (fun _ i _ => n - (intOf i).toNat)
  case atStart => exact ⟨0, c, Nat.zero_le _, rfl, rfl, rfl, Lib.hid (Below.refl _ _)⟩
  case round =>
    obtain ⟨j, z, hj, rfl, rfl, HZ, hbel⟩ := hrel
    by_cases hlt : j < n
    · obtain ⟨x, rfl⟩ := HG.out.addr hlt
      obtain ⟨p0, p1, p2, p6⟩ := HG.out.at hbel.out hlt
      have EP := Lib.hid (show mAt (marksM n c) j = markM z by rw [marksM_at n c j hlt, HZ.out])
      rw [EP.out] at p0 p1 p2 p6
      unfold markM at p0 p1 p2 p6
      dsimp only at p0 p1 p2 p6
      have hz9 : z ≤ 110000000 := by have := HZ.out; omega
      have hz1 : 1 ≤ z := by have := HZ.out; omega
      have k1 : IntKind.i64.wrap ((z : Int) + 1) = (z : Int) + 1 := IntWalk.i64_in _ (by omega)
      have k2 : IntKind.i64.wrap ((z : Int) + 1 + 1) = (z : Int) + 1 + 1 := IntWalk.i64_in _ (by omega)
      have k3 : IntKind.i64.wrap ((z : Int) + 1 + 1 + 1) = (z : Int) + 1 + 1 + 1 := IntWalk.i64_in _ (by omega)
      have hsz2 := hbel.out.size
      have LT : ∀ W, Below wr.heap.size wr W → (Instr.loadAt 9 (.pointer (some ⟨(x.add (j * 4)).block, (x.add (j * 4)).off + 3, none⟩))).run Try.prog W = .ok (.string (markT (z + 3))) W := fun W hW => by
        have h := load_textM ((HG.out.below hbel.out).below hW) hlt
        rw [EP.out] at h
        exact h
      have SMH := Lib.hid (fun w => markText_at ((z : Int) + 1 + 1 + 1) (z + 3) w (by omega) (by omega) (by omega))
      clear p6
      go_wp2_with fail
      clear p0 p1 p2
      refine region_class (C := fun W => Below wr.heap.size wr W) (by kernel_rfl) (by kernel_rfl) (Below.drew (Below.refl _ _)) ?_
      repeat (first
        | go_big_quiet_skip
        | (go_big_quiet_want; go_big_quiet_op; go_big_quiet_on)
        | (refine BigFrame.wpQuiet_want (by rfl) (fun K hK => ?_)
           first
             | (refine quiet_loadQ (x := .tmp 44) (by with_reducible rfl) (by rfl) LT (hK _ ?_))
             | (apply Exists.intro
                refine ⟨fun W hW => ?_, hK _ ?_⟩
                next =>
                  go_simp
                  first
                    | with_reducible exact rfl
                    | (refine (SMH.out _).mono ?_; rintro e w3 ⟨rfl, hb3⟩; exact ⟨rfl, hW.trans (hb3.mono hW.size)⟩))
           conv => arg 6; simp only [Act.put, List.setIfInBounds_toArray, List.set_cons_zero, List.set_cons_succ]
           clear hK K))
      refine wpQuiet_nil ?_
      intro W hW
      clear LT
      have hb := Lib.hid (hbel.out.trans (hW.mono hsz2))
      have k4 : IntKind.i64.wrap ((z : Int) + 1 + 1 + 1 + 1) = (z : Int) + 1 + 1 + 1 + 1 := IntWalk.i64_in _ (by omega)
      have HZ7 := Lib.hid (show z + 4 = c + 4 * (j + 1) by have := HZ.out; omega)
      clear hW
      go_wp2
      go_roundw
      case rel => exact ⟨j + 1, z + 4, by omega, by go_num, by go_num, HZ7, hb⟩
      case measure => simp [intOf]; omega
    · obtain rfl : j = n := by omega
      go_wp2
      go_ret
      exact ⟨by rw [HZ.out]; rfl, hbel.out⟩

end Go.Proofs.Ytncbgejggfkdmaa

/- The laws' marks in a new assembly, and whether they are still there. -/
namespace Go.Proofs.Ytncbgejggfkdmaa
open Go.RowKit Go.PlainAid

set_option maxHeartbeats 400000 in
theorem markDataS_none (p : Option Addr) (cap : Nat) (z : Int) (w : World) :
    Calls Try.prog 63 #[.slice p 0 cap, .int .i64 z] w fun e w' => e = .returned (.int .i64 z) ∧ w' = w := by
  go_enter Try.func63, Try.ntmps63
  go_wp2
  go_loopw [1, 5] (fun m i wr => m = .int .i64 z ∧ i = .int .i64 0 ∧ wr = w) (fun _ _ _ => 0)
  case atStart => exact ⟨rfl, rfl, rfl⟩
  case round =>
    obtain ⟨rfl, rfl, rfl⟩ := hrel
    go_wp2
    go_ret
    exact ⟨rfl, rfl⟩

set_option maxHeartbeats 400000 in
theorem heldDataS_none (p : Option Addr) (cap : Nat) (z : Int) (w : World) :
    Calls Try.prog 66 #[.slice p 0 cap, .int .i64 z] w fun e w' => e = .returned (.int .i64 z) ∧ w' = w := by
  go_enter Try.func66, Try.ntmps66
  go_wp2
  go_loopw [1, 5] (fun m i wr => m = .int .i64 z ∧ i = .int .i64 0 ∧ wr = w) (fun _ _ _ => 0)
  case atStart => exact ⟨rfl, rfl, rfl⟩
  case round =>
    obtain ⟨rfl, rfl, rfl⟩ := hrel
    go_wp2
    go_ret
    exact ⟨rfl, rfl⟩

set_option maxHeartbeats 1000000 in
/-- A new assembly is marked. -/
theorem markNewA {C k : Nat} {a : Option Addr} {cap : Nat} {es : List Int} {W : World} (p : Option Addr) (h : W.ownsRow C 3 1 (.slice a k cap) k (flatN es)) (hC : C ≤ W.heap.size) (hk : k ≤ 1048576) :
    Calls Try.prog 31 #[.agg #[.slice a k cap, .slice p 0 0], .int .i64 1] W fun e w' => e = .returned (.int .i64 (1 + (k : Int))) ∧ Ns w' a k cap (marksN k) ∧ W.heap.size ≤ w'.heap.size ∧ Mg C (Value.slice a k cap).ownBlock W w' := by
  have BX := Lib.hid (below_box (w := W) (.cells #[.slice a k cap, .slice p 0 0] 26) (Nat.le_refl _))
  have VX := Lib.hid (VarN.new W [.slice a k cap, .slice p 0 0] 26)
  rcases h.2 with ⟨h1, h2⟩ | ⟨g, cap', cur, h1, _⟩
  · obtain ⟨rfl, rfl, rfl⟩ : a = none ∧ k = 0 ∧ cap = 0 := by simpa using h1
    go_enter Try.func31, Try.ntmps31
    go_wp2_with fail
    refine (markIntS_none _).mono ?_
    rintro e w1 ⟨rfl, rfl⟩
    go_wp2_with fail
    refine (markDataS_none p 0 1 _).mono ?_
    rintro e w1 ⟨rfl, rfl⟩
    go_wp2
    go_ret
    exact ⟨rfl, Ns.nil _, BX.out.size, BX.out.mono hC, fun x hx _ => BX.out.block x hx⟩
  · obtain ⟨rfl, rfl⟩ : a = some ⟨g, 0, none⟩ ∧ cap = cap' := by simpa using h1
    obtain ⟨f1, f2, f3, f4, f5, f6⟩ := own_filN (marksN k) h
    have F1 := Lib.hid (f1.below BX.out)
    have R1 := Lib.hid (f2.below f6 BX.out)
    have hz := Lib.hid (And.intro f5 f6)
    clear h h1 f1 f2 f5 f6
    go_enter Try.func31, Try.ntmps31
    go_wp2_with fail
    refine (markIntS_any g k cap _ hk (Nat.lt_of_lt_of_le hz.out.2 BX.out.size) F1.out R1.out).mono ?_
    rintro e w1 ⟨rfl, hf, _, hm⟩
    have HF := Lib.hid (hf.ns (marksN_length k) f3 f4)
    have HM := Lib.hid hm
    have v1 := ((VX.out.blk (hm.a W.heap.size (by simp) (by have := hz.out.2; omega))) 1 _ rfl).1
    clear hf hm
    go_wp2_with fail
    refine (markDataS_none p 0 _ _).mono ?_
    rintro e w2 ⟨rfl, rfl⟩
    clear v1
    go_wp2
    go_ret
    exact ⟨rfl, HF.out, Nat.le_trans BX.out.size HM.out.z, (BX.out.mono hC).trans (HM.out.b.mono hz.out.1), fun x hx hne => (HM.out.a x (Nat.lt_of_lt_of_le hx BX.out.size) fun e => hne (by rw [e]; rfl)).trans (BX.out.block x hx)⟩

set_option maxHeartbeats 1000000 in
theorem heldNewA (a : Option Addr) (k cap : Nat) (p : Option Addr) (w : World) (hk : k ≤ 1048576) (h : Ns w a k cap (marksN k)) :
    Calls Try.prog 33 #[.agg #[.slice a k cap, .slice p 0 0], .int .i64 1] w fun e w' => e = .returned (.int .i64 (1 + (k : Int))) ∧ Below w.heap.size w w' := by
  have BX := Lib.hid (below_box (w := w) (.cells #[.slice a k cap, .slice p 0 0] 26) (Nat.le_refl _))
  have VX := Lib.hid (VarN.new w [.slice a k cap, .slice p 0 0] 26)
  have G1 := Lib.hid (h.below BX.out)
  have kn : ¬ 1 + (k : Int) < 0 := by omega
  clear h
  go_enter Try.func33, Try.ntmps33
  go_wp2_with fail
  refine (heldIntS_any a k cap _ hk G1.out).mono ?_
  rintro e w1 ⟨rfl, hb1⟩
  have v1 := ((VX.out.below hb1 (by simp)) 1 _ rfl).1
  have B1 := Lib.hid (BX.out.trans (hb1.mono BX.out.size))
  clear hb1
  go_wp2_with fail
  refine (heldDataS_none p 0 _ _).mono ?_
  rintro e w2 ⟨rfl, rfl⟩
  clear v1
  go_wp2
  go_ret
  exact ⟨rfl, B1.out⟩

end Go.Proofs.Ytncbgejggfkdmaa

/- The laws' marks in an assembly that was answered, and whether they are still there. -/
namespace Go.Proofs.Ytncbgejggfkdmaa
open Go.RowKit Go.PlainAid

/-- Of the blocks that were there none has turned but those of os, and none below C. -/
structure Mgl (C : Nat) (os : List (Option Nat)) (w w' : World) : Prop where
  b : Below C w w'
  a : ∀ x, x < w.heap.size → some x ∉ os → w'.heap[x]? = w.heap[x]?
theorem Mgl.of_below {C : Nat} {os : List (Option Nat)} {w w' : World} (h : Below w.heap.size w w') (hC : C ≤ w.heap.size) : Mgl C os w w' := ⟨h.mono hC, fun x hx _ => h.block x hx⟩
theorem Mgl.of_mw {C g : Nat} {os : List (Option Nat)} {w w' : World} (h : MwN g w w') (hC : C ≤ g) (hm : some g ∈ os) : Mgl C os w w' := ⟨h.b.mono hC, fun x hx hn => h.a x hx fun e => hn (by rw [e]; exact hm)⟩
theorem Mgl.trans {C : Nat} {os : List (Option Nat)} {a b c : World} (h : Mgl C os a b) (k : Mgl C os b c) : Mgl C os a c :=
  ⟨h.b.trans k.b, fun x hx hn => (k.a x (Nat.lt_of_lt_of_le hx h.b.size) hn).trans (h.a x hx hn)⟩
theorem Mgl.more {C : Nat} {os qs : List (Option Nat)} {a b : World} (h : Mgl C os a b) (hs : ∀ x ∈ os, x ∈ qs) : Mgl C qs a b := ⟨h.b, fun x hx hn => h.a x hx fun hm => hn (hs _ hm)⟩
theorem VarN.mgl {C d : Nat} {os : List (Option Nat)} {vs : List Value} {w w' : World} (h : VarN d vs w) (m : Mgl C os w w') (hd : d < w.heap.size) (hne : some d ∉ os) : VarN d vs w' := h.blk (m.a d hd hne)
theorem own_mgl {C base e size n : Nat} {os : List (Option Nat)} {v : Value} {xs : List Value} {w w' : World} (h : w.ownsRow base e size v n xs) (m : Mgl C os w w') (hne : ∀ x, v.ownBlock = some x → some x ∉ os) : w'.ownsRow base e size v n xs := by
  refine ⟨h.1, ?_⟩
  rcases h.2 with h1 | ⟨g, cap, cur, h1, h2, h3, h4⟩
  · exact .inl h1
  · exact .inr ⟨g, cap, cur, h1, h2, by rw [m.a g (Array.getElem?_eq_some_iff.1 h3).1 (hne g (by rw [h1]; rfl))]; exact h3, h4⟩
theorem own_filP {base g n cap : Nat} {xs : List Value} {w : World} (ps : List Part) (h : w.ownsRow base 28 7 (.slice (some ⟨g, 0, none⟩) n cap) n xs) : FilP g n 0 ps w ∧ FreeN g w ∧ n ≤ cap ∧ cap ≤ maxLen ∧ base ≤ g ∧ g < w.heap.size := by
  rcases h.2 with ⟨h1, _⟩ | ⟨g', cap', cur, h1, h2, h3, h4, h5, h6, _⟩
  · exact absurd h1 (by intro e; cases e)
  · obtain ⟨rfl, _, rfl⟩ : g = g' ∧ True ∧ cap = cap' := by simpa using h1
    refine ⟨fun i hi j hj => ?_, fun j => by unfold World.frozen?; simp [h3], h4, h5, h2, (Array.getElem?_eq_some_iff.1 h3).1⟩
    have q1 : i * 7 + j < cur.size := by omega
    exact ⟨cur[i * 7 + j], by unfold World.cell?; simp [h3, q1], fun h => absurd h (by omega)⟩
theorem own_filM {base g n cap : Nat} {xs : List Value} {w : World} (ps : List Msg) (h : w.ownsRow base 45 4 (.slice (some ⟨g, 0, none⟩) n cap) n xs) : FilM g n 0 ps w ∧ FreeN g w ∧ n ≤ cap ∧ cap ≤ maxLen ∧ base ≤ g ∧ g < w.heap.size := by
  rcases h.2 with ⟨h1, _⟩ | ⟨g', cap', cur, h1, h2, h3, h4, h5, h6, _⟩
  · exact absurd h1 (by intro e; cases e)
  · obtain ⟨rfl, _, rfl⟩ : g = g' ∧ True ∧ cap = cap' := by simpa using h1
    refine ⟨fun i hi j hj => ?_, fun j => by unfold World.frozen?; simp [h3], h4, h5, h2, (Array.getElem?_eq_some_iff.1 h3).1⟩
    have q1 : i * 4 + j < cur.size := by omega
    exact ⟨cur[i * 4 + j], by unfold World.cell?; simp [h3, q1], fun h => absurd h (by omega)⟩
theorem Ns.mgl {C len cap : Nat} {os : List (Option Nat)} {a : Option Addr} {es : List Int} {w w' : World} (h : Ns w a len cap es) (m : Mgl C os w w') (hne : ∀ x, a = some x → some x.block ∉ os) : Ns w' a len cap es := by
  rcases h with h | ⟨y, rfl, h1, h2, h3, h5⟩
  · exact .inl h
  · exact .inr ⟨y, rfl, h1, h2, h3, fun i hi => (World.cell?_of_block (w := w) (m.a _ (World.block_lt_of_cell? w _ (h5 i hi)) (by rw [add_block]; exact hne y rfl))).trans (h5 i hi)⟩
/-- Rows of different types are different blocks. -/
theorem own_apart {b1 e1 s1 n1 b2 e2 s2 n2 x : Nat} {v1 v2 : Value} {xs ys : List Value} {w : World} (h1 : w.ownsRow b1 e1 s1 v1 n1 xs) (h2 : w.ownsRow b2 e2 s2 v2 n2 ys) (hne : e1 ≠ e2) (hx : v1.ownBlock = some x) : some x ∉ [v2.ownBlock] := by
  intro hm
  have hy : v2.ownBlock = some x := (List.mem_singleton.1 hm).symm
  rcases h1.2 with ⟨rfl, _⟩ | ⟨g, _, _, rfl, _, h3, _⟩
  · cases hx
  rcases h2.2 with ⟨rfl, _⟩ | ⟨g2, _, _, rfl, _, h4, _⟩
  · cases hy
  obtain rfl : g = x := by simpa [Value.ownBlock] using hx
  obtain rfl : g2 = g := by simpa [Value.ownBlock] using hy
  exact kind_ne h3 h4 hne rfl
theorem markIntS_own {C n cap : Nat} {a : Option Addr} {xs : List Value} {W : World} (h : W.ownsRow C 3 1 (.slice a n cap) n xs) (hn : n ≤ 1048576) (hC : C ≤ W.heap.size) :
    Calls Try.prog 62 #[.slice a n cap, .int .i64 1] W fun e w' => e = .returned (.int .i64 (1 + (n : Int))) ∧ Ns w' a n cap (marksN n) ∧ Mgl C [(Value.slice a n cap).ownBlock] W w' := by
  rcases h.2 with ⟨h1, h2⟩ | ⟨g, cap', cur, h1, _⟩
  · obtain ⟨rfl, rfl, rfl⟩ : a = none ∧ n = 0 ∧ cap = 0 := by simpa using h1
    refine (markIntS_none W).mono ?_
    rintro e w' ⟨rfl, rfl⟩
    exact ⟨rfl, Ns.nil _, Mgl.of_below (Below.refl _ _) hC⟩
  · obtain ⟨rfl, rfl⟩ : a = some ⟨g, 0, none⟩ ∧ cap = cap' := by simpa using h1
    obtain ⟨f1, f2, f3, f4, f5, f6⟩ := own_filN (marksN n) h
    refine (markIntS_any g n cap W hn f6 f1 f2).mono ?_
    rintro e w' ⟨rfl, hf, _, hm⟩
    exact ⟨rfl, hf.ns (marksN_length n) f3 f4, Mgl.of_mw hm f5 (by simp [Value.ownBlock])⟩
theorem markDataS_own {C n cap c : Nat} {a : Option Addr} {xs : List Value} {W : World} (h : W.ownsRow C 28 7 (.slice a n cap) n xs) (hn : n ≤ 1048576) (hC : C ≤ W.heap.size) (hc1 : 1 ≤ c) (hc2 : c ≤ 100000000) :
    Calls Try.prog 63 #[.slice a n cap, .int .i64 (c : Int)] W fun e w' => e = .returned (.int .i64 ((c + 7 * n : Nat) : Int)) ∧ Pts w' a n cap (marksP n c) ∧ Mgl C [(Value.slice a n cap).ownBlock] W w' := by
  rcases h.2 with ⟨h1, h2⟩ | ⟨g, cap', cur, h1, _⟩
  · obtain ⟨rfl, rfl, rfl⟩ : a = none ∧ n = 0 ∧ cap = 0 := by simpa using h1
    refine (markDataS_none none 0 (c : Int) W).mono ?_
    rintro e w' ⟨rfl, rfl⟩
    exact ⟨rfl, Pts.nil _, Mgl.of_below (Below.refl _ _) hC⟩
  · obtain ⟨rfl, rfl⟩ : a = some ⟨g, 0, none⟩ ∧ cap = cap' := by simpa using h1
    obtain ⟨f1, f2, f3, f4, f5, f6⟩ := own_filP (marksP n c) h
    refine (markDataS_any g n cap c W hn hc1 hc2 f6 f1 f2).mono ?_
    rintro e w' ⟨rfl, hf, _, hm⟩
    exact ⟨rfl, hf.pts (marksP_length n c) f3 f4, Mgl.of_mw hm f5 (by simp [Value.ownBlock])⟩

end Go.Proofs.Ytncbgejggfkdmaa

/- The laws' marks in an answer's assembly and messages. -/
namespace Go.Proofs.Ytncbgejggfkdmaa
open Go.RowKit Go.PlainAid

set_option maxHeartbeats 400000 in
theorem markMessageS_none (p : Option Addr) (cap : Nat) (z : Int) (w : World) :
    Calls Try.prog 32 #[.slice p 0 cap, .int .i64 z] w fun e w' => e = .returned (.int .i64 z) ∧ w' = w := by
  go_enter Try.func32, Try.ntmps32
  go_wp2
  go_loopw [1, 5] (fun m i wr => m = .int .i64 z ∧ i = .int .i64 0 ∧ wr = w) (fun _ _ _ => 0)
  case atStart => exact ⟨rfl, rfl, rfl⟩
  case round =>
    obtain ⟨rfl, rfl, rfl⟩ := hrel
    go_wp2
    go_ret
    exact ⟨rfl, rfl⟩
theorem markMessageS_own {C n cap c : Nat} {a : Option Addr} {xs : List Value} {W : World} (h : W.ownsRow C 45 4 (.slice a n cap) n xs) (hn : n ≤ 1048576) (hC : C ≤ W.heap.size) (hc1 : 1 ≤ c) (hc2 : c ≤ 100000000) :
    Calls Try.prog 32 #[.slice a n cap, .int .i64 (c : Int)] W fun e w' => e = .returned (.int .i64 ((c + 4 * n : Nat) : Int)) ∧ Mgs w' a n cap (marksM n c) ∧ Mgl C [(Value.slice a n cap).ownBlock] W w' := by
  rcases h.2 with ⟨h1, h2⟩ | ⟨g, cap', cur, h1, _⟩
  · obtain ⟨rfl, rfl, rfl⟩ : a = none ∧ n = 0 ∧ cap = 0 := by simpa using h1
    refine (markMessageS_none none 0 (c : Int) W).mono ?_
    rintro e w' ⟨rfl, rfl⟩
    exact ⟨rfl, Mgs.nil _, Mgl.of_below (Below.refl _ _) hC⟩
  · obtain ⟨rfl, rfl⟩ : a = some ⟨g, 0, none⟩ ∧ cap = cap' := by simpa using h1
    obtain ⟨f1, f2, f3, f4, f5, f6⟩ := own_filM (marksM n c) h
    refine (markMessageS_any g n cap c W hn hc1 hc2 f6 f1 f2).mono ?_
    rintro e w' ⟨rfl, hf, _, hm⟩
    exact ⟨rfl, hf.mgs (marksM_length n c) f3 f4, Mgl.of_mw hm f5 (by simp [Value.ownBlock])⟩

/-- The block of a slice of one's own. -/
theorem own_blk {base e size n cap : Nat} {a : Option Addr} {xs : List Value} {w : World} (h : w.ownsRow base e size (.slice a n cap) n xs) : ∀ x, a = some x → (Value.slice a n cap).ownBlock = some x.block ∧ x.block < w.heap.size := by
  intro x hx
  subst hx
  rcases h.2 with ⟨h1, _⟩ | ⟨g, cap', cur, h1, _, h3, _⟩
  · cases h1
  · obtain ⟨rfl, _⟩ : x = ⟨g, 0, none⟩ ∧ cap = cap' := by simpa using h1
    exact ⟨rfl, (Array.getElem?_eq_some_iff.1 h3).1⟩

set_option maxHeartbeats 1000000 in
/-- An assembly of one's own is marked. -/
theorem markA_any {C n1 c1 n2 c2 : Nat} {a1 a2 : Option Addr} {es : List Int} {ps : List Part} {W : World} (h1 : W.ownsRow C 3 1 (.slice a1 n1 c1) n1 (flatN es)) (h2 : W.ownsRow C 28 7 (.slice a2 n2 c2) n2 (flatP ps)) (hC : C ≤ W.heap.size) (k1 : n1 ≤ 1048576) (k2 : n2 ≤ 1048576) :
    Calls Try.prog 31 #[.agg #[.slice a1 n1 c1, .slice a2 n2 c2], .int .i64 1] W fun e w' => e = .returned (.int .i64 ((1 + n1 + 7 * n2 : Nat) : Int)) ∧ Ns w' a1 n1 c1 (marksN n1) ∧ Pts w' a2 n2 c2 (marksP n2 (1 + n1)) ∧ Mgl C [(Value.slice a1 n1 c1).ownBlock, (Value.slice a2 n2 c2).ownBlock] W w' := by
  have BX := Lib.hid (below_box (w := W) (.cells #[.slice a1 n1 c1, .slice a2 n2 c2] 26) (Nat.le_refl _))
  have VX := Lib.hid (VarN.new W [.slice a1 n1 c1, .slice a2 n2 c2] 26)
  have R1 := Lib.hid (h1.alloc (.cells #[.slice a1 n1 c1, .slice a2 n2 c2] 26))
  have R2 := Lib.hid (h2.alloc (.cells #[.slice a1 n1 c1, .slice a2 n2 c2] 26))
  have HL1 := Lib.hid (fun x (hx : (Value.slice a1 n1 c1).ownBlock = some x) => (row_lt h1 hx).2)
  have HC := Lib.hid (Nat.le_trans hC BX.out.size)
  clear h1 h2
  go_enter Try.func31, Try.ntmps31
  go_wp2_with fail
  refine (markIntS_own R1.out k1 HC.out).mono ?_
  rintro e w1 ⟨rfl, hn, hm⟩
  have v1 := ((VX.out.mgl hm (by simp) (by intro h; have := HL1.out _ (List.mem_singleton.1 h).symm; omega)) 1 _ rfl).1
  have Q2 := Lib.hid (own_mgl R2.out hm (fun x hx => own_apart R2.out R1.out (by decide) hx))
  have Q1 := Lib.hid (fun x (hx : a1 = some x) => own_apart R1.out R2.out (by decide) (own_blk R1.out x hx).1)
  have HN := Lib.hid hn
  have HM := Lib.hid hm
  have e1 : (1 : Int) + (n1 : Int) = ((1 + n1 : Nat) : Int) := by omega
  have E1 := Lib.hid e1
  clear hn hm e1
  go_wp2_with fail
  rw [E1.out]
  refine (markDataS_own (c := 1 + n1) Q2.out k2 (Nat.le_trans HC.out HM.out.b.size) (by omega) (by omega)).mono ?_
  rintro e w2 ⟨rfl, hp, hm2⟩
  have H3 := Lib.hid (And.intro (HN.out.mgl hm2 Q1.out) (And.intro hp (((Mgl.of_below BX.out hC).trans (HM.out.more (by simp))).trans (hm2.more (qs := [(Value.slice a1 n1 c1).ownBlock, (Value.slice a2 n2 c2).ownBlock]) (by simp)))))
  clear hp hm2 v1
  go_wp2
  go_ret
  exact ⟨rfl, H3.out.1, H3.out.2.1, H3.out.2.2⟩

set_option maxHeartbeats 1000000 in
theorem heldA_any (a1 : Option Addr) (n1 c1 : Nat) (a2 : Option Addr) (n2 c2 : Nat) (w : World) (k1 : n1 ≤ 1048576) (k2 : n2 ≤ 1048576) (h1 : Ns w a1 n1 c1 (marksN n1)) (h2 : Pts w a2 n2 c2 (marksP n2 (1 + n1))) :
    Calls Try.prog 33 #[.agg #[.slice a1 n1 c1, .slice a2 n2 c2], .int .i64 1] w fun e w' => e = .returned (.int .i64 ((1 + n1 + 7 * n2 : Nat) : Int)) ∧ Below w.heap.size w w' := by
  have BX := Lib.hid (below_box (w := w) (.cells #[.slice a1 n1 c1, .slice a2 n2 c2] 26) (Nat.le_refl _))
  have VX := Lib.hid (VarN.new w [.slice a1 n1 c1, .slice a2 n2 c2] 26)
  have G1 := Lib.hid (h1.below BX.out)
  have G2 := Lib.hid (h2.below BX.out)
  have kn : ¬ 1 + (n1 : Int) < 0 := by omega
  have kz : ¬ ((1 + n1 + 7 * n2 : Nat) : Int) < 0 := by omega
  have E1 := Lib.hid (show (1 : Int) + (n1 : Int) = ((1 + n1 : Nat) : Int) by omega)
  clear h1 h2
  go_enter Try.func33, Try.ntmps33
  go_wp2_with fail
  refine (heldIntS_any a1 n1 c1 _ k1 G1.out).mono ?_
  rintro e w1 ⟨rfl, hb1⟩
  have v1 := ((VX.out.below hb1 (by simp)) 1 _ rfl).1
  have G3 := Lib.hid (G2.out.below hb1)
  have B1 := Lib.hid (BX.out.trans (hb1.mono BX.out.size))
  clear hb1
  go_wp2_with fail
  rw [E1.out]
  refine (heldDataS_any a2 n2 c2 (1 + n1) _ k2 (by omega) (by omega) G3.out).mono ?_
  rintro e w2 ⟨rfl, hb2⟩
  have B2 := Lib.hid (B1.out.trans (hb2.mono B1.out.size))
  obtain ⟨z, hz⟩ : ∃ z : Int, ((1 + n1 + 7 * n2 : Nat) : Int) = z := ⟨_, rfl⟩
  have HZ := Lib.hid hz
  rw [hz] at kz ⊢
  clear hb2 v1 hz
  go_wp2
  go_ret
  exact ⟨by rw [HZ.out]; rfl, B2.out⟩

end Go.Proofs.Ytncbgejggfkdmaa

/- The laws' exact helpers on assemblies: the size that is left. -/
namespace Go.Proofs.Ytncbgejggfkdmaa
open Go.RowKit Go.PlainAid

set_option maxHeartbeats 1000000 in
theorem szDataS_b (a : Option Addr) (len cap : Nat) (ps : List Part) (n : Int) (w : World) (n0 : 0 ≤ n) (n1 : n ≤ 1048576) (h : Pts w a len cap ps) (hz : ∀ p ∈ ps, p.text.size ≤ maxLen) :
    Calls Try.prog 56 #[.slice a len cap, .int .i64 n] w fun e w' => (∃ z : Int, e = .returned (.int .i64 z) ∧ (z = -1 ∨ (0 ≤ z ∧ z ≤ 1048576 ∧ len ≤ 1048576))) ∧ Below w.heap.size w w' := by
  have hl := h.length
  have hm := h.len_int
  have HG := Lib.hid h
  have HZ := Lib.hid hz
  clear h hz
  have e : IntKind.i64.wrap (n - (len : Int)) = n - (len : Int) := IntWalk.i64_in _ (by omega)
  by_cases h0 : n - (len : Int) < 0
  · go_enter Try.func56, Try.ntmps56
    go_wp2
    go_ret
    exact ⟨⟨-1, rfl, .inl rfl⟩, Below.refl _ _⟩
  · have hle : len ≤ 1048576 := by omega
    go_enter Try.func56, Try.ntmps56
    go_wp2
    go_loopw [1, 5] (fun m i wr => ∃ (k : Nat) (z : Int), k ≤ len ∧ i = .int .i64 k ∧ m = .int .i64 z ∧ 0 ≤ z ∧ z ≤ 1048576 ∧ Hid (Below w.heap.size w wr)) (fun _ i _ => len - (intOf i).toNat)
    case atStart => exact ⟨0, n - (len : Int), Nat.zero_le _, rfl, rfl, by omega, by omega, Lib.hid (Below.refl _ _)⟩
    case round =>
      obtain ⟨k, z, hk, rfl, rfl, z0, z1, hbel⟩ := hrel
      by_cases hlt : k < len
      · obtain ⟨x, rfl⟩ := HG.out.addr hlt
        obtain ⟨p0, p1, p2, p3, p4, p5, p6⟩ := HG.out.at hbel.out hlt
        have hzk := HZ.out _ (pAt_mem (show k < ps.length by omega))
        obtain ⟨⟨t, s, q, fi, la, lo, tx⟩, hc1⟩ : ∃ c1, pAt ps k = c1 := ⟨_, rfl⟩
        rw [hc1] at p0 p1 p2 p3 p4 p5 p6 hzk
        dsimp only at p0 p1 p2 p3 p4 p5 p6 hzk
        unfold maxLen at hzk
        clear hc1
        go_wp2_with fail
        refine (szDa_any t s q fi la lo tx z _ z0 z1 (by omega)).mono ?_
        rintro e w2 ⟨⟨z2, rfl, hz2⟩, hb2⟩
        have HB := Lib.hid (hbel.out.trans (hb2.mono hbel.out.size))
        clear hb2
        rcases hz2 with rfl | ⟨y0, y1⟩
        · go_wp2
          go_ret
          exact ⟨⟨-1, rfl, .inl rfl⟩, HB.out⟩
        · have yn : ¬ z2 < 0 := by omega
          go_wp2
          go_roundw
          case rel => exact ⟨k + 1, z2, by omega, by go_num, rfl, y0, by omega, HB⟩
          case measure => simp [intOf]; omega
      · obtain rfl : k = len := by omega
        go_wp2
        go_ret
        exact ⟨⟨z, rfl, .inr ⟨z0, z1, hle⟩⟩, hbel.out⟩

set_option maxHeartbeats 1000000 in
theorem szAssembly_b (an : Option Addr) (ln cn : Nat) (es : List Int) (ap : Option Addr) (lp cp : Nat) (ps : List Part) (w : World) (h : Ns w an ln cn es) (hp : Pts w ap lp cp ps) (hz : ∀ p ∈ ps, p.text.size ≤ maxLen) :
    Calls Try.prog 25 #[.agg #[.slice an ln cn, .slice ap lp cp], .int .i64 1048576] w fun e w' => (∃ z : Int, e = .returned (.int .i64 z) ∧ (z = -1 ∨ (0 ≤ z ∧ z ≤ 1048576 ∧ ln ≤ 1048576 ∧ lp ≤ 1048576))) ∧ Below w.heap.size w w' := by
  have hm := h.len_int
  have B1 := Lib.hid (below_box (w := w) (.cells #[.slice an ln cn, .slice ap lp cp] 48) (Nat.le_refl _))
  have P1 := Lib.hid (hp.below B1.out)
  have V1 := Lib.hid (VarN.new w [.slice an ln cn, .slice ap lp cp] 48)
  clear h hp
  go_enter Try.func25, Try.ntmps25
  go_wp2_with fail
  refine (szIntS_b an ln cn _ hm).mono ?_
  rintro e w1 ⟨⟨z, rfl, hzz⟩, hb1⟩
  have v1 := ((V1.out.below hb1 (by simp)) 1 _ rfl).1
  have P2 := Lib.hid (P1.out.below hb1)
  have HB := Lib.hid (B1.out.trans (hb1.mono (by simp)))
  clear hb1
  rcases hzz with rfl | ⟨y0, y1, y2⟩
  · go_wp2
    go_ret
    exact ⟨⟨-1, rfl, .inl rfl⟩, HB.out⟩
  · have yn : ¬ z < 0 := by omega
    go_wp2_with fail
    refine (szDataS_b ap lp cp ps z _ y0 y1 P2.out hz).mono ?_
    rintro e w2 ⟨⟨z2, rfl, hz2⟩, hb2⟩
    have HB2 := Lib.hid (HB.out.trans (hb2.mono HB.out.size))
    clear hb2
    rcases hz2 with rfl | ⟨x0, xm, x1⟩
    · go_wp2
      go_ret
      exact ⟨⟨-1, rfl, .inl rfl⟩, HB2.out⟩
    · have xn : ¬ z2 < 0 := by omega
      go_wp2
      go_ret
      exact ⟨⟨z2, rfl, .inr ⟨x0, xm, y2, x1⟩⟩, HB2.out⟩

end Go.Proofs.Ytncbgejggfkdmaa

/- The laws' marks in a copy of an assembly; things that a mark leaves be. -/
namespace Go.Proofs.Ytncbgejggfkdmaa
open Go.RowKit Go.PlainAid

theorem atP_blk (x : Addr) (i : Nat) : ∀ j, (atP x i j).block = x.block
  | 0 => by show (x.add (i * 7)).block = x.block; rw [add_block]
  | j + 1 => by show (x.add (i * 7)).block = x.block; rw [add_block]
theorem atM_blk (x : Addr) (i : Nat) : ∀ j, (atM x i j).block = x.block
  | 0 => by show (x.add (i * 4)).block = x.block; rw [add_block]
  | j + 1 => by show (x.add (i * 4)).block = x.block; rw [add_block]
theorem FilN.blank {d len k : Nat} {es fs : List Int} {w : World} (h : FilN d len k es w) : FilN d len 0 fs w := fun i hi => by
  obtain ⟨u, h1, _⟩ := h i hi
  exact ⟨u, h1, fun h => absurd h (Nat.not_lt_zero _)⟩
theorem FilP.blank {d len k : Nat} {es fs : List Part} {w : World} (h : FilP d len k es w) : FilP d len 0 fs w := fun i hi j hj => by
  obtain ⟨u, h1, _⟩ := h i hi j hj
  exact ⟨u, h1, fun h => absurd h (Nat.not_lt_zero _)⟩
theorem FilP.blk {d len k : Nat} {es : List Part} {w w' : World} (h : FilP d len k es w) (e : w'.heap[d]? = w.heap[d]?) : FilP d len k es w' := fun i hi j hj => by
  obtain ⟨u, h1, h2⟩ := h i hi j hj
  exact ⟨u, (World.cell?_of_block (w := w) e).trans h1, h2⟩
theorem FreeN.blk {d : Nat} {w w' : World} (h : FreeN d w) (e : w'.heap[d]? = w.heap[d]?) : FreeN d w' := fun j => by
  have := h j
  unfold World.frozen? at this ⊢
  rw [e]
  exact this
theorem Pts.mgC {C len cap : Nat} {a : Option Addr} {es : List Part} {w w' : World} (h : Pts w a len cap es) (hb : Below C w w') (hlt : ∀ x, a = some x → 0 < len → x.block < C) : Pts w' a len cap es := by
  rcases h with h | ⟨y, rfl, h1, h2, h3, h5⟩
  · exact .inl h
  · exact .inr ⟨y, rfl, h1, h2, h3, fun i hi j v hv => (hb.cell (show (atP y i j).block < C by rw [atP_blk]; exact hlt y rfl (by omega))).trans (h5 i hi j v hv)⟩
theorem Mgs.mgC {C len cap : Nat} {a : Option Addr} {es : List Msg} {w w' : World} (h : Mgs w a len cap es) (hb : Below C w w') (hlt : ∀ x, a = some x → 0 < len → x.block < C) : Mgs w' a len cap es := by
  rcases h with h | ⟨y, rfl, h1, h2, h3, h5⟩
  · exact .inl h
  · exact .inr ⟨y, rfl, h1, h2, h3, fun i hi j v hv => (hb.cell (show (atM y i j).block < C by rw [atM_blk]; exact hlt y rfl (by omega))).trans (h5 i hi j v hv)⟩
theorem Pts.lts {len cap : Nat} {a : Option Addr} {es : List Part} {w : World} (h : Pts w a len cap es) : ∀ x, a = some x → 0 < len → x.block < w.heap.size := by
  intro x hx hl
  subst hx
  rcases h with ⟨h, _⟩ | ⟨y, h0, h1, h2, h3, h5⟩
  · cases h
  · obtain rfl : x = y := by simpa using h0
    obtain ⟨t, ht⟩ : ∃ t, (cellsP (pAt es 0))[0]? = some t := ⟨_, rfl⟩
    have := World.block_lt_of_cell? w _ (h5 0 hl 0 t ht)
    rwa [atP_blk] at this
theorem Mgs.lts {len cap : Nat} {a : Option Addr} {es : List Msg} {w : World} (h : Mgs w a len cap es) : ∀ x, a = some x → 0 < len → x.block < w.heap.size := by
  intro x hx hl
  subst hx
  rcases h with ⟨h, _⟩ | ⟨y, h0, h1, h2, h3, h5⟩
  · cases h
  · obtain rfl : x = y := by simpa using h0
    obtain ⟨t, ht⟩ : ∃ t, (cellsM (mAt es 0))[0]? = some t := ⟨_, rfl⟩
    have := World.block_lt_of_cell? w _ (h5 0 hl 0 t ht)
    rwa [atM_blk] at this
theorem Pts.mgl {C len cap : Nat} {os : List (Option Nat)} {a : Option Addr} {es : List Part} {w w' : World} (h : Pts w a len cap es) (m : Mgl C os w w') (hne : ∀ x, a = some x → some x.block ∉ os) : Pts w' a len cap es := by
  rcases h with h | ⟨y, rfl, h1, h2, h3, h5⟩
  · exact .inl h
  · exact .inr ⟨y, rfl, h1, h2, h3, fun i hi j v hv => (World.cell?_of_block (w := w) (m.a _ (World.block_lt_of_cell? w _ (h5 i hi j v hv)) (show some (atP y i j).block ∉ os by rw [atP_blk]; exact hne y rfl))).trans (h5 i hi j v hv)⟩

set_option maxHeartbeats 1000000 in
/-- The copy of an assembly is marked. -/
theorem markFilA {R d n e m : Nat} {es : List Int} {ps : List Part} {W : World} (h : OwnA R d n e m es ps W) :
    Calls Try.prog 31 #[.agg #[.slice (some ⟨d, 0, none⟩) n n, .slice (some ⟨e, 0, none⟩) m m], .int .i64 1] W fun r w' => r = .returned (.int .i64 ((1 + n + 7 * m : Nat) : Int)) ∧ W.heap.size ≤ w'.heap.size ∧ Mgl R [some d, some e] W w' := by
  have BX := Lib.hid (below_box (w := W) (.cells #[.slice (some ⟨d, 0, none⟩) n n, .slice (some ⟨e, 0, none⟩) m m] 26) (Nat.le_refl _))
  have VX := Lib.hid (VarN.new W [.slice (some ⟨d, 0, none⟩) n n, .slice (some ⟨e, 0, none⟩) m m] 26)
  have F1 := Lib.hid ((h.fn.below BX.out).blank (fs := marksN n))
  have F2 := Lib.hid (h.rn.below h.zn BX.out)
  have F3 := Lib.hid ((h.fp.below BX.out).blank (fs := marksP m (1 + n)))
  have F4 := Lib.hid (h.rp.below h.zp BX.out)
  have HA := Lib.hid h
  have hsn := h.sn
  have hsp := h.sp
  clear h
  go_enter Try.func31, Try.ntmps31
  go_wp2_with fail
  refine (markIntS_any d n n _ hsn (Nat.lt_of_lt_of_le HA.out.zn BX.out.size) F1.out F2.out).mono ?_
  rintro r w1 ⟨rfl, _, _, hm⟩
  have eb := hm.a e (Nat.lt_of_lt_of_le HA.out.zp BX.out.size) (fun h => HA.out.ne h.symm)
  have F5 := Lib.hid (F3.out.blk eb)
  have F6 := Lib.hid (F4.out.blk eb)
  have v1 := ((VX.out.blk (hm.a W.heap.size (by simp) (by have := HA.out.zn; omega))) 1 _ rfl).1
  have HM := Lib.hid hm
  have E1 := Lib.hid (show (1 : Int) + (n : Int) = ((1 + n : Nat) : Int) by omega)
  clear hm eb
  go_wp2_with fail
  rw [E1.out]
  refine (markDataS_any e m m (1 + n) _ hsp (by omega) (by omega) (Nat.lt_of_lt_of_le (Nat.lt_of_lt_of_le HA.out.zp BX.out.size) HM.out.z) F5.out F6.out).mono ?_
  rintro r w2 ⟨rfl, _, _, hm2⟩
  have H3 := Lib.hid (show W.heap.size ≤ w2.heap.size ∧ Mgl R [some d, some e] W w2 from ⟨Nat.le_trans BX.out.size (Nat.le_trans HM.out.z hm2.z), ((Mgl.of_below BX.out (Nat.le_of_lt (Nat.lt_of_le_of_lt HA.out.lo.1 HA.out.zn))).trans (Mgl.of_mw HM.out HA.out.lo.1 (by simp))).trans (Mgl.of_mw hm2 HA.out.lo.2 (by simp))⟩)
  clear hm2 v1
  go_wp2
  go_ret
  exact ⟨rfl, H3.out⟩

end Go.Proofs.Ytncbgejggfkdmaa

/- Answers of a part that arrives, with their lengths; marks in answers, their numbers named. -/
namespace Go.Proofs.Ytncbgejggfkdmaa
open Go.RowKit Go.PlainAid

/-- What a part answers, its lengths known. -/
def AnsIs (rn : List Int) (rp : List Part) (rm : List Msg) (code : Int) (n1 n2 n3 : Nat) (w : World) (e : Ending) (w' : World) : Prop :=
  ∃ a1 c1 a2 c2 a3 c3, e = .returned (.tuple #[.agg #[.slice a1 n1 c1, .slice a2 n2 c2], .slice a3 n3 c3, .int .i64 code]) ∧ (w'.ownsRow w.heap.size 3 1 (.slice a1 n1 c1) n1 (flatN rn) ∧ w'.ownsRow w.heap.size 28 7 (.slice a2 n2 c2) n2 (flatP rp) ∧ w'.ownsRow w.heap.size 45 4 (.slice a3 n3 c3) n3 (flatM rm)) ∧ Below w.heap.size w w'
theorem AddAns.is {next : List Int} {ps : List Part} {d : Part} {w w' : World} {e : Ending} {rn : List Int} {rp : List Part} {rm : List Msg} {code : Int} {n1 n2 n3 : Nat} (h : AddAns next ps d w e w') (hr : ansR next ps d = ⟨rn, rp, rm⟩) (hc : ansC next ps d = code) (h1 : rn.length = n1) (h2 : rp.length = n2) (h3 : rm.length = n3) :
    AnsIs rn rp rm code n1 n2 n3 w e w' := by
  obtain ⟨a1, m1, c1, a2, m2, c2, a3, m3, c3, rfl, ho, hb⟩ := h
  rw [hr] at ho
  obtain ⟨o1, o2, o3⟩ := ho
  dsimp only at o1 o2 o3
  have e1 : m1 = n1 := by have := o1.1; rw [flatN_length] at this; omega
  have e2 : m2 = n2 := by have := o2.1; rw [flatP_length] at this; omega
  have e3 : m3 = n3 := by have := o3.1; rw [flatM_length] at this; omega
  subst e1
  subst e2
  subst e3
  exact ⟨a1, c1, a2, c2, a3, c3, by rw [hc]; rfl, ⟨o1, o2, o3⟩, hb⟩
theorem asmAdd_is (an : Option Addr) (ln cn : Nat) (next : List Int) (ap : Option Addr) (lp cp : Nat) (ps : List Part) (t s q : Int) (fi la lo : Bool) (tx : ByteArray) {rn : List Int} {rp : List Part} {rm : List Msg} {code : Int} {n1 n2 n3 : Nat} (w : World) (h : Ns w an ln cn next) (hp : Pts w ap lp cp ps) (hk : ∀ p ∈ ps, Key p.tsn)
    (hr : ansR next ps ⟨t, s, q, fi, la, lo, tx⟩ = ⟨rn, rp, rm⟩) (hc : ansC next ps ⟨t, s, q, fi, la, lo, tx⟩ = code) (hl : rn.length = n1 ∧ rp.length = n2 ∧ rm.length = n3) :
    Calls Try.prog 14 #[.agg #[.slice an ln cn, .slice ap lp cp], .agg #[.int .i64 t, .int .i64 s, .int .i64 q, .bool fi, .bool la, .bool lo, .string tx]] w (AnsIs rn rp rm code n1 n2 n3 w) := by
  have h0 := asmAdd_any an ln cn next ap lp cp ps ⟨t, s, q, fi, la, lo, tx⟩ w h hp hk
  rw [partV_eq] at h0
  exact h0.mono fun e w' h => h.is hr hc hl.1 hl.2.1 hl.2.2
theorem sAsmAdd_is (an : Option Addr) (ln cn : Nat) (next : List Int) (ap : Option Addr) (lp cp : Nat) (ps : List Part) (t s q : Int) (fi la lo : Bool) (tx : ByteArray) {rn : List Int} {rp : List Part} {rm : List Msg} {code : Int} {n1 n2 n3 : Nat} (w : World) (h : Ns w an ln cn next) (hp : Pts w ap lp cp ps)
    (hr : ansR next ps ⟨t, s, q, fi, la, lo, tx⟩ = ⟨rn, rp, rm⟩) (hc : ansC next ps ⟨t, s, q, fi, la, lo, tx⟩ = code) (hl : rn.length = n1 ∧ rp.length = n2 ∧ rm.length = n3) :
    Calls Try.prog 15 #[.agg #[.slice an ln cn, .slice ap lp cp], .agg #[.int .i64 t, .int .i64 s, .int .i64 q, .bool fi, .bool la, .bool lo, .string tx]] w (AnsIs rn rp rm code n1 n2 n3 w) := by
  have h0 := sAsmAdd_any an ln cn next ap lp cp ps ⟨t, s, q, fi, la, lo, tx⟩ w h hp
  rw [partV_eq] at h0
  exact h0.mono fun e w' h => h.is hr hc hl.1 hl.2.1 hl.2.2
/-- An answer is small. -/
theorem ansR_few {next : List Int} {ps : List Part} {d : Part} {rn : List Int} {rp : List Part} {rm : List Msg} (hr : ansR next ps d = ⟨rn, rp, rm⟩) : rn.length ≤ 4 ∧ rp.length ≤ 13 ∧ rm.length ≤ 13 := by
  by_cases h : addsTo next ps d
  · have h1 := addR_count h.1 h.2
    have h2 := (addR_ok h.1 h.2).2
    rw [← (ansR_yes h).1, hr] at h1 h2
    have := h.1.few
    have := h.1.n4
    dsimp only at h1 h2
    omega
  · rw [(ansR_no h).1] at hr
    cases hr
    simp
theorem OwnA.below {R d n e m : Nat} {es : List Int} {ps : List Part} {W W' : World} (h : OwnA R d n e m es ps W) (hb : Below W.heap.size W W') : OwnA R d n e m es ps W' :=
  ⟨h.fn.below hb, h.rn.below h.zn hb, h.fp.below hb, h.rp.below h.zp hb, h.ln, h.lp, Nat.lt_of_lt_of_le h.zn hb.size, Nat.lt_of_lt_of_le h.zp hb.size, h.lo, h.ne, h.sn, h.sp⟩
theorem OwnA.low {R R' d n e m : Nat} {es : List Int} {ps : List Part} {W : World} (h : OwnA R d n e m es ps W) (hR : R' ≤ R) : OwnA R' d n e m es ps W :=
  ⟨h.fn, h.rn, h.fp, h.rp, h.ln, h.lp, h.zn, h.zp, ⟨Nat.le_trans hR h.lo.1, Nat.le_trans hR h.lo.2⟩, h.ne, h.sn, h.sp⟩
theorem OwnA.nsA {R d n e m : Nat} {es : List Int} {ps : List Part} {W : World} (h : OwnA R d n e m es ps W) : Ns W (some ⟨d, 0, none⟩) n n es := h.fn.ns h.ln (Nat.le_refl _) (Nat.le_trans h.sn (by decide))
theorem OwnA.ptsA {R d n e m : Nat} {es : List Int} {ps : List Part} {W : World} (h : OwnA R d n e m es ps W) : Pts W (some ⟨e, 0, none⟩) m m ps := h.fp.pts h.lp (Nat.le_refl _) (Nat.le_trans h.sp (by decide))
theorem own_apart2 {b1 e1 s1 n1 b2 e2 s2 n2 b3 e3 s3 n3 x : Nat} {v1 v2 v3 : Value} {xs ys zs : List Value} {w : World} (h1 : w.ownsRow b1 e1 s1 v1 n1 xs) (h2 : w.ownsRow b2 e2 s2 v2 n2 ys) (h3 : w.ownsRow b3 e3 s3 v3 n3 zs) (hne : e1 ≠ e2) (hne3 : e1 ≠ e3) (hx : v1.ownBlock = some x) : some x ∉ [v2.ownBlock, v3.ownBlock] := by
  intro hm
  rcases List.mem_cons.1 hm with h | h
  · exact own_apart h1 h2 hne hx (List.mem_singleton.2 h)
  · exact own_apart h1 h3 hne3 hx h
theorem markFil_z {R d n e m : Nat} {es : List Int} {ps : List Part} {W : World} {z : Int} (h : OwnA R d n e m es ps W) (hz : ((1 + n + 7 * m : Nat) : Int) = z) :
    Calls Try.prog 31 #[.agg #[.slice (some ⟨d, 0, none⟩) n n, .slice (some ⟨e, 0, none⟩) m m], .int .i64 1] W fun r w' => r = .returned (.int .i64 z) ∧ W.heap.size ≤ w'.heap.size ∧ Mgl R [some d, some e] W w' := by
  subst hz
  exact markFilA h
theorem markA_z {C n1 c1 n2 c2 : Nat} {a1 a2 : Option Addr} {es : List Int} {ps : List Part} {W : World} {z : Int} (h1 : W.ownsRow C 3 1 (.slice a1 n1 c1) n1 (flatN es)) (h2 : W.ownsRow C 28 7 (.slice a2 n2 c2) n2 (flatP ps)) (hC : C ≤ W.heap.size) (k1 : n1 ≤ 1048576) (k2 : n2 ≤ 1048576) (hz : ((1 + n1 + 7 * n2 : Nat) : Int) = z) :
    Calls Try.prog 31 #[.agg #[.slice a1 n1 c1, .slice a2 n2 c2], .int .i64 1] W fun e w' => e = .returned (.int .i64 z) ∧ (Ns w' a1 n1 c1 (marksN n1) ∧ Pts w' a2 n2 c2 (marksP n2 (1 + n1))) ∧ W.heap.size ≤ w'.heap.size ∧ Mgl C [(Value.slice a1 n1 c1).ownBlock, (Value.slice a2 n2 c2).ownBlock] W w' := by
  subst hz
  refine (markA_any h1 h2 hC k1 k2).mono ?_
  rintro e w' ⟨rfl, h3, h4, h5⟩
  exact ⟨rfl, ⟨h3, h4⟩, h5.b.size, h5⟩
theorem markM_z {C n cap c : Nat} {a : Option Addr} {xs : List Value} {W : World} {z z2 : Int} (h : W.ownsRow C 45 4 (.slice a n cap) n xs) (hn : n ≤ 1048576) (hC : C ≤ W.heap.size) (hc1 : 1 ≤ c) (hc2 : c ≤ 100000000) (hz : (c : Int) = z) (hz2 : ((c + 4 * n : Nat) : Int) = z2) :
    Calls Try.prog 32 #[.slice a n cap, .int .i64 z] W fun e w' => e = .returned (.int .i64 z2) ∧ Mgs w' a n cap (marksM n c) ∧ W.heap.size ≤ w'.heap.size ∧ Mgl C [(Value.slice a n cap).ownBlock] W w' := by
  subst hz
  subst hz2
  refine (markMessageS_own h hn hC hc1 hc2).mono ?_
  rintro e w' ⟨rfl, h3, h5⟩
  exact ⟨rfl, h3, h5.b.size, h5⟩
theorem heldA_z (a1 : Option Addr) (n1 c1 : Nat) (a2 : Option Addr) (n2 c2 : Nat) (w : World) {z : Int} (k1 : n1 ≤ 1048576) (k2 : n2 ≤ 1048576) (h1 : Ns w a1 n1 c1 (marksN n1)) (h2 : Pts w a2 n2 c2 (marksP n2 (1 + n1))) (hz : ((1 + n1 + 7 * n2 : Nat) : Int) = z) :
    Calls Try.prog 33 #[.agg #[.slice a1 n1 c1, .slice a2 n2 c2], .int .i64 1] w fun e w' => e = .returned (.int .i64 z) ∧ Below w.heap.size w w' := by
  subst hz
  exact heldA_any a1 n1 c1 a2 n2 c2 w k1 k2 h1 h2
theorem heldM_z (a : Option Addr) (n cap c : Nat) (w : World) {z z2 : Int} (hn : n ≤ 1048576) (hc1 : 1 ≤ c) (hc2 : c ≤ 100000000) (h : Mgs w a n cap (marksM n c)) (hz : (c : Int) = z) (hz2 : ((c + 4 * n : Nat) : Int) = z2) :
    Calls Try.prog 34 #[.slice a n cap, .int .i64 z] w fun e w' => e = .returned (.int .i64 z2) ∧ Below w.heap.size w w' := by
  subst hz
  subst hz2
  exact heldMessageS_any a n cap c w hn hc1 hc2 h

end Go.Proofs.Ytncbgejggfkdmaa

/- Facts on a part that is added, for the laws: plain. -/
namespace Go.Proofs.Ytncbgejggfkdmaa
open Go.RowKit Go.PlainAid

/-- What is known once a part was taken. -/
structure DoneF (next : List Int) (ps : List Part) (d : Part) (rn : List Int) (rp : List Part) (rm : List Msg) : Prop where
  ok : AsmOk next ps
  part : PartOk next.length d
  c : addC ps d = 0
  r : addR next ps d = ⟨rn, rp, rm⟩
  ok2 : AsmOk rn rp
  ln : rn.length = next.length
theorem done_facts {next : List Int} {ps : List Part} {d : Part} {rn : List Int} {rp : List Part} {rm : List Msg} (hr : ansR next ps d = ⟨rn, rp, rm⟩) (hc : ansC next ps d = 0) : DoneF next ps d rn rp rm := by
  by_cases h : addsTo next ps d
  · obtain ⟨h1, h2⟩ := ansR_yes h
    rw [h1] at hr
    rw [h2] at hc
    have h3 := addR_ok h.1 h.2
    rw [hr] at h3
    exact ⟨h.1, h.2, hc, hr, h3.1, h3.2⟩
  · rw [(ansR_no h).2] at hc
    exact absurd hc (by decide)
section
variable {next : List Int} {ps : List Part} {d : Part} {rn : List Int} {rp : List Part} {rm : List Msg}
theorem DoneF.quiet (h : DoneF next ps d rn rp rm) (hm : rm = []) : rn = next ∧ rp = ps ++ [d] := by
  have h1 := add_waits h.ok h.part h.c (by rw [h.r]; exact hm)
  rw [h.r] at h1
  exact h1
theorem DoneF.told (h : DoneF next ps d rn rp rm) (hh : hasT rp d.tsn = false) : 0 < rm.length := by
  rcases Nat.eq_zero_or_pos rm.length with h0 | h0
  · have h1 := (h.quiet (List.eq_nil_of_length_eq_zero h0)).2
    rw [h1, hasT_yes (ps := ps ++ [d]) (p := d) (by simp)] at hh
    cases hh
  · exact h0
theorem DoneF.bytes (h : DoneF next ps d rn rp rm) : sumB rp + sumM rm = sumB ps + d.text.size := by
  have h1 := add_bytes h.ok h.part h.c
  rw [h.r] at h1
  exact h1
theorem DoneF.again (h : DoneF next ps d rn rp rm) (hh : hasT rp d.tsn = true) : ansC rn rp d = 1 := by
  have h1 : addsTo rn rp d := ⟨h.ok2, by rw [h.ln]; exact h.part⟩
  rw [(ansR_yes h1).2]
  unfold addC
  rw [if_pos hh]
theorem DoneF.moves (h : DoneF next ps d rn rp rm) {i : Nat} (hi : i < next.length) : nAt rn i = addS (nAt next i) ((ofS rm i).length : Int) := by
  have h1 := (addR_order h.ok h.part i hi).2.1
  rw [h.r] at h1
  exact h1
theorem DoneF.order (h : DoneF next ps d rn rp rm) {s : Nat} (hs : s < next.length) {i : Nat} (hi : i < (ofS rm s).length) : (mAt (ofS rm s) i).ssn = addS (nAt next s) (i : Int) := by
  have h1 := (addR_order h.ok h.part s hs).2.2
  rw [h.r] at h1
  have h2 := h1 i hi
  have hm : (mAt (ofS rm s) i).ssn = ((ofS rm s).map fun m => m.ssn).getD i 0 := by
    unfold mAt
    rw [List.getD_eq_getElem?_getD, List.getD_eq_getElem?_getD, List.getElem?_map, List.getElem?_eq_getElem hi]
    rfl
  rw [hm]
  exact h2
theorem DoneF.loose (h : DoneF next ps d rn rp rm) (h1 : d.first = true) (h2 : d.last = true) (h3 : d.loose = true) : ∃ i, i < rm.length ∧ mAt rm i = ⟨d.stream, d.ssn, true, d.text⟩ := by
  have h4 := add_loose h.ok h.part h.c h1 h2 h3
  rw [h.r] at h4
  obtain ⟨i, hi, h5⟩ := List.mem_iff_getElem.1 h4
  refine ⟨i, hi, ?_⟩
  unfold mAt
  rw [List.getD_eq_getElem?_getD, List.getElem?_eq_getElem hi]
  exact h5
theorem DoneF.stream (h : DoneF next ps d rn rp rm) {i : Nat} (hi : i < next.length) : Ser (nAt next i) := h.ok.nums _ (nAt_mem hi)
end
/-- The codes. -/
theorem code_twice {next : List Int} {ps : List Part} {d : Part} {rn : List Int} {rp : List Part} {rm : List Msg} {code : Int} (hr : ansR next ps d = ⟨rn, rp, rm⟩) (hc : ansC next ps d = code) (h3 : code ≠ 3) :
    (code = 1 ↔ hasT ps d.tsn = true) ∧ (code ≠ 0 → rn = next ∧ rp = ps ∧ rm = []) := by
  by_cases h : addsTo next ps d
  · obtain ⟨h1, h2⟩ := ansR_yes h
    rw [h1] at hr
    rw [h2] at hc
    refine ⟨?_, fun h0 => ?_⟩
    · subst hc
      unfold addC
      split
      · rename_i hh; simp [hh]
      · rename_i hh
        split <;> simp [hh]
    · rw [addR_not (by rw [hc]; exact h0)] at hr
      cases hr
      exact ⟨rfl, rfl, rfl⟩
  · exact absurd (hc.symm.trans (ansR_no h).2) h3
theorem code_full {next : List Int} {ps : List Part} {d : Part} {code : Int} (hc : ansC next ps d = code) :
    (code = 2 → ps.length = 12) ∧ (code = 0 → ps.length < 12) ∧ (0 ≤ code ∧ code ≤ 3) := by
  by_cases h : addsTo next ps d
  · rw [(ansR_yes h).2] at hc
    have few := h.1.few
    subst hc
    unfold addC
    split
    · exact ⟨fun h => absurd h (by decide), fun h => absurd h (by decide), by decide⟩
    · split
      · exact ⟨fun _ => by omega, fun h => absurd h (by decide), by decide⟩
      · exact ⟨fun h => absurd h (by decide), fun _ => by omega, by decide⟩
  · rw [(ansR_no h).2] at hc
    subst hc
    exact ⟨fun h => absurd h (by decide), fun h => absurd h (by decide), by decide⟩
theorem smally_keys {ps : List Part} (h : ∀ p ∈ ps, Smally p) : ∀ p ∈ ps, Key p.tsn := fun p hp => by
  have := (h p hp).1
  unfold Key
  omega
theorem smally_sum {ps : List Part} (h : ∀ p ∈ ps, Smally p) : sumB ps ≤ 30 * ps.length := by
  unfold sumB
  induction ps with
  | nil => exact Nat.le_refl _
  | cons p ps ih =>
    rw [List.map_cons, List.sum_cons, List.length_cons]
    have h1 := ih fun q hq => h q (List.mem_cons_of_mem _ hq)
    have h2 := (h p (List.mem_cons_self ..)).2.2.2
    omega
/-- What is drawn. -/
def DrewAd (w : World) (e : Ending) (w' : World) : Prop :=
  ∃ (a1 : Option Addr) (n1 c1 : Nat) (a2 : Option Addr) (n2 c2 : Nat) (es : List Int) (qs : List Part) (p : Part), e = .returned (.tuple #[.agg #[.slice a1 n1 c1, .slice a2 n2 c2], partV p]) ∧ n1 ≤ 5 ∧ n2 ≤ 24 ∧ (∀ q ∈ qs, Smally q) ∧ Smally p ∧ Ns w' a1 n1 c1 es ∧ Pts w' a2 n2 c2 qs ∧ Below w.heap.size w w'

end Go.Proofs.Ytncbgejggfkdmaa

/- What is drawn as an assembly and a part; what holds meanwhile. -/
namespace Go.Proofs.Ytncbgejggfkdmaa
open Go.RowKit Go.PlainAid

set_option maxHeartbeats 400000 in
theorem l3Add_near (a n : Int) (w : World) (h : -1 ≤ a ∧ a ≤ 65536) :
    Calls Try.prog 39 #[.int .i64 a, .int .i64 n] w fun e w' => e = .returned (.int .i64 (addS a n)) ∧ w = w' := by
  have E := Lib.hid (rem_mod a n)
  have hr : -65536 < Int.tmod n 65536 ∧ Int.tmod n 65536 < 65536 := rem_range n
  obtain ⟨t0, t1⟩ := hr
  obtain ⟨a0, a1⟩ := h
  go_enter Try.func39, Try.ntmps39
  go_wp2
  go_ret
  exact ⟨ret_i E.out, rfl⟩
theorem smally_at {qs : List Part} {i n : Nat} {p : Part} (hs : ∀ q ∈ qs, Smally q) (hl : qs.length = n) (h : i < n) (e : pAt qs i = p) : Smally p := by
  subst hl
  subst e
  exact hs _ (pAt_mem h)
theorem row_near {base e size n D : Nat} {v : Value} {xs : List Value} {w w' : World} (h : w.ownsRow base e size v n xs) (hl : ∀ x, v.ownBlock = some x → x < D) (hb : ∀ x, base ≤ x → x < D → w'.heap[x]? = w.heap[x]?) : w'.ownsRow base e size v n xs := by
  refine ⟨h.1, ?_⟩
  rcases h.2 with h1 | ⟨g, cap, cur, h1, h2, h3, h4⟩
  · exact .inl h1
  · exact .inr ⟨g, cap, cur, h1, h2, by rw [hb g h2 (hl g (by rw [h1]; rfl))]; exact h3, h4⟩
/-- Behind the draw of an assembly: the reader, the results' boxes, the assembly's box at D, its rows of one's own. -/
structure Da (B r M D R0 R : Nat) (a1 : Option Addr) (n1 c1 : Nat) (a2 : Option Addr) (n2 c2 : Nat) (es : List Int) (qs : List Part) (w W : World) : Prop where
  rd : Rd B r M W
  av : W.heap[D]? = some (.cells #[.slice a1 n1 c1, .slice a2 n2 c2] 26 (0, 0))
  q1 : W.heap[R]? = some (.cells #[.slice none 0 0, .slice none 0 0] 26 (0, 0))
  q2 : W.heap[R + 1]? = some (.cells #[.int .i64 0, .int .i64 0, .int .i64 0, .bool false, .bool false, .bool false, .string (ByteArray.mk #[])] 28 (0, 0))
  n : W.ownsRow R0 3 1 (.slice a1 n1 c1) n1 (flatN es)
  p : W.ownsRow R0 28 7 (.slice a2 n2 c2) n2 (flatP qs)
  ln : ∀ x, (Value.slice a1 n1 c1).ownBlock = some x → x < D
  lp : ∀ x, (Value.slice a2 n2 c2).ownBlock = some x → x < D
  b : Below R w W
  o1 : R + 1 < B
  o2 : r < R0
  o3 : R0 ≤ D
section
variable {B r M M' D R0 R n1 c1 n2 c2 X : Nat} {a1 a2 : Option Addr} {es : List Int} {qs : List Part} {vs : List Value} {w W W' : World}
theorem Da.lt (h : Da B r M D R0 R a1 n1 c1 a2 n2 c2 es qs w W) : D < W.heap.size := (Array.getElem?_eq_some_iff.1 h.av).1
theorem Da.var (h : Da B r M D R0 R a1 n1 c1 a2 n2 c2 es qs w W) : VarN D [.slice a1 n1 c1, .slice a2 n2 c2] W := var_of_heap h.av
theorem Da.v1 (h : Da B r M D R0 R a1 n1 c1 a2 n2 c2 es qs w W) : VarN R [.slice none 0 0, .slice none 0 0] W := var_of_heap h.q1
theorem Da.v2 (h : Da B r M D R0 R a1 n1 c1 a2 n2 c2 es qs w W) : VarN (R + 1) [.int .i64 0, .int .i64 0, .int .i64 0, .bool false, .bool false, .bool false, .string (ByteArray.mk #[])] W := var_of_heap h.q2
/-- What lies up to D stays, but for the reader's own block. -/
theorem Da.near (h : Da B r M D R0 R a1 n1 c1 a2 n2 c2 es qs w W) (hk : ∀ x, x ≤ D → x ≠ r → W'.heap[x]? = W.heap[x]?) (hr : Rd B r M' W') (hb : Below R W W') : Da B r M' D R0 R a1 n1 c1 a2 n2 c2 es qs w W' := by
  have hB := h.rd.1
  have o1 := h.o1
  have o2 := h.o2
  have o3 := h.o3
  exact ⟨hr, (hk _ (Nat.le_refl _) (by omega)).trans h.av, (hk _ (by omega) (by omega)).trans h.q1, (hk _ (by omega) (by omega)).trans h.q2, row_near h.n h.ln fun x h1 h2 => hk x (by omega) (by omega), row_near h.p h.lp fun x h1 h2 => hk x (by omega) (by omega), h.ln, h.lp, h.b.trans hb, o1, o2, o3⟩
theorem Da.by (h : Da B r M D R0 R a1 n1 c1 a2 n2 c2 es qs w W) (hk : Aside W.heap.size r W W') (hr : Rd B r M' W') (hb : Below R W W') : Da B r M' D R0 R a1 n1 c1 a2 n2 c2 es qs w W' :=
  h.near (fun x hx hne => hk x (Nat.lt_of_le_of_lt hx h.lt) hne) hr hb
theorem Da.only (h : Da B r M D R0 R a1 n1 c1 a2 n2 c2 es qs w W) (ho : Only r W W') (hr : Rd B r M' W') : Da B r M' D R0 R a1 n1 c1 a2 n2 c2 es qs w W' := h.by ho.aside hr (ho.below (Nat.le_trans (Nat.le_of_lt (Nat.lt_of_succ_lt h.o1)) h.rd.1))
theorem Da.up (h : Da B r M D R0 R a1 n1 c1 a2 n2 c2 es qs w W) (hb : Below W.heap.size W W') : Da B r M D R0 R a1 n1 c1 a2 n2 c2 es qs w W' :=
  h.by (below_aside hb (Nat.le_refl _)) (h.rd.keep hb h.rd.2.1) (hb.mono (by have := h.lt; have := h.o1; have := h.o2; have := h.o3; have := h.rd.1; omega))
theorem Da.new {w1 w2 : World} (h0 : R + 1 < B) (hr : Rd B r M w2) (o1 : w2.ownsRow w1.heap.size 3 1 (.slice a1 n1 c1) n1 (flatN es)) (o2 : w2.ownsRow w1.heap.size 28 7 (.slice a2 n2 c2) n2 (flatP qs)) (hrz : r < w1.heap.size) (hb : Below R w w2)
    (q1 : w2.heap[R]? = some (.cells #[.slice none 0 0, .slice none 0 0] 26 (0, 0))) (q2 : w2.heap[R + 1]? = some (.cells #[.int .i64 0, .int .i64 0, .int .i64 0, .bool false, .bool false, .bool false, .string (ByteArray.mk #[])] 28 (0, 0))) (hz : w1.heap.size ≤ w2.heap.size) :
    Da B r M w2.heap.size w1.heap.size R a1 n1 c1 a2 n2 c2 es qs w (w2.alloc (.cells (List.toArray [.slice a1 n1 c1, .slice a2 n2 c2]) 26)) := by
  have BX := below_box (w := w2) (.cells (List.toArray [.slice a1 n1 c1, .slice a2 n2 c2]) 26) (Nat.le_refl _)
  have z1 : R < w2.heap.size := (Array.getElem?_eq_some_iff.1 q1).1
  have z2 : R + 1 < w2.heap.size := (Array.getElem?_eq_some_iff.1 q2).1
  exact ⟨hr.alloc _, heap_alloc_new w2 _, (BX.block _ z1).trans q1, (BX.block _ z2).trans q2, o1.alloc _, o2.alloc _, fun x hx => (row_lt o1 hx).2, fun x hx => (row_lt o2 hx).2, hb.alloc (by omega) _, h0, hrz, hz⟩
/-- Likewise, and a part's box at X. -/
structure De (B r M D R0 R : Nat) (a1 : Option Addr) (n1 c1 : Nat) (a2 : Option Addr) (n2 c2 : Nat) (es : List Int) (qs : List Part) (X : Nat) (vs : List Value) (w W : World) : Prop where
  z : Da B r M D R0 R a1 n1 c1 a2 n2 c2 es qs w W
  x : W.heap[X]? = some (.cells vs.toArray 28 (0, 0))
  lt : D < X
theorem De.var (h : De B r M D R0 R a1 n1 c1 a2 n2 c2 es qs X vs w W) : VarN X vs W := var_of_heap h.x
theorem Da.box (h : Da B r M D R0 R a1 n1 c1 a2 n2 c2 es qs w W) (vs : List Value) : De B r M D R0 R a1 n1 c1 a2 n2 c2 es qs W.heap.size vs w (W.alloc (.cells vs.toArray 28)) :=
  ⟨h.up (below_box _ (Nat.le_refl _)), heap_alloc_new W _, h.lt⟩
theorem De.only (h : De B r M D R0 R a1 n1 c1 a2 n2 c2 es qs X vs w W) (ho : Only r W W') (hr : Rd B r M' W') : De B r M' D R0 R a1 n1 c1 a2 n2 c2 es qs X vs w W' :=
  ⟨h.z.only ho hr, (ho.aside (C := W.heap.size) X (Array.getElem?_eq_some_iff.1 h.x).1 (by have := h.lt; have := h.z.o2; have := h.z.o3; omega)).trans h.x, h.lt⟩
theorem De.up (h : De B r M D R0 R a1 n1 c1 a2 n2 c2 es qs X vs w W) (hb : Below W.heap.size W W') : De B r M D R0 R a1 n1 c1 a2 n2 c2 es qs X vs w W' :=
  ⟨h.z.up hb, (hb.block X (Array.getElem?_eq_some_iff.1 h.x).1).trans h.x, h.lt⟩
theorem rd_cell {i : Nat} (h : Rd B r M W) (hX : r < X) (u : Value) : Rd B r M (W.setCell ⟨X, i, none⟩ u) := h.keep ((Below.refl X W).setCell (p := ⟨X, i, none⟩) (Nat.le_refl _) u) hX
theorem De.set (h : De B r M D R0 R a1 n1 c1 a2 n2 c2 es qs X vs w W) (i : Nat) (u : Value) : De B r M D R0 R a1 n1 c1 a2 n2 c2 es qs X (vs.set i u) w (W.setCell ⟨X, i, none⟩ u) := by
  have hl := h.lt
  have o1 := h.z.o1
  have o2 := h.z.o2
  have o3 := h.z.o3
  have hB := h.z.rd.1
  refine ⟨h.z.near (fun x hx _ => Below.heap_setCell _ _ _ _ (by dsimp only; omega)) (rd_cell h.z.rd (by omega) u) ((Below.refl _ _).setCell (p := ⟨X, i, none⟩) (by dsimp only; omega) u), ?_, hl⟩
  rw [heap_setCell_same W X i _ _ u h.x]
  simp
theorem De.fin {p : Part} {e : Ending} (h : De B r M D R0 R a1 n1 c1 a2 n2 c2 es qs X (cellsP p) w W) (hn1 : n1 ≤ 5) (hn2 : n2 ≤ 24) (hs : ∀ q ∈ qs, Smally q) (hp : Smally p) (hk : ∀ x, R + 1 < x → W'.heap[x]? = W.heap[x]?) (hb : Below R W W') (hR : w.heap.size = R) (he : e = .returned (.tuple #[.agg #[.slice a1 n1 c1, .slice a2 n2 c2], partV p])) : DrewAd w e W' := by
  have o1 := h.z.o1
  have o2 := h.z.o2
  have hB := h.z.rd.1
  exact ⟨a1, n1, c1, a2, n2, c2, es, qs, p, he, hn1, hn2, hs, hp, own_ns (row_near h.z.n h.z.ln fun x h1 _ => hk x (by omega)), own_pts (row_near h.z.p h.z.lp fun x h1 _ => hk x (by omega)), by rw [hR]; exact h.z.b.trans hb⟩
theorem put2 {b e : Nat} {u0 u1 : Value} (h : W.heap[b]? = some (.cells #[u0, u1] e (0, 0))) (v0 v1 : Value) :
    ∃ W9, (W.setCell ⟨b, 0, none⟩ v0).setCell ⟨b, 1, none⟩ v1 = W9 ∧ W9.heap[b]? = some (.cells #[v0, v1] e (0, 0)) ∧ (∀ x, x ≠ b → W9.heap[x]? = W.heap[x]?) ∧ Below b W W9 :=
  ⟨_, rfl, box_set h v0 v1, fun x hx => by rw [Below.heap_setCell _ _ _ _ hx, Below.heap_setCell _ _ _ _ hx], ((Below.refl b W).setCell (p := ⟨b, 0, none⟩) (Nat.le_refl b) _).setCell (p := ⟨b, 1, none⟩) (Nat.le_refl b) _⟩
theorem put7 {b e : Nat} {u0 u1 u2 u3 u4 u5 u6 : Value} (h : W.heap[b]? = some (.cells #[u0, u1, u2, u3, u4, u5, u6] e (0, 0))) (v0 v1 v2 v3 v4 v5 v6 : Value) :
    ∃ W9, ((((((W.setCell ⟨b, 0, none⟩ v0).setCell ⟨b, 1, none⟩ v1).setCell ⟨b, 2, none⟩ v2).setCell ⟨b, 3, none⟩ v3).setCell ⟨b, 4, none⟩ v4).setCell ⟨b, 5, none⟩ v5).setCell ⟨b, 6, none⟩ v6 = W9 ∧ W9.heap[b]? = some (.cells #[v0, v1, v2, v3, v4, v5, v6] e (0, 0)) ∧ (∀ x, x ≠ b → W9.heap[x]? = W.heap[x]?) ∧ Below b W W9 :=
  ⟨_, rfl, by rw [heap_set_at (heap_set_at (heap_set_at (heap_set_at (heap_set_at (heap_set_at (heap_set_at h _) _) _) _) _) _) _]; rfl,
    fun x hx => by rw [Below.heap_setCell _ _ _ _ hx, Below.heap_setCell _ _ _ _ hx, Below.heap_setCell _ _ _ _ hx, Below.heap_setCell _ _ _ _ hx, Below.heap_setCell _ _ _ _ hx, Below.heap_setCell _ _ _ _ hx, Below.heap_setCell _ _ _ _ hx],
    (((((((Below.refl b W).setCell (p := ⟨b, 0, none⟩) (Nat.le_refl b) _).setCell (p := ⟨b, 1, none⟩) (Nat.le_refl b) _).setCell (p := ⟨b, 2, none⟩) (Nat.le_refl b) _).setCell (p := ⟨b, 3, none⟩) (Nat.le_refl b) _).setCell (p := ⟨b, 4, none⟩) (Nat.le_refl b) _).setCell (p := ⟨b, 5, none⟩) (Nat.le_refl b) _).setCell (p := ⟨b, 6, none⟩) (Nat.le_refl b) _⟩
theorem De.ret {p : Part} (h : De B r M D R0 R a1 n1 c1 a2 n2 c2 es qs X (cellsP p) w W) (hn1 : n1 ≤ 5) (hn2 : n2 ≤ 24) (hs : ∀ q ∈ qs, Smally q) (hp : Smally p) (hR : w.heap.size = R) :
    ∃ W9, (((((((((W.setCell ⟨R, 0, none⟩ (.slice a1 n1 c1)).setCell ⟨R, 1, none⟩ (.slice a2 n2 c2)).setCell ⟨R + 1, 0, none⟩ (.int .i64 p.tsn)).setCell ⟨R + 1, 1, none⟩ (.int .i64 p.stream)).setCell ⟨R + 1, 2, none⟩ (.int .i64 p.ssn)).setCell ⟨R + 1, 3, none⟩ (.bool p.first)).setCell ⟨R + 1, 4, none⟩ (.bool p.last)).setCell ⟨R + 1, 5, none⟩ (.bool p.loose)).setCell ⟨R + 1, 6, none⟩ (.string p.text)).drew = W9 ∧ VarN R [.slice a1 n1 c1, .slice a2 n2 c2] W9 ∧ VarN (R + 1) (cellsP p) W9 ∧ DrewAd w (.returned (.tuple #[.agg #[.slice a1 n1 c1, .slice a2 n2 c2], partV p])) W9 := by
  obtain ⟨W2, e2, f2, k2, b2⟩ := put2 h.z.q1 (.slice a1 n1 c1) (.slice a2 n2 c2)
  rw [e2]
  obtain ⟨W7, e7, f7, k7, b7⟩ := put7 ((k2 (R + 1) (by omega)).trans h.z.q2) (.int .i64 p.tsn) (.int .i64 p.stream) (.int .i64 p.ssn) (.bool p.first) (.bool p.last) (.bool p.loose) (.string p.text)
  rw [e7]
  have g2 : W7.drew.heap[R]? = some (.cells #[.slice a1 n1 c1, .slice a2 n2 c2] 26 (0, 0)) := (k7 R (by omega)).trans f2
  have g7 : W7.drew.heap[R + 1]? = some (.cells (cellsP p).toArray 28 (0, 0)) := f7
  exact ⟨_, rfl, var_of_heap g2, var_of_heap g7, h.fin hn1 hn2 hs hp (fun x hx => (k7 x (by omega)).trans (k2 x (by omega))) (Below.drew (b2.trans (b7.mono (Nat.le_succ R)))) hR rfl⟩
theorem De.put {p : Part} {u0 u1 u2 u3 u4 u5 u6 : Value} (h : De B r M D R0 R a1 n1 c1 a2 n2 c2 es qs X [u0, u1, u2, u3, u4, u5, u6] w W) :
    ∃ W9, ((((((W.setCell ⟨X, 0, none⟩ (.int .i64 p.tsn)).setCell ⟨X, 1, none⟩ (.int .i64 p.stream)).setCell ⟨X, 2, none⟩ (.int .i64 p.ssn)).setCell ⟨X, 3, none⟩ (.bool p.first)).setCell ⟨X, 4, none⟩ (.bool p.last)).setCell ⟨X, 5, none⟩ (.bool p.loose)).setCell ⟨X, 6, none⟩ (.string p.text) = W9 ∧ De B r M D R0 R a1 n1 c1 a2 n2 c2 es qs X (cellsP p) w W9 := by
  have hl := h.lt
  have o1 := h.z.o1
  have o2 := h.z.o2
  have o3 := h.z.o3
  have hB := h.z.rd.1
  obtain ⟨W7, e7, f7, k7, b7⟩ := put7 h.x (.int .i64 p.tsn) (.int .i64 p.stream) (.int .i64 p.ssn) (.bool p.first) (.bool p.last) (.bool p.loose) (.string p.text)
  exact ⟨W7, e7, h.z.near (fun x hx _ => k7 x (by omega)) (h.z.rd.keep b7 (by omega)) (b7.mono (by omega)), f7, hl⟩
theorem Da.late (h : Da B r M D R0 R a1 n1 c1 a2 n2 c2 es qs w W) (p : Part) :
    ∃ W9, W.alloc (.cells #[.int .i64 p.tsn, .int .i64 p.stream, .int .i64 p.ssn, .bool p.first, .bool p.last, .bool p.loose, .string p.text] 28) = W9 ∧ De B r M D R0 R a1 n1 c1 a2 n2 c2 es qs W.heap.size (cellsP p) w W9 := ⟨_, rfl, h.box (cellsP p)⟩
end

end Go.Proofs.Ytncbgejggfkdmaa
