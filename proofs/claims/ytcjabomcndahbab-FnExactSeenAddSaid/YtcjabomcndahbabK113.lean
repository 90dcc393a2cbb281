/- The contracts of container/heap's Push and Pop at the program's heap; the nearest part taken out. -/
import Derived.Test.YtcjabomcndahbabK112
namespace Go.Proofs.Ytcjabomcndahbab
open Go.RowKit Go.PlainAid

set_option maxHeartbeats 1000000 in
theorem hPush_any (B P n cap : Nat) (q : Option Addr) (es : List Int) (z : Int) (w : World) (h : Hq B P q n cap es w) (hn : n ≤ 1000) (hh : HeapOk es n) :
    Calls Try.prog 35 #[.iface 48 (.pointer (some ⟨P, 0, none⟩)), .iface 3 (.int .i64 z)] w fun e w' => e = .returned (.tuple #[]) ∧ (∃ g cap3 ds, HeapOk ds (n + 1) ∧ ds.Perm (es ++ [z]) ∧ Hp B P g (n + 1) cap3 ds w') ∧ Below B w w' := by
  have hl : es.length = n := by have := h.own.1; rw [flatN_length] at this; omega
  have HQ := Lib.hid h
  have HU := Lib.hid (up_start hl hh z)
  clear h hh
  have e1 : IntKind.i64.wrap (((n + 1 : Nat) : Int) - 1) = (n : Int) := by rw [IntWalk.i64_in _ ⟨by omega, by omega⟩]; omega
  have e2 : IntKind.i64.wrap ((n : Int) + 1 - 1) = (n : Int) := by rw [IntWalk.i64_in _ ⟨by omega, by omega⟩]; omega
  go_enter Try.func35, Try.ntmps35
  go_wp2_with fail
  refine (hPushM_any B P n cap q es z _ HQ.out hn).mono ?_
  rintro e w1 ⟨rfl, ⟨g, cap3, hp⟩, hb1⟩
  have H1 := Lib.hid hp
  have B1 := Lib.hid hb1
  clear hp hb1
  have hc := H1.out.cell
  have mL := method_len hc
  go_wp2_with fail
  refine (hLen_any _ _ _ _).mono ?_
  rintro e w2 ⟨rfl, rfl⟩
  go_wp2_with fail
  refine (hUp_any B P g (n + 1) cap3 _ n _ H1.out (by omega) HU.out).mono ?_
  rintro e w2 ⟨rfl, ds, hd, hperm, hp2, hf2⟩
  have HD := Lib.hid (And.intro hd (And.intro hperm hp2))
  have B2 := Lib.hid (B1.out.trans (hf2.below H1.out.ge H1.out.bp (Nat.le_trans H1.out.bp (Nat.le_of_lt H1.out.lt.2))))
  clear hd hperm hp2 hf2 hc mL
  go_wp2
  go_end0
  exact ⟨rfl, ⟨g, cap3, ds, HD.out.1, HD.out.2.1, HD.out.2.2⟩, B2.out⟩

theorem hSwap_top (B g n cap : Nat) (es : List Int) (j : Nat) (w : World) (h : w.ownsRow B 3 1 (.slice (some ⟨g, 0, none⟩) n cap) n (flatN es)) (hj : j < n) :
    Calls Try.prog 80 #[.slice (some ⟨g, 0, none⟩) n cap, .int .i64 0, .int .i64 j] w fun e w' => e = .returned (.tuple #[]) ∧ w'.ownsRow B 3 1 (.slice (some ⟨g, 0, none⟩) n cap) n (flatN (swapL es 0 j)) ∧ w.grownBy w' (some g) :=
  hSwap_any B g n cap es 0 j w h (by omega) hj

set_option maxHeartbeats 1000000 in
theorem hPop_any (B P g n m cap : Nat) (es : List Int) (w : World) (h : Hp B P g n cap es w) (hnm : n = m + 1) (hn : n ≤ 1000) (hh : HeapOk es n) :
    Calls Try.prog 57 #[.iface 48 (.pointer (some ⟨P, 0, none⟩))] w fun e w' => ∃ z rest, e = .returned (.iface 3 (.int .i64 z)) ∧ Popped es z rest ∧ Hp B P g m cap rest w' ∧ Fh g P w w' := by
  have hl := h.len
  have H0 := Lib.hid h
  obtain ⟨xs, hxs⟩ : ∃ xs, swapL es 0 m = xs := ⟨_, rfl⟩
  obtain ⟨t, ht⟩ : ∃ t, nAt xs m = t := ⟨_, rfl⟩
  have HU := Lib.hid (show DnOk xs m 0 from hxs ▸ dn_start (by omega) (by rw [← hnm]; exact hh))
  have HX := Lib.hid (And.intro hxs ht)
  have HN := Lib.hid hnm
  have mn : m < n := by omega
  clear h hh hxs ht
  have e1 : IntKind.i64.wrap ((n : Int) - 1) = (m : Int) := by rw [IntWalk.i64_in _ ⟨by omega, by omega⟩]; omega
  have e2 : (n : Int) - 1 = (m : Int) := by omega
  clear hnm
  have hc := H0.out.cell
  have mL := method_len hc
  have mS := method_swap hc
  go_enter Try.func57, Try.ntmps57
  go_wp2_with fail
  refine (hLen_any _ _ _ _).mono ?_
  rintro e w1 ⟨rfl, rfl⟩
  go_wp2_with fail
  refine (hSwap_top B g n cap es m _ H0.out.own mn).mono ?_
  rw [HX.out.1]
  rintro e w1 ⟨rfl, ho, hg⟩
  have H1 := Lib.hid (H0.out.row ho hg)
  have F1 := Lib.hid (Fh.of_grown (P := P) hg)
  clear ho hg hc mL mS
  go_wp2_with fail
  refine (hDown_any B P g n cap xs m _ H1.out (Nat.le_of_lt mn) hn HU.out t (fun _ => HX.out.2)).mono ?_
  rintro e w2 ⟨⟨v, rfl⟩, ds, hd, hperm, hz, hp2, hf2⟩
  have H2 := Lib.hid hp2
  have F2 := Lib.hid (F1.out.trans hf2)
  have HP := Lib.hid (show Popped es (nAt ds m) (ds.take m) from popped (by have := HN.out; omega) (by have := hp2.len; have := HN.out; omega) (by rw [HX.out.1]; exact hperm) hd (by rw [HX.out.1, HX.out.2]; exact hz mn))
  clear hd hperm hz hp2 hf2
  go_wp2_with fail
  refine (hPopM_any B P g n m cap ds _ H2.out HN.out hn).mono ?_
  rintro e w3 ⟨rfl, hp3, hf3⟩
  have H3 := Lib.hid hp3
  have F3 := Lib.hid (F2.out.trans hf3)
  clear hp3 hf3
  go_wp2
  go_ret
  exact ⟨_, _, rfl, HP.out, H3.out, F3.out⟩

set_option maxHeartbeats 1000000 in
theorem hNext_yes (B P g n m cap : Nat) (es : List Int) (s : Int) (w : World) (h : Hp B P g n cap es w) (hnm : n = m + 1) (hn : n ≤ 1000) (hh : HeapOk es n) (hs : nAt es 0 = s) :
    Calls Try.prog 55 #[.pointer (some ⟨P, 0, none⟩), .int .i64 s] w fun e w' => e = .returned (.bool true) ∧ ∃ z rest, Popped es z rest ∧ Hp B P g m cap rest w' ∧ Fh g P w w' := by
  have H0 := Lib.hid h
  have HH := Lib.hid hh
  have hc := h.cell
  have c0 : w.cell? ⟨g, 0, none⟩ = some (.int .i64 s) := by have := h.ns.at (Below.refl _ _) (k := 0) (by omega); rw [n_add, hs] at this; exact this
  have hm := h.ns.len_int
  have nz : ¬ (n : Int) = 0 := by omega
  have nz' : ¬ n = 0 := by omega
  have n0 : (0 : Int) < n := by omega
  have nz1 : ((n : Int) == 0) = false := by simpa using nz'
  have HN := Lib.hid hnm
  clear h hh hs hnm
  go_enter Try.func55, Try.ntmps55
  go_wp2_with fail
  refine (hLen_any _ _ _ _).mono ?_
  rintro e w1 ⟨rfl, rfl⟩
  go_wp2_with fail
  refine (hPop_any B P g n m cap es _ H0.out HN.out hn HH.out).mono ?_
  rintro e w2 ⟨z, rest, rfl, hp, h2, f2⟩
  have K := Lib.hid (And.intro hp (And.intro h2 f2))
  clear hp h2 f2
  go_wp2
  go_ret
  exact ⟨rfl, z, rest, K.out.1, K.out.2.1, K.out.2.2⟩

set_option maxHeartbeats 1000000 in
theorem hNext_no (B P g n cap : Nat) (es : List Int) (s : Int) (w : World) (h : Hp B P g n cap es w) (hs : n = 0 ∨ nAt es 0 ≠ s) :
    Calls Try.prog 55 #[.pointer (some ⟨P, 0, none⟩), .int .i64 s] w fun e w' => e = .returned (.bool false) ∧ w = w' := by
  have hc := h.cell
  have hm := h.ns.len_int
  by_cases hz : n = 0
  · have nz : (n : Int) = 0 := by omega
    subst hz
    clear h hs
    go_enter Try.func55, Try.ntmps55
    go_wp2_with fail
    refine (hLen_any _ _ _ _).mono ?_
    rintro e w1 ⟨rfl, rfl⟩
    go_wp2
    go_ret
    exact ⟨rfl, rfl⟩
  · have c0 : w.cell? ⟨g, 0, none⟩ = some (.int .i64 (nAt es 0)) := by have := h.ns.at (Below.refl _ _) (k := 0) (by omega); rw [n_add] at this; exact this
    obtain ⟨t, ht⟩ : ∃ t, nAt es 0 = t := ⟨_, rfl⟩
    rw [ht] at c0 hs
    have hne : ¬ t = s := hs.elim (fun h => absurd h hz) (fun h => h)
    have nz : ¬ (n : Int) = 0 := by omega
    have n0 : (0 : Int) < n := by omega
    have nz1 : ((n : Int) == 0) = false := by simpa using hz
    clear h hs ht
    go_enter Try.func55, Try.ntmps55
    go_wp2_with fail
    refine (hLen_any _ _ _ _).mono ?_
    rintro e w1 ⟨rfl, rfl⟩
    go_wp2
    go_ret
    exact ⟨rfl, rfl⟩

end Go.Proofs.Ytcjabomcndahbab
