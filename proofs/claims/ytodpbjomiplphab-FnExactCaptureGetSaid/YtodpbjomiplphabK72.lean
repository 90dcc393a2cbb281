/- The contracts of chapter 14's model: the records at the beginning of bytes. -/
import Derived.Test.YtodpbjomiplphabK71
import Derived.Test.YtodpbjomiplphabK2
import Derived.Test.YtodpbjomiplphabK40
import Derived.Deep.RegionLaw
import Derived.Deep.CutRange
import Derived.Deep.AppendLies
import Derived.IntWalk
namespace Go.Proofs.Ytodpbjomiplphab
open Go.RowKit Go.PlainAid

theorem l1At_at (s : ByteArray) (p : Nat) (z : Int) (hz : z = p) (w : World) (hs : s.size ≤ maxLen) (h : p + 2 ≤ s.size) :
    Calls Try.prog 31 #[.string s, .int .i64 z] w fun e w' => e = .returned (.int .i64 (be s p 2)) ∧ ∃ q, w' = w.drewN q := by
  subst hz
  rw [be_two]
  exact l1At_any s p w hs h
/-- While records are read. -/
structure Rbg (k g cap : Nat) (rs : List (Int × ByteArray)) (w W : World) : Prop where
  own : W.ownsRow w.heap.size 33 2 (.slice (some ⟨g, 0, none⟩) k cap) k (flatR rs)
  b : Below w.heap.size w W
section
variable {k g cap : Nat} {rs : List (Int × ByteArray)} {w W W' : World}
theorem Rbg.up (h : Rbg k g cap rs w W) (hb : Below W.heap.size W W') : Rbg k g cap rs w W' := ⟨rowBelow h.own hb (rowLt h.own), h.b.trans (hb.mono h.b.size)⟩
theorem Rbg.far {d i : Nat} (h : Rbg k g cap rs w W) (hd : g ≠ d) (hw : w.heap.size ≤ d) (v : Value) : Rbg k g cap rs w (W.setCell ⟨d, i, none⟩ v) := ⟨rowFar h.own hd v, h.b.setCell (p := ⟨d, i, none⟩) hw v⟩
theorem Rbg.push {W1 : World} {g2 cap2 : Nat} {c : Int × ByteArray} (h : Rbg k g cap rs w W) (hgrow : W.grownBy W1 (some g)) (hown : W1.ownsRow w.heap.size 33 2 (.slice (some ⟨g2, 0, none⟩) (k + 1) cap2) (k + 1) (flatR rs ++ [.int .i64 c.1, .string c.2])) : Rbg (k + 1) g2 cap2 (rs ++ [c]) w W1 :=
  ⟨by rw [flatR_append]; exact hown, Below.grown h.b hgrow h.b.size fun x hx => by cases hx; exact own_ge h.own rfl⟩
end
/-- What CaptureBegin answers. -/
def GotB (w : World) (s : ByteArray) (e : Ending) (w' : World) : Prop :=
  (∃ rs q x k cap, BeginIs s rs q ∧ e = .returned (.tuple #[.slice (some ⟨x, 0, none⟩) k cap, .int .i64 (q : Nat)]) ∧ Rbg k x cap rs w w')
  ∨ (¬ (4 ≤ s.size ∧ s.extract 0 4 = tap1) ∧ ∃ x, e = .returned (.tuple #[.slice (some ⟨x, 0, none⟩) 0 0, .int .i64 0]) ∧ Rbg 0 x 0 [] w w')

set_option maxHeartbeats 4000000 in
theorem sCaptureBegin_any (s : ByteArray) (w : World) (hs : s.size ≤ 100000000) :
    Calls Try.prog 12 #[.string s] w fun e w' => GotB w s e w' := by
  have hm : s.size ≤ maxLen := Nat.le_trans hs (by decide)
  have O0 := Lib.hid (show Rbg 0 w.heap.size 0 [] w (w.alloc (.cells #[] 33)) from ⟨World.ownsRow_lit (base := w.heap.size) (e := 33) (size := 2) w #[] 0 (Nat.le_refl _) (by decide) rfl, below_box _ (Nat.le_refl _)⟩)
  by_cases h4 : s.size < 4
  · have c4 : (s.size : Int) < 4 := by omega
    go_enter Try.func12, Try.ntmps12
    go_wp2
    go_ret2
    exact .inr ⟨fun h => by omega, w.heap.size, rfl, O0.out⟩
  have c4 : ¬ (s.size : Int) < 4 := by omega
  have d4 : (4 : Int) ≤ (s.size : Int) := by omega
  by_cases ht : s.extract 0 4 = tap1
  case neg =>
    have hne := text_ne ht
    have HT := Lib.hid ht
    have hne' : ((s.extract 0 4).toList == [116, 97, 112, 49]) = false := by
      rw [show tap1.toList = [116, 97, 112, 49] by rw [ByteArray.toList_eq]; rfl] at hne
      exact hne
    have hne2 : ¬ (s.extract 0 4).toList = [116, 97, 112, 49] := by simpa using hne'
    clear ht hne
    go_enter Try.func12, Try.ntmps12
    go_wp2
    go_ret2
    exact .inr ⟨fun h => HT.out h.2, w.heap.size, rfl, O0.out⟩
  case pos =>
    have HT := Lib.hid (And.intro (show 4 ≤ s.size by omega) ht)
    have ht' : s.extract 0 4 = ByteArray.mk #[116, 97, 112, 49] := ht
    clear ht
    go_enter Try.func12, Try.ntmps12
    go_wp2
    obtain ⟨i0, hi, hz0, hz1, hz2⟩ := info_parts info_rc
    have HI := Lib.hid (And.intro hi (And.intro hz0 (And.intro hz1 hz2)))
    clear hi hz0 hz1 hz2 ht'
    go_loopw [4, 5, 6] (fun o a l wr => ∃ (k g cap q : Nat) (rs : List (Int × ByteArray)), o = .slice (some ⟨g, 0, none⟩) k cap ∧ a = .int .i64 q ∧ l = .int .i64 (lastT 0 rs) ∧ Hid (RunR s 4 0 rs q) ∧ q ≤ s.size ∧ rs.length = k ∧ k ≤ 60 ∧ Hid (Rbg k g cap rs w wr)) (fun _ a _ _ => s.size + 1 - (intOf a).toNat)
    case atStart => exact ⟨0, w.heap.size, 0, 4, [], rfl, rfl, rfl, Lib.hid rfl, by omega, rfl, by omega, O0⟩
    case round =>
      obtain ⟨k, g, cap, q, rs, rfl, rfl, rfl, hrun, hq, hk, hk6, hr⟩ := hrel
      clear O0
      have w6 : IntKind.i64.wrap ((q : Int) + 6) = (q : Int) + 6 := IntWalk.i64_in _ ⟨by omega, by omega⟩
      by_cases h6 : q + 6 ≤ s.size
      · have c6 : (q : Int) + 6 ≤ (s.size : Int) := by omega
        by_cases hlt : k < 60
        · have clt : (k : Int) < 60 := by omega
          go_wp2_with fail
          refine (l1At_at s (q + 4) _ rfl _ hm (by omega)).mono ?_
          rintro e w1 ⟨rfl, q1, rfl⟩
          have hr1 := Lib.hid (hr.out.up (below_drewN (Below.refl _ wr) q1))
          obtain ⟨m, hmm⟩ : ∃ m, lenR s q = m := ⟨_, rfl⟩
          have bm := be_two_bound s (q + 4)
          have em : be s (q + 4) 2 = (m : Int) := by rw [← hmm, lenR_int]
          rw [em] at bm ⊢
          have w7 : IntKind.i64.wrap ((q : Int) + 6 + m) = (q : Int) + 6 + m := IntWalk.i64_in _ ⟨by omega, by omega⟩
          by_cases he : q + 6 + m ≤ s.size
          · have A1 := fun w => l1At_at s q _ rfl w hm (by omega)
            have A2 := fun w => l1At_at s (q + 2) ((q : Int) + 2) (by omega) w hm (by omega)
            have ce : ¬ (q : Int) + 6 + m > (s.size : Int) := by omega
            have p1 := be_two_bound s q
            have p2 := be_two_bound s (q + 2)
            have v2 : IntKind.i64.wrap ((q : Int) + 2) = (q : Int) + 2 := IntWalk.i64_in _ ⟨by omega, by omega⟩
            have v3 : IntKind.i64.wrap (65536 * be s q 2) = 65536 * be s q 2 := IntWalk.i64_in _ ⟨by omega, by omega⟩
            have v4 : IntKind.i64.wrap (65536 * be s q 2 + be s (q + 2) 2) = 65536 * be s q 2 + be s (q + 2) 2 := IntWalk.i64_in _ ⟨by omega, by omega⟩
            have k1 : (0 : Int) ≤ (q : Int) + 6 := by omega
            have k2 : (q : Int) + 6 ≤ (q : Int) + 6 + m := by omega
            have k3 : (q : Int) + 6 + m ≤ (s.size : Int) := by omega
            have n1 : ((q : Int) + 6).toNat = q + 6 := by omega
            have n2 : ((q : Int) + 6 + m).toNat = q + 6 + m := by omega
            clear p1 p2
            have NN := fun N => VarN.new_at (w := wr.drewN N) (d := wr.heap.size) (by simp) [.int .i64 0, .string (ByteArray.mk #[])] 33
            have C0 := fun N => (NN N 0 _ rfl).1
            have C1 := fun N => (NN N 1 _ rfl).1
            have F0 := fun N => (NN N 0 _ rfl).2
            have F1 := fun N => (NN N 1 _ rfl).2
            have N0 := Lib.hid NN
            have B0 := Lib.hid (fun N => (below_drewN (Below.refl wr.heap.size wr) N).alloc (by simp) (.cells #[.int .i64 0, .string (ByteArray.mk #[])] 33))
            clear NN
            go_upto_region 10 with fail
            go_cut [8] from 42 to 56 (fun x wx => x = .pointer (some ⟨wr.heap.size, 0, none⟩) ∧ VarN wr.heap.size [.int .i64 (65536 * be s q 2 + be s (q + 2) 2), .string (s.extract (q + 6) (q + 6 + m))] wx ∧ Below wr.heap.size wr wx)
            case first =>
              go_region_law (first | (go_simp; go_at_call 31; (first | with_reducible refine (A1 _).mono ?_ | with_reducible refine (A2 _).mono ?_); rintro e w2 ⟨rfl, q2, rfl⟩; dsimp only))
              all_goals
                go_wp2_with fail
                go_meet
                refine ⟨rfl, ?_, ?_⟩
                · exact ((N0.out _).set (i := 0) _).set (i := 1) _
                · first
                    | exact ((B0.out _).setCell (p := ⟨wr.heap.size, 0, none⟩) (Nat.le_refl _) _).setCell (p := ⟨wr.heap.size, 1, none⟩) (Nat.le_refl _) _
                    | exact ((below_drewN (B0.out _) _).setCell (p := ⟨wr.heap.size, 0, none⟩) (Nat.le_refl _) _).setCell (p := ⟨wr.heap.size, 1, none⟩) (Nat.le_refl _) _
            case rest =>
              obtain ⟨rfl, hv, hb⟩ := hcut
              rw [← be_four] at hv
              have lb : (s.extract (q + 6) (q + 6 + m)).size ≤ 9223372036854775807 := by rw [size_cut _ _ _ he]; omega
              have HA := Lib.hid (show recAt s q = (be s q 4, s.extract (q + 6) (q + 6 + m)) by rw [← hmm]; rfl)
              have HE := Lib.hid (show recEnd s q = q + 6 + m by rw [← hmm]; rfl)
              obtain ⟨t, ht⟩ : ∃ t, be s q 4 = t := ⟨_, rfl⟩
              obtain ⟨b, hbt⟩ : ∃ b, s.extract (q + 6) (q + 6 + m) = b := ⟨_, rfl⟩
              rw [hbt] at hv lb HA
              rw [ht] at hv HA
              have e0 := (hv 0 _ rfl).1
              have e1 := (hv 1 _ rfl).1
              have hr2 := Lib.hid (hr.out.up hb)
              have HV := Lib.hid hv
              have lx : wr.heap.size < wc.heap.size := lt_of_cell e0
              have gx : g < wr.heap.size := rowLt hr.out.own
              clear hv hb C0 C1 F0 F1 N0 B0 A1 A2 hbt ht v2 v3 v4 k1 k2 n1 n2 em bm hmm
              go_wp2_with fail
              refine (sRecord_any t (lastT 0 rs) b _ lb).mono ?_
              rintro e w2 ⟨rfl, hb2⟩
              have HR2 := Lib.hid (hr2.out.up hb2)
              have HV2 := HV.out.below hb2 lx
              have lx2 := Nat.lt_of_lt_of_le lx hb2.size
              clear hb2 hr2 HV e0 e1
              have e0 := (HV2 0 _ rfl).1
              have e1 := (HV2 1 _ rfl).1
              by_cases hok : RecOk (lastT 0 rs) (t, b)
              · rw [decide_eq_true hok]
                have HN := Lib.hid (show RunR s 4 0 (rs ++ [(t, b)]) (q + 6 + m) by
                  rw [← HA.out, ← HE.out]
                  exact runR_snoc hrun.out ⟨by rw [HE.out]; exact he, by rw [HA.out]; exact hok⟩)
                have SA := Lib.hid (HR2.out.up (below_box (.cells #[.int .i64 t, .string b] 33) (Nat.le_refl _)))
                have SV := Lib.hid (HV2.alloc (.cells #[.int .i64 t, .string b] 33) lx2)
                have hsz := HR2.out.b.size
                clear hok HV2 HR2
                go_wp2_with (at_builtin; go_loud (refine wpList_append_lies _ rfl _ _ 24 rfl w.heap.size 33 i0 (.agg #[.int .i64 0, .string (ByteArray.mk #[])]) 2 24 Try.underlying24 HI.out.1 HI.out.2.1 HI.out.2.2.1 HI.out.2.2.2 rfl (by decide) (.slice (some ⟨g, 0, none⟩) k cap) k (flatR rs) rfl SA.out.own ⟨w2.heap.size, 0, none⟩ 1 1 [.int .i64 t, .string b] rfl rfl (news_box rfl) (by simp [Value.oneCell']) (by decide) (by unfold maxLen; omega) (by omega) (by simp; omega) _ rfl ?_))
                intro g2 cap2 w9 hown hgrow hat hlt9
                have gx2 : wr.heap.size ≠ g := by omega
                have S9 := SV.out.plus hgrow (by simp; omega) gx2
                have x0 := (S9 0 _ rfl).1
                have SP := Lib.hid (SA.out.push (c := (t, b)) hgrow hown)
                clear S9 SA SV hown hgrow hat hlt9 e0 e1
                go_wp2
                go_roundw
                case rel => exact ⟨k + 1, g2, cap2, q + 6 + m, rs ++ [(t, b)], rfl, congrArg (Value.int .i64) (by omega), by rw [lastT_snoc], HN, he, by rw [List.length_append, hk]; rfl, by omega, SP⟩
                case measure => simp [intOf]; omega
              · rw [decide_eq_false hok]
                have V := Lib.hid (show BeginIs s rs q from ⟨HT.out, hrun.out, by omega, fun _ h => hok (by have := h.2; rw [HA.out] at this; exact this)⟩)
                clear hok
                go_wp2
                go_ret2
                exact .inl ⟨rs, q, g, k, cap, V.out, rfl, HR2.out⟩
          · have ce : (q : Int) + 6 + m > (s.size : Int) := by omega
            have V := Lib.hid (show BeginIs s rs q from ⟨HT.out, hrun.out, by omega, fun _ h => by have := h.1; unfold recEnd at this; omega⟩)
            go_wp2
            go_ret2
            exact .inl ⟨rs, q, g, k, cap, V.out, rfl, hr1.out⟩
        · have clt : ¬ (k : Int) < 60 := by omega
          have V := Lib.hid (show BeginIs s rs q from ⟨HT.out, hrun.out, by omega, fun h => by omega⟩)
          go_wp2
          go_ret2
          exact .inl ⟨rs, q, g, k, cap, V.out, rfl, hr.out⟩
      · have c6 : ¬ (q : Int) + 6 ≤ (s.size : Int) := by omega
        have V := Lib.hid (show BeginIs s rs q from ⟨HT.out, hrun.out, by omega, fun _ h => by have := h.1; unfold recEnd at this; omega⟩)
        go_wp2
        go_ret2
        exact .inl ⟨rs, q, g, k, cap, V.out, rfl, hr.out⟩

end Go.Proofs.Ytodpbjomiplphab
