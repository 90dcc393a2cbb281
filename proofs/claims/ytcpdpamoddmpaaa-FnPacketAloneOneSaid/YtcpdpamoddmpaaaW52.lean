/- The walks of the laws on packets whose chunks must be alone. -/
import Derived.Test.YtcpdpamoddmpaaaK52
import Derived.Test.YtcpdpamoddmpaaaK48
import Derived.Handy
namespace Go.Proofs.Ytcpdpamoddmpaaa
open Go.RowKit Go.PlainAid

theorem chs_take {w : World} {x : Addr} {len cap j : Nat} {cs : List (Int × Int × ByteArray)} (h : Chs w (some x) len cap cs) (hj : j ≤ len) : Chs w (some x) j cap (cs.take j) := by
  rcases h with ⟨h0, _⟩ | ⟨y, hy, h1, h2, h3, h4⟩
  · cases h0
  · refine .inr ⟨y, hy, by omega, h2, by rw [List.length_take]; omega, fun i hi => ?_⟩
    have e : chAt (cs.take j) i = chAt cs i := by
      unfold chAt
      rw [List.getD_eq_getElem?_getD, List.getD_eq_getElem?_getD, List.getElem?_take_of_lt hi]
    rw [e]
    exact h4 i (by omega)
theorem aloneV_out {f t g : Int} {cs : List (Int × Int × ByteArray)} (h : packV f t g cs = false) : aloneV f t g cs = false := by unfold aloneV; rw [h]; rfl
theorem aloneV_one {f t g : Int} {cs : List (Int × Int × ByteArray)} (h : packV f t g cs = true) (h1 : cs.length = 1) : aloneV f t g cs = true := by
  unfold aloneV someAlone
  rw [h, decide_eq_false (by omega)]
  rfl
theorem aloneV_more {f t g : Int} {cs : List (Int × Int × ByteArray)} {s : Bool} (h : packV f t g cs = true) (h1 : cs.length ≠ 1) (hs : (cs.any fun c => aloneK c.1) = s) : aloneV f t g cs = !s := by
  have := (of_decide_eq_true (show decide (PackOk f t g cs) = true from h)).2.2.1
  unfold aloneV someAlone
  rw [h, decide_eq_true (by omega), hs]
  cases s <;> rfl
theorem aloneV_take {f t g : Int} {cs : List (Int × Int × ByteArray)} (h : packV f t g cs = true) : aloneV f t g (cs.take 1) = true := by
  have hp := of_decide_eq_true (show decide (PackOk f t g cs) = true from h)
  have hl : (cs.take 1).length = 1 := by rw [List.length_take]; have := hp.2.2.1; omega
  exact aloneV_one (packV_yes ⟨hp.1, hp.2.1, by omega, fun c hc => hp.2.2.2 c (List.mem_of_mem_take hc)⟩) hl

set_option maxHeartbeats 4000000 in
theorem walk_fnPacketAlone (a0 : Option Addr) (len0 cap0 : Nat) (z0 : List Int) (w : World) (w0 : IsRow .u8 w a0 len0 cap0 z0) :
    Calls Try.prog 8 #[.slice a0 len0 cap0] w fun e w' => e = .returned (.bool true) ∧ Below w.heap.size w w' := by
  have H := Lib.hid w0
  clear w0
  by_cases hl : (1048576 : Int) < len0
  · go_enter Try.func8, Try.ntmps8
    go_wp2
    go_ret
    exact ⟨rfl, Below.refl _ _⟩
  · go_enter Try.func8, Try.ntmps8
    go_wp2_with fail
    refine (drawPacketAlone_any a0 len0 cap0 z0 _ H.out).mono ?_
    rintro e w1 ⟨f, t, n, g, k, cap, cs, rfl, ⟨nf0, nf1⟩, ⟨nt0, nt1⟩, ⟨nn0, nn1⟩, nk, ng, hch, hb1⟩
    have hcl := hch.length
    have GA := Lib.hid hch
    clear hch
    by_cases hp : packV f t n cs = true
    · by_cases h1 : k = 1
      · subst h1
        have HP := Lib.hid hp
        have HZ := Lib.hid (aloneV_one hp hcl)
        clear hp
        go_wp2_with fail
        refine (packetAlone_any f t n _ 1 cap cs _ ((GA.out).below (below_box (.cells (List.toArray [.int .i64 f, .int .i64 t, .int .i64 n, .slice (some ⟨g, 0, none⟩) 1 cap]) 25) (Nat.le_refl _)))).mono ?_
        rw [HZ.out]
        rintro e w2 ⟨rfl, hb2⟩
        have Vv := Lib.hid ((VarN.new_at (w := w1) (d := w1.heap.size) (by simp) [.int .i64 f, .int .i64 t, .int .i64 n, .slice (some ⟨g, 0, none⟩) 1 cap] 25).below hb2 (by simp))
        have HB2 := Lib.hid (((hb1).alloc (Nat.le_trans hb1.size (by exact Nat.le_refl _)) (.cells (List.toArray [.int .i64 f, .int .i64 t, .int .i64 n, .slice (some ⟨g, 0, none⟩) 1 cap]) 25)).trans (hb2.mono (Nat.le_trans hb1.size (by simp <;> omega))))
        have ltv : w1.heap.size < w2.heap.size := lt_of_cell (Vv.out 0 _ rfl).1
        have nev : ¬ w1.heap.size = w2.heap.size := by omega
        have GA := Lib.hid (((GA.out).below (below_box (.cells (List.toArray [.int .i64 f, .int .i64 t, .int .i64 n, .slice (some ⟨g, 0, none⟩) 1 cap]) 25) (Nat.le_refl _))).below hb2)
        clear hb2
        have v0 := (Vv.out 0 _ rfl).1
        have vf0 := (Vv.out 0 _ rfl).2
        have v1 := (Vv.out 1 _ rfl).1
        have vf1 := (Vv.out 1 _ rfl).2
        have v2 := (Vv.out 2 _ rfl).1
        have vf2 := (Vv.out 2 _ rfl).2
        have v3 := (Vv.out 3 _ rfl).1
        have vf3 := (Vv.out 3 _ rfl).2
        go_wp2_with fail
        refine (sPacketAlone_any f t n _ 1 cap cs _ GA.out).mono ?_
        rw [HZ.out]
        rintro e w3 ⟨rfl, hb3⟩
        clear v0 vf0 v1 vf1 v2 vf2 v3 vf3
        have Vv := Lib.hid ((Vv.out).below hb3 ltv)
        have HB3 := Lib.hid (HB2.out.trans (hb3.mono HB2.out.size))
        have ltv : w1.heap.size < w3.heap.size := lt_of_cell (Vv.out 0 _ rfl).1
        have nev : ¬ w1.heap.size = w3.heap.size := by omega
        have GA := Lib.hid ((GA.out).below hb3)
        clear hb3
        have km : 1 ≤ 9223372036854775807 := by omega
        have v0 := (Vv.out 0 _ rfl).1
        have vf0 := (Vv.out 0 _ rfl).2
        have v1 := (Vv.out 1 _ rfl).1
        have vf1 := (Vv.out 1 _ rfl).2
        have v2 := (Vv.out 2 _ rfl).1
        have vf2 := (Vv.out 2 _ rfl).2
        have v3 := (Vv.out 3 _ rfl).1
        have vf3 := (Vv.out 3 _ rfl).2
        go_wp2
        go_loopw [6, 7] (fun o i wr => ∃ (j : Nat), j ≤ 1 ∧ o = .bool ((cs.take j).any fun c => aloneK c.1) ∧ i = .int .i64 j ∧ wr.cell? ⟨w1.heap.size, 3, none⟩ = some (.slice (some ⟨g, 0, none⟩) 1 cap) ∧ wr = w3) (fun _ i _ => 1 - (intOf i).toNat)
        case atStart => exact ⟨0, Nat.zero_le _, rfl, rfl, v3, rfl⟩
        case round =>
          obtain ⟨j, hj, rfl, rfl, u3, rfl⟩ := hrel
          clear u3
          by_cases hlt : j < 1
          · obtain ⟨p0, p1, p2⟩ := GA.out.at (Below.refl _ _) hlt
            have hkl : j < cs.length := by omega
            have N := any_next hkl
            obtain ⟨c1, hc1'⟩ : ∃ c1, (chAt cs j).1 = c1 := ⟨_, rfl⟩
            rw [hc1'] at p0 N
            simp only [ch_add] at p0
            clear hc1' p1 p2
            obtain ⟨b, hb⟩ : ∃ b, ((cs.take j).any fun c => aloneK c.1) = b := ⟨_, rfl⟩
            rw [hb] at N
            rw [hb]
            have HN := Lib.hid N
            clear N hb
            cases b with
            | true =>
              go_wp2
              go_roundw
              case rel => exact ⟨j + 1, by omega, congrArg Value.bool (by rw [HN.out]; rfl), by go_num, v3, by trivial⟩
              case measure => simp [intOf]; omega
            | false =>
              by_cases h1 : c1 = 1
              · subst h1
                go_wp2
                go_roundw
                case rel => exact ⟨j + 1, by omega, congrArg Value.bool (by rw [HN.out]; rfl), by go_num, v3, by trivial⟩
                case measure => simp [intOf]; omega
              by_cases h2 : c1 = 2
              · subst h2
                go_wp2
                go_roundw
                case rel => exact ⟨j + 1, by omega, congrArg Value.bool (by rw [HN.out]; rfl), by go_num, v3, by trivial⟩
                case measure => simp [intOf]; omega
              have e1 : (c1 == 1) = false := by simpa using h1
              have e2 : (c1 == 2) = false := by simpa using h2
              have HA := Lib.hid (show (false || aloneK c1) = (c1 == 14) by unfold aloneK; rw [e1, e2]; simp)
              go_wp2
              go_roundw
              case rel => exact ⟨j + 1, by omega, congrArg Value.bool (by rw [HN.out, HA.out]), by go_num, v3, by trivial⟩
              case measure => simp [intOf]; omega
          · obtain rfl : j = 1 := by omega
            have E := Lib.hid (show ((cs.take 1).any fun c => aloneK c.1) = (cs.any fun c => aloneK c.1) by rw [List.take_of_length_le (by omega)])
            rw [E.out]
            obtain ⟨s, hs⟩ : ∃ s, (cs.any fun c => aloneK c.1) = s := ⟨_, rfl⟩
            rw [hs]
            clear hs
            go_wp2_with fail
            refine (packetValid_any f t n _ 1 cap cs _ GA.out).mono ?_
            rw [HP.out]
            rintro e wq ⟨rfl, hbq⟩
            have u3' := kept_cell hbq ltv v3
            go_wp2
            go_ret
            exact ⟨rfl, HB3.out.trans (hbq.mono HB3.out.size)⟩
      · have HP := Lib.hid hp
        obtain ⟨s, hs⟩ : ∃ s, (cs.any fun c => aloneK c.1) = s := ⟨_, rfl⟩
        have HS := Lib.hid hs
        have HZ := Lib.hid (aloneV_more hp (by omega) hs)
        clear hp hs
        go_wp2_with fail
        refine (packetAlone_any f t n _ k cap cs _ ((GA.out).below (below_box (.cells (List.toArray [.int .i64 f, .int .i64 t, .int .i64 n, .slice (some ⟨g, 0, none⟩) k cap]) 25) (Nat.le_refl _)))).mono ?_
        rw [HZ.out]
        rintro e w2 ⟨rfl, hb2⟩
        have Vv := Lib.hid ((VarN.new_at (w := w1) (d := w1.heap.size) (by simp) [.int .i64 f, .int .i64 t, .int .i64 n, .slice (some ⟨g, 0, none⟩) k cap] 25).below hb2 (by simp))
        have HB2 := Lib.hid (((hb1).alloc (Nat.le_trans hb1.size (by exact Nat.le_refl _)) (.cells (List.toArray [.int .i64 f, .int .i64 t, .int .i64 n, .slice (some ⟨g, 0, none⟩) k cap]) 25)).trans (hb2.mono (Nat.le_trans hb1.size (by simp <;> omega))))
        have ltv : w1.heap.size < w2.heap.size := lt_of_cell (Vv.out 0 _ rfl).1
        have nev : ¬ w1.heap.size = w2.heap.size := by omega
        have GA := Lib.hid (((GA.out).below (below_box (.cells (List.toArray [.int .i64 f, .int .i64 t, .int .i64 n, .slice (some ⟨g, 0, none⟩) k cap]) 25) (Nat.le_refl _))).below hb2)
        clear hb2
        have v0 := (Vv.out 0 _ rfl).1
        have vf0 := (Vv.out 0 _ rfl).2
        have v1 := (Vv.out 1 _ rfl).1
        have vf1 := (Vv.out 1 _ rfl).2
        have v2 := (Vv.out 2 _ rfl).1
        have vf2 := (Vv.out 2 _ rfl).2
        have v3 := (Vv.out 3 _ rfl).1
        have vf3 := (Vv.out 3 _ rfl).2
        go_wp2_with fail
        refine (sPacketAlone_any f t n _ k cap cs _ GA.out).mono ?_
        rw [HZ.out]
        rintro e w3 ⟨rfl, hb3⟩
        clear v0 vf0 v1 vf1 v2 vf2 v3 vf3
        have Vv := Lib.hid ((Vv.out).below hb3 ltv)
        have HB3 := Lib.hid (HB2.out.trans (hb3.mono HB2.out.size))
        have ltv : w1.heap.size < w3.heap.size := lt_of_cell (Vv.out 0 _ rfl).1
        have nev : ¬ w1.heap.size = w3.heap.size := by omega
        have GA := Lib.hid ((GA.out).below hb3)
        clear hb3
        have km : k ≤ 9223372036854775807 := by omega
        have v0 := (Vv.out 0 _ rfl).1
        have vf0 := (Vv.out 0 _ rfl).2
        have v1 := (Vv.out 1 _ rfl).1
        have vf1 := (Vv.out 1 _ rfl).2
        have v2 := (Vv.out 2 _ rfl).1
        have vf2 := (Vv.out 2 _ rfl).2
        have v3 := (Vv.out 3 _ rfl).1
        have vf3 := (Vv.out 3 _ rfl).2
        go_wp2
        go_loopw [6, 7] (fun o i wr => ∃ (j : Nat), j ≤ k ∧ o = .bool ((cs.take j).any fun c => aloneK c.1) ∧ i = .int .i64 j ∧ wr.cell? ⟨w1.heap.size, 3, none⟩ = some (.slice (some ⟨g, 0, none⟩) k cap) ∧ wr = w3) (fun _ i _ => k - (intOf i).toNat)
        case atStart => exact ⟨0, Nat.zero_le _, rfl, rfl, v3, rfl⟩
        case round =>
          obtain ⟨j, hj, rfl, rfl, u3, rfl⟩ := hrel
          clear u3
          by_cases hlt : j < k
          · obtain ⟨p0, p1, p2⟩ := GA.out.at (Below.refl _ _) hlt
            have hkl : j < cs.length := by omega
            have N := any_next hkl
            obtain ⟨c1, hc1'⟩ : ∃ c1, (chAt cs j).1 = c1 := ⟨_, rfl⟩
            rw [hc1'] at p0 N
            simp only [ch_add] at p0
            clear hc1' p1 p2
            obtain ⟨b, hb⟩ : ∃ b, ((cs.take j).any fun c => aloneK c.1) = b := ⟨_, rfl⟩
            rw [hb] at N
            rw [hb]
            have HN := Lib.hid N
            clear N hb
            cases b with
            | true =>
              go_wp2
              go_roundw
              case rel => exact ⟨j + 1, by omega, congrArg Value.bool (by rw [HN.out]; rfl), by go_num, v3, by trivial⟩
              case measure => simp [intOf]; omega
            | false =>
              by_cases h1 : c1 = 1
              · subst h1
                go_wp2
                go_roundw
                case rel => exact ⟨j + 1, by omega, congrArg Value.bool (by rw [HN.out]; rfl), by go_num, v3, by trivial⟩
                case measure => simp [intOf]; omega
              by_cases h2 : c1 = 2
              · subst h2
                go_wp2
                go_roundw
                case rel => exact ⟨j + 1, by omega, congrArg Value.bool (by rw [HN.out]; rfl), by go_num, v3, by trivial⟩
                case measure => simp [intOf]; omega
              have e1 : (c1 == 1) = false := by simpa using h1
              have e2 : (c1 == 2) = false := by simpa using h2
              have HA := Lib.hid (show (false || aloneK c1) = (c1 == 14) by unfold aloneK; rw [e1, e2]; simp)
              go_wp2
              go_roundw
              case rel => exact ⟨j + 1, by omega, congrArg Value.bool (by rw [HN.out, HA.out]), by go_num, v3, by trivial⟩
              case measure => simp [intOf]; omega
          · obtain rfl : j = k := by omega
            have E := Lib.hid (show ((cs.take j).any fun c => aloneK c.1) = (cs.any fun c => aloneK c.1) by rw [List.take_of_length_le (by omega)])
            rw [E.out]
            rw [HS.out]
            go_wp2_with fail
            refine (packetValid_any f t n _ j cap cs _ GA.out).mono ?_
            rw [HP.out]
            rintro e wq ⟨rfl, hbq⟩
            have u3' := kept_cell hbq ltv v3
            have hk1 : ((j : Int) == 1) = false := by simpa using (by omega : ¬ (j : Int) = 1)
            go_wp2
            go_ret
            exact ⟨by cases s <;> rfl, HB3.out.trans (hbq.mono HB3.out.size)⟩
    · have hp : packV f t n cs = false := by simpa using hp
      have HP := Lib.hid hp
      have HZ := Lib.hid (aloneV_out hp)
      clear hp
      go_wp2_with fail
      refine (packetAlone_any f t n _ k cap cs _ ((GA.out).below (below_box (.cells (List.toArray [.int .i64 f, .int .i64 t, .int .i64 n, .slice (some ⟨g, 0, none⟩) k cap]) 25) (Nat.le_refl _)))).mono ?_
      rw [HZ.out]
      rintro e w2 ⟨rfl, hb2⟩
      have Vv := Lib.hid ((VarN.new_at (w := w1) (d := w1.heap.size) (by simp) [.int .i64 f, .int .i64 t, .int .i64 n, .slice (some ⟨g, 0, none⟩) k cap] 25).below hb2 (by simp))
      have HB2 := Lib.hid (((hb1).alloc (Nat.le_trans hb1.size (by exact Nat.le_refl _)) (.cells (List.toArray [.int .i64 f, .int .i64 t, .int .i64 n, .slice (some ⟨g, 0, none⟩) k cap]) 25)).trans (hb2.mono (Nat.le_trans hb1.size (by simp <;> omega))))
      have ltv : w1.heap.size < w2.heap.size := lt_of_cell (Vv.out 0 _ rfl).1
      have nev : ¬ w1.heap.size = w2.heap.size := by omega
      have GA := Lib.hid (((GA.out).below (below_box (.cells (List.toArray [.int .i64 f, .int .i64 t, .int .i64 n, .slice (some ⟨g, 0, none⟩) k cap]) 25) (Nat.le_refl _))).below hb2)
      clear hb2
      have v0 := (Vv.out 0 _ rfl).1
      have vf0 := (Vv.out 0 _ rfl).2
      have v1 := (Vv.out 1 _ rfl).1
      have vf1 := (Vv.out 1 _ rfl).2
      have v2 := (Vv.out 2 _ rfl).1
      have vf2 := (Vv.out 2 _ rfl).2
      have v3 := (Vv.out 3 _ rfl).1
      have vf3 := (Vv.out 3 _ rfl).2
      go_wp2_with fail
      refine (sPacketAlone_any f t n _ k cap cs _ GA.out).mono ?_
      rw [HZ.out]
      rintro e w3 ⟨rfl, hb3⟩
      clear v0 vf0 v1 vf1 v2 vf2 v3 vf3
      have Vv := Lib.hid ((Vv.out).below hb3 ltv)
      have HB3 := Lib.hid (HB2.out.trans (hb3.mono HB2.out.size))
      have ltv : w1.heap.size < w3.heap.size := lt_of_cell (Vv.out 0 _ rfl).1
      have nev : ¬ w1.heap.size = w3.heap.size := by omega
      have GA := Lib.hid ((GA.out).below hb3)
      clear hb3
      have km : k ≤ 9223372036854775807 := by omega
      have v0 := (Vv.out 0 _ rfl).1
      have vf0 := (Vv.out 0 _ rfl).2
      have v1 := (Vv.out 1 _ rfl).1
      have vf1 := (Vv.out 1 _ rfl).2
      have v2 := (Vv.out 2 _ rfl).1
      have vf2 := (Vv.out 2 _ rfl).2
      have v3 := (Vv.out 3 _ rfl).1
      have vf3 := (Vv.out 3 _ rfl).2
      go_wp2
      go_loopw [6, 7] (fun o i wr => ∃ (j : Nat), j ≤ k ∧ o = .bool ((cs.take j).any fun c => aloneK c.1) ∧ i = .int .i64 j ∧ wr.cell? ⟨w1.heap.size, 3, none⟩ = some (.slice (some ⟨g, 0, none⟩) k cap) ∧ wr = w3) (fun _ i _ => k - (intOf i).toNat)
      case atStart => exact ⟨0, Nat.zero_le _, rfl, rfl, v3, rfl⟩
      case round =>
        obtain ⟨j, hj, rfl, rfl, u3, rfl⟩ := hrel
        clear u3
        by_cases hlt : j < k
        · obtain ⟨p0, p1, p2⟩ := GA.out.at (Below.refl _ _) hlt
          have hkl : j < cs.length := by omega
          have N := any_next hkl
          obtain ⟨c1, hc1'⟩ : ∃ c1, (chAt cs j).1 = c1 := ⟨_, rfl⟩
          rw [hc1'] at p0 N
          simp only [ch_add] at p0
          clear hc1' p1 p2
          obtain ⟨b, hb⟩ : ∃ b, ((cs.take j).any fun c => aloneK c.1) = b := ⟨_, rfl⟩
          rw [hb] at N
          rw [hb]
          have HN := Lib.hid N
          clear N hb
          cases b with
          | true =>
            go_wp2
            go_roundw
            case rel => exact ⟨j + 1, by omega, congrArg Value.bool (by rw [HN.out]; rfl), by go_num, v3, by trivial⟩
            case measure => simp [intOf]; omega
          | false =>
            by_cases h1 : c1 = 1
            · subst h1
              go_wp2
              go_roundw
              case rel => exact ⟨j + 1, by omega, congrArg Value.bool (by rw [HN.out]; rfl), by go_num, v3, by trivial⟩
              case measure => simp [intOf]; omega
            by_cases h2 : c1 = 2
            · subst h2
              go_wp2
              go_roundw
              case rel => exact ⟨j + 1, by omega, congrArg Value.bool (by rw [HN.out]; rfl), by go_num, v3, by trivial⟩
              case measure => simp [intOf]; omega
            have e1 : (c1 == 1) = false := by simpa using h1
            have e2 : (c1 == 2) = false := by simpa using h2
            have HA := Lib.hid (show (false || aloneK c1) = (c1 == 14) by unfold aloneK; rw [e1, e2]; simp)
            go_wp2
            go_roundw
            case rel => exact ⟨j + 1, by omega, congrArg Value.bool (by rw [HN.out, HA.out]), by go_num, v3, by trivial⟩
            case measure => simp [intOf]; omega
        · obtain rfl : j = k := by omega
          have E := Lib.hid (show ((cs.take j).any fun c => aloneK c.1) = (cs.any fun c => aloneK c.1) by rw [List.take_of_length_le (by omega)])
          rw [E.out]
          obtain ⟨s, hs⟩ : ∃ s, (cs.any fun c => aloneK c.1) = s := ⟨_, rfl⟩
          rw [hs]
          clear hs
          go_wp2_with fail
          refine (packetValid_any f t n _ j cap cs _ GA.out).mono ?_
          rw [HP.out]
          rintro e wq ⟨rfl, hbq⟩
          have u3' := kept_cell hbq ltv v3
          go_wp2
          go_ret
          exact ⟨rfl, HB3.out.trans (hbq.mono HB3.out.size)⟩

set_option maxHeartbeats 4000000 in
theorem walk_fnPacketAloneOne (a0 : Option Addr) (len0 cap0 : Nat) (z0 : List Int) (w : World) (w0 : IsRow .u8 w a0 len0 cap0 z0) :
    Calls Try.prog 9 #[.slice a0 len0 cap0] w fun e w' => e = .returned (.bool true) ∧ Below w.heap.size w w' := by
  have H := Lib.hid w0
  clear w0
  by_cases hl : (1048576 : Int) < len0
  · go_enter Try.func9, Try.ntmps9
    go_wp2
    go_ret
    exact ⟨rfl, Below.refl _ _⟩
  · go_enter Try.func9, Try.ntmps9
    go_wp2_with fail
    refine (drawPacketAlone_any a0 len0 cap0 z0 _ H.out).mono ?_
    rintro e w1 ⟨f, t, n, g, k, cap, cs, rfl, ⟨nf0, nf1⟩, ⟨nt0, nt1⟩, ⟨nn0, nn1⟩, nk, ng, hch, hb1⟩
    have hcl := hch.length
    have GA := Lib.hid hch
    clear hch
    by_cases hp : packV f t n cs = true
    · have HP := Lib.hid hp
      have HT := Lib.hid (aloneV_take hp)
      have hk1 : 1 ≤ k := by have := (of_decide_eq_true (show decide (PackOk f t n cs) = true from hp)).2.2.1; omega
      have hcp : (1 : Int) ≤ (cap : Int) := by have := GA.out.len_le; omega
      clear hp
      obtain ⟨z, hz⟩ : ∃ z, aloneV f t n cs = z := ⟨_, rfl⟩
      have HZ := Lib.hid hz
      clear hz
      go_wp2_with fail
      refine (packetAlone_any f t n _ k cap cs _ ((GA.out).below (below_box (.cells (List.toArray [.int .i64 f, .int .i64 t, .int .i64 n, .slice (some ⟨g, 0, none⟩) k cap]) 25) (Nat.le_refl _)))).mono ?_
      rw [HZ.out]
      rintro e w2 ⟨rfl, hb2⟩
      have Vv := Lib.hid ((VarN.new_at (w := w1) (d := w1.heap.size) (by simp) [.int .i64 f, .int .i64 t, .int .i64 n, .slice (some ⟨g, 0, none⟩) k cap] 25).below hb2 (by simp))
      have HB2 := Lib.hid (((hb1).alloc (Nat.le_trans hb1.size (by exact Nat.le_refl _)) (.cells (List.toArray [.int .i64 f, .int .i64 t, .int .i64 n, .slice (some ⟨g, 0, none⟩) k cap]) 25)).trans (hb2.mono (Nat.le_trans hb1.size (by simp <;> omega))))
      have ltv : w1.heap.size < w2.heap.size := lt_of_cell (Vv.out 0 _ rfl).1
      have nev : ¬ w1.heap.size = w2.heap.size := by omega
      have GA := Lib.hid (((GA.out).below (below_box (.cells (List.toArray [.int .i64 f, .int .i64 t, .int .i64 n, .slice (some ⟨g, 0, none⟩) k cap]) 25) (Nat.le_refl _))).below hb2)
      clear hb2
      have v0 := (Vv.out 0 _ rfl).1
      have vf0 := (Vv.out 0 _ rfl).2
      have v1 := (Vv.out 1 _ rfl).1
      have vf1 := (Vv.out 1 _ rfl).2
      have v2 := (Vv.out 2 _ rfl).1
      have vf2 := (Vv.out 2 _ rfl).2
      have v3 := (Vv.out 3 _ rfl).1
      have vf3 := (Vv.out 3 _ rfl).2
      go_wp2_with fail
      refine (sPacketAlone_any f t n _ k cap cs _ GA.out).mono ?_
      rw [HZ.out]
      rintro e w3 ⟨rfl, hb3⟩
      clear v0 vf0 v1 vf1 v2 vf2 v3 vf3
      have Vv := Lib.hid ((Vv.out).below hb3 ltv)
      have HB3 := Lib.hid (HB2.out.trans (hb3.mono HB2.out.size))
      have ltv : w1.heap.size < w3.heap.size := lt_of_cell (Vv.out 0 _ rfl).1
      have nev : ¬ w1.heap.size = w3.heap.size := by omega
      have GA := Lib.hid ((GA.out).below hb3)
      clear hb3
      have v0 := (Vv.out 0 _ rfl).1
      have vf0 := (Vv.out 0 _ rfl).2
      have v1 := (Vv.out 1 _ rfl).1
      have vf1 := (Vv.out 1 _ rfl).2
      have v2 := (Vv.out 2 _ rfl).1
      have vf2 := (Vv.out 2 _ rfl).2
      have v3 := (Vv.out 3 _ rfl).1
      have vf3 := (Vv.out 3 _ rfl).2
      go_wp2_with fail
      refine (sPacketValid_any f t n _ k cap cs _ GA.out).mono ?_
      rw [HP.out]
      rintro e w4 ⟨rfl, hb4⟩
      clear v0 vf0 v1 vf1 v2 vf2 v3 vf3
      have Vv := Lib.hid ((Vv.out).below hb4 ltv)
      have HB4 := Lib.hid (HB3.out.trans (hb4.mono HB3.out.size))
      have ltv : w1.heap.size < w4.heap.size := lt_of_cell (Vv.out 0 _ rfl).1
      have nev : ¬ w1.heap.size = w4.heap.size := by omega
      have GA := Lib.hid ((GA.out).below hb4)
      clear hb4
      have GT := Lib.hid (chs_take GA.out hk1)
      have v0 := (Vv.out 0 _ rfl).1
      have vf0 := (Vv.out 0 _ rfl).2
      have v1 := (Vv.out 1 _ rfl).1
      have vf1 := (Vv.out 1 _ rfl).2
      have v2 := (Vv.out 2 _ rfl).1
      have vf2 := (Vv.out 2 _ rfl).2
      have v3 := (Vv.out 3 _ rfl).1
      have vf3 := (Vv.out 3 _ rfl).2
      go_wp2_with fail
      refine (packetAlone_any f t n _ 1 cap _ _ ((GT.out).below (below_box (.cells (List.toArray [.int .i64 f, .int .i64 t, .int .i64 n, .slice (some ⟨g, 0, none⟩) 1 cap]) 25) (Nat.le_refl _)))).mono ?_
      rw [HT.out]
      rintro e w5 ⟨rfl, hb5⟩
      clear v0 vf0 v1 vf1 v2 vf2 v3 vf3
      have Vv := Lib.hid (((Vv.out).alloc (.cells (List.toArray [.int .i64 f, .int .i64 t, .int .i64 n, .slice (some ⟨g, 0, none⟩) 1 cap]) 25) (by omega)).below hb5 (by simp; omega))
      have Vx := Lib.hid ((VarN.new_at (w := w4) (d := w4.heap.size) (by simp) [.int .i64 f, .int .i64 t, .int .i64 n, .slice (some ⟨g, 0, none⟩) 1 cap] 25).below hb5 (by simp))
      have HB5 := Lib.hid (((HB4.out).alloc (Nat.le_trans HB4.out.size (by exact Nat.le_refl _)) (.cells (List.toArray [.int .i64 f, .int .i64 t, .int .i64 n, .slice (some ⟨g, 0, none⟩) 1 cap]) 25)).trans (hb5.mono (Nat.le_trans HB4.out.size (by simp <;> omega))))
      have ltv : w1.heap.size < w5.heap.size := lt_of_cell (Vv.out 0 _ rfl).1
      have ltx : w4.heap.size < w5.heap.size := lt_of_cell (Vx.out 0 _ rfl).1
      have nev : ¬ w1.heap.size = w5.heap.size := by omega
      have nex : ¬ w4.heap.size = w5.heap.size := by omega
      have GA := Lib.hid (((GA.out).below (below_box (.cells (List.toArray [.int .i64 f, .int .i64 t, .int .i64 n, .slice (some ⟨g, 0, none⟩) 1 cap]) 25) (Nat.le_refl _))).below hb5)
      have GT := Lib.hid (((GT.out).below (below_box (.cells (List.toArray [.int .i64 f, .int .i64 t, .int .i64 n, .slice (some ⟨g, 0, none⟩) 1 cap]) 25) (Nat.le_refl _))).below hb5)
      clear hb5
      go_wp2
      go_ret
      exact ⟨rfl, HB5.out⟩
    · have hp : packV f t n cs = false := by simpa using hp
      have HP := Lib.hid hp
      clear hp
      obtain ⟨z, hz⟩ : ∃ z, aloneV f t n cs = z := ⟨_, rfl⟩
      have HZ := Lib.hid hz
      clear hz
      go_wp2_with fail
      refine (packetAlone_any f t n _ k cap cs _ ((GA.out).below (below_box (.cells (List.toArray [.int .i64 f, .int .i64 t, .int .i64 n, .slice (some ⟨g, 0, none⟩) k cap]) 25) (Nat.le_refl _)))).mono ?_
      rw [HZ.out]
      rintro e w2 ⟨rfl, hb2⟩
      have Vv := Lib.hid ((VarN.new_at (w := w1) (d := w1.heap.size) (by simp) [.int .i64 f, .int .i64 t, .int .i64 n, .slice (some ⟨g, 0, none⟩) k cap] 25).below hb2 (by simp))
      have HB2 := Lib.hid (((hb1).alloc (Nat.le_trans hb1.size (by exact Nat.le_refl _)) (.cells (List.toArray [.int .i64 f, .int .i64 t, .int .i64 n, .slice (some ⟨g, 0, none⟩) k cap]) 25)).trans (hb2.mono (Nat.le_trans hb1.size (by simp <;> omega))))
      have ltv : w1.heap.size < w2.heap.size := lt_of_cell (Vv.out 0 _ rfl).1
      have nev : ¬ w1.heap.size = w2.heap.size := by omega
      have GA := Lib.hid (((GA.out).below (below_box (.cells (List.toArray [.int .i64 f, .int .i64 t, .int .i64 n, .slice (some ⟨g, 0, none⟩) k cap]) 25) (Nat.le_refl _))).below hb2)
      clear hb2
      have v0 := (Vv.out 0 _ rfl).1
      have vf0 := (Vv.out 0 _ rfl).2
      have v1 := (Vv.out 1 _ rfl).1
      have vf1 := (Vv.out 1 _ rfl).2
      have v2 := (Vv.out 2 _ rfl).1
      have vf2 := (Vv.out 2 _ rfl).2
      have v3 := (Vv.out 3 _ rfl).1
      have vf3 := (Vv.out 3 _ rfl).2
      go_wp2_with fail
      refine (sPacketAlone_any f t n _ k cap cs _ GA.out).mono ?_
      rw [HZ.out]
      rintro e w3 ⟨rfl, hb3⟩
      clear v0 vf0 v1 vf1 v2 vf2 v3 vf3
      have Vv := Lib.hid ((Vv.out).below hb3 ltv)
      have HB3 := Lib.hid (HB2.out.trans (hb3.mono HB2.out.size))
      have ltv : w1.heap.size < w3.heap.size := lt_of_cell (Vv.out 0 _ rfl).1
      have nev : ¬ w1.heap.size = w3.heap.size := by omega
      have GA := Lib.hid ((GA.out).below hb3)
      clear hb3
      have v0 := (Vv.out 0 _ rfl).1
      have vf0 := (Vv.out 0 _ rfl).2
      have v1 := (Vv.out 1 _ rfl).1
      have vf1 := (Vv.out 1 _ rfl).2
      have v2 := (Vv.out 2 _ rfl).1
      have vf2 := (Vv.out 2 _ rfl).2
      have v3 := (Vv.out 3 _ rfl).1
      have vf3 := (Vv.out 3 _ rfl).2
      go_wp2_with fail
      refine (sPacketValid_any f t n _ k cap cs _ GA.out).mono ?_
      rw [HP.out]
      rintro e w4 ⟨rfl, hb4⟩
      clear v0 vf0 v1 vf1 v2 vf2 v3 vf3
      have Vv := Lib.hid ((Vv.out).below hb4 ltv)
      have HB4 := Lib.hid (HB3.out.trans (hb4.mono HB3.out.size))
      have ltv : w1.heap.size < w4.heap.size := lt_of_cell (Vv.out 0 _ rfl).1
      have nev : ¬ w1.heap.size = w4.heap.size := by omega
      have GA := Lib.hid ((GA.out).below hb4)
      clear hb4
      have v0 := (Vv.out 0 _ rfl).1
      have vf0 := (Vv.out 0 _ rfl).2
      have v1 := (Vv.out 1 _ rfl).1
      have vf1 := (Vv.out 1 _ rfl).2
      have v2 := (Vv.out 2 _ rfl).1
      have vf2 := (Vv.out 2 _ rfl).2
      have v3 := (Vv.out 3 _ rfl).1
      have vf3 := (Vv.out 3 _ rfl).2
      go_wp2
      go_ret
      exact ⟨rfl, HB4.out⟩

end Go.Proofs.Ytcpdpamoddmpaaa
