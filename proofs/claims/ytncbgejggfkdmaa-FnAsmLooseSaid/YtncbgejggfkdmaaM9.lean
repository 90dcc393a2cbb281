/- Texts that a proof needs, merged: K7m, K14, K15, K16, K21, K22, K194, K195, K196. -/
import Derived.Test.YtncbgejggfkdmaaM8
import Derived.Deep.QuietTactic
import Derived.BigQuiet
import Derived.RegionTactic
import Derived.Deep.RegionWith

/- The contract of the helper that repeats a text. -/
namespace Go.Proofs.Ytncbgejggfkdmaa
open Go.RowKit Go.PlainAid

def strSize : Value → Nat
  | .string x => x.size
  | _ => 0
/-- A text of the given size, the world as it was. -/
def ManyStr (T : Nat) (w : World) (e : Ending) (w' : World) : Prop := ∃ t : ByteArray, e = .returned (.string t) ∧ t.size = T ∧ w = w'
theorem half_odd (a o k : Nat) (h : k % 2 = 1) : o + a + (a + a) * (k / 2) = o + a * k := by
  have e : k = 2 * (k / 2) + 1 := by omega
  have : a * k = 2 * (a * (k / 2)) + a := by
    conv => lhs; rw [e]
    rw [Nat.mul_add, Nat.mul_one, Nat.mul_left_comm]
  rw [this, Nat.add_mul]
  omega
theorem half_even (a o k : Nat) (h : k % 2 = 0) : o + (a + a) * (k / 2) = o + a * k := by
  have e : k = 2 * (k / 2) := by omega
  have : a * k = 2 * (a * (k / 2)) := by
    conv => lhs; rw [e]
    rw [Nat.mul_left_comm]
  rw [this, Nat.add_mul]
  omega
theorem le_mul_pos (a k : Nat) (h : 0 < k) : a ≤ a * k := Nat.le_mul_of_pos_right a h

set_option maxHeartbeats 1000000 in
theorem l6Many_any (s : ByteArray) (n : Nat) (w : World) (hs : s.size ≤ 100) (hn : n ≤ 1000) :
    Calls Try.prog 74 #[.string s, .int .i64 n] w (ManyStr (s.size * n) w) := by
  have hT : s.size * n ≤ 100000 := Nat.mul_le_mul hs hn
  obtain ⟨T, hTe⟩ : ∃ T, T = s.size * n := ⟨_, rfl⟩
  rw [← hTe] at hT ⊢
  have HT := Lib.hid hTe
  clear hTe
  go_enter Try.func74, Try.ntmps74
  go_wp2
  go_loop [0, 1, 5] (fun a k o => ∃ (A O : ByteArray) (K : Nat), a = .string A ∧ k = .int .i64 K ∧ o = .string O ∧ K ≤ n ∧ A.size ≤ 2 * T + 100 ∧ Hid (O.size + A.size * K = T)) (fun _ k _ => (intOf k).toNat)
  case atStart => exact ⟨s, ⟨#[]⟩, n, rfl, rfl, rfl, Nat.le_refl _, by omega, by show 0 + s.size * n = T; rw [HT.out]; omega⟩
  case round =>
    obtain ⟨A, O, K, rfl, rfl, rfl, hK, hA, HH⟩ := hrel
    by_cases h0 : 0 < K
    · have hm := le_mul_pos A.size K h0
      have hA2 : A.size ≤ T ∧ O.size ≤ T := by have := HH.out; omega
      obtain ⟨hA3, hO3⟩ := hA2
      clear hm
      by_cases ho : K % 2 = 1
      · have ho1 : ((K : Int) % 2 == 1) = true := by simp; omega
        have HO := Lib.hid ho
        clear ho
        go_wp2
        go_round
        case rel => exact ⟨_, _, K / 2, rfl, by go_num, rfl, by omega, by rw [ByteArray.size_append]; omega, by show _ + _ = T; rw [ByteArray.size_append, ByteArray.size_append, half_odd _ _ _ HO.out]; exact HH.out⟩
        case measure => simp [intOf]; omega
      · have ho1 : ((K : Int) % 2 == 1) = false := by simp; omega
        have HO := Lib.hid (show K % 2 = 0 by omega)
        clear ho
        go_wp2
        go_round
        case rel => exact ⟨_, _, K / 2, rfl, by go_num, rfl, by omega, by rw [ByteArray.size_append]; omega, by show _ + _ = T; rw [ByteArray.size_append, half_even _ _ _ HO.out]; exact HH.out⟩
        case measure => simp [intOf]; omega
    · have hk0 : ¬ (0 : Int) < K := by omega
      go_wp2
      go_ret
      exact ⟨O, rfl, by have := HH.out; rw [show K = 0 by omega, Nat.mul_zero] at this; omega, rfl⟩

end Go.Proofs.Ytncbgejggfkdmaa

/- The contracts of chapter 11's model, further: the bytes of a chunk or none, the chunk at a place. -/
namespace Go.Proofs.Ytncbgejggfkdmaa
open Go.RowKit Go.PlainAid

/-- A chunk was read, or none. -/
def gotV (k f : Int) (b : ByteArray) (n : Int) : Value := .tuple #[.agg #[.int .i64 k, .int .i64 f, .string b], .int .i64 n, .bool true]
def noneV : Value := .tuple #[.agg #[.int .i64 0, .int .i64 0, .string (ByteArray.mk #[])], .int .i64 0, .bool false]

end Go.Proofs.Ytncbgejggfkdmaa

/- The contracts of the drawing functions of chapter 11. -/
namespace Go.Proofs.Ytncbgejggfkdmaa
open Go.RowKit Go.PlainAid

/-- A chunk lies at block c, in a variable. -/
def Var3 (c : Nat) (k f : Int) (b : ByteArray) (w : World) : Prop :=
  (w.cell? ⟨c, 0, none⟩ = some (.int .i64 k) ∧ w.cell? ⟨c, 1, none⟩ = some (.int .i64 f) ∧ w.cell? ⟨c, 2, none⟩ = some (.string b)) ∧
  w.frozen? ⟨c, 0, none⟩ = false ∧ w.frozen? ⟨c, 1, none⟩ = false ∧ w.frozen? ⟨c, 2, none⟩ = false
theorem Var3.aside {c C r : Nat} {k f : Int} {b : ByteArray} {w w' : World} (h : Var3 c k f b w) (ha : Aside C r w w') (hc : c < C) (hr : c ≠ r) : Var3 c k f b w' :=
  ⟨⟨ha.cell hc hr h.1.1, ha.cell hc hr h.1.2.1, ha.cell hc hr h.1.2.2⟩, ha.frozen hc hr h.2.1, ha.frozen hc hr h.2.2.1, ha.frozen hc hr h.2.2.2⟩
theorem Var3.new (w : World) (k f : Int) (b : ByteArray) (T : TypeId) : Var3 w.heap.size k f b (w.alloc (.cells #[.int .i64 k, .int .i64 f, .string b] T)) :=
  ⟨⟨by simp, by simp, by simp⟩, by simp, by simp, by simp⟩
/-- A chunk was drawn; the reader stands. -/
def DrewC (B r m : Nat) (w : World) (e : Ending) (w' : World) : Prop :=
  ∃ (k f : Int) (b : ByteArray), e = .returned (.agg #[.int .i64 k, .int .i64 f, .string b]) ∧ ((-1 ≤ k ∧ k ≤ 256) ∧ (-1 ≤ f ∧ f ≤ 256) ∧ b.size ≤ 62) ∧ Rd B r m w' ∧ Below B w w'

/-- A new row of one byte becomes a text. -/
theorem conv_single (w : World) (b : Nat) (x : Int) (c : Nat) (h : w.cell? ⟨b, 0, none⟩ = some (.int .u8 x)) :
    (convert 22 9 (.slice (some ⟨b, 0, none⟩) 1 c)).run Try.prog w = .ok (.string (strOfNums [x])) w :=
  run_convert_bytes_arg _ 22 5 Try.underlying22 Try.underlying5 b 0 1 c [x] rfl (fun i hi => by
    obtain rfl : i = 0 := by omega
    exact h) 9 Try.underlying9

end Go.Proofs.Ytncbgejggfkdmaa

/- The contracts of the drawing functions of the laws on chunks: a chunk, bytes and a place, a kind. -/
namespace Go.Proofs.Ytncbgejggfkdmaa
open Go.RowKit Go.PlainAid

theorem IsRow.keep {k : IntKind} {w w' : World} {a : Option Addr} {len cap : Nat} {zs : List Int} (h : IsRow k w a len cap zs) (hb : Below w.heap.size w w') : IsRow k w' a len cap zs := by
  rcases h with h | ⟨x, h1, h2, h3, h4, h5, h6⟩
  · exact .inl h
  · refine .inr ⟨x, h1, h2, h3, h4, fun i hi => ?_, h6⟩
    have hc := h5 i hi
    exact (hb.cell (World.block_lt_of_cell? w _ hc)).trans hc

/-- A chunk was drawn out of the given bytes. -/
def DrewCh (w : World) (e : Ending) (w' : World) : Prop :=
  ∃ (k f : Int) (b : ByteArray), e = .returned (.agg #[.int .i64 k, .int .i64 f, .string b]) ∧ ((-1 ≤ k ∧ k ≤ 256) ∧ (-1 ≤ f ∧ f ≤ 256) ∧ b.size ≤ 62) ∧ Below w.heap.size w w'

end Go.Proofs.Ytncbgejggfkdmaa

/- The contracts of the drawing functions for parts. -/
namespace Go.Proofs.Ytncbgejggfkdmaa
open Go.RowKit Go.PlainAid

/-- About a serial number. -/
def Near' (a : Int) : Prop := -1 ≤ a ∧ a ≤ 65536
/-- A part was drawn; the reader stands. -/
def DrewD (B r m : Nat) (w : World) (e : Ending) (w' : World) : Prop :=
  ∃ (a b c : Int) (fi la lo : Bool) (t : ByteArray), e = .returned (.agg #[.int .i64 a, .int .i64 b, .int .i64 c, .bool fi, .bool la, .bool lo, .string t]) ∧ (Near' a ∧ Near' b ∧ Near' c ∧ t.size ≤ 30) ∧ Rd B r m w' ∧ Below B w w'

set_option maxHeartbeats 2000000 in
theorem l91Part_fr (B r m : Nat) (w : World) (h : Rd B r m w) (hm : m ≤ 100000) :
    Calls Try.prog 40 #[.pointer (some ⟨r, 0, none⟩)] w fun e w' => DrewD B r (m + 40) w e w' ∧ Fr B r w w' := by
  have hrw := h.2.1
  have hB0 : B ≤ w.heap.size := Nat.le_of_lt (Nat.lt_of_le_of_lt h.1 hrw)
  go_enter Try.func40, Try.ntmps40
  go_wp2_with fail
  refine (l91Good_as B r m _ (h.alloc _) (by omega)).mono ?_
  rintro e w1 ⟨⟨a, rfl, ⟨a0, a1⟩, hr1, hb1⟩, ha1⟩
  have R1 := (VarN.new w [.int .i64 0, .int .i64 0, .int .i64 0, .bool false, .bool false, .bool false, .string (ByteArray.mk #[])] 28).aside ha1 (by simp) (by omega)
  have hB1 : Fr B r w w1 := ((Fr.refl B r w).alloc hB0 _).step hb1 ha1
  have hz1 : w.heap.size < w1.heap.size := by have := hb1.size; simp at this; omega
  clear ha1 hb1
  go_wp2_with fail
  refine (pick_any B r (m + 3) 3 _ hr1 (by omega) (by omega) (by omega)).mono ?_
  rintro e w2 ⟨b, rfl, b0, b1, hr2, ho2⟩
  have R2 := R1.only ho2 (by omega)
  have hB2 := hB1.only h.1 ho2
  have hz2 : w.heap.size < w2.heap.size := by rw [ho2.size]; exact hz1
  clear R1 hB1 hr1 ho2 hz1
  go_wp2_with fail
  refine (pick_any B r (m + 4) 4 _ hr2 (by omega) (by omega) (by omega)).mono ?_
  rintro e w3 ⟨c, rfl, c0, c1, hr3, ho3⟩
  have R3 := R2.only ho3 (by omega)
  have hB3 := hB2.only h.1 ho3
  have hz3 : w.heap.size < w3.heap.size := by rw [ho3.size]; exact hz2
  clear R2 hB2 hr2 ho3 hz2
  go_wp2_with fail
  refine (l91Bytes_as B r (m + 5) 6 _ hr3 (by omega) (by omega)).mono ?_
  rintro e w4 ⟨⟨t, rfl, ht, hr4, hb4⟩, ha4⟩
  have R4 := R3.aside ha4 hz3 (by omega)
  have hB4 := hB3.step hb4 ha4
  have hz4 : w.heap.size < w4.heap.size := Nat.lt_of_lt_of_le hz3 hb4.size
  clear R3 hB3 hr3 ha4 hb4 hz3
  have htz : (t ++ ByteArray.mk #[116]).size ≤ 7 := by rw [ByteArray.size_append]; show t.size + 1 ≤ 7; omega
  have hr4z : r < w4.heap.size := by omega
  have hwz : w.heap.size ≤ w4.heap.size := Nat.le_of_lt hz4
  have hne : ¬ w4.heap.size = w.heap.size := by omega
  have hne' : ¬ w.heap.size = w4.heap.size := by omega
  go_wp2_with fail
  refine (pick_any B r (m + 18) 2 _ (hr4.alloc _) (by omega) (by omega) (by omega)).mono ?_
  rintro e w5 ⟨x, rfl, x0, x1, hr5, ho5⟩
  have V5 := (VarN.new w4 [.int .i64 (a), .int .i64 (b), .int .i64 (c), .bool (false), .bool (false), .bool (false), .string (t ++ ByteArray.mk #[116])] 28).only ho5 (by omega)
  have R5 := (R4.alloc (.cells (List.toArray [.int .i64 (a), .int .i64 (b), .int .i64 (c), .bool (false), .bool (false), .bool (false), .string (t ++ ByteArray.mk #[116])]) 28) hz4).only ho5 (by omega)
  have hB5 : Fr B r w w5 := (hB4.alloc hB0 _).only h.1 ho5
  clear R4 hB4 hr4 ho5
  have q3 := (V5 3 _ rfl).1
  have o3 := (V5 3 _ rfl).2
  have HV5 := Lib.hid (V5.set (i := 3) (.bool (x == 0)))
  have HR5 := Lib.hid (R5.far (i := 3) (.bool (x == 0)) (by omega))
  clear V5 R5
  go_wp2_with fail
  refine (pick_any B r (m + 19) 2 _ (hr5.far (by omega) _ _) (by omega) (by omega) (by omega)).mono ?_
  rintro e w6 ⟨y, rfl, y0, y1, hr6, ho6⟩
  have V6 := HV5.out.only ho6 (by omega)
  have R6 := HR5.out.only ho6 (by omega)
  have hB6 : Fr B r w w6 := (hB5.set hwz hB0 _).only h.1 ho6
  clear HV5 HR5 q3 o3 hB5 hr5 ho6
  have q4 := (V6 4 _ rfl).1
  have o4 := (V6 4 _ rfl).2
  have HV6 := Lib.hid (V6.set (i := 4) (.bool (y == 0)))
  have HR6 := Lib.hid (R6.far (i := 4) (.bool (y == 0)) (by omega))
  clear V6 R6
  go_wp2_with fail
  refine (pick_any B r (m + 20) 4 _ (hr6.far (by omega) _ _) (by omega) (by omega) (by omega)).mono ?_
  rintro e w7 ⟨u, rfl, u0, u1, hr7, ho7⟩
  have V7 := HV6.out.only ho7 (by omega)
  have R7 := HR6.out.only ho7 (by omega)
  have hB7 : Fr B r w w7 := (hB6.set hwz hB0 _).only h.1 ho7
  clear HV6 HR6 q4 o4 hB6 hr6 ho7
  have q5 := (V7 5 _ rfl).1
  have o5 := (V7 5 _ rfl).2
  have HV7 := Lib.hid (V7.set (i := 5) (.bool (u == 0)))
  have HR7 := Lib.hid (R7.far (i := 5) (.bool (u == 0)) (by omega))
  clear V7 R7
  go_wp2_with fail
  refine (pick_any B r (m + 21) 20 _ (hr7.far (by omega) _ _) (by omega) (by omega) (by omega)).mono ?_
  rintro e w8 ⟨j, rfl, j0, j1, hr8, ho8⟩
  have V8 := HV7.out.only ho8 (by omega)
  have R8 := HR7.out.only ho8 (by omega)
  have hB8 : Fr B r w w8 := (hB7.set hwz hB0 _).only h.1 ho8
  clear HV7 HR7 q5 o5 hB7 hr7 ho8
  have hz8 : w4.heap.size < w8.heap.size := lt_of_cell (V8 0 _ rfl).1
  have hz8' : w.heap.size < w8.heap.size := lt_of_cell (R8 0 _ rfl).1
  by_cases s0 : j = 0
  · subst s0
    go_wp2_with fail
    refine (pick_any B r (m + 22) 3 _ hr8 (by omega) (by omega) (by omega)).mono ?_
    rintro e w9 ⟨i, rfl, i0, i1, hr9, ho9⟩
    have V9 := V8.only ho9 (by omega)
    have R9 := R8.only ho9 (by omega)
    have hB9 := hB8.only h.1 ho9
    clear V8 R8 ho9 hB8 hr8 hz8 hz8'
    obtain ⟨I, rfl⟩ := Int.eq_ofNat_of_zero_le i0
    go_wp2_with fail
    rw [show (19 : Int) + (I : Int) = ((19 + I : Nat) : Int) by omega]
    refine (l6Many_any (ByteArray.mk #[121]) (19 + I) _ (by decide) (by omega)).mono ?_
    rintro e w10 ⟨t', rfl, ht', rfl⟩
    have ht1 : t'.size ≤ 30 := by
      rw [ht', show (ByteArray.mk #[121]).size = 1 from rfl]
      omega
    clear ht'
    have c0 := (V9 0 _ rfl).1
    have c1 := (V9 1 _ rfl).1
    have c2 := (V9 2 _ rfl).1
    have c3 := (V9 3 _ rfl).1
    have c4 := (V9 4 _ rfl).1
    have c5 := (V9 5 _ rfl).1
    have c6 := (V9 6 _ rfl).1
    have d6 := (V9 6 _ rfl).2
    have r0 := (R9 0 _ rfl).1
    have r1 := (R9 1 _ rfl).1
    have r2 := (R9 2 _ rfl).1
    have r3 := (R9 3 _ rfl).1
    have r4 := (R9 4 _ rfl).1
    have r5 := (R9 5 _ rfl).1
    have r6 := (R9 6 _ rfl).1
    have g0 := (R9 0 _ rfl).2
    have g1 := (R9 1 _ rfl).2
    have g2 := (R9 2 _ rfl).2
    have g3 := (R9 3 _ rfl).2
    have g4 := (R9 4 _ rfl).2
    have g5 := (R9 5 _ rfl).2
    have g6 := (R9 6 _ rfl).2
    go_wp2
    refine bodyPost_ret (v := .agg #[.int .i64 (a), .int .i64 (b), .int .i64 (c), .bool (x == 0), .bool (y == 0), .bool (u == 0), .string (t')]) ?_ rfl ?_
    · simp [results, Try.results40, go_sem, r0, r1, r2, r3, r4, r5, r6]
    · refine ⟨⟨_, _, _, _, _, _, _, rfl, ⟨⟨by omega, by omega⟩, ⟨by omega, by omega⟩, ⟨by omega, by omega⟩, ht1⟩, ?_, ?_⟩, ?_⟩
      · repeat (first | with_reducible exact hr9.mono (by omega) | refine Rd.far ?_ (by omega) _ _)
      · refine Fr.below (r := r) ?_
        repeat (first | with_reducible exact hB9 | refine Fr.set ?_ (by first | exact Nat.le_refl _ | exact hwz) hB0 _)
      · repeat (first | with_reducible exact hB9 | refine Fr.set ?_ (by first | exact Nat.le_refl _ | exact hwz) hB0 _)
  · by_cases s1 : j = 1
    · subst s1
      clear hz8 hz8'
      have c0 := (V8 0 _ rfl).1
      have c1 := (V8 1 _ rfl).1
      have c2 := (V8 2 _ rfl).1
      have c3 := (V8 3 _ rfl).1
      have c4 := (V8 4 _ rfl).1
      have c5 := (V8 5 _ rfl).1
      have c6 := (V8 6 _ rfl).1
      have d6 := (V8 6 _ rfl).2
      have r0 := (R8 0 _ rfl).1
      have r1 := (R8 1 _ rfl).1
      have r2 := (R8 2 _ rfl).1
      have r3 := (R8 3 _ rfl).1
      have r4 := (R8 4 _ rfl).1
      have r5 := (R8 5 _ rfl).1
      have r6 := (R8 6 _ rfl).1
      have g0 := (R8 0 _ rfl).2
      have g1 := (R8 1 _ rfl).2
      have g2 := (R8 2 _ rfl).2
      have g3 := (R8 3 _ rfl).2
      have g4 := (R8 4 _ rfl).2
      have g5 := (R8 5 _ rfl).2
      have g6 := (R8 6 _ rfl).2
      go_wp2
      refine bodyPost_ret (v := .agg #[.int .i64 (a), .int .i64 (b), .int .i64 (c), .bool (x == 0), .bool (y == 0), .bool (u == 0), .string (ByteArray.mk #[])]) ?_ rfl ?_
      · simp [results, Try.results40, go_sem, r0, r1, r2, r3, r4, r5, r6]
      · refine ⟨⟨_, _, _, _, _, _, _, rfl, ⟨⟨by omega, by omega⟩, ⟨by omega, by omega⟩, ⟨by omega, by omega⟩, by decide⟩, ?_, ?_⟩, ?_⟩
        · repeat (first | with_reducible exact hr8.mono (by omega) | refine Rd.far ?_ (by omega) _ _)
        · refine Fr.below (r := r) ?_
          repeat (first | with_reducible exact hB8 | refine Fr.set ?_ (by first | exact Nat.le_refl _ | exact hwz) hB0 _)
        · repeat (first | with_reducible exact hB8 | refine Fr.set ?_ (by first | exact Nat.le_refl _ | exact hwz) hB0 _)
    · by_cases s2 : j = 2
      · subst s2
        go_wp2_with fail
        refine (l91Word_as B r (m + 22) _ hr8 (by omega)).mono ?_
        rintro e w9 ⟨⟨g, rfl, hg, hr9, hb9⟩, ha9⟩
        have V9 := V8.aside ha9 hz8 (by omega)
        have R9 := R8.aside ha9 hz8' (by omega)
        have hB9 := hB8.step hb9 ha9
        clear V8 R8 ha9 hb9 hB8 hr8 hz8 hz8'
        have c0 := (V9 0 _ rfl).1
        have c1 := (V9 1 _ rfl).1
        have c2 := (V9 2 _ rfl).1
        have c3 := (V9 3 _ rfl).1
        have c4 := (V9 4 _ rfl).1
        have c5 := (V9 5 _ rfl).1
        have c6 := (V9 6 _ rfl).1
        have d0 := (V9 0 _ rfl).2
        have r0 := (R9 0 _ rfl).1
        have r1 := (R9 1 _ rfl).1
        have r2 := (R9 2 _ rfl).1
        have r3 := (R9 3 _ rfl).1
        have r4 := (R9 4 _ rfl).1
        have r5 := (R9 5 _ rfl).1
        have r6 := (R9 6 _ rfl).1
        have g0 := (R9 0 _ rfl).2
        have g1 := (R9 1 _ rfl).2
        have g2 := (R9 2 _ rfl).2
        have g3 := (R9 3 _ rfl).2
        have g4 := (R9 4 _ rfl).2
        have g5 := (R9 5 _ rfl).2
        have g6 := (R9 6 _ rfl).2
        go_wp2
        refine bodyPost_ret (v := .agg #[.int .i64 (g), .int .i64 (b), .int .i64 (c), .bool (x == 0), .bool (y == 0), .bool (u == 0), .string (t ++ ByteArray.mk #[116])]) ?_ rfl ?_
        · simp [results, Try.results40, go_sem, r0, r1, r2, r3, r4, r5, r6]
        · refine ⟨⟨_, _, _, _, _, _, _, rfl, ⟨hg, ⟨by omega, by omega⟩, ⟨by omega, by omega⟩, by omega⟩, ?_, ?_⟩, ?_⟩
          · repeat (first | with_reducible exact hr9.mono (by omega) | refine Rd.far ?_ (by omega) _ _)
          · refine Fr.below (r := r) ?_
            repeat (first | with_reducible exact hB9 | refine Fr.set ?_ (by first | exact Nat.le_refl _ | exact hwz) hB0 _)
          · repeat (first | with_reducible exact hB9 | refine Fr.set ?_ (by first | exact Nat.le_refl _ | exact hwz) hB0 _)
      · by_cases s3 : j = 3
        · subst s3
          go_wp2_with fail
          refine (l91Word_as B r (m + 22) _ hr8 (by omega)).mono ?_
          rintro e w9 ⟨⟨g, rfl, hg, hr9, hb9⟩, ha9⟩
          have V9 := V8.aside ha9 hz8 (by omega)
          have R9 := R8.aside ha9 hz8' (by omega)
          have hB9 := hB8.step hb9 ha9
          clear V8 R8 ha9 hb9 hB8 hr8 hz8 hz8'
          have c0 := (V9 0 _ rfl).1
          have c1 := (V9 1 _ rfl).1
          have c2 := (V9 2 _ rfl).1
          have c3 := (V9 3 _ rfl).1
          have c4 := (V9 4 _ rfl).1
          have c5 := (V9 5 _ rfl).1
          have c6 := (V9 6 _ rfl).1
          have d1 := (V9 1 _ rfl).2
          have r0 := (R9 0 _ rfl).1
          have r1 := (R9 1 _ rfl).1
          have r2 := (R9 2 _ rfl).1
          have r3 := (R9 3 _ rfl).1
          have r4 := (R9 4 _ rfl).1
          have r5 := (R9 5 _ rfl).1
          have r6 := (R9 6 _ rfl).1
          have g0 := (R9 0 _ rfl).2
          have g1 := (R9 1 _ rfl).2
          have g2 := (R9 2 _ rfl).2
          have g3 := (R9 3 _ rfl).2
          have g4 := (R9 4 _ rfl).2
          have g5 := (R9 5 _ rfl).2
          have g6 := (R9 6 _ rfl).2
          go_wp2
          refine bodyPost_ret (v := .agg #[.int .i64 (a), .int .i64 (g), .int .i64 (c), .bool (x == 0), .bool (y == 0), .bool (u == 0), .string (t ++ ByteArray.mk #[116])]) ?_ rfl ?_
          · simp [results, Try.results40, go_sem, r0, r1, r2, r3, r4, r5, r6]
          · refine ⟨⟨_, _, _, _, _, _, _, rfl, ⟨⟨by omega, by omega⟩, hg, ⟨by omega, by omega⟩, by omega⟩, ?_, ?_⟩, ?_⟩
            · repeat (first | with_reducible exact hr9.mono (by omega) | refine Rd.far ?_ (by omega) _ _)
            · refine Fr.below (r := r) ?_
              repeat (first | with_reducible exact hB9 | refine Fr.set ?_ (by first | exact Nat.le_refl _ | exact hwz) hB0 _)
            · repeat (first | with_reducible exact hB9 | refine Fr.set ?_ (by first | exact Nat.le_refl _ | exact hwz) hB0 _)
        · by_cases s4 : j = 4
          · subst s4
            go_wp2_with fail
            refine (l91Word_as B r (m + 22) _ hr8 (by omega)).mono ?_
            rintro e w9 ⟨⟨g, rfl, hg, hr9, hb9⟩, ha9⟩
            have V9 := V8.aside ha9 hz8 (by omega)
            have R9 := R8.aside ha9 hz8' (by omega)
            have hB9 := hB8.step hb9 ha9
            clear V8 R8 ha9 hb9 hB8 hr8 hz8 hz8'
            have c0 := (V9 0 _ rfl).1
            have c1 := (V9 1 _ rfl).1
            have c2 := (V9 2 _ rfl).1
            have c3 := (V9 3 _ rfl).1
            have c4 := (V9 4 _ rfl).1
            have c5 := (V9 5 _ rfl).1
            have c6 := (V9 6 _ rfl).1
            have d2 := (V9 2 _ rfl).2
            have r0 := (R9 0 _ rfl).1
            have r1 := (R9 1 _ rfl).1
            have r2 := (R9 2 _ rfl).1
            have r3 := (R9 3 _ rfl).1
            have r4 := (R9 4 _ rfl).1
            have r5 := (R9 5 _ rfl).1
            have r6 := (R9 6 _ rfl).1
            have g0 := (R9 0 _ rfl).2
            have g1 := (R9 1 _ rfl).2
            have g2 := (R9 2 _ rfl).2
            have g3 := (R9 3 _ rfl).2
            have g4 := (R9 4 _ rfl).2
            have g5 := (R9 5 _ rfl).2
            have g6 := (R9 6 _ rfl).2
            go_wp2
            refine bodyPost_ret (v := .agg #[.int .i64 (a), .int .i64 (b), .int .i64 (g), .bool (x == 0), .bool (y == 0), .bool (u == 0), .string (t ++ ByteArray.mk #[116])]) ?_ rfl ?_
            · simp [results, Try.results40, go_sem, r0, r1, r2, r3, r4, r5, r6]
            · refine ⟨⟨_, _, _, _, _, _, _, rfl, ⟨⟨by omega, by omega⟩, ⟨by omega, by omega⟩, hg, by omega⟩, ?_, ?_⟩, ?_⟩
              · repeat (first | with_reducible exact hr9.mono (by omega) | refine Rd.far ?_ (by omega) _ _)
              · refine Fr.below (r := r) ?_
                repeat (first | with_reducible exact hB9 | refine Fr.set ?_ (by first | exact Nat.le_refl _ | exact hwz) hB0 _)
              · repeat (first | with_reducible exact hB9 | refine Fr.set ?_ (by first | exact Nat.le_refl _ | exact hwz) hB0 _)
          · clear hz8 hz8'
            have c0 := (V8 0 _ rfl).1
            have c1 := (V8 1 _ rfl).1
            have c2 := (V8 2 _ rfl).1
            have c3 := (V8 3 _ rfl).1
            have c4 := (V8 4 _ rfl).1
            have c5 := (V8 5 _ rfl).1
            have c6 := (V8 6 _ rfl).1
            have r0 := (R8 0 _ rfl).1
            have r1 := (R8 1 _ rfl).1
            have r2 := (R8 2 _ rfl).1
            have r3 := (R8 3 _ rfl).1
            have r4 := (R8 4 _ rfl).1
            have r5 := (R8 5 _ rfl).1
            have r6 := (R8 6 _ rfl).1
            have g0 := (R8 0 _ rfl).2
            have g1 := (R8 1 _ rfl).2
            have g2 := (R8 2 _ rfl).2
            have g3 := (R8 3 _ rfl).2
            have g4 := (R8 4 _ rfl).2
            have g5 := (R8 5 _ rfl).2
            have g6 := (R8 6 _ rfl).2
            go_wp2
            refine bodyPost_ret (v := .agg #[.int .i64 (a), .int .i64 (b), .int .i64 (c), .bool (x == 0), .bool (y == 0), .bool (u == 0), .string (t ++ ByteArray.mk #[116])]) ?_ rfl ?_
            · simp [results, Try.results40, go_sem, r0, r1, r2, r3, r4, r5, r6]
            · refine ⟨⟨_, _, _, _, _, _, _, rfl, ⟨⟨by omega, by omega⟩, ⟨by omega, by omega⟩, ⟨by omega, by omega⟩, by omega⟩, ?_, ?_⟩, ?_⟩
              · repeat (first | with_reducible exact hr8.mono (by omega) | refine Rd.far ?_ (by omega) _ _)
              · refine Fr.below (r := r) ?_
                repeat (first | with_reducible exact hB8 | refine Fr.set ?_ (by first | exact Nat.le_refl _ | exact hwz) hB0 _)
              · repeat (first | with_reducible exact hB8 | refine Fr.set ?_ (by first | exact Nat.le_refl _ | exact hwz) hB0 _)

end Go.Proofs.Ytncbgejggfkdmaa

/- The contracts of the drawing functions of the laws on parts: a part, and a chunk that is often that of a part. -/
namespace Go.Proofs.Ytncbgejggfkdmaa
open Go.RowKit Go.PlainAid

/-- A part was drawn out of the given bytes. -/
def DrewDa (w : World) (e : Ending) (w' : World) : Prop :=
  ∃ (a b c : Int) (fi la lo : Bool) (t : ByteArray), e = .returned (.agg #[.int .i64 a, .int .i64 b, .int .i64 c, .bool fi, .bool la, .bool lo, .string t]) ∧ (Near' a ∧ Near' b ∧ Near' c ∧ t.size ≤ 30) ∧ Below w.heap.size w w'

/-- The chunk of a part, or none: its fields. -/
def MadeC (w : World) (e : Ending) (w' : World) : Prop :=
  ∃ (k f : Int) (b : ByteArray) (ok : Bool), e = .returned (.tuple #[.agg #[.int .i64 k, .int .i64 f, .string b], .bool ok]) ∧ ((0 ≤ k ∧ k ≤ 3) ∧ (0 ≤ f ∧ f ≤ 7) ∧ b.size ≤ 40) ∧ Below w.heap.size w w'

end Go.Proofs.Ytncbgejggfkdmaa

/- The contract of the model's TalkParts; a text out of a table; what holds while a talk is drawn. -/
namespace Go.Proofs.Ytncbgejggfkdmaa
open Go.RowKit Go.PlainAid

set_option maxHeartbeats 1000000 in
theorem sTalkParts_any (f t a0 a1 a2 a3 b0 b1 b2 b3 sz : Int) (sa : Option Addr) (len cap : Nat) (ss : List SayP) (b : Bool) (w : World) (h : Sys w sa len cap ss) (hn : len ≤ 1048576) (htx : ∀ x ∈ ss, x.text.size ≤ 9223372036854775807) :
    Calls Try.prog 84 #[.agg #[.int .i64 f, .int .i64 t, .int .i64 a0, .int .i64 a1, .int .i64 a2, .int .i64 a3, .int .i64 b0, .int .i64 b1, .int .i64 b2, .int .i64 b3, .int .i64 sz, .slice sa len cap], .bool b] w fun e w' => ∃ a k cp, e = .returned (.slice a k cp) ∧ OwnP k (.slice a k cp) (partsV ⟨f, t, ⟨a0, a1, a2, a3⟩, ⟨b0, b1, b2, b3⟩, sz, ss⟩ b) w w' := by
  have BX := Lib.hid (below_box (w := w) (.cells #[.int .i64 f, .int .i64 t, .int .i64 a0, .int .i64 a1, .int .i64 a2, .int .i64 a3, .int .i64 b0, .int .i64 b1, .int .i64 b2, .int .i64 b3, .int .i64 sz, .slice sa len cap] 88) (Nat.le_refl _))
  have VX := Lib.hid (VarN.new w [.int .i64 f, .int .i64 t, .int .i64 a0, .int .i64 a1, .int .i64 a2, .int .i64 a3, .int .i64 b0, .int .i64 b1, .int .i64 b2, .int .i64 b3, .int .i64 sz, .slice sa len cap] 88)
  have HS := Lib.hid (h.below BX.out)
  clear h
  obtain ⟨tv, htv⟩ : ∃ v, talkV ⟨f, t, ⟨a0, a1, a2, a3⟩, ⟨b0, b1, b2, b3⟩, sz, ss⟩ = v := ⟨_, rfl⟩
  have HV := Lib.hid htv
  have first : ∀ {Q : Prop}, (talkV ⟨f, t, ⟨a0, a1, a2, a3⟩, ⟨b0, b1, b2, b3⟩, sz, ss⟩ = true → Q) → (talkV ⟨f, t, ⟨a0, a1, a2, a3⟩, ⟨b0, b1, b2, b3⟩, sz, ss⟩ = false → Q) → Q := fun h1 h2 => by
    cases hv : talkV ⟨f, t, ⟨a0, a1, a2, a3⟩, ⟨b0, b1, b2, b3⟩, sz, ss⟩ with
    | true => exact h1 hv
    | false => exact h2 hv
  clear first
  have v := VX.out
  have v0 := (VX.out 0 _ rfl).1
  have v1 := (VX.out 1 _ rfl).1
  have v2 := (VX.out 2 _ rfl).1
  have v3 := (VX.out 3 _ rfl).1
  have v4 := (VX.out 4 _ rfl).1
  have v5 := (VX.out 5 _ rfl).1
  have v6 := (VX.out 6 _ rfl).1
  have v7 := (VX.out 7 _ rfl).1
  have v8 := (VX.out 8 _ rfl).1
  have v9 := (VX.out 9 _ rfl).1
  have v10 := (VX.out 10 _ rfl).1
  have v11 := (VX.out 11 _ rfl).1
  clear v htv
  go_enter Try.func84, Try.ntmps84
  go_wp2_with fail
  refine (sTalkValid_any f t a0 a1 a2 a3 b0 b1 b2 b3 sz sa len cap ss _ HS.out hn htx).mono ?_
  rw [HV.out]
  rintro e w1 ⟨rfl, hb1⟩
  clear v0 v1 v2 v3 v4 v5 v6 v7 v8 v9 v10 v11
  have BX1 := Lib.hid (BX.out.trans (hb1.mono BX.out.size))
  have VX1 := Lib.hid (VX.out.below hb1 (by simp))
  have HS1 := Lib.hid (HS.out.below hb1)
  clear hb1 BX VX HS
  cases tv with
  | true =>
    have OK : Hid (TalkOk ⟨f, t, ⟨a0, a1, a2, a3⟩, ⟨b0, b1, b2, b3⟩, sz, ss⟩) := Lib.hid (by
      apply Classical.byContradiction
      intro hn
      have := HV.out
      rw [talkV_no hn] at this
      cases this)
    have PV := Lib.hid (partsV_yes b OK.out)
    obtain ⟨z, rfl⟩ : ∃ z : Nat, sz = (z : Int) := ⟨sz.toNat, by have := OK.out.1.2.2.2.2.2.1; dsimp only at this; omega⟩
    have v0 := (VX1.out 0 _ rfl).1
    have v1 := (VX1.out 1 _ rfl).1
    have v2 := (VX1.out 2 _ rfl).1
    have v3 := (VX1.out 3 _ rfl).1
    have v4 := (VX1.out 4 _ rfl).1
    have v5 := (VX1.out 5 _ rfl).1
    have v6 := (VX1.out 6 _ rfl).1
    have v7 := (VX1.out 7 _ rfl).1
    have v8 := (VX1.out 8 _ rfl).1
    have v9 := (VX1.out 9 _ rfl).1
    have v10 := (VX1.out 10 _ rfl).1
    have v11 := (VX1.out 11 _ rfl).1
    go_wp2_with fail
    refine (l41Parts_any f t a0 a1 a2 a3 b0 b1 b2 b3 z sa len cap ss b _ HS1.out OK.out).mono ?_
    rintro e w2 ⟨a, k, cp, rfl, ho⟩
    have O := Lib.hid (ho.low BX1.out)
    clear ho v0 v1 v2 v3 v4 v5 v6 v7 v8 v9 v10 v11
    go_wp2
    go_ret
    exact ⟨a, k, cp, rfl, by rw [PV.out]; exact O.out⟩
  | false =>
    have PV := Lib.hid (partsV_no (t := ⟨f, t, ⟨a0, a1, a2, a3⟩, ⟨b0, b1, b2, b3⟩, sz, ss⟩) b (fun hok => by
      have := HV.out
      rw [talkV_yes hok] at this
      cases this))
    have O := Lib.hid (OwnP.start BX1.out)
    go_wp2
    go_ret
    exact ⟨_, 0, 0, rfl, by rw [PV.out]; exact O.out⟩

set_option maxHeartbeats 1000000 in
theorem of_only (B r m g n cap : Nat) (w : World) (h : Rd B r m w) (hm : m ≤ 1000000) (hn : 1 ≤ n) (hn2 : n ≤ 1000) (hg : g ≠ r)
    (hc : ∀ j, j < n → ∃ t : ByteArray, t.size ≤ 100 ∧ w.cell? ⟨g, j, none⟩ = some (.string t)) :
    Calls Try.prog 82 #[.pointer (some ⟨r, 0, none⟩), .slice (some ⟨g, 0, none⟩) n cap] w fun e w' => ∃ t : ByteArray, e = .returned (.string t) ∧ t.size ≤ 100 ∧ Rd B r (m + 1) w' ∧ Only r w w' := by
  have HC := Lib.hid hc
  clear hc
  go_enter Try.func82, Try.ntmps82
  go_wp2_with fail
  refine (pick_any B r m n _ h (by omega) (by omega) (by omega)).mono ?_
  rintro e w1 ⟨k, rfl, k0, k1, hr1, ho1⟩
  obtain ⟨t, ht, hct⟩ := HC.out k.toNat (by omega)
  have hct1 : w1.cell? ⟨g, k.toNat, none⟩ = some (.string t) := by
    obtain ⟨v, q, rfl⟩ := ho1
    rw [World.cell?_drewN]
    exact cell_far (fun e => hg e.symm) hct
  clear hct
  go_wp2
  go_ret
  exact ⟨t, rfl, ht, hr1, ho1⟩

/-- Before the talk is made: the reader, the answer's box. -/
structure Te (B r M : Nat) (zv : List Value) (w W : World) : Prop where
  rd : Rd B r M W
  rs : W.heap[w.heap.size]? = some (.cells zv.toArray 88 (0, 0))
  b : Below B w W
  o1 : r < w.heap.size
  a : Aside w.heap.size r w W
section
variable {B r M M' T k cap : Nat} {zv tv : List Value} {a : Option Addr} {ss : List SayP} {w W W' : World}
theorem Te.by (h : Te B r M zv w W) (hk : Aside W.heap.size r W W') (hr : Rd B r M' W') (hb : Below B W W') : Te B r M' zv w W' :=
  ⟨hr, (hk _ (Array.getElem?_eq_some_iff.1 h.rs).1 (by have := h.o1; omega)).trans h.rs, h.b.trans hb, h.o1, h.a.trans (hk.less (Nat.le_of_lt (Array.getElem?_eq_some_iff.1 h.rs).1))⟩
theorem Te.only (h : Te B r M zv w W) (ho : Only r W W') (hr : Rd B r M' W') : Te B r M' zv w W' := h.by ho.aside hr (ho.below h.rd.1)
/-- While a talk is drawn: the reader, the answer's box, the talk's box, what is said in a row of one's own. -/
structure Td (B r M T : Nat) (zv tv : List Value) (a : Option Addr) (k cap : Nat) (ss : List SayP) (w W : World) : Prop where
  e : Te B r M zv w W
  t : W.heap[T]? = some (.cells tv.toArray 88 (0, 0))
  own : W.ownsRow (w.heap.size + 1) 113 4 (.slice a k cap) k (flatY ss)
  o2 : w.heap.size < T
theorem Td.by (h : Td B r M T zv tv a k cap ss w W) (hk : Aside W.heap.size r W W') (hr : Rd B r M' W') (hb : Below B W W') : Td B r M' T zv tv a k cap ss w W' :=
  ⟨h.e.by hk hr hb, (hk _ (Array.getElem?_eq_some_iff.1 h.t).1 (by have := h.e.o1; have := h.o2; omega)).trans h.t,
   row_same h.own fun x h1 h2 => hk x h2 (by have := h.e.o1; omega), h.o2⟩
theorem Td.only (h : Td B r M T zv tv a k cap ss w W) (ho : Only r W W') (hr : Rd B r M' W') : Td B r M' T zv tv a k cap ss w W' := h.by ho.aside hr (ho.below h.e.rd.1)
theorem Td.up (h : Td B r M T zv tv a k cap ss w W) (hb : Below W.heap.size W W') : Td B r M T zv tv a k cap ss w W' :=
  h.by (below_aside hb (Nat.le_refl _)) (h.e.rd.keep hb h.e.rd.2.1) (hb.mono (Nat.le_of_lt (Nat.lt_of_le_of_lt h.e.rd.1 h.e.rd.2.1)))
theorem Td.mono (h : Td B r M T zv tv a k cap ss w W) (hM : M ≤ M') : Td B r M' T zv tv a k cap ss w W := ⟨⟨h.e.rd.mono hM, h.e.rs, h.e.b, h.e.o1, h.e.a⟩, h.t, h.own, h.o2⟩
theorem Td.var (h : Td B r M T zv tv a k cap ss w W) : VarN T tv W := var_of_heap h.t
theorem Td.res (h : Td B r M T zv tv a k cap ss w W) : VarN w.heap.size zv W := var_of_heap h.e.rs
/-- A cell of another block is written. -/
theorem Td.far {X i : Nat} (h : Td B r M T zv tv a k cap ss w W) (hX : w.heap.size < X) (hT : X ≠ T) (ho : ∀ g, (Value.slice a k cap).ownBlock = some g → g ≠ X) (v : Value) : Td B r M T zv tv a k cap ss w (W.setCell ⟨X, i, none⟩ v) := by
  have h1 := h.e.o1
  have h2 := h.e.rd.1
  refine ⟨⟨h.e.rd.far (by omega) _ _, (Below.heap_setCell W ⟨X, i, none⟩ v _ (by show w.heap.size ≠ X; omega)).trans h.e.rs, h.e.b.setCell (p := ⟨X, i, none⟩) (by show B ≤ X; omega) _, h1, h.e.a.trans (below_aside ((Below.refl X W).setCell (p := ⟨X, i, none⟩) (Nat.le_refl _) v) (by omega))⟩, (Below.heap_setCell W ⟨X, i, none⟩ v T (by show T ≠ X; exact hT.symm)).trans h.t, ?_, h.o2⟩
  refine ⟨h.own.1, ?_⟩
  rcases h.own.2 with h3 | ⟨g, cap', cur, hv, h4, h5, h6⟩
  · exact .inl h3
  · exact .inr ⟨g, cap', cur, hv, h4, (Below.heap_setCell W ⟨X, i, none⟩ v g (by show g ≠ X; exact ho g (by rw [hv]; rfl))).trans h5, h6⟩
/-- What is said is stored into the talk. -/
theorem Td.store {k2 cap2 : Nat} {a2 : Option Addr} {ss2 : List SayP} {v : Value} (h : Td B r M T zv tv a k cap ss w W) (ho : W.ownsRow (w.heap.size + 1) 113 4 (.slice a2 k2 cap2) k2 (flatY ss2)) : Td B r M T zv (tv.set 11 v) a2 k2 cap2 ss2 w (W.setCell ⟨T, 11, none⟩ v) := by
  have h1 := h.e.o1
  have h2 := h.e.rd.1
  have h3 := h.o2
  refine ⟨⟨h.e.rd.far (by omega) _ _, (Below.heap_setCell W ⟨T, 11, none⟩ v _ (by show w.heap.size ≠ T; omega)).trans h.e.rs, h.e.b.setCell (p := ⟨T, 11, none⟩) (by show B ≤ T; omega) _, h1, h.e.a.trans (below_aside ((Below.refl T W).setCell (p := ⟨T, 11, none⟩) (Nat.le_refl _) v) (by omega))⟩, ?_, setKind ho h.t (by decide) v, h.o2⟩
  rw [heap_set_at h.t]
  simp
theorem Td.grow {W1 : World} {v : Value} {n : Nat} {xs : List Value} (h : Td B r M T zv tv a k cap ss w W) (hgrow : W.grownBy W1 (Value.slice a k cap).ownBlock) (_hown : W1.ownsRow (w.heap.size + 1) 113 4 v n xs) : Te B r M zv w W1 ∧ W1.heap[T]? = some (.cells tv.toArray 88 (0, 0)) := by
  have h1 := h.e.o1
  have h2 := h.e.rd.1
  have hge : ∀ x, (Value.slice a k cap).ownBlock = some x → w.heap.size + 1 ≤ x := fun x hx => own_ge h.own hx
  exact ⟨⟨h.e.rd.keep (Below.grown (Below.refl (r + 1) W) hgrow (by have := h.e.rd.2.1; omega) fun x hx => by have := hge x hx; omega) (Nat.lt_succ_self r), boxGrown h.e.rs hgrow h.own (by decide), Below.grown h.e.b hgrow (Nat.le_of_lt (Nat.lt_of_le_of_lt h.e.rd.1 h.e.rd.2.1)) fun x hx => by have := hge x hx; omega, h1, h.e.a.trans fun b hb _ => hgrow.block b (Nat.lt_trans hb (Array.getElem?_eq_some_iff.1 h.e.rs).1) fun he => by have := hge b he.symm; omega⟩, boxGrown h.t hgrow h.own (by decide)⟩
theorem Td.push {W1 : World} {k2 cap2 : Nat} {a2 : Option Addr} {ss2 : List SayP} (h : Td B r M T zv tv a k cap ss w W) (hgrow : W.grownBy W1 (Value.slice a k cap).ownBlock) (hown : W1.ownsRow (w.heap.size + 1) 113 4 (.slice a2 k2 cap2) k2 (flatY ss2)) :
    Td B r M T zv (tv.set 11 (.slice a2 k2 cap2)) a2 k2 cap2 ss2 w (W1.setCell ⟨T, 11, none⟩ (.slice a2 k2 cap2)) := by
  obtain ⟨h1, h2⟩ := h.grow hgrow hown
  exact Td.store (a := a2) (k := k2) (cap := cap2) (ss := ss2) ⟨h1, h2, hown, h.o2⟩ hown
end
theorem own_init {W : World} {base k cap : Nat} {a : Option Addr} {ss : List SayP} {x : SayP} (h : W.ownsRow base 113 4 (.slice a (k + 1) cap) (k + 1) (flatY (ss ++ [x]))) : W.ownsRow base 113 4 (.slice a k cap) k (flatY ss) := by
  have hl := h.1
  have hf : flatY (ss ++ [x]) = flatY ss ++ cellsY x := by rw [flatY_append]; simp [flatY]
  rw [hf, List.length_append, cellsY_length] at hl
  refine ⟨by omega, ?_⟩
  rcases h.2 with ⟨_, h1⟩ | ⟨g, cap', cur, hv, h1, h2, h3, h4, h5, h6⟩
  · omega
  · obtain ⟨rfl, _, rfl⟩ : a = some ⟨g, 0, none⟩ ∧ True ∧ cap = cap' := by simpa using hv
    refine .inr ⟨g, cap, cur, rfl, h1, h2, by omega, h4, h5, ?_⟩
    have h7 : (cur.toList.take ((k + 1) * 4)).take (k * 4) = cur.toList.take (k * 4) := by rw [List.take_take]; congr 1; omega
    rw [← h7, h6, hf, List.take_append_of_le_length (by omega), List.take_of_length_le (by omega)]

end Go.Proofs.Ytncbgejggfkdmaa

/- The draw of a talk. -/
namespace Go.Proofs.Ytncbgejggfkdmaa
open Go.RowKit Go.PlainAid

theorem own_lt {W : World} {base e size n g : Nat} {v : Value} {xs : List Value} (h : W.ownsRow base e size v n xs) (hg : v.ownBlock = some g) : g < W.heap.size := by
  rcases h.2 with ⟨rfl, _⟩ | ⟨g', _, _, rfl, _, h3, _⟩
  · cases hg
  · obtain rfl : g' = g := by simpa [Value.ownBlock] using hg
    exact (Array.getElem?_eq_some_iff.1 h3).1
theorem Only.size2 {r : Nat} {w w' : World} (h : Only r w w') : w'.heap.size = w.heap.size := h.size
theorem aside_far {C r i : Nat} {w W : World} (h : Aside C r w W) (v : Value) : Aside C r w (W.setCell ⟨C, i, none⟩ v) := fun b hb hr => (Below.heap_setCell W ⟨C, i, none⟩ v b (by show b ≠ C; omega)).trans (h b hb hr)
/-- The talk is made. -/
theorem Te.start {B r M : Nat} {zv tv : List Value} {w W : World} (h : Te B r M zv w W) (_htv : tv.getD 11 undef = .slice (some ⟨W.heap.size, 0, none⟩) 0 0) :
    Td B r M (W.heap.size + 1) zv tv (some ⟨W.heap.size, 0, none⟩) 0 0 [] w ((W.alloc (.cells #[] 113)).alloc (.cells tv.toArray 88)) := by
  have B1 := below_box (w := W) (.cells #[] 113) (Nat.le_refl _)
  have B2 := below_box (w := W.alloc (.cells #[] 113)) (.cells tv.toArray 88) (Nat.le_refl _)
  have BB := B1.trans (B2.mono B1.size)
  have hz : w.heap.size < W.heap.size := (Array.getElem?_eq_some_iff.1 h.rs).1
  have hB : B ≤ W.heap.size := Nat.le_of_lt (Nat.lt_of_le_of_lt h.rd.1 h.rd.2.1)
  have ht := heap_alloc_new (W.alloc (.cells #[] 113)) (.cells tv.toArray 88)
  exact ⟨h.by (below_aside BB (Nat.le_refl _)) (h.rd.keep BB h.rd.2.1) (BB.mono hB), by simpa using ht, (World.ownsRow_lit (base := w.heap.size + 1) (e := 113) (size := 4) W #[] 0 (by omega) (by decide) rfl).alloc _, by omega⟩
/-- A talk was drawn; it is valid; the reader stands. -/
def DrewTk (B r m : Nat) (w : World) (e : Ending) (w' : World) : Prop :=
  ∃ (f t a0 a2 a3 b0 b2 b3 sz : Int) (k cap : Nat) (a : Option Addr) (ss : List SayP), e = .returned (.agg #[.int .i64 f, .int .i64 t, .int .i64 a0, .int .i64 1000, .int .i64 a2, .int .i64 a3, .int .i64 b0, .int .i64 1000, .int .i64 b2, .int .i64 b3, .int .i64 sz, .slice a k cap]) ∧
    TalkOk ⟨f, t, ⟨a0, 1000, a2, a3⟩, ⟨b0, 1000, b2, b3⟩, sz, ss⟩ ∧ k ≤ 4 ∧ w'.ownsRow w.heap.size 113 4 (.slice a k cap) k (flatY ss) ∧ Rd B r m w' ∧ Below B w w' ∧ Aside w.heap.size r w w'

set_option maxRecDepth 8000 in
set_option maxHeartbeats 8000000 in
theorem l92Talk_any (B r m : Nat) (w : World) (h : Rd B r m w) (hm : m ≤ 10000) :
    Calls Try.prog 67 #[.pointer (some ⟨r, 0, none⟩)] w (DrewTk B r (m + 60) w) := by
  obtain ⟨i0, hi0, hz0, hz1, hz2⟩ := info_parts info_sy
  have HI := Lib.hid (And.intro hi0 (And.intro hz0 (And.intro hz1 hz2)))
  clear hi0 hz0 hz1 hz2
  have hrw := h.2.1
  have E0 := Lib.hid (show Te B r m [.int .i64 0, .int .i64 0, .int .i64 0, .int .i64 0, .int .i64 0, .int .i64 0, .int .i64 0, .int .i64 0, .int .i64 0, .int .i64 0, .int .i64 0, .slice none 0 0] w (w.alloc (.cells (List.toArray [.int .i64 0, .int .i64 0, .int .i64 0, .int .i64 0, .int .i64 0, .int .i64 0, .int .i64 0, .int .i64 0, .int .i64 0, .int .i64 0, .int .i64 0, .slice none 0 0]) 88)) from ⟨h.alloc _, heap_alloc_new w _, h.below_alloc _, hrw, aside_alloc w _ (Nat.le_refl _)⟩)
  clear h
  go_enter Try.func67, Try.ntmps67
  go_wp2_with fail
  refine (pick_any B r (m) 5 _ E0.out.rd (by omega) (by omega) (by omega)).mono ?_
  rintro e w1 ⟨k1, rfl, k1a, k1b, hr1, ho1⟩
  have E1 := Lib.hid (E0.out.only ho1 hr1)
  clear hr1 ho1 E0
  go_wp2_with fail
  refine (pick_any B r (m + 1) 5 _ E1.out.rd (by omega) (by omega) (by omega)).mono ?_
  rintro e w2 ⟨k2, rfl, k2a, k2b, hr2, ho2⟩
  have E2 := Lib.hid (E1.out.only ho2 hr2)
  clear hr2 ho2 E1
  go_wp2_with fail
  refine (pick_any B r (m + 1 + 1) 99 _ E2.out.rd (by omega) (by omega) (by omega)).mono ?_
  rintro e w3 ⟨k3, rfl, k3a, k3b, hr3, ho3⟩
  have E3 := Lib.hid (E2.out.only ho3 hr3)
  clear hr3 ho3 E2
  go_wp2_with fail
  refine (pick_any B r (m + 1 + 1 + 1) 4 _ E3.out.rd (by omega) (by omega) (by omega)).mono ?_
  rintro e w4 ⟨k4, rfl, k4a, k4b, hr4, ho4⟩
  have E4 := Lib.hid (E3.out.only ho4 hr4)
  clear hr4 ho4 E3
  go_wp2_with fail
  refine (l91Good_as B r (m + 1 + 1 + 1 + 1) _ E4.out.rd (by omega)).mono ?_
  rintro e w5 ⟨⟨g1, rfl, ⟨g1a, g1b⟩, hr5, hb5⟩, ha5⟩
  have E5 := Lib.hid (E4.out.by ha5 hr5 hb5)
  clear hr5 hb5 ha5 E4
  go_wp2_with fail
  refine (pick_any B r (m + 1 + 1 + 1 + 1 + 3) 99 _ E5.out.rd (by omega) (by omega) (by omega)).mono ?_
  rintro e w6 ⟨k5, rfl, k5a, k5b, hr6, ho6⟩
  have E6 := Lib.hid (E5.out.only ho6 hr6)
  clear hr6 ho6 E5
  go_wp2_with fail
  refine (pick_any B r (m + 1 + 1 + 1 + 1 + 3 + 1) 4 _ E6.out.rd (by omega) (by omega) (by omega)).mono ?_
  rintro e w7 ⟨k6, rfl, k6a, k6b, hr7, ho7⟩
  have E7 := Lib.hid (E6.out.only ho7 hr7)
  clear hr7 ho7 E6
  go_wp2_with fail
  refine (l91Good_as B r (m + 1 + 1 + 1 + 1 + 3 + 1 + 1) _ E7.out.rd (by omega)).mono ?_
  rintro e w8 ⟨⟨g2, rfl, ⟨g2a, g2b⟩, hr8, hb8⟩, ha8⟩
  have E8 := Lib.hid (E7.out.by ha8 hr8 hb8)
  clear hr8 hb8 ha8 E7
  go_wp2_with fail
  refine (pick_any B r (m + 1 + 1 + 1 + 1 + 3 + 1 + 1 + 3) 8 _ E8.out.rd (by omega) (by omega) (by omega)).mono ?_
  rintro e w9 ⟨k7, rfl, k7a, k7b, hr9, ho9⟩
  have E9 := Lib.hid (E8.out.only ho9 hr9)
  clear hr9 ho9 E8
  have D0 := Lib.hid (E9.out.start (tv := [.int .i64 (1 + k1), .int .i64 (6 + k2), .int .i64 (1 + k3), .int .i64 1000, .int .i64 (1 + k4), .int .i64 g1, .int .i64 (100 + k5), .int .i64 1000, .int .i64 (1 + k6), .int .i64 g2, .int .i64 (2 + k7), .slice (some ⟨w9.heap.size, 0, none⟩) 0 0]) rfl)
  have OK0 : Hid (TalkOk ⟨1 + k1, 6 + k2, ⟨1 + k3, 1000, 1 + k4, g1⟩, ⟨100 + k5, 1000, 1 + k6, g2⟩, 2 + k7, []⟩) := Lib.hid ⟨⟨by dsimp only; omega, by dsimp only; omega, by dsimp only; omega, ⟨by dsimp only; omega, by dsimp only; omega, by dsimp only; omega, by dsimp only; omega⟩, ⟨by dsimp only; omega, by dsimp only; omega, by dsimp only; omega, by dsimp only; omega⟩, by dsimp only; omega, by dsimp only; omega⟩, by simp, by simp, by simp [sumMany], by simp [sumMany]⟩
  clear E9
  obtain ⟨T, hT⟩ : ∃ T, w9.heap.size + 1 = T := ⟨_, rfl⟩
  rw [hT] at D0
  go_wp2_with fail
  refine (pick_any B r (m + 1 + 1 + 1 + 1 + 3 + 1 + 1 + 3 + 1) 5 _ D0.out.e.rd (by omega) (by omega) (by omega)).mono ?_
  rintro e w10 ⟨kn, rfl, kna, knb, hr10, ho10⟩
  have D1 := Lib.hid (D0.out.only ho10 hr10)
  clear hr10 ho10 D0
  obtain ⟨nn, rfl⟩ : ∃ nn : Nat, kn = nn := ⟨kn.toNat, by omega⟩
  have hnn : nn ≤ 4 := by omega
  clear kna knb
  have D1 := Lib.hid (D1.out.mono (M' := m + 14 + 4 * 0) (by omega))
  skip
  go_wp2
  go_loopw [5] (fun iv wr => ∃ (i k cap : Nat) (a : Option Addr) (ss : List SayP), i ≤ nn ∧ iv = .int .i64 i ∧ k ≤ i ∧ Hid (TalkOk ⟨1 + k1, 6 + k2, ⟨1 + k3, 1000, 1 + k4, g1⟩, ⟨100 + k5, 1000, 1 + k6, g2⟩, 2 + k7, ss⟩) ∧ Hid (Td B r (m + 14 + 4 * i) T [.int .i64 0, .int .i64 0, .int .i64 0, .int .i64 0, .int .i64 0, .int .i64 0, .int .i64 0, .int .i64 0, .int .i64 0, .int .i64 0, .int .i64 0, .slice none 0 0] [.int .i64 (1 + k1), .int .i64 (6 + k2), .int .i64 (1 + k3), .int .i64 1000, .int .i64 (1 + k4), .int .i64 g1, .int .i64 (100 + k5), .int .i64 1000, .int .i64 (1 + k6), .int .i64 g2, .int .i64 (2 + k7), .slice a k cap] a k cap ss w wr)) (fun iv _ => nn - (intOf iv).toNat)
  case atStart => exact ⟨0, 0, 0, _, [], Nat.zero_le _, rfl, Nat.le_refl _, OK0, D1⟩
  case round =>
    obtain ⟨i, k, cap, a, ss, hi, rfl, hki, hOK, hS⟩ := hrel
    clear D1 OK0
    by_cases hlt : i < nn
    · have ii : (i : Int) < (nn : Int) := by omega
      have KSS := Lib.hid (show ss.length = k by have := hS.out.own.1; rw [flatY_length] at this; omega)
      have HLB := Lib.hid (fun g (hg : (Value.slice a k cap).ownBlock = some g) => own_lt hS.out.own hg)
      have lT : T < wr.heap.size := (Array.getElem?_eq_some_iff.1 hS.out.t).1
      have lw := hS.out.o2
      have SA := Lib.hid (hS.out.up (below_box (.cells #[.string (ByteArray.mk #[104, 101, 108, 108, 111]), .string (ByteArray.mk #[120]), .string (ByteArray.mk #[116, 111, 32, 116, 104, 101, 32, 111, 116, 104, 101, 114, 32, 115, 105, 100, 101]), .string (ByteArray.mk #[97, 98]), .string (ByteArray.mk #[102, 111, 117, 114]), .string (ByteArray.mk #[48, 49, 50, 51, 52, 53, 54, 55, 56, 57])] 9) (Nat.le_refl _)))
      clear hS
      go_wp2_with fail
      refine (of_only B r (m + 14 + 4 * i) wr.heap.size 6 6 _ SA.out.e.rd (by omega) (by omega) (by omega) (by omega) (fun j hj => ?_)).mono ?_
      · rcases (by omega : j = 0 ∨ j = 1 ∨ j = 2 ∨ j = 3 ∨ j = 4 ∨ j = 5) with rfl | rfl | rfl | rfl | rfl | rfl
        · exact ⟨ByteArray.mk #[104, 101, 108, 108, 111], by decide, by rw [World.cell?_alloc_at _ _ _ _ rfl]; rfl⟩
        · exact ⟨ByteArray.mk #[120], by decide, by rw [World.cell?_alloc_at _ _ _ _ rfl]; rfl⟩
        · exact ⟨ByteArray.mk #[116, 111, 32, 116, 104, 101, 32, 111, 116, 104, 101, 114, 32, 115, 105, 100, 101], by decide, by rw [World.cell?_alloc_at _ _ _ _ rfl]; rfl⟩
        · exact ⟨ByteArray.mk #[97, 98], by decide, by rw [World.cell?_alloc_at _ _ _ _ rfl]; rfl⟩
        · exact ⟨ByteArray.mk #[102, 111, 117, 114], by decide, by rw [World.cell?_alloc_at _ _ _ _ rfl]; rfl⟩
        · exact ⟨ByteArray.mk #[48, 49, 50, 51, 52, 53, 54, 55, 56, 57], by decide, by rw [World.cell?_alloc_at _ _ _ _ rfl]; rfl⟩
      rintro e wa ⟨tx, rfl, htx, hra, hoa⟩
      have SB := Lib.hid (SA.out.only hoa hra)
      have hza : wr.heap.size + 1 ≤ wa.heap.size := by have := hoa.size; simp at this; omega
      clear hra hoa SA
      obtain ⟨X, hX⟩ : ∃ X, wa.heap.size = X := ⟨_, rfl⟩
      have XV := VarN.new wa [.bool false, .int .i64 0, .bool false, .string tx] 113
      have SC := Lib.hid (SB.out.up (below_box (.cells (List.toArray [.bool false, .int .i64 0, .bool false, .string tx]) 113) (Nat.le_refl _)))
      rw [hX] at XV
      have hXr : X ≠ r := by omega
      have hXT : X ≠ T := by omega
      have hXw : w.heap.size < X := by omega
      have HXO := Lib.hid (fun g (hg : (Value.slice a k cap).ownBlock = some g) => show g ≠ X by have := HLB.out g hg; omega)
      clear SB HLB
      go_wp2_with fail
      refine (pick_any B r _ 2 _ SC.out.e.rd (by omega) (by omega) (by omega)).mono ?_
      rintro e wb ⟨y, rfl, ya, yb0, hrb, hob⟩
      obtain ⟨yb, hyb⟩ : ∃ b : Bool, (y == 0) = b := ⟨_, rfl⟩
      have X1 := XV.only hob hXr
      have SD := Lib.hid ((SC.out.only hob hrb).far (i := 0) hXw hXT HXO.out (.bool yb))
      have q0 := (X1 0 _ rfl).1
      have o0 := (X1 0 _ rfl).2
      have X2 := Lib.hid (X1.set (i := 0) (.bool yb))
      clear hrb hob SC XV X1
      go_wp2_with fail
      refine (pick_any B r _ 3 _ SD.out.e.rd (by omega) (by omega) (by omega)).mono ?_
      rintro e wc ⟨u, rfl, ua, ub, hrc, hoc⟩
      clear q0 o0
      obtain ⟨lo, hlo⟩ : ∃ b : Bool, (u == 0) = b := ⟨_, rfl⟩
      have X3 := X2.out.only hoc hXr
      have SE := Lib.hid ((SD.out.only hoc hrc).far (i := 2) hXw hXT HXO.out (.bool lo))
      have q2 := (X3 2 _ rfl).1
      have o2 := (X3 2 _ rfl).2
      have X4 := Lib.hid (X3.set (i := 2) (.bool lo))
      clear hrc hoc SD X2 X3
      have q0 := (X4.out 0 _ rfl).1
      have t4 := (SE.out.var 4 _ rfl).1
      have t8 := (SE.out.var 8 _ rfl).1
      cases yb with
      | true =>
        go_wp2_with fail
        refine (pick_any B r _ (1 + k6) _ SE.out.e.rd (by omega) (by omega) (by omega)).mono ?_
        rintro e wd ⟨st, rfl, sta, stb, hrd, hod⟩
        clear q0 q2 o2 t4 t8
        have X5 := X4.out.only hod hXr
        have SF := Lib.hid ((SE.out.only hod hrd).far (i := 1) hXw hXT HXO.out (.int .i64 st))
        have q1 := (X5 1 _ rfl).1
        have o1 := (X5 1 _ rfl).2
        have X6 := Lib.hid (X5.set (i := 1) (.int .i64 st))
        clear hrd hod SE X4 X5
        have c0 := (X6.out 0 _ rfl).1
        have c1 := (X6.out 1 _ rfl).1
        have c2 := (X6.out 2 _ rfl).1
        have c3 := (X6.out 3 _ rfl).1
        have t11 := (SF.out.var 11 _ rfl).1
        have SG := Lib.hid (SF.out.up (below_box (.cells #[.bool true, .int .i64 st, .bool lo, .string tx] 113) (Nat.le_refl _)))
        have hws : w.heap.size + 1 ≤ wd.heap.size := by have := (Array.getElem?_eq_some_iff.1 SF.out.t).1; simp at this; omega
        clear SF X6
        go_wp2_with (at_builtin; go_loud (refine wpList_append_lies _ rfl _ _ 86 rfl (w.heap.size + 1) 113 i0 (sayV ⟨false, 0, false, ByteArray.mk #[]⟩) 4 40 Try.underlying86 HI.out.1 HI.out.2.1 HI.out.2.2.1 HI.out.2.2.2 rfl (by decide) (.slice a k cap) k (flatY ss) rfl SG.out.own ⟨wd.heap.size, 0, none⟩ 1 1 (cellsY ⟨true, st, lo, tx⟩) rfl rfl (news_box (by simp)) (cellsY_one _) (by decide) (by unfold maxLen; omega) (by omega) (by simp; omega) _ rfl ?_))
        intro gg cap3 we hown hgrow hat hlt9
        have hown := (show we.ownsRow (w.heap.size + 1) 113 4 (.slice (some ⟨gg, 0, none⟩) (k + 1) cap3) (k + 1) (flatY (ss ++ [⟨true, st, lo, tx⟩])) by have h0 := hown; rw [flatY_append]; simpa [flatY] using h0)
        have SH := Lib.hid (SG.out.push hgrow hown)
        have hT7 := (SG.out.grow hgrow hown).2
        have t11 := Lib.cell_of_heap hT7 11
        have t11f := Lib.frozen_of_heap hT7 11
        change we.cell? _ = some (.slice a k cap) at t11
        have hcap3 := (own_sys hown).len_le
        have LS := (own_sys hown).length
        clear hown hgrow hat hlt9 SG c0 c1 c2 c3 q1 o1 hT7
        have c0 := (SH.out.var 0 _ rfl).1
        have c1 := (SH.out.var 1 _ rfl).1
        have c2 := (SH.out.var 2 _ rfl).1
        have c3 := (SH.out.var 3 _ rfl).1
        have c4 := (SH.out.var 4 _ rfl).1
        have c5 := (SH.out.var 5 _ rfl).1
        have c6 := (SH.out.var 6 _ rfl).1
        have c7 := (SH.out.var 7 _ rfl).1
        have c8 := (SH.out.var 8 _ rfl).1
        have c9 := (SH.out.var 9 _ rfl).1
        have c10 := (SH.out.var 10 _ rfl).1
        have c11 := (SH.out.var 11 _ rfl).1
        have HTX := Lib.hid (show ∀ x ∈ ss ++ [⟨true, st, lo, tx⟩], x.text.size ≤ 9223372036854775807 from fun x hx => by
          rcases List.mem_append.1 hx with h | h
          · have := (hOK.out.2.1 x h).2.1; omega
          · rw [List.mem_singleton.1 h]; show tx.size ≤ _; omega)
        obtain ⟨tv, htv⟩ : ∃ v, talkV ⟨1 + k1, 6 + k2, ⟨1 + k3, 1000, 1 + k4, g1⟩, ⟨100 + k5, 1000, 1 + k6, g2⟩, 2 + k7, ss ++ [⟨true, st, lo, tx⟩]⟩ = v := ⟨_, rfl⟩
        have HV := Lib.hid htv
        clear htv
        go_wp2_with fail
        refine (sTalkValid_any _ _ _ _ _ _ _ _ _ _ _ _ _ _ (ss ++ [⟨true, st, lo, tx⟩]) _ (own_sys SH.out.own) (by omega) HTX.out).mono ?_
        rw [HV.out]
        rintro e wf ⟨rfl, hbf⟩
        clear t11 t11f c0 c1 c2 c3 c4 c5 c6 c7 c8 c9 c10 c11
        have SI := Lib.hid ((SH.out.up hbf).mono (M' := m + 14 + 4 * (i + 1)) (by omega))
        clear hbf SH
        cases tv with
        | true =>
          have OK2 : Hid (TalkOk ⟨1 + k1, 6 + k2, ⟨1 + k3, 1000, 1 + k4, g1⟩, ⟨100 + k5, 1000, 1 + k6, g2⟩, 2 + k7, ss ++ [⟨true, st, lo, tx⟩]⟩) := Lib.hid (by
            apply Classical.byContradiction
            intro hn
            have := HV.out
            rw [talkV_no hn] at this
            cases this)
          go_wp2
          go_roundw
          case rel => exact ⟨i + 1, k + 1, cap3, _, _, by omega, by go_num, by omega, OK2, SI⟩
          case measure => simp [intOf]; omega
        | false =>
          have t11 := (SI.out.var 11 _ rfl).1
          have t11f := (SI.out.var 11 _ rfl).2
          have wk : IntKind.i64.wrap (((k + 1 : Nat) : Int) - 1) = (k : Int) := by rw [show (((k + 1 : Nat) : Int) - 1) = (k : Int) by omega]; exact IntWalk.i64_in _ (by omega)
          have SJ := Lib.hid (SI.out.store (v := .slice (some ⟨gg, 0, none⟩) k cap3) (own_init SI.out.own))
          have ki1 : ((k : Int) + 1 - 1) = (k : Int) := by omega
          have kc : (k : Int) ≤ (cap3 : Int) := by omega
          go_wp2
          go_roundw
          case rel => exact ⟨i + 1, k, cap3, _, ss, by omega, by go_num, by omega, hOK, SJ⟩
          case measure => simp [intOf]; omega
      | false =>
        go_wp2_with fail
        refine (pick_any B r _ (1 + k4) _ SE.out.e.rd (by omega) (by omega) (by omega)).mono ?_
        rintro e wd ⟨st, rfl, sta, stb, hrd, hod⟩
        clear q0 q2 o2 t4 t8
        have X5 := X4.out.only hod hXr
        have SF := Lib.hid ((SE.out.only hod hrd).far (i := 1) hXw hXT HXO.out (.int .i64 st))
        have q1 := (X5 1 _ rfl).1
        have o1 := (X5 1 _ rfl).2
        have X6 := Lib.hid (X5.set (i := 1) (.int .i64 st))
        clear hrd hod SE X4 X5
        have c0 := (X6.out 0 _ rfl).1
        have c1 := (X6.out 1 _ rfl).1
        have c2 := (X6.out 2 _ rfl).1
        have c3 := (X6.out 3 _ rfl).1
        have t11 := (SF.out.var 11 _ rfl).1
        have SG := Lib.hid (SF.out.up (below_box (.cells #[.bool false, .int .i64 st, .bool lo, .string tx] 113) (Nat.le_refl _)))
        have hws : w.heap.size + 1 ≤ wd.heap.size := by have := (Array.getElem?_eq_some_iff.1 SF.out.t).1; simp at this; omega
        clear SF X6
        go_wp2_with (at_builtin; go_loud (refine wpList_append_lies _ rfl _ _ 86 rfl (w.heap.size + 1) 113 i0 (sayV ⟨false, 0, false, ByteArray.mk #[]⟩) 4 40 Try.underlying86 HI.out.1 HI.out.2.1 HI.out.2.2.1 HI.out.2.2.2 rfl (by decide) (.slice a k cap) k (flatY ss) rfl SG.out.own ⟨wd.heap.size, 0, none⟩ 1 1 (cellsY ⟨false, st, lo, tx⟩) rfl rfl (news_box (by simp)) (cellsY_one _) (by decide) (by unfold maxLen; omega) (by omega) (by simp; omega) _ rfl ?_))
        intro gg cap3 we hown hgrow hat hlt9
        have hown := (show we.ownsRow (w.heap.size + 1) 113 4 (.slice (some ⟨gg, 0, none⟩) (k + 1) cap3) (k + 1) (flatY (ss ++ [⟨false, st, lo, tx⟩])) by have h0 := hown; rw [flatY_append]; simpa [flatY] using h0)
        have SH := Lib.hid (SG.out.push hgrow hown)
        have hT7 := (SG.out.grow hgrow hown).2
        have t11 := Lib.cell_of_heap hT7 11
        have t11f := Lib.frozen_of_heap hT7 11
        change we.cell? _ = some (.slice a k cap) at t11
        have hcap3 := (own_sys hown).len_le
        have LS := (own_sys hown).length
        clear hown hgrow hat hlt9 SG c0 c1 c2 c3 q1 o1 hT7
        have c0 := (SH.out.var 0 _ rfl).1
        have c1 := (SH.out.var 1 _ rfl).1
        have c2 := (SH.out.var 2 _ rfl).1
        have c3 := (SH.out.var 3 _ rfl).1
        have c4 := (SH.out.var 4 _ rfl).1
        have c5 := (SH.out.var 5 _ rfl).1
        have c6 := (SH.out.var 6 _ rfl).1
        have c7 := (SH.out.var 7 _ rfl).1
        have c8 := (SH.out.var 8 _ rfl).1
        have c9 := (SH.out.var 9 _ rfl).1
        have c10 := (SH.out.var 10 _ rfl).1
        have c11 := (SH.out.var 11 _ rfl).1
        have HTX := Lib.hid (show ∀ x ∈ ss ++ [⟨false, st, lo, tx⟩], x.text.size ≤ 9223372036854775807 from fun x hx => by
          rcases List.mem_append.1 hx with h | h
          · have := (hOK.out.2.1 x h).2.1; omega
          · rw [List.mem_singleton.1 h]; show tx.size ≤ _; omega)
        obtain ⟨tv, htv⟩ : ∃ v, talkV ⟨1 + k1, 6 + k2, ⟨1 + k3, 1000, 1 + k4, g1⟩, ⟨100 + k5, 1000, 1 + k6, g2⟩, 2 + k7, ss ++ [⟨false, st, lo, tx⟩]⟩ = v := ⟨_, rfl⟩
        have HV := Lib.hid htv
        clear htv
        go_wp2_with fail
        refine (sTalkValid_any _ _ _ _ _ _ _ _ _ _ _ _ _ _ (ss ++ [⟨false, st, lo, tx⟩]) _ (own_sys SH.out.own) (by omega) HTX.out).mono ?_
        rw [HV.out]
        rintro e wf ⟨rfl, hbf⟩
        clear t11 t11f c0 c1 c2 c3 c4 c5 c6 c7 c8 c9 c10 c11
        have SI := Lib.hid ((SH.out.up hbf).mono (M' := m + 14 + 4 * (i + 1)) (by omega))
        clear hbf SH
        cases tv with
        | true =>
          have OK2 : Hid (TalkOk ⟨1 + k1, 6 + k2, ⟨1 + k3, 1000, 1 + k4, g1⟩, ⟨100 + k5, 1000, 1 + k6, g2⟩, 2 + k7, ss ++ [⟨false, st, lo, tx⟩]⟩) := Lib.hid (by
            apply Classical.byContradiction
            intro hn
            have := HV.out
            rw [talkV_no hn] at this
            cases this)
          go_wp2
          go_roundw
          case rel => exact ⟨i + 1, k + 1, cap3, _, _, by omega, by go_num, by omega, OK2, SI⟩
          case measure => simp [intOf]; omega
        | false =>
          have t11 := (SI.out.var 11 _ rfl).1
          have t11f := (SI.out.var 11 _ rfl).2
          have wk : IntKind.i64.wrap (((k + 1 : Nat) : Int) - 1) = (k : Int) := by rw [show (((k + 1 : Nat) : Int) - 1) = (k : Int) by omega]; exact IntWalk.i64_in _ (by omega)
          have SJ := Lib.hid (SI.out.store (v := .slice (some ⟨gg, 0, none⟩) k cap3) (own_init SI.out.own))
          have ki1 : ((k : Int) + 1 - 1) = (k : Int) := by omega
          have kc : (k : Int) ≤ (cap3 : Int) := by omega
          go_wp2
          go_roundw
          case rel => exact ⟨i + 1, k, cap3, _, ss, by omega, by go_num, by omega, hOK, SJ⟩
          case measure => simp [intOf]; omega
    · obtain rfl : i = nn := by omega
      have OW := Lib.hid hS.out.own
      have RDR := Lib.hid (hS.out.e.rd.mono (show m + 14 + 4 * i ≤ m + 60 by omega))
      have BB := Lib.hid hS.out.e.b
      have AA := Lib.hid hS.out.e.a
      have rlt := hS.out.e.o1
      have Brr := hS.out.e.rd.1
      have c0 := (hS.out.var 0 _ rfl).1
      have c1 := (hS.out.var 1 _ rfl).1
      have c2 := (hS.out.var 2 _ rfl).1
      have c3 := (hS.out.var 3 _ rfl).1
      have c4 := (hS.out.var 4 _ rfl).1
      have c5 := (hS.out.var 5 _ rfl).1
      have c6 := (hS.out.var 6 _ rfl).1
      have c7 := (hS.out.var 7 _ rfl).1
      have c8 := (hS.out.var 8 _ rfl).1
      have c9 := (hS.out.var 9 _ rfl).1
      have c10 := (hS.out.var 10 _ rfl).1
      have c11 := (hS.out.var 11 _ rfl).1
      have r0 := (hS.out.res 0 _ rfl).1
      have r1 := (hS.out.res 1 _ rfl).1
      have r2 := (hS.out.res 2 _ rfl).1
      have r3 := (hS.out.res 3 _ rfl).1
      have r4 := (hS.out.res 4 _ rfl).1
      have r5 := (hS.out.res 5 _ rfl).1
      have r6 := (hS.out.res 6 _ rfl).1
      have r7 := (hS.out.res 7 _ rfl).1
      have r8 := (hS.out.res 8 _ rfl).1
      have r9 := (hS.out.res 9 _ rfl).1
      have r10 := (hS.out.res 10 _ rfl).1
      have r11 := (hS.out.res 11 _ rfl).1
      have f0 := (hS.out.res 0 _ rfl).2
      have f1 := (hS.out.res 1 _ rfl).2
      have f2 := (hS.out.res 2 _ rfl).2
      have f3 := (hS.out.res 3 _ rfl).2
      have f4 := (hS.out.res 4 _ rfl).2
      have f5 := (hS.out.res 5 _ rfl).2
      have f6 := (hS.out.res 6 _ rfl).2
      have f7 := (hS.out.res 7 _ rfl).2
      have f8 := (hS.out.res 8 _ rfl).2
      have f9 := (hS.out.res 9 _ rfl).2
      have f10 := (hS.out.res 10 _ rfl).2
      have f11 := (hS.out.res 11 _ rfl).2
      have nTw : ¬ w.heap.size = T := by have := hS.out.o2; omega
      have nTw2 : ¬ T = w.heap.size := by have := hS.out.o2; omega
      clear hS
      go_wp2
      refine bodyPost_ret (v := .agg #[.int .i64 (1 + k1), .int .i64 (6 + k2), .int .i64 (1 + k3), .int .i64 1000, .int .i64 (1 + k4), .int .i64 g1, .int .i64 (100 + k5), .int .i64 1000, .int .i64 (1 + k6), .int .i64 g2, .int .i64 (2 + k7), .slice a k cap]) ?_ rfl ?_
      · simp [results, Try.results67, go_sem, r0, r1, r2, r3, r4, r5, r6, r7, r8, r9, r10, r11]
      · refine ⟨_, _, _, _, _, _, _, _, _, _, _, _, _, rfl, hOK.out, by omega, ?_, ?_, ?_, ?_⟩
        · refine row_low (base := w.heap.size + 1) ?_ (by omega)
          repeat (first | with_reducible exact OW.out | refine far_row ?_ (Nat.lt_succ_self _) _)
        · repeat (first | with_reducible exact RDR.out | refine Rd.far ?_ rlt _ _)
        · repeat (first | with_reducible exact BB.out | refine Below.setCell ?_ (by show B ≤ w.heap.size; omega) _)
        · repeat (first | with_reducible exact AA.out | refine aside_far ?_ _)

end Go.Proofs.Ytncbgejggfkdmaa

/- The draw of a talk's parts, in another order. -/
namespace Go.Proofs.Ytncbgejggfkdmaa
open Go.RowKit Go.PlainAid

theorem flatP_set (ps : List Part) (i : Nat) (t s q : Int) (fi la lo : Bool) (tx : ByteArray) (h : i < ps.length) :
    (((((((flatP ps).set (i * 7) (.int .i64 t)).set (i * 7 + 1) (.int .i64 s)).set (i * 7 + 2) (.int .i64 q)).set (i * 7 + 3) (.bool fi)).set (i * 7 + 4) (.bool la)).set (i * 7 + 5) (.bool lo)).set (i * 7 + 6) (.string tx) = flatP (ps.set i ⟨t, s, q, fi, la, lo, tx⟩) := by
  induction ps generalizing i with
  | nil => simp at h
  | cons p ps ih =>
    cases i with
    | zero => simp [flatP, cellsP]
    | succ i =>
      have e := ih i (by simpa using h)
      rw [List.set_cons_succ]
      show _ = cellsP p ++ flatP (ps.set i _)
      rw [← e]
      show List.set (List.set (List.set (List.set (List.set (List.set (List.set (cellsP p ++ flatP ps) _ _) _ _) _ _) _ _) _ _) _ _) _ _ = _
      have ap : ∀ (xs : List Value) (j : Nat) (v : Value), (cellsP p ++ xs).set ((i + 1) * 7 + j) v = cellsP p ++ xs.set (i * 7 + j) v := fun xs j v => by
        rw [List.set_append, if_neg (by rw [cellsP_length]; omega), cellsP_length]
        congr 2
        omega
      have ap0 : ∀ (xs : List Value) (v : Value), (cellsP p ++ xs).set ((i + 1) * 7) v = cellsP p ++ xs.set (i * 7) v := fun xs v => ap xs 0 v
      rw [ap0, ap, ap, ap, ap, ap, ap]
/-- While parts are drawn: the reader, a row of one's own. -/
structure Pq (B r M : Nat) (a : Option Addr) (k cp : Nat) (ps : List Part) (w W : World) : Prop where
  rd : Rd B r M W
  own : W.ownsRow w.heap.size 28 7 (.slice a k cp) k (flatP ps)
  b : Below B w W
  a : Aside w.heap.size r w W
  o1 : r < w.heap.size
  sm : ∀ p ∈ ps, Smally p
section
variable {B r M M' k cp g : Nat} {a : Option Addr} {ps : List Part} {w W W' : World}
theorem Pq.size (h : Pq B r M a k cp ps w W) : w.heap.size ≤ W.heap.size := h.b.size
theorem Pq.by (h : Pq B r M a k cp ps w W) (hk : Aside W.heap.size r W W') (hr : Rd B r M' W') (hb : Below B W W') : Pq B r M' a k cp ps w W' :=
  ⟨hr, row_same h.own fun x h1 h2 => hk x h2 (by have := h.o1; omega), h.b.trans hb, h.a.trans (hk.less h.size), h.o1, h.sm⟩
theorem Pq.only (h : Pq B r M a k cp ps w W) (ho : Only r W W') (hr : Rd B r M' W') : Pq B r M' a k cp ps w W' := h.by ho.aside hr (ho.below h.rd.1)
theorem Pq.up (h : Pq B r M a k cp ps w W) (hb : Below W.heap.size W W') : Pq B r M a k cp ps w W' :=
  h.by (below_aside hb (Nat.le_refl _)) (h.rd.keep hb h.rd.2.1) (hb.mono (Nat.le_of_lt (Nat.lt_of_le_of_lt h.rd.1 h.rd.2.1)))
theorem Pq.mono (h : Pq B r M a k cp ps w W) (hM : M ≤ M') : Pq B r M' a k cp ps w W := ⟨h.rd.mono hM, h.own, h.b, h.a, h.o1, h.sm⟩
theorem Pq.addr (h : Pq B r M a k cp ps w W) (hk : 1 ≤ k) : ∃ g, a = some ⟨g, 0, none⟩ := by
  rcases h.own.2 with ⟨_, h1⟩ | ⟨g, _, _, hv, _⟩
  · omega
  · exact ⟨g, by simpa using (Value.slice.inj hv).1⟩
theorem Pq.length (h : Pq B r M a k cp ps w W) : ps.length = k := by have := h.own.1; rw [flatP_length] at this; omega
theorem Pq.small (h : Pq B r M a k cp ps w W) {i : Nat} (hi : i < k) : Smally (pAt ps i) := h.sm _ (pAt_mem (by rw [h.length]; exact hi))
theorem Pq.cell (h : Pq B r M (some ⟨g, 0, none⟩) k cp ps w W) {i j : Nat} {v : Value} (hi : i < k) (hj : j < 7) (hv : (cellsP (pAt ps i))[j]? = some v) : W.cell? ⟨g, i * 7 + j, none⟩ = some v :=
  (h.own.cellAt (i * 7 + j) (by omega)).trans ((flatP_get ps i j (by rw [h.length]; exact hi) hj).trans hv)
theorem Pq.at (h : Pq B r M (some ⟨g, 0, none⟩) k cp ps w W) {i : Nat} (hi : i < k) :
    W.cell? ⟨g, i * 7, none⟩ = some (.int .i64 (pAt ps i).tsn) ∧ W.cell? ⟨g, i * 7 + 1, none⟩ = some (.int .i64 (pAt ps i).stream) ∧ W.cell? ⟨g, i * 7 + 2, none⟩ = some (.int .i64 (pAt ps i).ssn) ∧ W.cell? ⟨g, i * 7 + 3, none⟩ = some (.bool (pAt ps i).first) ∧ W.cell? ⟨g, i * 7 + 4, none⟩ = some (.bool (pAt ps i).last) ∧ W.cell? ⟨g, i * 7 + 5, none⟩ = some (.bool (pAt ps i).loose) ∧ W.cell? ⟨g, i * 7 + 6, none⟩ = some (.string (pAt ps i).text) :=
  ⟨h.cell (j := 0) hi (by omega) rfl, h.cell hi (by omega) rfl, h.cell hi (by omega) rfl, h.cell hi (by omega) rfl, h.cell hi (by omega) rfl, h.cell hi (by omega) rfl, h.cell hi (by omega) rfl⟩
/-- A cell of a row of one's own is written. -/
theorem Pq.cellset (h : Pq B r M (some ⟨g, 0, none⟩) k cp ps w W) (j : Nat) (v : Value) : Rd B r M (W.setCell ⟨g, j, none⟩ v) ∧ Below B w (W.setCell ⟨g, j, none⟩ v) ∧ Aside w.heap.size r w (W.setCell ⟨g, j, none⟩ v) := by
  have hg : w.heap.size ≤ g := own_ge h.own rfl
  have h1 := h.o1
  have h2 := h.rd.1
  exact ⟨h.rd.far (by omega) _ _, h.b.setCell (p := ⟨g, j, none⟩) (by show B ≤ g; omega) _, h.a.trans (below_aside ((Below.refl g W).setCell (p := ⟨g, j, none⟩) (Nat.le_refl _) v) hg)⟩
theorem Pq.put {i : Nat} {t s q : Int} {fi la lo : Bool} {tx : ByteArray} (h : Pq B r M (some ⟨g, 0, none⟩) k cp ps w W) (hi : i < k) (hs : Smally ⟨t, s, q, fi, la, lo, tx⟩) :
    Pq B r M (some ⟨g, 0, none⟩) k cp (ps.set i ⟨t, s, q, fi, la, lo, tx⟩) w (((((((W.setCell ⟨g, i * 7, none⟩ (.int .i64 t)).setCell ⟨g, i * 7 + 1, none⟩ (.int .i64 s)).setCell ⟨g, i * 7 + 2, none⟩ (.int .i64 q)).setCell ⟨g, i * 7 + 3, none⟩ (.bool fi)).setCell ⟨g, i * 7 + 4, none⟩ (.bool la)).setCell ⟨g, i * 7 + 5, none⟩ (.bool lo)).setCell ⟨g, i * 7 + 6, none⟩ (.string tx)) := by
  have hg : w.heap.size ≤ g := own_ge h.own rfl
  have h1 := h.o1
  have h2 := h.rd.1
  have hBg : B ≤ g := by omega
  have o7 := (((((((h.own.stored (i * 7) (.int .i64 t)).1.stored (i * 7 + 1) (.int .i64 s)).1.stored (i * 7 + 2) (.int .i64 q)).1.stored (i * 7 + 3) (.bool fi)).1.stored (i * 7 + 4) (.bool la)).1.stored (i * 7 + 5) (.bool lo)).1.stored (i * 7 + 6) (.string tx)).1
  rw [flatP_set ps i t s q fi la lo tx (by rw [h.length]; exact hi)] at o7
  refine ⟨?_, o7, ?_, ?_, h1, fun p hp => ?_⟩
  · exact ((((((h.rd.far (by omega) _ _).far (by omega) _ _).far (by omega) _ _).far (by omega) _ _).far (by omega) _ _).far (by omega) _ _).far (by omega) _ _
  · exact ((((((h.b.setCell (p := ⟨g, i * 7, none⟩) hBg _).setCell (p := ⟨g, i * 7 + 1, none⟩) hBg _).setCell (p := ⟨g, i * 7 + 2, none⟩) hBg _).setCell (p := ⟨g, i * 7 + 3, none⟩) hBg _).setCell (p := ⟨g, i * 7 + 4, none⟩) hBg _).setCell (p := ⟨g, i * 7 + 5, none⟩) hBg _).setCell (p := ⟨g, i * 7 + 6, none⟩) hBg _
  · exact h.a.trans (below_aside (((((((Below.refl g W).setCell (p := ⟨g, i * 7, none⟩) (Nat.le_refl _) _).setCell (p := ⟨g, i * 7 + 1, none⟩) (Nat.le_refl _) _).setCell (p := ⟨g, i * 7 + 2, none⟩) (Nat.le_refl _) _).setCell (p := ⟨g, i * 7 + 3, none⟩) (Nat.le_refl _) _).setCell (p := ⟨g, i * 7 + 4, none⟩) (Nat.le_refl _) _).setCell (p := ⟨g, i * 7 + 5, none⟩) (Nat.le_refl _) _ |>.setCell (p := ⟨g, i * 7 + 6, none⟩) (Nat.le_refl _) _) hg)
  · rcases List.mem_or_eq_of_mem_set hp with h3 | h3
    · exact h.sm p h3
    · rw [h3]; exact hs
theorem Pq.push {W1 : World} {g2 cap2 : Nat} {p : Part} (h : Pq B r M a k cp ps w W) (hgrow : W.grownBy W1 (Value.slice a k cp).ownBlock) (hown : W1.ownsRow w.heap.size 28 7 (.slice (some ⟨g2, 0, none⟩) (k + 1) cap2) (k + 1) (flatP ps ++ cellsP p)) (hp : Smally p) : Pq B r M (some ⟨g2, 0, none⟩) (k + 1) cap2 (ps ++ [p]) w W1 := by
  have h1 := h.o1
  have h2 := h.rd.1
  have hge : ∀ x, (Value.slice a k cp).ownBlock = some x → w.heap.size ≤ x := fun x hx => own_ge h.own hx
  refine ⟨h.rd.keep (Below.grown (Below.refl (r + 1) W) hgrow (by have := h.rd.2.1; omega) fun x hx => by have := hge x hx; omega) (Nat.lt_succ_self r), ?_, Below.grown h.b hgrow (by have := h.size; omega) fun x hx => by have := hge x hx; omega, h.a.trans fun b hb _ => hgrow.block b (by have := h.size; omega) fun he => by have := hge b he.symm; omega, h1, fun x hx => ?_⟩
  · rw [flatP_append]
    simpa [flatP] using hown
  · rcases List.mem_append.1 hx with h3 | h3
    · exact h.sm x h3
    · rw [List.mem_singleton.1 h3]; exact hp
end
theorem flatP_take (ps : List Part) (j : Nat) : (flatP ps).take (j * 7) = flatP (ps.take j) := by
  induction ps generalizing j with
  | nil => simp [flatP]
  | cons p ps ih =>
    cases j with
    | zero => simp [flatP]
    | succ j =>
      show (cellsP p ++ flatP ps).take ((j + 1) * 7) = cellsP p ++ flatP (ps.take j)
      rw [List.take_append, cellsP_length, show (j + 1) * 7 - 7 = j * 7 by omega, ih j, List.take_of_length_le (by rw [cellsP_length]; omega)]
theorem own_takeP {W : World} {base k cap j : Nat} {a : Option Addr} {ps : List Part} (h : W.ownsRow base 28 7 (.slice a k cap) k (flatP ps)) (hj : j ≤ k) : W.ownsRow base 28 7 (.slice a j cap) j (flatP (ps.take j)) := by
  have hl := h.1
  rw [flatP_length] at hl
  refine ⟨by rw [flatP_length, List.length_take]; rw [Nat.min_eq_left (by omega)], ?_⟩
  rcases h.2 with ⟨h0, h1⟩ | ⟨g, cap', cur, hv, h1, h2, h3, h4, h5, h6⟩
  · obtain ⟨rfl, _, rfl⟩ : a = none ∧ True ∧ cap = 0 := by have := Value.slice.inj h0; exact ⟨this.1, trivial, this.2.2⟩
    obtain rfl : j = 0 := by omega
    exact .inl ⟨rfl, rfl⟩
  · obtain ⟨rfl, _, rfl⟩ : a = some ⟨g, 0, none⟩ ∧ True ∧ cap = cap' := by simpa using hv
    refine .inr ⟨g, cap, cur, rfl, h1, h2, by omega, h4, h5, ?_⟩
    have h7 : (cur.toList.take (k * 7)).take (j * 7) = cur.toList.take (j * 7) := by rw [List.take_take, Nat.min_eq_left (by omega)]
    rw [← h7, h6, flatP_take]
/-- Parts were drawn; the reader stands. -/
def DrewPs (B r m : Nat) (w : World) (e : Ending) (w' : World) : Prop :=
  ∃ (a : Option Addr) (k cap : Nat) (ps : List Part), e = .returned (.slice a k cap) ∧ k ≤ 13 ∧ (∀ p ∈ ps, Smally p) ∧ w'.ownsRow w.heap.size 28 7 (.slice a k cap) k (flatP ps) ∧ Rd B r m w' ∧ Below B w w' ∧ Aside w.heap.size r w w'

set_option maxRecDepth 8000 in
set_option maxHeartbeats 8000000 in
theorem l92Parts_any (B r m : Nat) (f t a0 a1 a2 a3 b0 b1 b2 b3 sz : Int) (sa : Option Addr) (len cap : Nat) (ss : List SayP) (w : World) (h : Rd B r m w) (hm : m ≤ 10000) (hS : Sys w sa len cap ss) (ok : TalkOk ⟨f, t, ⟨a0, a1, a2, a3⟩, ⟨b0, b1, b2, b3⟩, sz, ss⟩) :
    Calls Try.prog 69 #[.pointer (some ⟨r, 0, none⟩), .agg #[.int .i64 f, .int .i64 t, .int .i64 a0, .int .i64 a1, .int .i64 a2, .int .i64 a3, .int .i64 b0, .int .i64 b1, .int .i64 b2, .int .i64 b3, .int .i64 sz, .slice sa len cap]] w (DrewPs B r (m + 30) w) := by
  obtain ⟨i0, hi0, hz0, hz1, hz2⟩ := info_parts info_pt
  have HI := Lib.hid (And.intro hi0 (And.intro hz0 (And.intro hz1 hz2)))
  clear hi0 hz0 hz1 hz2
  have BX := Lib.hid (below_box (w := w) (.cells (List.toArray [.int .i64 f, .int .i64 t, .int .i64 a0, .int .i64 a1, .int .i64 a2, .int .i64 a3, .int .i64 b0, .int .i64 b1, .int .i64 b2, .int .i64 b3, .int .i64 sz, .slice sa len cap]) 88) (Nat.le_refl _))
  have VX := Lib.hid (VarN.new w [.int .i64 f, .int .i64 t, .int .i64 a0, .int .i64 a1, .int .i64 a2, .int .i64 a3, .int .i64 b0, .int .i64 b1, .int .i64 b2, .int .i64 b3, .int .i64 sz, .slice sa len cap] 88)
  have HS := Lib.hid (hS.below BX.out)
  have E0 := Lib.hid (And.intro h (And.intro hm h.2.1))
  have HOK := Lib.hid ok
  have hn : len ≤ 1048576 := by have := hS.length; have := ok.2.2.1; dsimp only at this; omega
  have HTX := Lib.hid (show ∀ x ∈ ss, x.text.size ≤ 9223372036854775807 from fun x hx => by have := (ok.2.1 x hx).2.1; omega)
  have PV := Lib.hid (partsV_yes false ok)
  have PL := Lib.hid (partsT_length false ok)
  have PS := Lib.hid (partsT_small false ok)
  clear h hS ok
  have v0 := (VX.out 0 _ rfl).1
  have v1 := (VX.out 1 _ rfl).1
  have v2 := (VX.out 2 _ rfl).1
  have v3 := (VX.out 3 _ rfl).1
  have v4 := (VX.out 4 _ rfl).1
  have v5 := (VX.out 5 _ rfl).1
  have v6 := (VX.out 6 _ rfl).1
  have v7 := (VX.out 7 _ rfl).1
  have v8 := (VX.out 8 _ rfl).1
  have v9 := (VX.out 9 _ rfl).1
  have v10 := (VX.out 10 _ rfl).1
  have v11 := (VX.out 11 _ rfl).1
  go_enter Try.func69, Try.ntmps69
  go_wp2_with fail
  refine (sTalkParts_any f t a0 a1 a2 a3 b0 b1 b2 b3 sz sa len cap ss false _ HS.out hn HTX.out).mono ?_
  rw [PV.out]
  rintro e w1 ⟨a, k, cp, rfl, ho⟩
  clear v0 v1 v2 v3 v4 v5 v6 v7 v8 v9 v10 v11
  obtain ⟨ps, hps⟩ : ∃ ps, partsT ⟨f, t, ⟨a0, a1, a2, a3⟩, ⟨b0, b1, b2, b3⟩, sz, ss⟩ false = ps := ⟨_, rfl⟩
  rw [hps] at ho PL PS
  clear hps
  have KL := Lib.hid (show ps.length = k by have := ho.own.1; rw [flatP_length] at this; omega)
  have hk12 : k ≤ 12 := by have := KL.out; have := PL.out; omega
  have hrw := E0.out.2.2
  have hm' := E0.out.2.1
  have hBr := E0.out.1.1
  have Q0 := Lib.hid (show Pq B r m a k cp ps w w1 from ⟨E0.out.1.keep (BX.out.trans (ho.b.mono BX.out.size)) hrw, row_low ho.own (by simp), (BX.out.trans (ho.b.mono BX.out.size)).mono (Nat.le_of_lt (Nat.lt_of_le_of_lt hBr hrw)), below_aside (BX.out.trans (ho.b.mono BX.out.size)) (Nat.le_refl _), hrw, PS.out⟩)
  clear ho E0 BX VX HS HTX PV PL PS HOK hn
  by_cases hk : k = 0
  · subst hk
    go_wp2
    go_ret
    exact ⟨a, 0, cp, ps, rfl, by omega, Q0.out.sm, Q0.out.own, Q0.out.rd.mono (by omega), Q0.out.b, Q0.out.a⟩
  · have kpos : ¬ (k : Int) = 0 := by omega
    have hk1 : 1 ≤ k := by omega
    obtain ⟨g, rfl⟩ : ∃ g, a = some ⟨g, 0, none⟩ := Q0.out.addr hk1
    go_wp2_with fail
    refine (pick_any B r m 8 _ Q0.out.rd (by omega) (by omega) (by omega)).mono ?_
    rintro e w2 ⟨kn, rfl, kna, knb, hr2, ho2⟩
    have Q1 := Lib.hid ((Q0.out.only ho2 hr2).mono (M' := m + 1 + 2 * 0) (by omega))
    clear hr2 ho2 Q0
    obtain ⟨nn, rfl⟩ : ∃ nn : Nat, kn = nn := ⟨kn.toNat, by omega⟩
    have hnn : nn ≤ 7 := by omega
    clear kna knb KL
    go_wp2
    go_loopw [7] (fun iv wr => ∃ (i : Nat) (ps : List Part), i ≤ nn ∧ iv = .int .i64 i ∧ Hid (Pq B r (m + 1 + 2 * i) (some ⟨g, 0, none⟩) k cp ps w wr)) (fun iv _ => nn - (intOf iv).toNat)
    case atStart => exact ⟨0, ps, Nat.zero_le _, rfl, Q1⟩
    case round =>
      obtain ⟨i, ps, hi, rfl, hQ⟩ := hrel
      clear Q1
      by_cases hlt : i < nn
      · have ii : (i : Int) < (nn : Int) := by omega
        go_wp2_with fail
        refine (pick_any B r _ k _ hQ.out.rd (by omega) (by omega) (by omega)).mono ?_
        rintro e wa ⟨A, rfl, Aa, Ab, hra, hoa⟩
        have QA := Lib.hid (hQ.out.only hoa hra)
        clear hra hoa hQ
        obtain ⟨A, rfl⟩ : ∃ n : Nat, A = n := ⟨A.toNat, by omega⟩
        have hA : A < k := by omega
        go_wp2_with fail
        refine (pick_any B r _ k _ QA.out.rd (by omega) (by omega) (by omega)).mono ?_
        rintro e wb ⟨Bi, rfl, Ba, Bb, hrb, hob⟩
        have QB := Lib.hid ((QA.out.only hob hrb).mono (M' := m + 1 + 2 * (i + 1)) (by omega))
        clear hrb hob QA
        obtain ⟨Bi, rfl⟩ : ∃ n : Nat, Bi = n := ⟨Bi.toNat, by omega⟩
        have hBi : Bi < k := by omega
        obtain ⟨p0, p1, p2, p3, p4, p5, p6⟩ := QB.out.at hA
        obtain ⟨x0, x1, x2, x3, x4, x5, x6⟩ := QB.out.at hBi
        obtain ⟨⟨ut, us, uq, uf, ul, uo, ux⟩, ha⟩ : ∃ p, pAt ps A = p := ⟨_, rfl⟩
        obtain ⟨⟨yt, ys, yq, yf, yl, yo, yx⟩, hb⟩ : ∃ p, pAt ps Bi = p := ⟨_, rfl⟩
        rw [ha] at p0 p1 p2 p3 p4 p5 p6
        rw [hb] at x0 x1 x2 x3 x4 x5 x6
        dsimp only at p0 p1 p2 p3 p4 p5 p6 x0 x1 x2 x3 x4 x5 x6
        have SMA := Lib.hid (show Smally ⟨ut, us, uq, uf, ul, uo, ux⟩ by rw [← ha]; exact QB.out.small hA)
        have SMB := Lib.hid (show Smally ⟨yt, ys, yq, yf, yl, yo, yx⟩ by rw [← hb]; exact QB.out.small hBi)
        clear ha hb
        have ng : ¬ g = wb.heap.size := by have := lt_of_cell p0; omega
        have ng2 : ¬ wb.heap.size = g := by have := lt_of_cell p0; omega
        have ai : (A : Int) < (k : Int) := by omega
        have bi : (Bi : Int) < (k : Int) := by omega
        have Q1 := Lib.hid (QB.out.up (below_box (.cells #[.int .i64 ut, .int .i64 us, .int .i64 uq, .bool uf, .bool ul, .bool uo, .string ux] 28) (Nat.le_refl _)))
        have z0 := past_cell x0 (.cells #[.int .i64 ut, .int .i64 us, .int .i64 uq, .bool uf, .bool ul, .bool uo, .string ux] 28)
        have z1 := past_cell x1 (.cells #[.int .i64 ut, .int .i64 us, .int .i64 uq, .bool uf, .bool ul, .bool uo, .string ux] 28)
        have z2 := past_cell x2 (.cells #[.int .i64 ut, .int .i64 us, .int .i64 uq, .bool uf, .bool ul, .bool uo, .string ux] 28)
        have z3 := past_cell x3 (.cells #[.int .i64 ut, .int .i64 us, .int .i64 uq, .bool uf, .bool ul, .bool uo, .string ux] 28)
        have z4 := past_cell x4 (.cells #[.int .i64 ut, .int .i64 us, .int .i64 uq, .bool uf, .bool ul, .bool uo, .string ux] 28)
        have z5 := past_cell x5 (.cells #[.int .i64 ut, .int .i64 us, .int .i64 uq, .bool uf, .bool ul, .bool uo, .string ux] 28)
        have z6 := past_cell x6 (.cells #[.int .i64 ut, .int .i64 us, .int .i64 uq, .bool uf, .bool ul, .bool uo, .string ux] 28)
        have s0 := past_cell p0 (.cells #[.int .i64 ut, .int .i64 us, .int .i64 uq, .bool uf, .bool ul, .bool uo, .string ux] 28)
        have s1 := past_cell p1 (.cells #[.int .i64 ut, .int .i64 us, .int .i64 uq, .bool uf, .bool ul, .bool uo, .string ux] 28)
        have s2 := past_cell p2 (.cells #[.int .i64 ut, .int .i64 us, .int .i64 uq, .bool uf, .bool ul, .bool uo, .string ux] 28)
        have s3 := past_cell p3 (.cells #[.int .i64 ut, .int .i64 us, .int .i64 uq, .bool uf, .bool ul, .bool uo, .string ux] 28)
        have s4 := past_cell p4 (.cells #[.int .i64 ut, .int .i64 us, .int .i64 uq, .bool uf, .bool ul, .bool uo, .string ux] 28)
        have s5 := past_cell p5 (.cells #[.int .i64 ut, .int .i64 us, .int .i64 uq, .bool uf, .bool ul, .bool uo, .string ux] 28)
        have s6 := past_cell p6 (.cells #[.int .i64 ut, .int .i64 us, .int .i64 uq, .bool uf, .bool ul, .bool uo, .string ux] 28)
        have fa0 := Q1.out.own.frozenAt (A * 7)
        have fa1 := Q1.out.own.frozenAt (A * 7 + 1)
        have fa2 := Q1.out.own.frozenAt (A * 7 + 2)
        have fa3 := Q1.out.own.frozenAt (A * 7 + 3)
        have fa4 := Q1.out.own.frozenAt (A * 7 + 4)
        have fa5 := Q1.out.own.frozenAt (A * 7 + 5)
        have fa6 := Q1.out.own.frozenAt (A * 7 + 6)
        have Q2 := Lib.hid (Q1.out.put hA SMB.out)
        have XV := Lib.hid ((((((((VarN.new wb [.int .i64 ut, .int .i64 us, .int .i64 uq, .bool uf, .bool ul, .bool uo, .string ux] 28).far (i := A * 7) (.int .i64 yt) ng).far (i := A * 7 + 1) (.int .i64 ys) ng).far (i := A * 7 + 2) (.int .i64 yq) ng).far (i := A * 7 + 3) (.bool yf) ng).far (i := A * 7 + 4) (.bool yl) ng).far (i := A * 7 + 5) (.bool yo) ng).far (i := A * 7 + 6) (.string yx) ng)
        clear QB Q1
        go_upto_region 12 with fail
        generalize ((((((((wb.alloc (.cells #[.int .i64 ut, .int .i64 us, .int .i64 uq, .bool uf, .bool ul, .bool uo, .string ux] 28)).setCell ⟨g, A * 7, none⟩ (.int .i64 yt)).setCell ⟨g, A * 7 + 1, none⟩ (.int .i64 ys)).setCell ⟨g, A * 7 + 2, none⟩ (.int .i64 yq)).setCell ⟨g, A * 7 + 3, none⟩ (.bool yf)).setCell ⟨g, A * 7 + 4, none⟩ (.bool yl)).setCell ⟨g, A * 7 + 5, none⟩ (.bool yo)).setCell ⟨g, A * 7 + 6, none⟩ (.string yx)) = wc at Q2 XV ⊢
        obtain ⟨X, hX⟩ : ∃ X, wb.heap.size = X := ⟨_, rfl⟩
        rw [hX] at XV ng ng2
        try rw [hX]
        clear p0 p1 p2 p3 p4 p5 p6 x0 x1 x2 x3 x4 x5 x6 fa0 fa1 fa2 fa3 fa4 fa5 fa6 z0 z1 z2 z3 z4 z5 z6 s0 s1 s2 s3 s4 s5 s6
        obtain ⟨p0, p1, p2, p3, p4, p5, p6⟩ := Q2.out.at hBi
        have fa0 := Q2.out.own.frozenAt (Bi * 7)
        have fa1 := Q2.out.own.frozenAt (Bi * 7 + 1)
        have fa2 := Q2.out.own.frozenAt (Bi * 7 + 2)
        have fa3 := Q2.out.own.frozenAt (Bi * 7 + 3)
        have fa4 := Q2.out.own.frozenAt (Bi * 7 + 4)
        have fa5 := Q2.out.own.frozenAt (Bi * 7 + 5)
        have fa6 := Q2.out.own.frozenAt (Bi * 7 + 6)
        have c0 := (XV.out 0 _ rfl).1
        have c1 := (XV.out 1 _ rfl).1
        have c2 := (XV.out 2 _ rfl).1
        have c3 := (XV.out 3 _ rfl).1
        have c4 := (XV.out 4 _ rfl).1
        have c5 := (XV.out 5 _ rfl).1
        have c6 := (XV.out 6 _ rfl).1
        have Q3 := Lib.hid (Q2.out.put hBi SMA.out)
        clear Q2 XV
        go_wp2
        go_roundw
        case rel => exact ⟨i + 1, _, by omega, by go_num, Q3⟩
        case measure => simp [intOf]; omega
      · obtain rfl : i = nn := by omega
        have ni : ¬ (i : Int) < (i : Int) := by omega
        go_wp2_with fail
        refine (pick_any B r _ 4 _ hQ.out.rd (by omega) (by omega) (by omega)).mono ?_
        rintro e wa ⟨s, rfl, sa0, sb0, hra, hoa⟩
        have QA := Lib.hid ((hQ.out.only hoa hra).mono (M' := m + 20) (by omega))
        clear hra hoa hQ
        by_cases hs0 : s = 0
        · subst hs0
          go_wp2_with fail
          refine (pick_any B r _ k _ QA.out.rd (by omega) (by omega) (by omega)).mono ?_
          rintro e wb ⟨A, rfl, Aa, Ab, hrb, hob⟩
          have QB := Lib.hid ((QA.out.only hob hrb).mono (M' := m + 30) (by omega))
          clear hrb hob QA
          obtain ⟨A, rfl⟩ : ∃ n : Nat, A = n := ⟨A.toNat, by omega⟩
          have hA : A < k := by omega
          obtain ⟨p0, p1, p2, p3, p4, p5, p6⟩ := QB.out.at hA
          obtain ⟨⟨ut, us, uq, uf, ul, uo, ux⟩, ha⟩ : ∃ p, pAt ps A = p := ⟨_, rfl⟩
          rw [ha] at p0 p1 p2 p3 p4 p5 p6
          dsimp only at p0 p1 p2 p3 p4 p5 p6
          have SMA := Lib.hid (show Smally ⟨ut, us, uq, uf, ul, uo, ux⟩ by rw [← ha]; exact QB.out.small hA)
          have ai : (A : Int) < (k : Int) := by omega
          clear ha
          have QC := Lib.hid (QB.out.up (below_box (.cells #[.int .i64 ut, .int .i64 us, .int .i64 uq, .bool uf, .bool ul, .bool uo, .string ux] 28) (Nat.le_refl _)))
          have hws : w.heap.size ≤ wb.heap.size := QB.out.size
          go_wp2_with (at_builtin; go_loud (refine wpList_append_lies _ rfl _ _ 24 rfl w.heap.size 28 i0 (partV ⟨0, 0, 0, false, false, false, ByteArray.mk #[]⟩) 7 48 Try.underlying24 HI.out.1 HI.out.2.1 HI.out.2.2.1 HI.out.2.2.2 rfl (by decide) (.slice (some ⟨g, 0, none⟩) k cp) k (flatP ps) rfl QC.out.own ⟨wb.heap.size, 0, none⟩ 1 1 (cellsP ⟨ut, us, uq, uf, ul, uo, ux⟩) rfl rfl (news_box rfl) (cellsP_one _) (by decide) (by unfold maxLen; omega) (by omega) (by simp; omega) _ rfl ?_))
          intro gg cap3 we hown hgrow hat hlt9
          have QD := Lib.hid (QC.out.push hgrow hown SMA.out)
          clear hown hgrow hat hlt9 QB QC p0 p1 p2 p3 p4 p5 p6
          go_wp2
          go_ret
          exact ⟨_, k + 1, cap3, _, rfl, by omega, QD.out.sm, QD.out.own, QD.out.rd, QD.out.b, QD.out.a⟩
        · by_cases hs1 : s = 1
          · have s0 : ¬ s = 0 := hs0
            subst hs1
            go_wp2_with fail
            refine (pick_any B r _ k _ QA.out.rd (by omega) (by omega) (by omega)).mono ?_
            rintro e wb ⟨A, rfl, Aa, Ab, hrb, hob⟩
            have QB := Lib.hid ((QA.out.only hob hrb).mono (M' := m + 30) (by omega))
            clear hrb hob QA
            obtain ⟨A, rfl⟩ : ∃ n : Nat, A = n := ⟨A.toNat, by omega⟩
            have hA : A < k := by omega
            have hcp := (own_pts QB.out.own).len_le
            have ac : (A : Int) ≤ (cp : Int) := by omega
            go_wp2
            go_ret
            exact ⟨_, A, cp, ps.take A, rfl, by omega, fun p hp => QB.out.sm p (List.mem_of_mem_take hp), own_takeP QB.out.own (by omega), QB.out.rd, QB.out.b, QB.out.a⟩
          · have s0 : (s == 0) = false := beq_eq_false_iff_ne.2 hs0
            have s1 : (s == 1) = false := beq_eq_false_iff_ne.2 hs1
            go_wp2
            go_ret
            exact ⟨_, k, cp, ps, rfl, by omega, QA.out.sm, QA.out.own, QA.out.rd.mono (by omega), QA.out.b, QA.out.a⟩

end Go.Proofs.Ytncbgejggfkdmaa
