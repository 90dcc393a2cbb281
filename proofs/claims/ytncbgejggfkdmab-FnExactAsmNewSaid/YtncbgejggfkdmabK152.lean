/- The contracts of the program's chapter 22: whether numbers, a part, an assembly is valid; the parts of an assembly as links. -/
import Derived.Test.YtncbgejggfkdmabK143
import Derived.Test.YtncbgejggfkdmabK131
import Derived.Test.YtncbgejggfkdmabK26a
namespace Go.Proofs.Ytncbgejggfkdmab
open Go.RowKit Go.PlainAid

/-- Numbers of streams are valid. -/
def NextOk (next : List Int) : Prop := 1 ≤ next.length ∧ next.length ≤ 4 ∧ ∀ n ∈ next, 0 ≤ n ∧ n ≤ 65535
instance (next : List Int) : Decidable (NextOk next) := by unfold NextOk; infer_instance
def nextOkV (next : List Int) : Bool := decide (NextOk next)
theorem nextOkV_yes {next : List Int} (h : NextOk next) : nextOkV next = true := decide_eq_true h
theorem nextOkV_no {next : List Int} (h : ¬ NextOk next) : nextOkV next = false := decide_eq_false h
theorem AsmOk.next {next : List Int} {ps : List Part} (h : AsmOk next ps) : NextOk next := ⟨h.n1, h.n4, fun n hn => by have := h.nums n hn; exact ⟨this.1, by have := this.2; omega⟩⟩
theorem NextOk.ser {next : List Int} (h : NextOk next) : ∀ n ∈ next, Ser n := fun n hn => ⟨(h.2.2 n hn).1, by have := (h.2.2 n hn).2; omega⟩
def partOkV (n : Nat) (p : Part) : Bool := decide (PartOk n p)
theorem partOkV_yes {n : Nat} {p : Part} (h : PartOk n p) : partOkV n p = true := decide_eq_true h
theorem partOkV_no {n : Nat} {p : Part} (h : ¬ PartOk n p) : partOkV n p = false := decide_eq_false h

set_option maxHeartbeats 1000000 in
theorem nextValid_any (a : Option Addr) (len cap : Nat) (next : List Int) (w : World) (h : Ns w a len cap next) :
    Calls Try.prog 68 #[.slice a len cap] w fun e w' => e = .returned (.bool (nextOkV next)) ∧ w = w' := by
  have hl := h.length
  have hm := h.len_int
  have HG := Lib.hid h
  clear h
  by_cases h1 : (len : Int) < 1
  · have V := Lib.hid (nextOkV_no (next := next) fun h => by have := h.1; omega)
    clear hl
    go_enter Try.func68, Try.ntmps68
    go_wp2
    go_ret
    exact ⟨ret_b V.out.symm, rfl⟩
  · by_cases h4 : (4 : Int) < len
    · have V := Lib.hid (nextOkV_no (next := next) fun h => by have := h.2.1; omega)
      clear hl
      go_enter Try.func68, Try.ntmps68
      go_wp2
      go_ret
      exact ⟨ret_b V.out.symm, rfl⟩
    · have HL := Lib.hid hl
      clear hl
      go_enter Try.func68, Try.ntmps68
      go_wp2
      go_loop [15] (fun i => ∃ k : Nat, k ≤ len ∧ i = .int .i64 k ∧ Hid (∀ n ∈ next.take k, Ser n)) (fun i => len - (intOf i).toNat)
      case atStart => exact ⟨0, Nat.zero_le _, rfl, Lib.hid (by simp)⟩
      case round =>
        obtain ⟨k, hk, rfl, hok⟩ := hrel
        by_cases hlt : k < len
        · obtain ⟨x, rfl⟩ := HG.out.addr hlt
          have p0 := HG.out.at (Below.refl _ _) hlt
          have hkl : k < next.length := by rw [HL.out]; exact hlt
          obtain ⟨e, he⟩ : ∃ e, nAt next k = e := ⟨_, rfl⟩
          have HM := Lib.hid (nAt_mem hkl)
          have O := Lib.hid (take_nAt hkl)
          rw [he] at p0 HM O
          clear he
          by_cases hs : Ser e
          · have HS := Lib.hid hs
            have O2 := Lib.hid (show ∀ n ∈ next.take (k + 1), Ser n by
              rw [O.out]
              intro n hn
              rcases List.mem_append.1 hn with hn | hn
              · exact hok.out n hn
              · rw [List.mem_singleton.1 hn]; exact hs)
            clear hs
            go_wp2_with fail
            refine (serialValid_yes e _ HS.out).mono ?_
            rintro e w1 ⟨rfl, rfl⟩
            go_wp2
            go_round
            case rel => exact ⟨k + 1, by omega, by go_num, O2⟩
            case measure => simp [intOf]; omega
          · have HS := Lib.hid hs
            have V := Lib.hid (nextOkV_no (next := next) fun h => hs (h.ser e HM.out))
            clear hs
            go_wp2_with fail
            refine (serialValid_no e _ HS.out).mono ?_
            rintro e w1 ⟨rfl, rfl⟩
            go_wp2
            go_ret
            exact ⟨ret_b V.out.symm, rfl⟩
        · obtain rfl : k = len := by omega
          have V := Lib.hid (nextOkV_yes (next := next) (by
            have := hok.out
            have hl := HL.out
            rw [List.take_of_length_le (by omega)] at this
            exact ⟨by omega, by omega, fun n hn => by have := this n hn; exact ⟨this.1, by have := this.2; omega⟩⟩))
          go_wp2
          go_ret
          exact ⟨ret_b V.out.symm, rfl⟩

set_option maxHeartbeats 1000000 in
theorem partOf_any (p : Part) (n : Nat) (w : World) :
    Calls Try.prog 50 #[partV p, .int .i64 n] w fun e w' => e = .returned (.bool (partOkV n p)) ∧ Below w.heap.size w w' := by
  obtain ⟨t, s, q, fi, la, lo, tx⟩ := p
  have HB := below_box (w := w) (.cells #[.int .i64 t, .int .i64 s, .int .i64 q, .bool fi, .bool la, .bool lo, .string tx] 43) (Nat.le_refl _)
  have V0 := VarN.new w [.int .i64 t, .int .i64 s, .int .i64 q, .bool fi, .bool la, .bool lo, .string tx] 43
  have hV : Hid (∀ w', Below (w.alloc (.cells #[.int .i64 t, .int .i64 s, .int .i64 q, .bool fi, .bool la, .bool lo, .string tx] 43)).heap.size (w.alloc (.cells #[.int .i64 t, .int .i64 s, .int .i64 q, .bool fi, .bool la, .bool lo, .string tx] 43)) w' → w'.cell? ⟨w.heap.size, 1, none⟩ = some (.int .i64 s)) :=
    Lib.hid fun w' hb => ((V0.below hb (by simp)) 1 _ rfl).1
  by_cases hd : DataOk t s q tx
  · have D := Lib.hid (dataOkV_yes hd)
    have HD := Lib.hid hd
    have E := Lib.hid (show decide (s < (n : Int)) = partOkV n ⟨t, s, q, fi, la, lo, tx⟩ by
      by_cases h : s < (n : Int)
      · rw [decide_eq_true h, partOkV_yes ⟨hd, h⟩]
      · rw [decide_eq_false h, partOkV_no fun k => h k.2])
    clear hd V0
    unfold partV
    go_enter Try.func50, Try.ntmps50
    go_wp2_with fail
    refine (dataValid_any t s q fi la lo tx _).mono ?_
    rw [D.out]
    rintro e w1 ⟨rfl, hb1⟩
    have c1 := hV.out w1 hb1
    have HB1 := Lib.hid (HB.trans (hb1.mono HB.size))
    clear hb1
    go_wp2
    go_ret
    exact ⟨ret_b E.out, HB1.out⟩
  · have D := Lib.hid (dataOkV_no hd)
    have E := Lib.hid (partOkV_no (n := n) (p := ⟨t, s, q, fi, la, lo, tx⟩) fun k => hd k.1)
    clear hd V0
    unfold partV
    go_enter Try.func50, Try.ntmps50
    go_wp2_with fail
    refine (dataValid_any t s q fi la lo tx _).mono ?_
    rw [D.out]
    rintro e w1 ⟨rfl, hb1⟩
    have HB1 := Lib.hid (HB.trans (hb1.mono HB.size))
    clear hb1
    go_wp2
    go_ret
    exact ⟨ret_b E.out.symm, HB1.out⟩

end Go.Proofs.Ytncbgejggfkdmab
