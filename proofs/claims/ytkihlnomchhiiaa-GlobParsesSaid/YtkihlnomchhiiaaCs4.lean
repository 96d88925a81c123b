/- Contracts of sets of bytes: how many bits a word has, how many bytes a set. -/
import Derived.Test.YtkihlnomchhiiaaCs3
import Derived.Test.YtkihlnomchhiiaaCsPop
namespace Go.Proofs.Ytkihlnomchhiiaa
open Go.ChangeShapes Go.WideShapes Go.ChangeAt Go.RowKit
set_option linter.unusedSimpArgs false
set_option linter.unusedVariables false

theorem nat_u64 (n : Nat) (h : n < 256 ^ 8) : IntKind.u64.wrap (n : Int) = n := by
  have e : 256 ^ 8 = 18446744073709551616 := by decide
  rw [e] at h
  simp [IntKind.wrap, IntKind.signed, IntKind.bits]; omega
theorem nat_i64 (n : Nat) (h : n < 2 ^ 62) : IntKind.i64.wrap (n : Int) = n := IntWalk.i64_in _ (by omega)
set_option maxRecDepth 20000 in
theorem cs_ones (N : Nat) (h : N < 256 ^ 8) (w : World) :
    Calls Try.prog 45 #[.int .u64 N] w fun e w' => e = .returned (.int .i64 (Cs.cnt N.testBit 64 : Nat)) ∧ w' = w := by
  obtain ⟨x1, x2, x3, e1, e2, e3, l1, l2, l3, a, b, c, d, e, f, g, k, hx, ha, hb, hc, hd, he, hf, hg, hk, hs⟩ := Cs.swar N h
  obtain ⟨x4, x5, x6, e4, e5, e6, l4, l5, l6, hm⟩ := Cs.swar2 x3 a b c d e f g k hx ha hb hc hd he hf hg hk
  obtain ⟨r, hr⟩ : ∃ r, Cs.cnt N.testBit 64 = r := ⟨_, rfl⟩
  rw [hr] at hs ⊢
  rw [hs] at hm
  have c8 : 256 ^ 8 = 18446744073709551616 := by decide
  have g0 : bits BinOp.and IntKind.u64 ((N : Int) / 2) 6148914691236517205 = ((N / 2 &&& 6148914691236517205 : Nat) : Int) := Cs.bits_and_nat (N / 2) 6148914691236517205 (by omega) (by decide)
  have g1 : bits BinOp.and IntKind.u64 (N : Int) 6148914691236517205 = ((N &&& 6148914691236517205 : Nat) : Int) := Cs.bits_and_nat N 6148914691236517205 (by omega) (by decide)
  have g2 : bits BinOp.and IntKind.u64 ((x1 : Int) / 4) 3689348814741910323 = ((x1 / 4 &&& 3689348814741910323 : Nat) : Int) := Cs.bits_and_nat (x1 / 4) 3689348814741910323 (by omega) (by decide)
  have g3 : bits BinOp.and IntKind.u64 (x1 : Int) 3689348814741910323 = ((x1 &&& 3689348814741910323 : Nat) : Int) := Cs.bits_and_nat x1 3689348814741910323 (by omega) (by decide)
  have g4 : bits BinOp.and IntKind.u64 ((x2 : Int) / 16 + x2) 1085102592571150095 = (x3 : Int) := by
    rw [← e3]
    exact Cs.bits_and_nat (x2 / 16 + x2) 1085102592571150095 (by omega) (by decide)
  have g5 := Cs.bits_and_i127 x6 l6
  rw [hm] at g5
  obtain ⟨p, hp⟩ : ∃ p, (N / 2 &&& 6148914691236517205 : Nat) = p := ⟨_, rfl⟩
  obtain ⟨q, hq⟩ : ∃ q, (N &&& 6148914691236517205 : Nat) = q := ⟨_, rfl⟩
  obtain ⟨s, hs2⟩ : ∃ q, (x1 / 4 &&& 3689348814741910323 : Nat) = q := ⟨_, rfl⟩
  obtain ⟨t, ht⟩ : ∃ q, (x1 &&& 3689348814741910323 : Nat) = q := ⟨_, rfl⟩
  rw [hp] at g0 e1; rw [hq] at g1 e1; rw [hs2] at g2 e2; rw [ht] at g3 e2
  have w1 : IntKind.u64.wrap ((p : Int) + q) = (x1 : Int) := by
    have := nat_u64 x1 l1; rw [← e1] at this ⊢; simpa using this
  have w2 : IntKind.u64.wrap ((s : Int) + t) = (x2 : Int) := by
    have := nat_u64 x2 l2; rw [← e2] at this ⊢; simpa using this
  have w3 : IntKind.u64.wrap ((x2 : Int) / 16 + x2) = (x2 : Int) / 16 + x2 := nat_u64 (x2 / 16 + x2) l3
  have w4 : IntKind.u64.wrap ((x3 : Int) + (x3 : Int) / 256) = (x4 : Int) := by
    have := nat_u64 x4 (by omega); rw [← e4] at this ⊢; simpa using this
  have w5 : IntKind.u64.wrap ((x4 : Int) + (x4 : Int) / 65536) = (x5 : Int) := by
    have := nat_u64 x5 (by omega); rw [← e5] at this ⊢; simpa using this
  have w6 : IntKind.u64.wrap ((x5 : Int) + (x5 : Int) / 4294967296) = (x6 : Int) := by
    have := nat_u64 x6 (by omega); rw [← e6] at this ⊢; simpa using this
  have w7 := nat_i64 x6 l6
  clear e1 e2 e3 e4 e5 e6 l1 l2 l3 l4 l5 hx ha hb hc hd he hf hg hk hs hm hp hq hs2 ht hr
  go_enter Try.func45, Try.ntmps45
  go_wp2
  go_ret
  exact ⟨rfl, rfl⟩
theorem idx_word (X : BitVec 256) (k : Nat) (hk : k < 4) (wr : World) : Sem.run Try.prog (Instr.index 38 (.agg #[.int .u64 (Cs.wd X 0), .int .u64 (Cs.wd X 1), .int .u64 (Cs.wd X 2), .int .u64 (Cs.wd X 3)]) (.int .i64 (k : Int))) wr = .ok (.int .u64 ((Cs.wb X k).toNat : Nat)) wr := by
  rcases k with _ | _ | _ | _ | k
  · simp [Instr.index, go_sem, Cs.wd]
  · simp [Instr.index, go_sem, Cs.wd]
  · simp [Instr.index, go_sem, Cs.wd]
  · simp [Instr.index, go_sem, Cs.wd]
  · omega
set_option maxRecDepth 20000 in
theorem cs_len (X : BitVec 256) (w : World) :
    Calls Try.prog 37 #[Cs.sv X] w fun e w' => e = .returned (.int .i64 (Cs.cnt X.getLsbD 256 : Nat)) ∧ Below w.heap.size w w' := by
  have word : ∀ i, (Cs.wb X i).toNat < 256 ^ 8 := fun i => by
    have := (Cs.wb X i).isLt
    have e : 256 ^ 8 = 18446744073709551616 := by decide
    omega
  have HW := Lib.hid (And.intro word (fun k => Cs.psum_le X k))
  have HP := Lib.hid (Cs.psum_all X)
  obtain ⟨r, hr⟩ : ∃ r, Cs.cnt X.getLsbD 256 = r := ⟨_, rfl⟩
  rw [hr] at HP ⊢
  clear hr word
  have hc : Hid (SB (w.alloc (.cells #[.int .u64 (Cs.wd X 0), .int .u64 (Cs.wd X 1), .int .u64 (Cs.wd X 2), .int .u64 (Cs.wd X 3)] 38)) w.heap.size X ∧ Below w.heap.size w (w.alloc (.cells #[.int .u64 (Cs.wd X 0), .int .u64 (Cs.wd X 1), .int .u64 (Cs.wd X 2), .int .u64 (Cs.wd X 3)] 38))) := Lib.hid ⟨SB.new w X, (Below.refl _ _).alloc (Nat.le_refl _) _⟩
  unfold Cs.sv
  go_enter Try.func37, Try.ntmps37
  go_upto_region 1 with fail
  revert hc
  generalize w.alloc (.cells #[.int .u64 (Cs.wd X 0), .int .u64 (Cs.wd X 1), .int .u64 (Cs.wd X 2), .int .u64 (Cs.wd X 3)] 38) = W
  intro hc
  have x0 := hc.out.1.at (i := 0) (by decide)
  have x1 := hc.out.1.at (i := 1) (by decide)
  have x2 := hc.out.1.at (i := 2) (by decide)
  have x3 := hc.out.1.at (i := 3) (by decide)
  go_wp2
  clear x0 x1 x2 x3
  go_loopw [3, 7] (fun n i wr => ∃ k : Nat, i = .int .i64 k ∧ n = .int .i64 (Cs.psum X k : Nat) ∧ k ≤ 4 ∧ wr = W) (fun _ i _ => 4 - (intOf i).toNat)
  case atStart => exact ⟨0, rfl, rfl, by omega, rfl⟩
  case round =>
    obtain ⟨k, rfl, rfl, hk, rfl⟩ := hrel
    have i0 : (0 : Int) ≤ (k : Int) := by omega
    by_cases hkl : k < 4
    · obtain ⟨m, hm⟩ : ∃ m, Cs.cnt (Cs.wb X k).toNat.testBit 64 = m := ⟨_, rfl⟩
      obtain ⟨p, hp⟩ : ∃ p, Cs.psum X k = p := ⟨_, rfl⟩
      have HM : Hid (Cs.cnt (Cs.wb X k).toNat.testBit 64 = m ∧ Cs.psum X (k + 1) = p + m) := Lib.hid ⟨hm, by rw [Cs.psum, hm, hp]⟩
      have sw : IntKind.i64.wrap ((p : Int) + m) = (p : Int) + m := IntWalk.i64_in _ (by
        have := HW.out.2 (k + 1)
        rw [HM.out.2] at this
        omega)
      rw [hp]
      clear hm hp
      have hix : Sem.run Try.prog (Instr.index 38 (.agg #[.int .u64 (Cs.wd X 0), .int .u64 (Cs.wd X 1), .int .u64 (Cs.wd X 2), .int .u64 (Cs.wd X 3)]) (.int .i64 (k : Int))) wr = .ok (.int .u64 ((Cs.wb X k).toNat : Nat)) wr := idx_word X k hkl wr
      obtain ⟨N, hN⟩ : ∃ N, (Cs.wb X k).toNat = N := ⟨_, rfl⟩
      have HN : Hid (N < 256 ^ 8 ∧ Cs.cnt N.testBit 64 = m) := Lib.hid ⟨hN ▸ HW.out.1 k, hN ▸ HM.out.1⟩
      rw [hN] at hix
      clear hN
      go_wp2_with (go_at_call 45; refine (cs_ones N HN.out.1 _).mono ?_; rintro e w2 ⟨rfl, rfl⟩; rw [HN.out.2])
      refine ⟨?_, ?measure⟩
      case measure => simp [intOf]; omega
      first
        | exact ⟨k + 1, by go_num, by rw [HM.out.2, Int.natCast_add], by omega, trivial⟩
        | ((repeat apply Exists.intro); exact ⟨⟨k + 1, by go_num, by rw [HM.out.2, Int.natCast_add], by omega, rfl⟩, rfl⟩)
    · obtain rfl : k = 4 := by omega
      rw [HP.out]
      go_wp2
      go_ret
      exact ⟨rfl, hc.out.2⟩
end Go.Proofs.Ytkihlnomchhiiaa
