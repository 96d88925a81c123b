/- Log: a good event comes back from its line (no program). -/
import Derived.Test.YtfhhkmjjifbfeaaDoorLo13
import Derived.Test.YtfhhkmjjifbfeaaDoorLo9
import Derived.Test.YtfhhkmjjifbfeaaDoorQtR4
import Derived.WalkKit
import Derived.ProofKit
import Derived.Handy
import Derived.WalkLawsBesides
import Derived.WalkSpells
import Derived.Lib.Hide
import Derived.Lib.SliceRun
import Derived.Deep.RegionLaw
import Derived.RegionTactic
import Derived.ChangeAlike
import Derived.WalkSmall
import Derived.Deep.QuietTactic
import Derived.BigQuiet
import Derived.OwnWalk
import Derived.Outline
import Derived.Deep.CutRange
import Derived.Deep.CutBlock
import Derived.LoopTactic
namespace Go.Proofs.YtfhhkmjjifbfeaaDoor
open Go.ChangeShapes Go.WideShapes Go.ChangeAt Go.RowKit
set_option linter.unusedSimpArgs false
set_option linter.unusedVariables false

theorem Lo.spB_join (L : List (List UInt8)) (h0 : L ≠ []) (h : ∀ l ∈ L, (32 : UInt8) ∉ l) : Lo.spB 32 (Lib.join L [32]) = L.map Le.t := by
  unfold Lo.spB
  rw [Lo.sp_join 32 L h0 h]
theorem Lo.join_nest (a b y : List UInt8) (L : List (List UInt8)) (c : UInt8) : Lib.join [a, b, Lib.join (y :: L) [c]] [c] = Lib.join (a :: b :: y :: L) [c] := by
  rw [Lo.join_two, Lo.join_two, Lib.join_one, Lo.join_two, Lo.join_two]
theorem Lo.read_words (a : List UInt8) (ha : (32 : UInt8) ∉ a) (y : List UInt8) (L : List (List UInt8)) : Lo.read (Lib.join (a :: y :: L) [32]) = Lo.rd a (Lib.join (y :: L) [32]) := by
  unfold Lo.read
  rw [Lo.join_two, Lo.cut_app _ ha]
theorem Lo.read_one (a : List UInt8) (ha : (32 : UInt8) ∉ a) : Lo.read a = Lo.rd a [] := by
  unfold Lo.read
  rw [Lo.cut_none ha]
theorem Lo.rd_round (r : List UInt8) : Lo.rd [114, 111, 117, 110, 100] r = ⟨1, 0, 0, (Tx.parse r).1, { data := #[] }, 0, 0, 0, 0, 0, 0, 0⟩ := by
  unfold Lo.rd
  rw [if_pos rfl]
theorem Lo.rd_drain (r : List UInt8) : Lo.rd [100, 114, 97, 105, 110] r = ⟨7, 0, 0, (Tx.parse r).1, { data := #[] }, 0, 0, 0, 0, 0, 0, 0⟩ := by
  unfold Lo.rd
  rw [if_neg (by decide), if_pos rfl]
theorem Lo.rd_open (r : List UInt8) : Lo.rd [111, 112, 101, 110] r = ⟨2, Lo.num (Lo.at (Lo.spB 32 r) 0).data.toList, Lo.num (Lo.at (Lo.spB 32 r) 1).data.toList, 0, { data := #[] }, 0, 0, 0, 0, 0, 0, 0⟩ := by
  unfold Lo.rd
  rw [if_neg (by decide), if_neg (by decide), if_pos rfl]
theorem Lo.rd_refuse (r : List UInt8) : Lo.rd [114, 101, 102, 117, 115, 101] r = ⟨3, Lo.num (Lo.at (Lo.spB 32 r) 0).data.toList, Lo.num (Lo.at (Lo.spB 32 r) 1).data.toList, 0, { data := #[] }, Lo.num (Lo.at (Lo.spB 32 r) 2).data.toList, 0, 0, 0, 0, 0, 0⟩ := by
  unfold Lo.rd
  rw [if_neg (by decide), if_neg (by decide), if_neg (by decide), if_pos rfl]
theorem Lo.rd_read (r : List UInt8) : Lo.rd [114, 101, 97, 100] r = Lo.readB 4 r := by
  unfold Lo.rd
  rw [if_neg (by decide), if_neg (by decide), if_neg (by decide), if_neg (by decide), if_pos rfl]
theorem Lo.rd_write (r : List UInt8) : Lo.rd [119, 114, 105, 116, 101] r = Lo.readB 6 r := by
  unfold Lo.rd
  rw [if_neg (by decide), if_neg (by decide), if_neg (by decide), if_neg (by decide), if_neg (by decide), if_pos rfl]
theorem Lo.rd_eof (r : List UInt8) : Lo.rd [101, 111, 102] r = ⟨5, Lo.num (Lo.at (Lo.spB 32 r) 0).data.toList, 0, 0, { data := #[] }, 0, 0, 0, 0, 0, 0, 0⟩ := by
  unfold Lo.rd
  rw [if_neg (by decide), if_neg (by decide), if_neg (by decide), if_neg (by decide), if_neg (by decide), if_neg (by decide), if_pos rfl]
theorem Lo.rd_step (r : List UInt8) : Lo.rd [115, 116, 101, 112] r = ⟨8, Lo.num (Lo.at (Lo.spB 32 r) 0).data.toList, 0, 0, { data := #[] }, 0, (Tx.parse (Lo.at (Lo.spB 32 r) 1).data.toList).1, Lo.num (Lo.at (Lo.spB 32 r) 2).data.toList, Lo.lst Lo.word (Lo.at (Lo.spB 32 r) 3) 15, Lo.num (Lo.at (Lo.spB 32 r) 4).data.toList, Lo.num (Lo.at (Lo.spB 32 r) 5).data.toList, Lo.lst Le.word (Lo.at (Lo.spB 32 r) 6) 6⟩ := by
  unfold Lo.rd
  rw [if_neg (by decide), if_neg (by decide), if_neg (by decide), if_neg (by decide), if_neg (by decide), if_neg (by decide), if_neg (by decide), if_pos rfl]
theorem Lo.rd_stop (r : List UInt8) : Lo.rd [115, 116, 111, 112] r = ⟨9, 0, 0, 0, { data := #[] }, 0, 0, 0, 0, 0, 0, 0⟩ := by
  unfold Lo.rd
  rw [if_neg (by decide), if_neg (by decide), if_neg (by decide), if_neg (by decide), if_neg (by decide), if_neg (by decide), if_neg (by decide), if_neg (by decide), if_pos rfl]
theorem Lo.may_step {s0 s1 s2 s3 s4 s5 : Int} (h : Lo.mayS s0 s1 s2 s3 s4 s5 = true) : 0 ≤ s0 ∧ (1 ≤ s2 ∧ s2 ≤ 14) ∧ (0 ≤ s5 ∧ s5 ≤ 5) := by
  unfold Lo.mayS at h
  simp only [Bool.and_eq_true, decide_eq_true_eq, Bool.not_eq_true'] at h
  obtain ⟨⟨⟨⟨⟨a0, a1⟩, a2⟩, a3⟩, a4⟩, a5⟩ := h
  refine ⟨a0, ?_, ?_⟩
  · refine Decidable.by_contra fun hc => ?_
    have e : Lo.word s2 = { data := #[] } := by
      unfold Lo.word
      rw [if_neg (by omega), if_neg (by omega), if_neg (by omega), if_neg (by omega), if_neg (by omega), if_neg (by omega), if_neg (by omega), if_neg (by omega), if_neg (by omega), if_neg (by omega), if_neg (by omega), if_neg (by omega), if_neg (by omega), if_neg (by omega)]
    rw [e] at a2
    revert a2
    decide +kernel
  · refine Decidable.by_contra fun hc => ?_
    have e : Le.word s5 = { data := #[] } := by
      unfold Le.word
      rw [if_neg (by omega), if_neg (by omega), if_neg (by omega), if_neg (by omega), if_neg (by omega), if_neg (by omega)]
    rw [e] at a5
    revert a5
    decide +kernel
theorem Lo.read_line (x : Ev) (hok : x.ok) (hg : Lo.good x = true) : Lo.read (Lo.line x) = x := by
  obtain ⟨k, i, n, t, b, e, s0, s1, s2, s3, s4, s5⟩ := x
  have g : ∀ v, Value.int .i64 v ∈ (Ev.c ⟨k, i, n, t, b, e, s0, s1, s2, s3, s4, s5⟩) → Lo.i64 v := fun v hv => bounds_i64 (hok.2 .i64 v hv)
  have gi := g i (by simp [Ev.c])
  have gn := g n (by simp [Ev.c])
  have gt := (g t (by simp [Ev.c])).2
  have ge := g e (by simp [Ev.c])
  have g0 := (g s0 (by simp [Ev.c])).2
  have g1 := g s1 (by simp [Ev.c])
  have g3 := g s3 (by simp [Ev.c])
  have g4 := g s4 (by simp [Ev.c])
  clear g
  have hk := Lo.good_k hg
  unfold Lo.good at hg
  rw [Bool.and_eq_true, decide_eq_true_eq] at hg
  obtain ⟨hl, hm⟩ := hg
  dsimp only at hk
  rcases hk with rfl | rfl | rfl | rfl | rfl | rfl | rfl | rfl | rfl
  · unfold Lo.left at hl
    dsimp only at hl
    rw [if_pos (by decide)] at hl
    simp only [Ev.mk.injEq] at hl
    obtain ⟨-, rfl, rfl, -, rfl, rfl, rfl, rfl, rfl, rfl, rfl, rfl⟩ := hl
    unfold Lo.may at hm
    dsimp only at hm
    rw [if_pos (by decide)] at hm
    unfold Lo.line
    rw [decide_eq_true_eq] at hm
    show Lo.read (Lib.join [[114, 111, 117, 110, 100], Lo.tt t] [32]) = _
    rw [Lo.read_words _ (by decide), Lo.rd_round, Lib.join_one, Lo.parse_tt t hm gt]
  · unfold Lo.left at hl
    dsimp only at hl
    rw [if_neg (by decide), if_pos (by decide)] at hl
    simp only [Ev.mk.injEq] at hl
    obtain ⟨-, -, -, rfl, rfl, rfl, rfl, rfl, rfl, rfl, rfl, rfl⟩ := hl
    unfold Lo.may at hm
    dsimp only at hm
    rw [if_neg (by decide), if_pos (by decide)] at hm
    unfold Lo.line
    show Lo.read (Lib.join [[111, 112, 101, 110], Lib.itoa i, Lib.itoa n] [32]) = _
    rw [Lo.read_words _ (by decide), Lo.rd_open, Lo.spB_join _ (by simp) (by
      intro l hl
      simp only [List.mem_cons, List.not_mem_nil, or_false] at hl
      rcases hl with rfl | rfl <;> exact Lo.no32_itoa _)]
    show (⟨2, Lo.num (Le.t (Lib.itoa i)).data.toList, Lo.num (Le.t (Lib.itoa n)).data.toList, 0, { data := #[] }, 0, 0, 0, 0, 0, 0, 0⟩ : Ev) = _
    rw [Le.t_list, Lo.num_itoa i gi, Le.t_list, Lo.num_itoa n gn]
  · unfold Lo.left at hl
    dsimp only at hl
    rw [if_neg (by decide), if_neg (by decide), if_pos (by decide)] at hl
    simp only [Ev.mk.injEq] at hl
    obtain ⟨-, -, -, rfl, rfl, -, rfl, rfl, rfl, rfl, rfl, rfl⟩ := hl
    unfold Lo.may at hm
    dsimp only at hm
    rw [if_neg (by decide), if_neg (by decide), if_pos (by decide)] at hm
    unfold Lo.line
    show Lo.read (Lib.join [[114, 101, 102, 117, 115, 101], Lib.itoa i, Lib.itoa n, Lib.itoa e] [32]) = _
    rw [Lo.read_words _ (by decide), Lo.rd_refuse, Lo.spB_join _ (by simp) (by
      intro l hl
      simp only [List.mem_cons, List.not_mem_nil, or_false] at hl
      rcases hl with rfl | rfl | rfl <;> exact Lo.no32_itoa _)]
    show (⟨3, Lo.num (Le.t (Lib.itoa i)).data.toList, Lo.num (Le.t (Lib.itoa n)).data.toList, 0, { data := #[] }, Lo.num (Le.t (Lib.itoa e)).data.toList, 0, 0, 0, 0, 0, 0⟩ : Ev) = _
    rw [Le.t_list, Lo.num_itoa i gi, Le.t_list, Lo.num_itoa n gn, Le.t_list, Lo.num_itoa e ge]
  · unfold Lo.left at hl
    dsimp only at hl
    rw [if_neg (by decide), if_neg (by decide), if_neg (by decide), if_pos (by decide)] at hl
    simp only [Ev.mk.injEq] at hl
    obtain ⟨-, -, rfl, rfl, -, rfl, rfl, rfl, rfl, rfl, rfl, rfl⟩ := hl
    unfold Lo.may at hm
    dsimp only at hm
    rw [if_neg (by decide), if_neg (by decide), if_neg (by decide), if_pos (by decide)] at hm
    unfold Lo.line
    show Lo.read (Lib.join [[114, 101, 97, 100], Lib.itoa i, Qt.quo b.data.toList] [32]) = _
    rw [Lo.read_words _ (by decide), Lo.rd_read]
    unfold Lo.readB
    rw [Lo.join_two, Lo.cut_app _ (Lo.no32_itoa i), Lib.join_one]
    dsimp only
    rw [Qt.whole_quo, Lo.num_itoa i gi]
    dsimp only
    have hb : Le.t b.data.toList = b := (Le.t_of rfl).symm
    rw [hb]
    rfl
  · unfold Lo.left at hl
    dsimp only at hl
    rw [if_neg (by decide), if_neg (by decide), if_neg (by decide), if_neg (by decide), if_pos (by decide)] at hl
    simp only [Ev.mk.injEq] at hl
    obtain ⟨-, -, rfl, rfl, rfl, rfl, rfl, rfl, rfl, rfl, rfl, rfl⟩ := hl
    unfold Lo.may at hm
    dsimp only at hm
    rw [if_neg (by decide), if_neg (by decide), if_neg (by decide), if_neg (by decide), if_pos (by decide)] at hm
    unfold Lo.line
    show Lo.read (Lib.join [[101, 111, 102], Lib.itoa i] [32]) = _
    rw [Lo.read_words _ (by decide), Lo.rd_eof, Lo.spB_join _ (by simp) (by
      intro l hl
      simp only [List.mem_cons, List.not_mem_nil, or_false] at hl
      subst hl; exact Lo.no32_itoa _)]
    show (⟨5, Lo.num (Le.t (Lib.itoa i)).data.toList, 0, 0, { data := #[] }, 0, 0, 0, 0, 0, 0, 0⟩ : Ev) = _
    rw [Le.t_list, Lo.num_itoa i gi]
  · unfold Lo.left at hl
    dsimp only at hl
    rw [if_neg (by decide), if_neg (by decide), if_neg (by decide), if_pos (by decide)] at hl
    simp only [Ev.mk.injEq] at hl
    obtain ⟨-, -, rfl, rfl, -, rfl, rfl, rfl, rfl, rfl, rfl, rfl⟩ := hl
    unfold Lo.may at hm
    dsimp only at hm
    rw [if_neg (by decide), if_neg (by decide), if_neg (by decide), if_pos (by decide)] at hm
    unfold Lo.line
    show Lo.read (Lib.join [[119, 114, 105, 116, 101], Lib.itoa i, Qt.quo b.data.toList] [32]) = _
    rw [Lo.read_words _ (by decide), Lo.rd_write]
    unfold Lo.readB
    rw [Lo.join_two, Lo.cut_app _ (Lo.no32_itoa i), Lib.join_one]
    dsimp only
    rw [Qt.whole_quo, Lo.num_itoa i gi]
    dsimp only
    have hb : Le.t b.data.toList = b := (Le.t_of rfl).symm
    rw [hb]
    rfl
  · unfold Lo.left at hl
    dsimp only at hl
    rw [if_pos (by decide)] at hl
    simp only [Ev.mk.injEq] at hl
    obtain ⟨-, rfl, rfl, -, rfl, rfl, rfl, rfl, rfl, rfl, rfl, rfl⟩ := hl
    unfold Lo.may at hm
    dsimp only at hm
    rw [if_pos (by decide)] at hm
    unfold Lo.line
    rw [decide_eq_true_eq] at hm
    show Lo.read (Lib.join [[100, 114, 97, 105, 110], Lo.tt t] [32]) = _
    rw [Lo.read_words _ (by decide), Lo.rd_drain, Lib.join_one, Lo.parse_tt t hm gt]
  · unfold Lo.left at hl
    dsimp only at hl
    rw [if_neg (by decide), if_neg (by decide), if_neg (by decide), if_neg (by decide), if_neg (by decide), if_pos (by decide)] at hl
    simp only [Ev.mk.injEq] at hl
    obtain ⟨-, -, rfl, rfl, rfl, rfl, -, -, -, -, -, -⟩ := hl
    unfold Lo.may at hm
    dsimp only at hm
    rw [if_neg (by decide), if_neg (by decide), if_neg (by decide), if_neg (by decide), if_neg (by decide), if_pos (by decide)] at hm
    unfold Lo.line
    rw [Bool.and_eq_true] at hm
    obtain ⟨a0, ⟨a2, a3⟩, ⟨a4, a5⟩⟩ := Lo.may_step hm.2
    show Lo.read (Lib.join [[115, 116, 101, 112], Lib.itoa i, Lib.join [Lo.tt s0, Lib.itoa s1, (Lo.word s2).data.toList, Lib.itoa s3, Lib.itoa s4, (Le.word s5).data.toList] [32]] [32]) = _
    rw [Lo.join_nest, Lo.read_words _ (by decide), Lo.rd_step, Lo.spB_join _ (by simp) (by
      intro l hl
      simp only [List.mem_cons, List.not_mem_nil, or_false] at hl
      rcases hl with rfl | rfl | rfl | rfl | rfl | rfl | rfl
      · exact Lo.no32_itoa _
      · exact Lo.no32_tt _
      · exact Lo.no32_itoa _
      · have h := Lo.no32_word ⟨s2.toNat, by omega⟩
        dsimp only at h
        rw [show ((s2.toNat : Nat) : Int) = s2 by omega] at h
        exact h
      · exact Lo.no32_itoa _
      · exact Lo.no32_itoa _
      · have h := Lo.no32_word5 ⟨s5.toNat, by omega⟩
        dsimp only at h
        rw [show ((s5.toNat : Nat) : Int) = s5 by omega] at h
        exact h)]
    show (⟨8, Lo.num (Le.t (Lib.itoa i)).data.toList, 0, 0, { data := #[] }, 0, (Tx.parse (Le.t (Lo.tt s0)).data.toList).1, Lo.num (Le.t (Lib.itoa s1)).data.toList, Lo.lst Lo.word (Le.t (Lo.word s2).data.toList) 15, Lo.num (Le.t (Lib.itoa s3)).data.toList, Lo.num (Le.t (Lib.itoa s4)).data.toList, Lo.lst Le.word (Le.t (Le.word s5).data.toList) 6⟩ : Ev) = _
    have hw : ∀ y : ByteArray, Le.t y.data.toList = y := fun y => (Le.t_of rfl).symm
    rw [hw, hw, Le.t_list, Le.t_list, Le.t_list, Le.t_list, Le.t_list, Lo.num_itoa i gi, Lo.num_itoa s1 g1, Lo.num_itoa s3 g3, Lo.num_itoa s4 g4, Lo.parse_tt s0 a0 g0, Lo.lst_word s2 (by omega) (by omega), Lo.lst_word5 s5 a4 (by omega)]
  · unfold Lo.left at hl
    dsimp only at hl
    rw [if_neg (by decide), if_neg (by decide), if_neg (by decide), if_neg (by decide), if_neg (by decide), if_neg (by decide)] at hl
    simp only [Ev.mk.injEq] at hl
    obtain ⟨-, rfl, rfl, rfl, rfl, rfl, rfl, rfl, rfl, rfl, rfl, rfl⟩ := hl
    unfold Lo.may at hm
    dsimp only at hm
    rw [if_neg (by decide), if_neg (by decide), if_neg (by decide), if_neg (by decide), if_neg (by decide), if_neg (by decide)] at hm
    unfold Lo.line
    show Lo.read (Lib.join [[115, 116, 111, 112]] [32]) = _
    rw [Lib.join_one, Lo.read_one _ (by decide), Lo.rd_stop]
theorem Ev.ok_of (y : Ev) (hy : y.b.size ≤ maxLen) (h : Lo.i64 y.k ∧ Lo.i64 y.i ∧ Lo.i64 y.n ∧ Lo.i64 y.t ∧ Lo.i64 y.e ∧ Lo.i64 y.s0 ∧ Lo.i64 y.s1 ∧ Lo.i64 y.s2 ∧ Lo.i64 y.s3 ∧ Lo.i64 y.s4 ∧ Lo.i64 y.s5) : y.ok := by
  have w : ∀ v, Lo.i64 v → (Lit.int .i64 v).wf = true := fun v hv => WalkArith.wf_i64 ⟨hv.1, by have := hv.2; omega⟩
  obtain ⟨a1, a2, a3, a4, a5, a6, a7, a8, a9, a10, a11⟩ := h
  refine ⟨hy, fun k z hz => ?_⟩
  simp only [Ev.c, List.mem_cons, List.not_mem_nil, or_false, Value.int.injEq, reduceCtorEq, false_or] at hz
  rcases hz with ⟨rfl, rfl⟩ | ⟨rfl, rfl⟩ | ⟨rfl, rfl⟩ | ⟨rfl, rfl⟩ | ⟨rfl, rfl⟩ | ⟨rfl, rfl⟩ | ⟨rfl, rfl⟩ | ⟨rfl, rfl⟩ | ⟨rfl, rfl⟩ | ⟨rfl, rfl⟩ | ⟨rfl, rfl⟩ <;> (apply w; assumption)
theorem Lo.num_i64 (l : List UInt8) : Lo.i64 (Lo.num l) := by
  unfold Lo.num Lo.i64
  split
  · rename_i v h
    have := Lib.atoiAll_bounds h
    omega
  · omega
theorem Lo.parse_i64 (l : List UInt8) : Lo.i64 (Tx.parse l).1 := by
  unfold Lo.i64
  by_cases h : (Tx.parse l).2 = 0
  · have := Tx.text_parse l (Tx.parse l).1 (by rw [← h])
    omega
  · have := Tx.parse_bnd l h
    omega
theorem Lo.lst_i64 (f : Int → ByteArray) (X : ByteArray) : ∀ k : Nat, k ≤ 100 → 0 ≤ Lo.lst f X k ∧ Lo.lst f X k ≤ 100
  | 0, _ => by unfold Lo.lst; omega
  | k + 1, h => by
    unfold Lo.lst
    split
    · omega
    · exact Lo.lst_i64 f X k (by omega)
theorem Lo.whole_len (l : List UInt8) : (Qt.whole l).1.length ≤ l.length := by
  unfold Qt.whole
  split
  · simp
  · exact read_len l
theorem Lo.readB_ok (kd : Int) (hk : Lo.i64 kd) (r : List UInt8) (hr : r.length ≤ 4000) : (Lo.readB kd r).ok ∧ (Lo.readB kd r).b.size ≤ r.length := by
  have h1 := Lo.whole_len (Lib.cut r [32]).2.1
  have h2 := (Lo.cut_le r).2
  have hb : (Lo.readB kd r).b.size ≤ r.length := by
    unfold Lo.readB
    dsimp only
    rw [Le.t_size]
    omega
  have z : Lo.i64 0 := by unfold Lo.i64; omega
  refine ⟨Ev.ok_of _ (by unfold maxLen; omega) ⟨hk, Lo.num_i64 _, ?_, z, z, z, z, z, z, z, z⟩, hb⟩
  show Lo.i64 ((Qt.whole (Lib.cut r [32]).2.1).1.length : Int)
  unfold Lo.i64
  omega
theorem Lo.rd_ok (w r : List UInt8) (hr : r.length ≤ 4000) : (Lo.rd w r).ok ∧ (Lo.rd w r).b.size ≤ r.length := by
  have z : ∀ v : Int, 0 ≤ v → v ≤ 100 → Lo.i64 v := fun v h1 h2 => by unfold Lo.i64; omega
  have zz : ∀ (f : Int → ByteArray) (X : ByteArray) (k : Nat), k ≤ 100 → Lo.i64 (Lo.lst f X k) := fun f X k hk => by have := Lo.lst_i64 f X k hk; exact z _ this.1 this.2
  have e0 : ({ data := #[] } : ByteArray).size = 0 := rfl
  unfold Lo.rd
  repeat' split
  all_goals first
    | exact Lo.readB_ok _ (z _ (by decide) (by decide)) r hr
    | (refine ⟨Ev.ok_of _ (by show ({ data := #[] } : ByteArray).size ≤ _; rw [e0]; omega) ⟨?_, ?_, ?_, ?_, ?_, ?_, ?_, ?_, ?_, ?_, ?_⟩, (by show ({ data := #[] } : ByteArray).size ≤ _; rw [e0]; omega)⟩ <;> (dsimp only; first | exact Lo.num_i64 _ | exact Lo.parse_i64 _ | exact zz _ _ 15 (by decide) | exact zz _ _ 6 (by decide) | (refine z _ ?_ ?_ <;> decide)))
theorem Lo.read_ok (l : List UInt8) (h : l.length ≤ 4000) : (Lo.read l).ok ∧ (Lo.read l).b.size ≤ l.length := by
  have h2 := (Lo.cut_le l).2
  have h3 := Lo.rd_ok (Lib.cut l [32]).1 (Lib.cut l [32]).2.1 (by omega)
  exact ⟨h3.1, Nat.le_trans h3.2 h2⟩
/-- No event. -/
def Ev.none : Ev := ⟨0, 0, 0, 0, { data := #[] }, 0, 0, 0, 0, 0, 0, 0⟩
/-- The event of a line, and the error that stands beside it. -/
noncomputable def Lo.parse (s : ByteArray) : Ev × Int := open Classical in if Lo.pr (Lo.read s.data.toList) = (s, 0) then (Lo.read s.data.toList, 0) else (Ev.none, 2)
theorem Lo.parse_line (x : Ev) (hok : x.ok) (hg : Lo.good x = true) : Lo.parse (Le.t (Lo.line x)) = (x, 0) := by
  unfold Lo.parse
  rw [Le.t_list, Lo.read_line x hok hg]
  unfold Lo.pr
  rw [if_pos hg, if_pos rfl]
theorem Lo.parse_ok {s : ByteArray} {x : Ev} (h : Lo.parse s = (x, 0)) : Lo.good x = true ∧ Le.t (Lo.line x) = s := by
  unfold Lo.parse at h
  by_cases hp : Lo.pr (Lo.read s.data.toList) = (s, 0)
  · rw [if_pos hp] at h
    injection h with h1 h2
    rw [h1] at hp
    unfold Lo.pr at hp
    by_cases hg : Lo.good x = true
    · rw [if_pos hg] at hp
      injection hp with h3 h4
      exact ⟨hg, h3⟩
    · rw [if_neg hg] at hp
      injection hp with h3 h4
      exact absurd h4 (by decide)
  · rw [if_neg hp] at h
    injection h with h1 h2
    exact absurd h2 (by decide)
theorem Lo.parse_no {s : ByteArray} {x : Ev} {e : Int} (h : Lo.parse s = (x, e)) (he : e ≠ 0) : x = Ev.none ∧ e = 2 := by
  unfold Lo.parse at h
  split at h
  · injection h with h1 h2; exact absurd h2.symm he
  · injection h with h1 h2; exact ⟨h1.symm, h2.symm⟩
theorem Lo.parse_evok (s : ByteArray) (hs : s.size ≤ 4000) : (Lo.parse s).1.ok ∧ (Lo.parse s).1.b.size ≤ s.size := by
  have h := Lo.read_ok s.data.toList (by have : s.data.toList.length = s.size := rfl; omega)
  unfold Lo.parse
  split
  · exact h
  · have z : Lo.i64 0 := by unfold Lo.i64; omega
    have e0 : ({ data := #[] } : ByteArray).size = 0 := rfl
    exact ⟨Ev.ok_of _ (by show ({ data := #[] } : ByteArray).size ≤ _; rw [e0]; omega) ⟨z, z, z, z, z, z, z, z, z, z, z⟩, by show ({ data := #[] } : ByteArray).size ≤ _; rw [e0]; omega⟩
end Go.Proofs.YtfhhkmjjifbfeaaDoor
