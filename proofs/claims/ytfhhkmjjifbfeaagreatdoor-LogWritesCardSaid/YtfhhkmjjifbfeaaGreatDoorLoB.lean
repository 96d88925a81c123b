/- Several texts in one. -/
import Derived.Test.YtfhhkmjjifbfeaaGreatDoorLoA
import Derived.Test.YtfhhkmjjifbfeaaGreatDoorLo9
import Derived.Test.YtfhhkmjjifbfeaaGreatDoorQtR4
import Derived.WalkKit
import Derived.ProofKit
import Derived.Handy
import Derived.WalkLawsBesides
import Derived.WalkSpells
import Derived.Lib.Hide
import Derived.Lib.SliceRun
import Derived.Deep.RegionLaw
import Derived.RegionTactic
import Derived.ChangeAlike
import Derived.WalkSmall
import Derived.Deep.QuietTactic
import Derived.BigQuiet
import Derived.OwnWalk
import Derived.Outline
import Derived.Deep.CutRange
import Derived.Deep.CutBlock
import Derived.LoopTactic
import Derived.Test.YtfhhkmjjifbfeaaGreatDoorShelf
/- Log: a good event comes back from its line (no program). -/
namespace Go.Proofs.YtfhhkmjjifbfeaaGreatDoor
open Go.ChangeShapes Go.WideShapes Go.ChangeAt Go.RowKit
set_option linter.unusedSimpArgs false
set_option linter.unusedVariables false

theorem Lo.spB_join (L : List (List UInt8)) (h0 : L ≠ []) (h : ∀ l ∈ L, (32 : UInt8) ∉ l) : Lo.spB 32 (Lib.join L [32]) = L.map Le.t := by
  unfold Lo.spB
  rw [Lo.sp_join 32 L h0 h]
theorem Lo.join_nest (a b y : List UInt8) (L : List (List UInt8)) (c : UInt8) : Lib.join [a, b, Lib.join (y :: L) [c]] [c] = Lib.join (a :: b :: y :: L) [c] := by
  rw [Lo.join_two, Lo.join_two, Lib.join_one, Lo.join_two, Lo.join_two]
theorem Lo.read_words (a : List UInt8) (ha : (32 : UInt8) ∉ a) (y : List UInt8) (L : List (List UInt8)) : Lo.read (Lib.join (a :: y :: L) [32]) = Lo.rd a (Lib.join (y :: L) [32]) := by
  unfold Lo.read
  rw [Lo.join_two, Lo.cut_app _ ha]
theorem Lo.read_one (a : List UInt8) (ha : (32 : UInt8) ∉ a) : Lo.read a = Lo.rd a [] := by
  unfold Lo.read
  rw [Lo.cut_none ha]
theorem Lo.rd_round (r : List UInt8) : Lo.rd [114, 111, 117, 110, 100] r = ⟨1, 0, 0, (Tx.parse r).1, { data := #[] }, 0, 0, 0, 0, 0, 0, 0⟩ := by
  unfold Lo.rd
  rw [if_pos rfl]
theorem Lo.rd_drain (r : List UInt8) : Lo.rd [100, 114, 97, 105, 110] r = ⟨7, 0, 0, (Tx.parse r).1, { data := #[] }, 0, 0, 0, 0, 0, 0, 0⟩ := by
  unfold Lo.rd
  rw [if_neg (by decide), if_pos rfl]
theorem Lo.rd_open (r : List UInt8) : Lo.rd [111, 112, 101, 110] r = ⟨2, Lo.num (Lo.at (Lo.spB 32 r) 0).data.toList, Lo.num (Lo.at (Lo.spB 32 r) 1).data.toList, 0, { data := #[] }, 0, 0, 0, 0, 0, 0, 0⟩ := by
  unfold Lo.rd
  rw [if_neg (by decide), if_neg (by decide), if_pos rfl]
theorem Lo.rd_refuse (r : List UInt8) : Lo.rd [114, 101, 102, 117, 115, 101] r = ⟨3, Lo.num (Lo.at (Lo.spB 32 r) 0).data.toList, Lo.num (Lo.at (Lo.spB 32 r) 1).data.toList, 0, { data := #[] }, Lo.num (Lo.at (Lo.spB 32 r) 2).data.toList, 0, 0, 0, 0, 0, 0⟩ := by
  unfold Lo.rd
  rw [if_neg (by decide), if_neg (by decide), if_neg (by decide), if_pos rfl]
theorem Lo.rd_read (r : List UInt8) : Lo.rd [114, 101, 97, 100] r = Lo.readB 4 r := by
  unfold Lo.rd
  rw [if_neg (by decide), if_neg (by decide), if_neg (by decide), if_neg (by decide), if_pos rfl]
theorem Lo.rd_write (r : List UInt8) : Lo.rd [119, 114, 105, 116, 101] r = Lo.readB 6 r := by
  unfold Lo.rd
  rw [if_neg (by decide), if_neg (by decide), if_neg (by decide), if_neg (by decide), if_neg (by decide), if_pos rfl]
theorem Lo.rd_eof (r : List UInt8) : Lo.rd [101, 111, 102] r = ⟨5, Lo.num (Lo.at (Lo.spB 32 r) 0).data.toList, 0, 0, { data := #[] }, 0, 0, 0, 0, 0, 0, 0⟩ := by
  unfold Lo.rd
  rw [if_neg (by decide), if_neg (by decide), if_neg (by decide), if_neg (by decide), if_neg (by decide), if_neg (by decide), if_pos rfl]
theorem Lo.rd_step (r : List UInt8) : Lo.rd [115, 116, 101, 112] r = ⟨8, Lo.num (Lo.at (Lo.spB 32 r) 0).data.toList, 0, 0, { data := #[] }, 0, (Tx.parse (Lo.at (Lo.spB 32 r) 1).data.toList).1, Lo.num (Lo.at (Lo.spB 32 r) 2).data.toList, Lo.lst Lo.word (Lo.at (Lo.spB 32 r) 3) 15, Lo.num (Lo.at (Lo.spB 32 r) 4).data.toList, Lo.num (Lo.at (Lo.spB 32 r) 5).data.toList, Lo.lst Le.word (Lo.at (Lo.spB 32 r) 6) 6⟩ := by
  unfold Lo.rd
  rw [if_neg (by decide), if_neg (by decide), if_neg (by decide), if_neg (by decide), if_neg (by decide), if_neg (by decide), if_neg (by decide), if_pos rfl]
theorem Lo.rd_stop (r : List UInt8) : Lo.rd [115, 116, 111, 112] r = ⟨9, 0, 0, 0, { data := #[] }, 0, 0, 0, 0, 0, 0, 0⟩ := by
  unfold Lo.rd
  rw [if_neg (by decide), if_neg (by decide), if_neg (by decide), if_neg (by decide), if_neg (by decide), if_neg (by decide), if_neg (by decide), if_neg (by decide), if_pos rfl]
theorem Lo.may_step {s0 s1 s2 s3 s4 s5 : Int} (h : Lo.mayS s0 s1 s2 s3 s4 s5 = true) : 0 ≤ s0 ∧ (1 ≤ s2 ∧ s2 ≤ 14) ∧ (0 ≤ s5 ∧ s5 ≤ 5) := by
  unfold Lo.mayS at h
  simp only [Bool.and_eq_true, decide_eq_true_eq, Bool.not_eq_true'] at h
  obtain ⟨⟨⟨⟨⟨a0, a1⟩, a2⟩, a3⟩, a4⟩, a5⟩ := h
  refine ⟨a0, ?_, ?_⟩
  · refine Decidable.by_contra fun hc => ?_
    have e : Lo.word s2 = { data := #[] } := by
      unfold Lo.word
      rw [if_neg (by omega), if_neg (by omega), if_neg (by omega), if_neg (by omega), if_neg (by omega), if_neg (by omega), if_neg (by omega), if_neg (by omega), if_neg (by omega), if_neg (by omega), if_neg (by omega), if_neg (by omega), if_neg (by omega), if_neg (by omega)]
    rw [e] at a2
    revert a2
    decide +kernel
  · refine Decidable.by_contra fun hc => ?_
    have e : Le.word s5 = { data := #[] } := by
      unfold Le.word
      rw [if_neg (by omega), if_neg (by omega), if_neg (by omega), if_neg (by omega), if_neg (by omega), if_neg (by omega)]
    rw [e] at a5
    revert a5
    decide +kernel
theorem Lo.read_line (x : Ev) (hok : x.ok) (hg : Lo.good x = true) : Lo.read (Lo.line x) = x := by
  obtain ⟨k, i, n, t, b, e, s0, s1, s2, s3, s4, s5⟩ := x
  have g : ∀ v, Value.int .i64 v ∈ (Ev.c ⟨k, i, n, t, b, e, s0, s1, s2, s3, s4, s5⟩) → Lo.i64 v := fun v hv => bounds_i64 (hok.2 .i64 v hv)
  have gi := g i (by simp [Ev.c])
  have gn := g n (by simp [Ev.c])
  have gt := (g t (by simp [Ev.c])).2
  have ge := g e (by simp [Ev.c])
  have g0 := (g s0 (by simp [Ev.c])).2
  have g1 := g s1 (by simp [Ev.c])
  have g3 := g s3 (by simp [Ev.c])
  have g4 := g s4 (by simp [Ev.c])
  clear g
  have hk := Lo.good_k hg
  unfold Lo.good at hg
  rw [Bool.and_eq_true, decide_eq_true_eq] at hg
  obtain ⟨hl, hm⟩ := hg
  dsimp only at hk
  rcases hk with rfl | rfl | rfl | rfl | rfl | rfl | rfl | rfl | rfl
  · unfold Lo.left at hl
    dsimp only at hl
    rw [if_pos (by decide)] at hl
    simp only [Ev.mk.injEq] at hl
    obtain ⟨-, rfl, rfl, -, rfl, rfl, rfl, rfl, rfl, rfl, rfl, rfl⟩ := hl
    unfold Lo.may at hm
    dsimp only at hm
    rw [if_pos (by decide)] at hm
    unfold Lo.line
    rw [decide_eq_true_eq] at hm
    show Lo.read (Lib.join [[114, 111, 117, 110, 100], Lo.tt t] [32]) = _
    rw [Lo.read_words _ (by decide), Lo.rd_round, Lib.join_one, Lo.parse_tt t hm gt]
  · unfold Lo.left at hl
    dsimp only at hl
    rw [if_neg (by decide), if_pos (by decide)] at hl
    simp only [Ev.mk.injEq] at hl
    obtain ⟨-, -, -, rfl, rfl, rfl, rfl, rfl, rfl, rfl, rfl, rfl⟩ := hl
    unfold Lo.may at hm
    dsimp only at hm
    rw [if_neg (by decide), if_pos (by decide)] at hm
    unfold Lo.line
    show Lo.read (Lib.join [[111, 112, 101, 110], Lib.itoa i, Lib.itoa n] [32]) = _
    rw [Lo.read_words _ (by decide), Lo.rd_open, Lo.spB_join _ (by simp) (by
      intro l hl
      simp only [List.mem_cons, List.not_mem_nil, or_false] at hl
      rcases hl with rfl | rfl <;> exact Lo.no32_itoa _)]
    show (⟨2, Lo.num (Le.t (Lib.itoa i)).data.toList, Lo.num (Le.t (Lib.itoa n)).data.toList, 0, { data := #[] }, 0, 0, 0, 0, 0, 0, 0⟩ : Ev) = _
    rw [Le.t_list, Lo.num_itoa i gi, Le.t_list, Lo.num_itoa n gn]
  · unfold Lo.left at hl
    dsimp only at hl
    rw [if_neg (by decide), if_neg (by decide), if_pos (by decide)] at hl
    simp only [Ev.mk.injEq] at hl
    obtain ⟨-, -, -, rfl, rfl, -, rfl, rfl, rfl, rfl, rfl, rfl⟩ := hl
    unfold Lo.may at hm
    dsimp only at hm
    rw [if_neg (by decide), if_neg (by decide), if_pos (by decide)] at hm
    unfold Lo.line
    show Lo.read (Lib.join [[114, 101, 102, 117, 115, 101], Lib.itoa i, Lib.itoa n, Lib.itoa e] [32]) = _
    rw [Lo.read_words _ (by decide), Lo.rd_refuse, Lo.spB_join _ (by simp) (by
      intro l hl
      simp only [List.mem_cons, List.not_mem_nil, or_false] at hl
      rcases hl with rfl | rfl | rfl <;> exact Lo.no32_itoa _)]
    show (⟨3, Lo.num (Le.t (Lib.itoa i)).data.toList, Lo.num (Le.t (Lib.itoa n)).data.toList, 0, { data := #[] }, Lo.num (Le.t (Lib.itoa e)).data.toList, 0, 0, 0, 0, 0, 0⟩ : Ev) = _
    rw [Le.t_list, Lo.num_itoa i gi, Le.t_list, Lo.num_itoa n gn, Le.t_list, Lo.num_itoa e ge]
  · unfold Lo.left at hl
    dsimp only at hl
    rw [if_neg (by decide), if_neg (by decide), if_neg (by decide), if_pos (by decide)] at hl
    simp only [Ev.mk.injEq] at hl
    obtain ⟨-, -, rfl, rfl, -, rfl, rfl, rfl, rfl, rfl, rfl, rfl⟩ := hl
    unfold Lo.may at hm
    dsimp only at hm
    rw [if_neg (by decide), if_neg (by decide), if_neg (by decide), if_pos (by decide)] at hm
    unfold Lo.line
    show Lo.read (Lib.join [[114, 101, 97, 100], Lib.itoa i, Qt.quo b.data.toList] [32]) = _
    rw [Lo.read_words _ (by decide), Lo.rd_read]
    unfold Lo.readB
    rw [Lo.join_two, Lo.cut_app _ (Lo.no32_itoa i), Lib.join_one]
    dsimp only
    rw [Qt.whole_quo, Lo.num_itoa i gi]
    dsimp only
    have hb : Le.t b.data.toList = b := (Le.t_of rfl).symm
    rw [hb]
    rfl
  · unfold Lo.left at hl
    dsimp only at hl
    rw [if_neg (by decide), if_neg (by decide), if_neg (by decide), if_neg (by decide), if_pos (by decide)] at hl
    simp only [Ev.mk.injEq] at hl
    obtain ⟨-, -, rfl, rfl, rfl, rfl, rfl, rfl, rfl, rfl, rfl, rfl⟩ := hl
    unfold Lo.may at hm
    dsimp only at hm
    rw [if_neg (by decide), if_neg (by decide), if_neg (by decide), if_neg (by decide), if_pos (by decide)] at hm
    unfold Lo.line
    show Lo.read (Lib.join [[101, 111, 102], Lib.itoa i] [32]) = _
    rw [Lo.read_words _ (by decide), Lo.rd_eof, Lo.spB_join _ (by simp) (by
      intro l hl
      simp only [List.mem_cons, List.not_mem_nil, or_false] at hl
      subst hl; exact Lo.no32_itoa _)]
    show (⟨5, Lo.num (Le.t (Lib.itoa i)).data.toList, 0, 0, { data := #[] }, 0, 0, 0, 0, 0, 0, 0⟩ : Ev) = _
    rw [Le.t_list, Lo.num_itoa i gi]
  · unfold Lo.left at hl
    dsimp only at hl
    rw [if_neg (by decide), if_neg (by decide), if_neg (by decide), if_pos (by decide)] at hl
    simp only [Ev.mk.injEq] at hl
    obtain ⟨-, -, rfl, rfl, -, rfl, rfl, rfl, rfl, rfl, rfl, rfl⟩ := hl
    unfold Lo.may at hm
    dsimp only at hm
    rw [if_neg (by decide), if_neg (by decide), if_neg (by decide), if_pos (by decide)] at hm
    unfold Lo.line
    show Lo.read (Lib.join [[119, 114, 105, 116, 101], Lib.itoa i, Qt.quo b.data.toList] [32]) = _
    rw [Lo.read_words _ (by decide), Lo.rd_write]
    unfold Lo.readB
    rw [Lo.join_two, Lo.cut_app _ (Lo.no32_itoa i), Lib.join_one]
    dsimp only
    rw [Qt.whole_quo, Lo.num_itoa i gi]
    dsimp only
    have hb : Le.t b.data.toList = b := (Le.t_of rfl).symm
    rw [hb]
    rfl
  · unfold Lo.left at hl
    dsimp only at hl
    rw [if_pos (by decide)] at hl
    simp only [Ev.mk.injEq] at hl
    obtain ⟨-, rfl, rfl, -, rfl, rfl, rfl, rfl, rfl, rfl, rfl, rfl⟩ := hl
    unfold Lo.may at hm
    dsimp only at hm
    rw [if_pos (by decide)] at hm
    unfold Lo.line
    rw [decide_eq_true_eq] at hm
    show Lo.read (Lib.join [[100, 114, 97, 105, 110], Lo.tt t] [32]) = _
    rw [Lo.read_words _ (by decide), Lo.rd_drain, Lib.join_one, Lo.parse_tt t hm gt]
  · unfold Lo.left at hl
    dsimp only at hl
    rw [if_neg (by decide), if_neg (by decide), if_neg (by decide), if_neg (by decide), if_neg (by decide), if_pos (by decide)] at hl
    simp only [Ev.mk.injEq] at hl
    obtain ⟨-, -, rfl, rfl, rfl, rfl, -, -, -, -, -, -⟩ := hl
    unfold Lo.may at hm
    dsimp only at hm
    rw [if_neg (by decide), if_neg (by decide), if_neg (by decide), if_neg (by decide), if_neg (by decide), if_pos (by decide)] at hm
    unfold Lo.line
    rw [Bool.and_eq_true] at hm
    obtain ⟨a0, ⟨a2, a3⟩, ⟨a4, a5⟩⟩ := Lo.may_step hm.2
    show Lo.read (Lib.join [[115, 116, 101, 112], Lib.itoa i, Lib.join [Lo.tt s0, Lib.itoa s1, (Lo.word s2).data.toList, Lib.itoa s3, Lib.itoa s4, (Le.word s5).data.toList] [32]] [32]) = _
    rw [Lo.join_nest, Lo.read_words _ (by decide), Lo.rd_step, Lo.spB_join _ (by simp) (by
      intro l hl
      simp only [List.mem_cons, List.not_mem_nil, or_false] at hl
      rcases hl with rfl | rfl | rfl | rfl | rfl | rfl | rfl
      · exact Lo.no32_itoa _
      · exact Lo.no32_tt _
      · exact Lo.no32_itoa _
      · have h := Lo.no32_word ⟨s2.toNat, by omega⟩
        dsimp only at h
        rw [show ((s2.toNat : Nat) : Int) = s2 by omega] at h
        exact h
      · exact Lo.no32_itoa _
      · exact Lo.no32_itoa _
      · have h := Lo.no32_word5 ⟨s5.toNat, by omega⟩
        dsimp only at h
        rw [show ((s5.toNat : Nat) : Int) = s5 by omega] at h
        exact h)]
    show (⟨8, Lo.num (Le.t (Lib.itoa i)).data.toList, 0, 0, { data := #[] }, 0, (Tx.parse (Le.t (Lo.tt s0)).data.toList).1, Lo.num (Le.t (Lib.itoa s1)).data.toList, Lo.lst Lo.word (Le.t (Lo.word s2).data.toList) 15, Lo.num (Le.t (Lib.itoa s3)).data.toList, Lo.num (Le.t (Lib.itoa s4)).data.toList, Lo.lst Le.word (Le.t (Le.word s5).data.toList) 6⟩ : Ev) = _
    have hw : ∀ y : ByteArray, Le.t y.data.toList = y := fun y => (Le.t_of rfl).symm
    rw [hw, hw, Le.t_list, Le.t_list, Le.t_list, Le.t_list, Le.t_list, Lo.num_itoa i gi, Lo.num_itoa s1 g1, Lo.num_itoa s3 g3, Lo.num_itoa s4 g4, Lo.parse_tt s0 a0 g0, Lo.lst_word s2 (by omega) (by omega), Lo.lst_word5 s5 a4 (by omega)]
  · unfold Lo.left at hl
    dsimp only at hl
    rw [if_neg (by decide), if_neg (by decide), if_neg (by decide), if_neg (by decide), if_neg (by decide), if_neg (by decide)] at hl
    simp only [Ev.mk.injEq] at hl
    obtain ⟨-, rfl, rfl, rfl, rfl, rfl, rfl, rfl, rfl, rfl, rfl, rfl⟩ := hl
    unfold Lo.may at hm
    dsimp only at hm
    rw [if_neg (by decide), if_neg (by decide), if_neg (by decide), if_neg (by decide), if_neg (by decide), if_neg (by decide)] at hm
    unfold Lo.line
    show Lo.read (Lib.join [[115, 116, 111, 112]] [32]) = _
    rw [Lib.join_one, Lo.read_one _ (by decide), Lo.rd_stop]
theorem Ev.ok_of (y : Ev) (hy : y.b.size ≤ maxLen) (h : Lo.i64 y.k ∧ Lo.i64 y.i ∧ Lo.i64 y.n ∧ Lo.i64 y.t ∧ Lo.i64 y.e ∧ Lo.i64 y.s0 ∧ Lo.i64 y.s1 ∧ Lo.i64 y.s2 ∧ Lo.i64 y.s3 ∧ Lo.i64 y.s4 ∧ Lo.i64 y.s5) : y.ok := by
  have w : ∀ v, Lo.i64 v → (Lit.int .i64 v).wf = true := fun v hv => WalkArith.wf_i64 ⟨hv.1, by have := hv.2; omega⟩
  obtain ⟨a1, a2, a3, a4, a5, a6, a7, a8, a9, a10, a11⟩ := h
  refine ⟨hy, fun k z hz => ?_⟩
  simp only [Ev.c, List.mem_cons, List.not_mem_nil, or_false, Value.int.injEq, reduceCtorEq, false_or] at hz
  rcases hz with ⟨rfl, rfl⟩ | ⟨rfl, rfl⟩ | ⟨rfl, rfl⟩ | ⟨rfl, rfl⟩ | ⟨rfl, rfl⟩ | ⟨rfl, rfl⟩ | ⟨rfl, rfl⟩ | ⟨rfl, rfl⟩ | ⟨rfl, rfl⟩ | ⟨rfl, rfl⟩ | ⟨rfl, rfl⟩ <;> (apply w; assumption)
theorem Lo.num_i64 (l : List UInt8) : Lo.i64 (Lo.num l) := by
  unfold Lo.num Lo.i64
  split
  · rename_i v h
    have := Lib.atoiAll_bounds h
    omega
  · omega
theorem Lo.parse_i64 (l : List UInt8) : Lo.i64 (Tx.parse l).1 := by
  unfold Lo.i64
  by_cases h : (Tx.parse l).2 = 0
  · have := Tx.text_parse l (Tx.parse l).1 (by rw [← h])
    omega
  · have := Tx.parse_bnd l h
    omega
theorem Lo.lst_i64 (f : Int → ByteArray) (X : ByteArray) : ∀ k : Nat, k ≤ 100 → 0 ≤ Lo.lst f X k ∧ Lo.lst f X k ≤ 100
  | 0, _ => by unfold Lo.lst; omega
  | k + 1, h => by
    unfold Lo.lst
    split
    · omega
    · exact Lo.lst_i64 f X k (by omega)
theorem Lo.whole_len (l : List UInt8) : (Qt.whole l).1.length ≤ l.length := by
  unfold Qt.whole
  split
  · simp
  · exact read_len l
theorem Lo.readB_ok (kd : Int) (hk : Lo.i64 kd) (r : List UInt8) (hr : r.length ≤ 4000) : (Lo.readB kd r).ok ∧ (Lo.readB kd r).b.size ≤ r.length := by
  have h1 := Lo.whole_len (Lib.cut r [32]).2.1
  have h2 := (Lo.cut_le r).2
  have hb : (Lo.readB kd r).b.size ≤ r.length := by
    unfold Lo.readB
    dsimp only
    rw [Le.t_size]
    omega
  have z : Lo.i64 0 := by unfold Lo.i64; omega
  refine ⟨Ev.ok_of _ (by unfold maxLen; omega) ⟨hk, Lo.num_i64 _, ?_, z, z, z, z, z, z, z, z⟩, hb⟩
  show Lo.i64 ((Qt.whole (Lib.cut r [32]).2.1).1.length : Int)
  unfold Lo.i64
  omega
theorem Lo.rd_ok (w r : List UInt8) (hr : r.length ≤ 4000) : (Lo.rd w r).ok ∧ (Lo.rd w r).b.size ≤ r.length := by
  have z : ∀ v : Int, 0 ≤ v → v ≤ 100 → Lo.i64 v := fun v h1 h2 => by unfold Lo.i64; omega
  have zz : ∀ (f : Int → ByteArray) (X : ByteArray) (k : Nat), k ≤ 100 → Lo.i64 (Lo.lst f X k) := fun f X k hk => by have := Lo.lst_i64 f X k hk; exact z _ this.1 this.2
  have e0 : ({ data := #[] } : ByteArray).size = 0 := rfl
  unfold Lo.rd
  repeat' split
  all_goals first
    | exact Lo.readB_ok _ (z _ (by decide) (by decide)) r hr
    | (refine ⟨Ev.ok_of _ (by show ({ data := #[] } : ByteArray).size ≤ _; rw [e0]; omega) ⟨?_, ?_, ?_, ?_, ?_, ?_, ?_, ?_, ?_, ?_, ?_⟩, (by show ({ data := #[] } : ByteArray).size ≤ _; rw [e0]; omega)⟩ <;> (dsimp only; first | exact Lo.num_i64 _ | exact Lo.parse_i64 _ | exact zz _ _ 15 (by decide) | exact zz _ _ 6 (by decide) | (refine z _ ?_ ?_ <;> decide)))
theorem Lo.read_ok (l : List UInt8) (h : l.length ≤ 4000) : (Lo.read l).ok ∧ (Lo.read l).b.size ≤ l.length := by
  have h2 := (Lo.cut_le l).2
  have h3 := Lo.rd_ok (Lib.cut l [32]).1 (Lib.cut l [32]).2.1 (by omega)
  exact ⟨h3.1, Nat.le_trans h3.2 h2⟩
/-- No event. -/
def Ev.none : Ev := ⟨0, 0, 0, 0, { data := #[] }, 0, 0, 0, 0, 0, 0, 0⟩
/-- The event of a line, and the error that stands beside it. -/
noncomputable def Lo.parse (s : ByteArray) : Ev × Int := open Classical in if Lo.pr (Lo.read s.data.toList) = (s, 0) then (Lo.read s.data.toList, 0) else (Ev.none, 2)
theorem Lo.parse_line (x : Ev) (hok : x.ok) (hg : Lo.good x = true) : Lo.parse (Le.t (Lo.line x)) = (x, 0) := by
  unfold Lo.parse
  rw [Le.t_list, Lo.read_line x hok hg]
  unfold Lo.pr
  rw [if_pos hg, if_pos rfl]
theorem Lo.parse_ok {s : ByteArray} {x : Ev} (h : Lo.parse s = (x, 0)) : Lo.good x = true ∧ Le.t (Lo.line x) = s := by
  unfold Lo.parse at h
  by_cases hp : Lo.pr (Lo.read s.data.toList) = (s, 0)
  · rw [if_pos hp] at h
    injection h with h1 h2
    rw [h1] at hp
    unfold Lo.pr at hp
    by_cases hg : Lo.good x = true
    · rw [if_pos hg] at hp
      injection hp with h3 h4
      exact ⟨hg, h3⟩
    · rw [if_neg hg] at hp
      injection hp with h3 h4
      exact absurd h4 (by decide)
  · rw [if_neg hp] at h
    injection h with h1 h2
    exact absurd h2 (by decide)
theorem Lo.parse_no {s : ByteArray} {x : Ev} {e : Int} (h : Lo.parse s = (x, e)) (he : e ≠ 0) : x = Ev.none ∧ e = 2 := by
  unfold Lo.parse at h
  split at h
  · injection h with h1 h2; exact absurd h2.symm he
  · injection h with h1 h2; exact ⟨h1.symm, h2.symm⟩
theorem Lo.parse_evok (s : ByteArray) (hs : s.size ≤ 4000) : (Lo.parse s).1.ok ∧ (Lo.parse s).1.b.size ≤ s.size := by
  have h := Lo.read_ok s.data.toList (by have : s.data.toList.length = s.size := rfl; omega)
  unfold Lo.parse
  split
  · exact h
  · have z : Lo.i64 0 := by unfold Lo.i64; omega
    have e0 : ({ data := #[] } : ByteArray).size = 0 := rfl
    exact ⟨Ev.ok_of _ (by show ({ data := #[] } : ByteArray).size ≤ _; rw [e0]; omega) ⟨z, z, z, z, z, z, z, z, z, z, z⟩, by show ({ data := #[] } : ByteArray).size ≤ _; rw [e0]; omega⟩
end Go.Proofs.YtfhhkmjjifbfeaaGreatDoor
/- Log: a line read. -/
namespace Go.Proofs.YtfhhkmjjifbfeaaGreatDoor
open Go.ChangeShapes Go.WideShapes Go.ChangeAt Go.RowKit
set_option linter.unusedSimpArgs false
set_option linter.unusedVariables false

theorem lo_cut (s : ByteArray) (hs : s.size ≤ 1000000) (c1 c2 : ByteArray) (c3 : Bool) (h : Lib.cut s.data.toList [32] = (c1.data.toList, c2.data.toList, c3)) (w : World) (hni : NI w) :
    Calls Tryz.prog 42 #[.string s, .string { data := #[32] }] w fun e w' => e = .returned (.tuple #[.string c1, .string c2, .bool c3]) ∧ Below w.heap.size w w' := by
  obtain ⟨m, hm⟩ := hni.1
  refine (Tryz.strings_Cut s { data := #[32] } m w (by omega) hm).mono ?_
  rintro e w' ⟨rfl, n, rfl⟩
  refine ⟨?_, (by have h := Below.refl w.heap.size w; exact ⟨h.os, h.tape, h.output, h.size, h.block⟩)⟩
  have e1 : ({ data := #[32] } : ByteArray).data.toList = [32] := rfl
  rw [e1, h, Le.t_of (X := c1) rfl, Le.t_of (X := c2) rfl, Le.t_list, Le.t_list]; rfl
theorem lo_split (c : UInt8) (s : ByteArray) (hs : s.size ≤ 1000000) (L : List ByteArray) (hL : Lo.spB c s.data.toList = L) (n : Nat) (hn : L.length = n) (w : World) (hni : NI w) :
    Calls Tryz.prog 35 #[.string s, .string { data := #[c] }] w fun e w' => ∃ bk, e = .returned (.slice (some ⟨bk, 0, none⟩) n n) ∧ Blk w' bk (L.map Value.string) 9 ∧ w.heap.size ≤ bk ∧ Below w.heap.size w w' := by
  obtain ⟨m, hm⟩ := hni.1
  have e1 : Lib.splitB { data := #[c] } 0 (Lib.countB s { data := #[c] }) s = L := by rw [← hL]; exact Lo.split_spB c s
  have e2 : Lib.countB s { data := #[c] } + 1 = n := by
    rw [← hn, ← e1]
    exact (Lib.splitB_all { data := #[c] } (by show 1 ≤ 1; omega) 0 _ s rfl).symm
  refine (Tryz.strings_Split s { data := #[c] } m w (by omega) hm (by show 1 ≤ 1; omega)).mono ?_
  rintro e W1 ⟨rfl, rfl⟩
  refine ⟨w.heap.size, ?_, ?_, Nat.le_refl _, (Below.refl _ _).alloc (Nat.le_refl _) _⟩
  · rw [e2]
  · rw [e1]; exact Blk.new w _ _
theorem Lo.txt_eq {W : ByteArray} {l : List UInt8} (h : W.data.toList = l) : (W.toList == l) = true := by
  rw [beq_iff_eq, Lib.toList_data, h]
theorem Lo.txt_ne {W : ByteArray} {l : List UInt8} (h : ¬ W.data.toList = l) : (W.toList == l) = false := by
  rw [beq_eq_false_iff_ne]
  intro e
  rw [Lib.toList_data] at e
  exact h e
set_option maxRecDepth 20000 in
set_option maxHeartbeats 16000000 in
theorem lo_read (s : ByteArray) (hs : s.size ≤ 4000) (x : Ev) (hx : Lo.read s.data.toList = x) (w : World) (hni : NI w) (hwi : WI w) (hsi : SI w) :
    Calls Tryz.prog 29 #[.string s] w fun e w' => e = .returned (.agg x.c.toArray) ∧ Below w.heap.size w w' := by
  obtain ⟨c1, c2, c3, hc⟩ : ∃ (c1 c2 : ByteArray) (c3 : Bool), Lib.cut s.data.toList [32] = (c1.data.toList, c2.data.toList, c3) := ⟨Le.t (Lib.cut s.data.toList [32]).1, Le.t (Lib.cut s.data.toList [32]).2.1, (Lib.cut s.data.toList [32]).2.2, by rw [Le.t_list, Le.t_list]⟩
  have hle := Lo.cut_le s.data.toList
  have hsz : s.data.toList.length = s.size := rfl
  rw [hc] at hle
  have hc2 : c2.size ≤ 4000 := by
    have h1 : c2.data.toList.length = c2.size := rfl
    have h2 := hle.2
    dsimp only at h2
    omega
  unfold Lo.read at hx
  rw [hc] at hx
  dsimp only at hx
  obtain ⟨L, hL⟩ : ∃ L, Lo.spB 32 c2.data.toList = L := ⟨_, rfl⟩
  obtain ⟨n, hn⟩ : ∃ n, L.length = n := ⟨_, rfl⟩
  have hl2 := Lo.sp_le 32 c2.data.toList
  have hc3 : c2.data.toList.length = c2.size := rfl
  have hn2 : n ≤ 1000000 := by
    rw [← hn, ← hL]; unfold Lo.spB; rw [List.length_map]; omega
  have hlz : ∀ s ∈ L, s.size ≤ 1000000 := by
    intro y hy
    rw [← hL] at hy
    obtain ⟨z, hz, rfl⟩ := List.mem_map.1 hy
    rw [Le.t_size]
    have := hl2.2 z hz
    omega
  have HU := Lib.hid (And.intro hn hlz)
  have HC := Lib.hid (And.intro hc (And.intro hL (And.intro hs hc2)))
  have HI := Lib.hid (And.intro hni (And.intro hwi hsi))
  have HQ : Hid (LQ w (w.alloc (.cells #[.int .i64 0, .int .i64 0, .int .i64 0, .int .i64 0, .string { data := #[] }, .int .i64 0, .int .i64 0, .int .i64 0, .int .i64 0, .int .i64 0, .int .i64 0, .int .i64 0] 26)) w.heap.size) := Lib.hid (LQ.new w)
  clear hle hsz hl2 hc3 hlz hn hc hs hc2 hni hwi hsi
  go_enter Tryz.func29, Tryz.ntmps29
  go_upto_region 1 with fail
  revert HQ
  generalize (w.alloc (.cells #[.int .i64 0, .int .i64 0, .int .i64 0, .int .i64 0, .string { data := #[] }, .int .i64 0, .int .i64 0, .int .i64 0, .int .i64 0, .int .i64 0, .int .i64 0, .int .i64 0] 26)) = W0
  generalize w.heap.size = Q
  intro HQ
  go_upto_region 3 with (first
    | (go_at_call 42; (with_reducible refine (lo_cut s (by have := HC.out.2.2.1; omega) c1 c2 c3 HC.out.1 _ (HI.out.1.below HQ.out.be)).mono ?_); rintro e1 V1 ⟨rfl, q3⟩; have HQn := Lib.hid (HQ.out.below q3); clear HQ; have HQ := HQn; clear HQn q3)
    | (go_at_call 35; (with_reducible refine (lo_split 32 c2 (by have := HC.out.2.2.2; omega) L HC.out.2.1 n HU.out.1 _ (HI.out.1.below HQ.out.be)).mono ?_); rintro e1 V2 ⟨bk, rfl, q1, q2, q3⟩; have HB := Lib.hid (And.intro (HQ.out.below q3) q1); clear HQ q1 q2 q3))
  obtain ⟨v, hv⟩ : ∃ v, (Tx.parse c2.data.toList).1 = v := ⟨_, rfl⟩
  obtain ⟨n0, hn0⟩ : ∃ v, Lo.num (Lo.at L 0).data.toList = v := ⟨_, rfl⟩
  obtain ⟨n1, hn1⟩ : ∃ v, Lo.num (Lo.at L 1).data.toList = v := ⟨_, rfl⟩
  obtain ⟨n2, hn3⟩ : ∃ v, Lo.num (Lo.at L 2).data.toList = v := ⟨_, rfl⟩
  have HV := Lib.hid (And.intro hv (And.intro hn0 (And.intro hn1 hn3)))
  rw [← hL] at hn0 hn1 hn3
  by_cases h0 : c1.data.toList = [114, 111, 117, 110, 100]
  · have HX : Hid ((⟨1, 0, 0, v, { data := #[] }, 0, 0, 0, 0, 0, 0, 0⟩ : Ev) = x) := Lib.hid (by rw [← hx, h0, Lo.rd_round, hv])
    have b0 := Lo.txt_eq h0
    clear hx hv hn0 hn1 hn3 hL h0
    go_wp2_with (first
      | (go_at_call 43; (with_reducible refine (lo_ticks c2 (by have := HC.out.2.2.2; omega) v HV.out.1 _).mono ?_); rintro e1 V3 ⟨rfl, q3⟩; have HBn := Lib.hid (And.intro (HB.out.1.below q3) (HB.out.2.chg (l := []) (Chg.of_fresh q3) (by simp))); clear HB; have HB := HBn; clear HBn q3; have q0 := HB.out.1.bq.cell (i := 0) rfl; have g0 := HB.out.1.bq.free 0; have q1 := HB.out.1.bq.cell (i := 1) rfl; have g1 := HB.out.1.bq.free 1; have q2 := HB.out.1.bq.cell (i := 2) rfl; have g2 := HB.out.1.bq.free 2; have q3 := HB.out.1.bq.cell (i := 3) rfl; have g3 := HB.out.1.bq.free 3; have q4 := HB.out.1.bq.cell (i := 4) rfl; have g4 := HB.out.1.bq.free 4; have q5 := HB.out.1.bq.cell (i := 5) rfl; have g5 := HB.out.1.bq.free 5; have q6 := HB.out.1.bq.cell (i := 6) rfl; have g6 := HB.out.1.bq.free 6; have q7 := HB.out.1.bq.cell (i := 7) rfl; have g7 := HB.out.1.bq.free 7; have q8 := HB.out.1.bq.cell (i := 8) rfl; have g8 := HB.out.1.bq.free 8; have q9 := HB.out.1.bq.cell (i := 9) rfl; have g9 := HB.out.1.bq.free 9; have q10 := HB.out.1.bq.cell (i := 10) rfl; have g10 := HB.out.1.bq.free 10; have q11 := HB.out.1.bq.cell (i := 11) rfl; have g11 := HB.out.1.bq.free 11))
    have HW9 : Hid (Blk ((((((((((((V3.setCell ⟨Q, 0, none⟩ (.int .i64 1)).setCell ⟨Q, 1, none⟩ (.int .i64 0)).setCell ⟨Q, 2, none⟩ (.int .i64 0)).setCell ⟨Q, 3, none⟩ (.int .i64 v)).setCell ⟨Q, 4, none⟩ (.string { data := #[] })).setCell ⟨Q, 5, none⟩ (.int .i64 0)).setCell ⟨Q, 6, none⟩ (.int .i64 0)).setCell ⟨Q, 7, none⟩ (.int .i64 0)).setCell ⟨Q, 8, none⟩ (.int .i64 0)).setCell ⟨Q, 9, none⟩ (.int .i64 0)).setCell ⟨Q, 10, none⟩ (.int .i64 0)).setCell ⟨Q, 11, none⟩ (.int .i64 0)) Q [.int .i64 1, .int .i64 0, .int .i64 0, .int .i64 v, .string { data := #[] }, .int .i64 0, .int .i64 0, .int .i64 0, .int .i64 0, .int .i64 0, .int .i64 0, .int .i64 0] 26 ∧ Below w.heap.size w ((((((((((((V3.setCell ⟨Q, 0, none⟩ (.int .i64 1)).setCell ⟨Q, 1, none⟩ (.int .i64 0)).setCell ⟨Q, 2, none⟩ (.int .i64 0)).setCell ⟨Q, 3, none⟩ (.int .i64 v)).setCell ⟨Q, 4, none⟩ (.string { data := #[] })).setCell ⟨Q, 5, none⟩ (.int .i64 0)).setCell ⟨Q, 6, none⟩ (.int .i64 0)).setCell ⟨Q, 7, none⟩ (.int .i64 0)).setCell ⟨Q, 8, none⟩ (.int .i64 0)).setCell ⟨Q, 9, none⟩ (.int .i64 0)).setCell ⟨Q, 10, none⟩ (.int .i64 0)).setCell ⟨Q, 11, none⟩ (.int .i64 0))) := Lib.hid (HB.out.1.fill _ _ _ _ _ _ _ _ _ _ _ _)
    clear q0 g0 q1 g1 q2 g2 q3 g3 q4 g4 q5 g5 q6 g6 q7 g7 q8 g8 q9 g9 q10 g10 q11 g11
    revert HW9
    generalize ((((((((((((V3.setCell ⟨Q, 0, none⟩ (.int .i64 1)).setCell ⟨Q, 1, none⟩ (.int .i64 0)).setCell ⟨Q, 2, none⟩ (.int .i64 0)).setCell ⟨Q, 3, none⟩ (.int .i64 v)).setCell ⟨Q, 4, none⟩ (.string { data := #[] })).setCell ⟨Q, 5, none⟩ (.int .i64 0)).setCell ⟨Q, 6, none⟩ (.int .i64 0)).setCell ⟨Q, 7, none⟩ (.int .i64 0)).setCell ⟨Q, 8, none⟩ (.int .i64 0)).setCell ⟨Q, 9, none⟩ (.int .i64 0)).setCell ⟨Q, 10, none⟩ (.int .i64 0)).setCell ⟨Q, 11, none⟩ (.int .i64 0)) = W9
    intro HW9
    have r0 := HW9.out.1.cell (i := 0) rfl
    have r1 := HW9.out.1.cell (i := 1) rfl
    have r2 := HW9.out.1.cell (i := 2) rfl
    have r3 := HW9.out.1.cell (i := 3) rfl
    have r4 := HW9.out.1.cell (i := 4) rfl
    have r5 := HW9.out.1.cell (i := 5) rfl
    have r6 := HW9.out.1.cell (i := 6) rfl
    have r7 := HW9.out.1.cell (i := 7) rfl
    have r8 := HW9.out.1.cell (i := 8) rfl
    have r9 := HW9.out.1.cell (i := 9) rfl
    have r10 := HW9.out.1.cell (i := 10) rfl
    have r11 := HW9.out.1.cell (i := 11) rfl
    (try simp only [Exit.inBlock, Exit.then])
    exact bodyPost_ret (v := .agg x.c.toArray) (by rw [← HX.out]; simp [results, Tryz.results29, go_sem, r0, r1, r2, r3, r4, r5, r6, r7, r8, r9, r10, r11, Ev.c]) rfl ⟨rfl, HW9.out.2⟩
  by_cases h1 : c1.data.toList = [100, 114, 97, 105, 110]
  · have HX : Hid ((⟨7, 0, 0, v, { data := #[] }, 0, 0, 0, 0, 0, 0, 0⟩ : Ev) = x) := Lib.hid (by rw [← hx, h1, Lo.rd_drain, hv])
    have b0 := Lo.txt_ne h0
    have b1 := Lo.txt_eq h1
    clear hx hv hn0 hn1 hn3 hL h0 h1
    go_wp2_with (first
      | (go_at_call 43; (with_reducible refine (lo_ticks c2 (by have := HC.out.2.2.2; omega) v HV.out.1 _).mono ?_); rintro e1 V3 ⟨rfl, q3⟩; have HBn := Lib.hid (And.intro (HB.out.1.below q3) (HB.out.2.chg (l := []) (Chg.of_fresh q3) (by simp))); clear HB; have HB := HBn; clear HBn q3; have q0 := HB.out.1.bq.cell (i := 0) rfl; have g0 := HB.out.1.bq.free 0; have q1 := HB.out.1.bq.cell (i := 1) rfl; have g1 := HB.out.1.bq.free 1; have q2 := HB.out.1.bq.cell (i := 2) rfl; have g2 := HB.out.1.bq.free 2; have q3 := HB.out.1.bq.cell (i := 3) rfl; have g3 := HB.out.1.bq.free 3; have q4 := HB.out.1.bq.cell (i := 4) rfl; have g4 := HB.out.1.bq.free 4; have q5 := HB.out.1.bq.cell (i := 5) rfl; have g5 := HB.out.1.bq.free 5; have q6 := HB.out.1.bq.cell (i := 6) rfl; have g6 := HB.out.1.bq.free 6; have q7 := HB.out.1.bq.cell (i := 7) rfl; have g7 := HB.out.1.bq.free 7; have q8 := HB.out.1.bq.cell (i := 8) rfl; have g8 := HB.out.1.bq.free 8; have q9 := HB.out.1.bq.cell (i := 9) rfl; have g9 := HB.out.1.bq.free 9; have q10 := HB.out.1.bq.cell (i := 10) rfl; have g10 := HB.out.1.bq.free 10; have q11 := HB.out.1.bq.cell (i := 11) rfl; have g11 := HB.out.1.bq.free 11))
    have HW9 : Hid (Blk ((((((((((((V3.setCell ⟨Q, 0, none⟩ (.int .i64 7)).setCell ⟨Q, 1, none⟩ (.int .i64 0)).setCell ⟨Q, 2, none⟩ (.int .i64 0)).setCell ⟨Q, 3, none⟩ (.int .i64 v)).setCell ⟨Q, 4, none⟩ (.string { data := #[] })).setCell ⟨Q, 5, none⟩ (.int .i64 0)).setCell ⟨Q, 6, none⟩ (.int .i64 0)).setCell ⟨Q, 7, none⟩ (.int .i64 0)).setCell ⟨Q, 8, none⟩ (.int .i64 0)).setCell ⟨Q, 9, none⟩ (.int .i64 0)).setCell ⟨Q, 10, none⟩ (.int .i64 0)).setCell ⟨Q, 11, none⟩ (.int .i64 0)) Q [.int .i64 7, .int .i64 0, .int .i64 0, .int .i64 v, .string { data := #[] }, .int .i64 0, .int .i64 0, .int .i64 0, .int .i64 0, .int .i64 0, .int .i64 0, .int .i64 0] 26 ∧ Below w.heap.size w ((((((((((((V3.setCell ⟨Q, 0, none⟩ (.int .i64 7)).setCell ⟨Q, 1, none⟩ (.int .i64 0)).setCell ⟨Q, 2, none⟩ (.int .i64 0)).setCell ⟨Q, 3, none⟩ (.int .i64 v)).setCell ⟨Q, 4, none⟩ (.string { data := #[] })).setCell ⟨Q, 5, none⟩ (.int .i64 0)).setCell ⟨Q, 6, none⟩ (.int .i64 0)).setCell ⟨Q, 7, none⟩ (.int .i64 0)).setCell ⟨Q, 8, none⟩ (.int .i64 0)).setCell ⟨Q, 9, none⟩ (.int .i64 0)).setCell ⟨Q, 10, none⟩ (.int .i64 0)).setCell ⟨Q, 11, none⟩ (.int .i64 0))) := Lib.hid (HB.out.1.fill _ _ _ _ _ _ _ _ _ _ _ _)
    clear q0 g0 q1 g1 q2 g2 q3 g3 q4 g4 q5 g5 q6 g6 q7 g7 q8 g8 q9 g9 q10 g10 q11 g11
    revert HW9
    generalize ((((((((((((V3.setCell ⟨Q, 0, none⟩ (.int .i64 7)).setCell ⟨Q, 1, none⟩ (.int .i64 0)).setCell ⟨Q, 2, none⟩ (.int .i64 0)).setCell ⟨Q, 3, none⟩ (.int .i64 v)).setCell ⟨Q, 4, none⟩ (.string { data := #[] })).setCell ⟨Q, 5, none⟩ (.int .i64 0)).setCell ⟨Q, 6, none⟩ (.int .i64 0)).setCell ⟨Q, 7, none⟩ (.int .i64 0)).setCell ⟨Q, 8, none⟩ (.int .i64 0)).setCell ⟨Q, 9, none⟩ (.int .i64 0)).setCell ⟨Q, 10, none⟩ (.int .i64 0)).setCell ⟨Q, 11, none⟩ (.int .i64 0)) = W9
    intro HW9
    have r0 := HW9.out.1.cell (i := 0) rfl
    have r1 := HW9.out.1.cell (i := 1) rfl
    have r2 := HW9.out.1.cell (i := 2) rfl
    have r3 := HW9.out.1.cell (i := 3) rfl
    have r4 := HW9.out.1.cell (i := 4) rfl
    have r5 := HW9.out.1.cell (i := 5) rfl
    have r6 := HW9.out.1.cell (i := 6) rfl
    have r7 := HW9.out.1.cell (i := 7) rfl
    have r8 := HW9.out.1.cell (i := 8) rfl
    have r9 := HW9.out.1.cell (i := 9) rfl
    have r10 := HW9.out.1.cell (i := 10) rfl
    have r11 := HW9.out.1.cell (i := 11) rfl
    (try simp only [Exit.inBlock, Exit.then])
    exact bodyPost_ret (v := .agg x.c.toArray) (by rw [← HX.out]; simp [results, Tryz.results29, go_sem, r0, r1, r2, r3, r4, r5, r6, r7, r8, r9, r10, r11, Ev.c]) rfl ⟨rfl, HW9.out.2⟩
  by_cases h2 : c1.data.toList = [111, 112, 101, 110]
  · have HX : Hid ((⟨2, n0, n1, 0, { data := #[] }, 0, 0, 0, 0, 0, 0, 0⟩ : Ev) = x) := Lib.hid (by rw [← hx, h2, Lo.rd_open, hn0, hn1])
    have b0 := Lo.txt_ne h0
    have b1 := Lo.txt_ne h1
    have b2 := Lo.txt_eq h2
    clear hx hv hn0 hn1 hn3 hL h0 h1 h2
    go_wp2_with (first
      | (go_at_call 44; (with_reducible refine (lo_number bk L n HU.out.1 hn2 HU.out.2 0 0 rfl n0 HV.out.2.1 _ _ HB.out.2 (HI.out.1.below HB.out.1.be)).mono ?_); rintro e1 V3 ⟨rfl, q3⟩; have HBn := Lib.hid (And.intro (HB.out.1.below q3) (HB.out.2.chg (l := []) (Chg.of_fresh q3) (by simp))); clear HB; have HB := HBn; clear HBn q3)
      | (go_at_call 44; (with_reducible refine (lo_number bk L n HU.out.1 hn2 HU.out.2 1 1 rfl n1 HV.out.2.2.1 _ _ HB.out.2 (HI.out.1.below HB.out.1.be)).mono ?_); rintro e1 V3 ⟨rfl, q3⟩; have HBn := Lib.hid (And.intro (HB.out.1.below q3) (HB.out.2.chg (l := []) (Chg.of_fresh q3) (by simp))); clear HB; have HB := HBn; clear HBn q3; have q0 := HB.out.1.bq.cell (i := 0) rfl; have g0 := HB.out.1.bq.free 0; have q1 := HB.out.1.bq.cell (i := 1) rfl; have g1 := HB.out.1.bq.free 1; have q2 := HB.out.1.bq.cell (i := 2) rfl; have g2 := HB.out.1.bq.free 2; have q3 := HB.out.1.bq.cell (i := 3) rfl; have g3 := HB.out.1.bq.free 3; have q4 := HB.out.1.bq.cell (i := 4) rfl; have g4 := HB.out.1.bq.free 4; have q5 := HB.out.1.bq.cell (i := 5) rfl; have g5 := HB.out.1.bq.free 5; have q6 := HB.out.1.bq.cell (i := 6) rfl; have g6 := HB.out.1.bq.free 6; have q7 := HB.out.1.bq.cell (i := 7) rfl; have g7 := HB.out.1.bq.free 7; have q8 := HB.out.1.bq.cell (i := 8) rfl; have g8 := HB.out.1.bq.free 8; have q9 := HB.out.1.bq.cell (i := 9) rfl; have g9 := HB.out.1.bq.free 9; have q10 := HB.out.1.bq.cell (i := 10) rfl; have g10 := HB.out.1.bq.free 10; have q11 := HB.out.1.bq.cell (i := 11) rfl; have g11 := HB.out.1.bq.free 11))
    have HW9 : Hid (Blk ((((((((((((V3.setCell ⟨Q, 0, none⟩ (.int .i64 2)).setCell ⟨Q, 1, none⟩ (.int .i64 n0)).setCell ⟨Q, 2, none⟩ (.int .i64 n1)).setCell ⟨Q, 3, none⟩ (.int .i64 0)).setCell ⟨Q, 4, none⟩ (.string { data := #[] })).setCell ⟨Q, 5, none⟩ (.int .i64 0)).setCell ⟨Q, 6, none⟩ (.int .i64 0)).setCell ⟨Q, 7, none⟩ (.int .i64 0)).setCell ⟨Q, 8, none⟩ (.int .i64 0)).setCell ⟨Q, 9, none⟩ (.int .i64 0)).setCell ⟨Q, 10, none⟩ (.int .i64 0)).setCell ⟨Q, 11, none⟩ (.int .i64 0)) Q [.int .i64 2, .int .i64 n0, .int .i64 n1, .int .i64 0, .string { data := #[] }, .int .i64 0, .int .i64 0, .int .i64 0, .int .i64 0, .int .i64 0, .int .i64 0, .int .i64 0] 26 ∧ Below w.heap.size w ((((((((((((V3.setCell ⟨Q, 0, none⟩ (.int .i64 2)).setCell ⟨Q, 1, none⟩ (.int .i64 n0)).setCell ⟨Q, 2, none⟩ (.int .i64 n1)).setCell ⟨Q, 3, none⟩ (.int .i64 0)).setCell ⟨Q, 4, none⟩ (.string { data := #[] })).setCell ⟨Q, 5, none⟩ (.int .i64 0)).setCell ⟨Q, 6, none⟩ (.int .i64 0)).setCell ⟨Q, 7, none⟩ (.int .i64 0)).setCell ⟨Q, 8, none⟩ (.int .i64 0)).setCell ⟨Q, 9, none⟩ (.int .i64 0)).setCell ⟨Q, 10, none⟩ (.int .i64 0)).setCell ⟨Q, 11, none⟩ (.int .i64 0))) := Lib.hid (HB.out.1.fill _ _ _ _ _ _ _ _ _ _ _ _)
    clear q0 g0 q1 g1 q2 g2 q3 g3 q4 g4 q5 g5 q6 g6 q7 g7 q8 g8 q9 g9 q10 g10 q11 g11
    revert HW9
    generalize ((((((((((((V3.setCell ⟨Q, 0, none⟩ (.int .i64 2)).setCell ⟨Q, 1, none⟩ (.int .i64 n0)).setCell ⟨Q, 2, none⟩ (.int .i64 n1)).setCell ⟨Q, 3, none⟩ (.int .i64 0)).setCell ⟨Q, 4, none⟩ (.string { data := #[] })).setCell ⟨Q, 5, none⟩ (.int .i64 0)).setCell ⟨Q, 6, none⟩ (.int .i64 0)).setCell ⟨Q, 7, none⟩ (.int .i64 0)).setCell ⟨Q, 8, none⟩ (.int .i64 0)).setCell ⟨Q, 9, none⟩ (.int .i64 0)).setCell ⟨Q, 10, none⟩ (.int .i64 0)).setCell ⟨Q, 11, none⟩ (.int .i64 0)) = W9
    intro HW9
    have r0 := HW9.out.1.cell (i := 0) rfl
    have r1 := HW9.out.1.cell (i := 1) rfl
    have r2 := HW9.out.1.cell (i := 2) rfl
    have r3 := HW9.out.1.cell (i := 3) rfl
    have r4 := HW9.out.1.cell (i := 4) rfl
    have r5 := HW9.out.1.cell (i := 5) rfl
    have r6 := HW9.out.1.cell (i := 6) rfl
    have r7 := HW9.out.1.cell (i := 7) rfl
    have r8 := HW9.out.1.cell (i := 8) rfl
    have r9 := HW9.out.1.cell (i := 9) rfl
    have r10 := HW9.out.1.cell (i := 10) rfl
    have r11 := HW9.out.1.cell (i := 11) rfl
    (try simp only [Exit.inBlock, Exit.then])
    exact bodyPost_ret (v := .agg x.c.toArray) (by rw [← HX.out]; simp [results, Tryz.results29, go_sem, r0, r1, r2, r3, r4, r5, r6, r7, r8, r9, r10, r11, Ev.c]) rfl ⟨rfl, HW9.out.2⟩
  by_cases h3 : c1.data.toList = [114, 101, 102, 117, 115, 101]
  · have HX : Hid ((⟨3, n0, n1, 0, { data := #[] }, n2, 0, 0, 0, 0, 0, 0⟩ : Ev) = x) := Lib.hid (by rw [← hx, h3, Lo.rd_refuse, hn0, hn1, hn3])
    have b0 := Lo.txt_ne h0
    have b1 := Lo.txt_ne h1
    have b2 := Lo.txt_ne h2
    have b3 := Lo.txt_eq h3
    clear hx hv hn0 hn1 hn3 hL h0 h1 h2 h3
    go_wp2_with (first
      | (go_at_call 44; (with_reducible refine (lo_number bk L n HU.out.1 hn2 HU.out.2 0 0 rfl n0 HV.out.2.1 _ _ HB.out.2 (HI.out.1.below HB.out.1.be)).mono ?_); rintro e1 V3 ⟨rfl, q3⟩; have HBn := Lib.hid (And.intro (HB.out.1.below q3) (HB.out.2.chg (l := []) (Chg.of_fresh q3) (by simp))); clear HB; have HB := HBn; clear HBn q3)
      | (go_at_call 44; (with_reducible refine (lo_number bk L n HU.out.1 hn2 HU.out.2 1 1 rfl n1 HV.out.2.2.1 _ _ HB.out.2 (HI.out.1.below HB.out.1.be)).mono ?_); rintro e1 V3 ⟨rfl, q3⟩; have HBn := Lib.hid (And.intro (HB.out.1.below q3) (HB.out.2.chg (l := []) (Chg.of_fresh q3) (by simp))); clear HB; have HB := HBn; clear HBn q3)
      | (go_at_call 44; (with_reducible refine (lo_number bk L n HU.out.1 hn2 HU.out.2 2 2 rfl n2 HV.out.2.2.2 _ _ HB.out.2 (HI.out.1.below HB.out.1.be)).mono ?_); rintro e1 V3 ⟨rfl, q3⟩; have HBn := Lib.hid (And.intro (HB.out.1.below q3) (HB.out.2.chg (l := []) (Chg.of_fresh q3) (by simp))); clear HB; have HB := HBn; clear HBn q3; have q0 := HB.out.1.bq.cell (i := 0) rfl; have g0 := HB.out.1.bq.free 0; have q1 := HB.out.1.bq.cell (i := 1) rfl; have g1 := HB.out.1.bq.free 1; have q2 := HB.out.1.bq.cell (i := 2) rfl; have g2 := HB.out.1.bq.free 2; have q3 := HB.out.1.bq.cell (i := 3) rfl; have g3 := HB.out.1.bq.free 3; have q4 := HB.out.1.bq.cell (i := 4) rfl; have g4 := HB.out.1.bq.free 4; have q5 := HB.out.1.bq.cell (i := 5) rfl; have g5 := HB.out.1.bq.free 5; have q6 := HB.out.1.bq.cell (i := 6) rfl; have g6 := HB.out.1.bq.free 6; have q7 := HB.out.1.bq.cell (i := 7) rfl; have g7 := HB.out.1.bq.free 7; have q8 := HB.out.1.bq.cell (i := 8) rfl; have g8 := HB.out.1.bq.free 8; have q9 := HB.out.1.bq.cell (i := 9) rfl; have g9 := HB.out.1.bq.free 9; have q10 := HB.out.1.bq.cell (i := 10) rfl; have g10 := HB.out.1.bq.free 10; have q11 := HB.out.1.bq.cell (i := 11) rfl; have g11 := HB.out.1.bq.free 11))
    have HW9 : Hid (Blk ((((((((((((V3.setCell ⟨Q, 0, none⟩ (.int .i64 3)).setCell ⟨Q, 1, none⟩ (.int .i64 n0)).setCell ⟨Q, 2, none⟩ (.int .i64 n1)).setCell ⟨Q, 3, none⟩ (.int .i64 0)).setCell ⟨Q, 4, none⟩ (.string { data := #[] })).setCell ⟨Q, 5, none⟩ (.int .i64 n2)).setCell ⟨Q, 6, none⟩ (.int .i64 0)).setCell ⟨Q, 7, none⟩ (.int .i64 0)).setCell ⟨Q, 8, none⟩ (.int .i64 0)).setCell ⟨Q, 9, none⟩ (.int .i64 0)).setCell ⟨Q, 10, none⟩ (.int .i64 0)).setCell ⟨Q, 11, none⟩ (.int .i64 0)) Q [.int .i64 3, .int .i64 n0, .int .i64 n1, .int .i64 0, .string { data := #[] }, .int .i64 n2, .int .i64 0, .int .i64 0, .int .i64 0, .int .i64 0, .int .i64 0, .int .i64 0] 26 ∧ Below w.heap.size w ((((((((((((V3.setCell ⟨Q, 0, none⟩ (.int .i64 3)).setCell ⟨Q, 1, none⟩ (.int .i64 n0)).setCell ⟨Q, 2, none⟩ (.int .i64 n1)).setCell ⟨Q, 3, none⟩ (.int .i64 0)).setCell ⟨Q, 4, none⟩ (.string { data := #[] })).setCell ⟨Q, 5, none⟩ (.int .i64 n2)).setCell ⟨Q, 6, none⟩ (.int .i64 0)).setCell ⟨Q, 7, none⟩ (.int .i64 0)).setCell ⟨Q, 8, none⟩ (.int .i64 0)).setCell ⟨Q, 9, none⟩ (.int .i64 0)).setCell ⟨Q, 10, none⟩ (.int .i64 0)).setCell ⟨Q, 11, none⟩ (.int .i64 0))) := Lib.hid (HB.out.1.fill _ _ _ _ _ _ _ _ _ _ _ _)
    clear q0 g0 q1 g1 q2 g2 q3 g3 q4 g4 q5 g5 q6 g6 q7 g7 q8 g8 q9 g9 q10 g10 q11 g11
    revert HW9
    generalize ((((((((((((V3.setCell ⟨Q, 0, none⟩ (.int .i64 3)).setCell ⟨Q, 1, none⟩ (.int .i64 n0)).setCell ⟨Q, 2, none⟩ (.int .i64 n1)).setCell ⟨Q, 3, none⟩ (.int .i64 0)).setCell ⟨Q, 4, none⟩ (.string { data := #[] })).setCell ⟨Q, 5, none⟩ (.int .i64 n2)).setCell ⟨Q, 6, none⟩ (.int .i64 0)).setCell ⟨Q, 7, none⟩ (.int .i64 0)).setCell ⟨Q, 8, none⟩ (.int .i64 0)).setCell ⟨Q, 9, none⟩ (.int .i64 0)).setCell ⟨Q, 10, none⟩ (.int .i64 0)).setCell ⟨Q, 11, none⟩ (.int .i64 0)) = W9
    intro HW9
    have r0 := HW9.out.1.cell (i := 0) rfl
    have r1 := HW9.out.1.cell (i := 1) rfl
    have r2 := HW9.out.1.cell (i := 2) rfl
    have r3 := HW9.out.1.cell (i := 3) rfl
    have r4 := HW9.out.1.cell (i := 4) rfl
    have r5 := HW9.out.1.cell (i := 5) rfl
    have r6 := HW9.out.1.cell (i := 6) rfl
    have r7 := HW9.out.1.cell (i := 7) rfl
    have r8 := HW9.out.1.cell (i := 8) rfl
    have r9 := HW9.out.1.cell (i := 9) rfl
    have r10 := HW9.out.1.cell (i := 10) rfl
    have r11 := HW9.out.1.cell (i := 11) rfl
    (try simp only [Exit.inBlock, Exit.then])
    exact bodyPost_ret (v := .agg x.c.toArray) (by rw [← HX.out]; simp [results, Tryz.results29, go_sem, r0, r1, r2, r3, r4, r5, r6, r7, r8, r9, r10, r11, Ev.c]) rfl ⟨rfl, HW9.out.2⟩
  by_cases h4 : c1.data.toList = [114, 101, 97, 100]
  · obtain ⟨iv, hiv⟩ : ∃ v, Lo.num (Lib.cut c2.data.toList [32]).1 = v := ⟨_, rfl⟩
    obtain ⟨qb, hqb⟩ : ∃ q : ByteArray, (Qt.whole (Lib.cut c2.data.toList [32]).2.1).1 = q.data.toList := ⟨Le.t _, (Le.t_list _).symm⟩
    have HRB := Lib.hid (And.intro hiv hqb)
    have HX : Hid ((⟨4, iv, (qb.size : Int), 0, qb, 0, 0, 0, 0, 0, 0, 0⟩ : Ev) = x) := Lib.hid (by rw [← hx, h4, Lo.rd_read]; unfold Lo.readB; rw [hiv, hqb, ← Le.t_of rfl]; rfl)
    have b0 := Lo.txt_ne h0
    have b1 := Lo.txt_ne h1
    have b2 := Lo.txt_ne h2
    have b3 := Lo.txt_ne h3
    have b4 := Lo.txt_eq h4
    clear hx hv hn0 hn1 hn3 hL h0 h1 h2 h3 h4
    clear hiv hqb
    go_wp2_with (first
      | (go_at_call 45; (with_reducible refine (lo_readBytes 4 c2 HC.out.2.2.2 iv qb HRB.out.1 HRB.out.2 _ (HI.out.1.below HB.out.1.be)).mono ?_); rintro e1 V3 ⟨rfl, q3⟩; have HBn := Lib.hid (And.intro (HB.out.1.below q3) (HB.out.2.chg (l := []) (Chg.of_fresh q3) (by simp))); clear HB; have HB := HBn; clear HBn q3; have q0 := HB.out.1.bq.cell (i := 0) rfl; have g0 := HB.out.1.bq.free 0; have q1 := HB.out.1.bq.cell (i := 1) rfl; have g1 := HB.out.1.bq.free 1; have q2 := HB.out.1.bq.cell (i := 2) rfl; have g2 := HB.out.1.bq.free 2; have q3 := HB.out.1.bq.cell (i := 3) rfl; have g3 := HB.out.1.bq.free 3; have q4 := HB.out.1.bq.cell (i := 4) rfl; have g4 := HB.out.1.bq.free 4; have q5 := HB.out.1.bq.cell (i := 5) rfl; have g5 := HB.out.1.bq.free 5; have q6 := HB.out.1.bq.cell (i := 6) rfl; have g6 := HB.out.1.bq.free 6; have q7 := HB.out.1.bq.cell (i := 7) rfl; have g7 := HB.out.1.bq.free 7; have q8 := HB.out.1.bq.cell (i := 8) rfl; have g8 := HB.out.1.bq.free 8; have q9 := HB.out.1.bq.cell (i := 9) rfl; have g9 := HB.out.1.bq.free 9; have q10 := HB.out.1.bq.cell (i := 10) rfl; have g10 := HB.out.1.bq.free 10; have q11 := HB.out.1.bq.cell (i := 11) rfl; have g11 := HB.out.1.bq.free 11))
    have HW9 : Hid (Blk ((((((((((((V3.setCell ⟨Q, 0, none⟩ (.int .i64 4)).setCell ⟨Q, 1, none⟩ (.int .i64 iv)).setCell ⟨Q, 2, none⟩ (.int .i64 (qb.size : Int))).setCell ⟨Q, 3, none⟩ (.int .i64 0)).setCell ⟨Q, 4, none⟩ (.string qb)).setCell ⟨Q, 5, none⟩ (.int .i64 0)).setCell ⟨Q, 6, none⟩ (.int .i64 0)).setCell ⟨Q, 7, none⟩ (.int .i64 0)).setCell ⟨Q, 8, none⟩ (.int .i64 0)).setCell ⟨Q, 9, none⟩ (.int .i64 0)).setCell ⟨Q, 10, none⟩ (.int .i64 0)).setCell ⟨Q, 11, none⟩ (.int .i64 0)) Q [.int .i64 4, .int .i64 iv, .int .i64 (qb.size : Int), .int .i64 0, .string qb, .int .i64 0, .int .i64 0, .int .i64 0, .int .i64 0, .int .i64 0, .int .i64 0, .int .i64 0] 26 ∧ Below w.heap.size w ((((((((((((V3.setCell ⟨Q, 0, none⟩ (.int .i64 4)).setCell ⟨Q, 1, none⟩ (.int .i64 iv)).setCell ⟨Q, 2, none⟩ (.int .i64 (qb.size : Int))).setCell ⟨Q, 3, none⟩ (.int .i64 0)).setCell ⟨Q, 4, none⟩ (.string qb)).setCell ⟨Q, 5, none⟩ (.int .i64 0)).setCell ⟨Q, 6, none⟩ (.int .i64 0)).setCell ⟨Q, 7, none⟩ (.int .i64 0)).setCell ⟨Q, 8, none⟩ (.int .i64 0)).setCell ⟨Q, 9, none⟩ (.int .i64 0)).setCell ⟨Q, 10, none⟩ (.int .i64 0)).setCell ⟨Q, 11, none⟩ (.int .i64 0))) := Lib.hid (HB.out.1.fill _ _ _ _ _ _ _ _ _ _ _ _)
    clear q0 g0 q1 g1 q2 g2 q3 g3 q4 g4 q5 g5 q6 g6 q7 g7 q8 g8 q9 g9 q10 g10 q11 g11
    revert HW9
    generalize ((((((((((((V3.setCell ⟨Q, 0, none⟩ (.int .i64 4)).setCell ⟨Q, 1, none⟩ (.int .i64 iv)).setCell ⟨Q, 2, none⟩ (.int .i64 (qb.size : Int))).setCell ⟨Q, 3, none⟩ (.int .i64 0)).setCell ⟨Q, 4, none⟩ (.string qb)).setCell ⟨Q, 5, none⟩ (.int .i64 0)).setCell ⟨Q, 6, none⟩ (.int .i64 0)).setCell ⟨Q, 7, none⟩ (.int .i64 0)).setCell ⟨Q, 8, none⟩ (.int .i64 0)).setCell ⟨Q, 9, none⟩ (.int .i64 0)).setCell ⟨Q, 10, none⟩ (.int .i64 0)).setCell ⟨Q, 11, none⟩ (.int .i64 0)) = W9
    intro HW9
    have r0 := HW9.out.1.cell (i := 0) rfl
    have r1 := HW9.out.1.cell (i := 1) rfl
    have r2 := HW9.out.1.cell (i := 2) rfl
    have r3 := HW9.out.1.cell (i := 3) rfl
    have r4 := HW9.out.1.cell (i := 4) rfl
    have r5 := HW9.out.1.cell (i := 5) rfl
    have r6 := HW9.out.1.cell (i := 6) rfl
    have r7 := HW9.out.1.cell (i := 7) rfl
    have r8 := HW9.out.1.cell (i := 8) rfl
    have r9 := HW9.out.1.cell (i := 9) rfl
    have r10 := HW9.out.1.cell (i := 10) rfl
    have r11 := HW9.out.1.cell (i := 11) rfl
    (try simp only [Exit.inBlock, Exit.then])
    exact bodyPost_ret (v := .agg x.c.toArray) (by rw [← HX.out]; simp [results, Tryz.results29, go_sem, r0, r1, r2, r3, r4, r5, r6, r7, r8, r9, r10, r11, Ev.c]) rfl ⟨rfl, HW9.out.2⟩
  by_cases h5 : c1.data.toList = [119, 114, 105, 116, 101]
  · obtain ⟨iv, hiv⟩ : ∃ v, Lo.num (Lib.cut c2.data.toList [32]).1 = v := ⟨_, rfl⟩
    obtain ⟨qb, hqb⟩ : ∃ q : ByteArray, (Qt.whole (Lib.cut c2.data.toList [32]).2.1).1 = q.data.toList := ⟨Le.t _, (Le.t_list _).symm⟩
    have HRB := Lib.hid (And.intro hiv hqb)
    have HX : Hid ((⟨6, iv, (qb.size : Int), 0, qb, 0, 0, 0, 0, 0, 0, 0⟩ : Ev) = x) := Lib.hid (by rw [← hx, h5, Lo.rd_write]; unfold Lo.readB; rw [hiv, hqb, ← Le.t_of rfl]; rfl)
    have b0 := Lo.txt_ne h0
    have b1 := Lo.txt_ne h1
    have b2 := Lo.txt_ne h2
    have b3 := Lo.txt_ne h3
    have b4 := Lo.txt_ne h4
    have b5 := Lo.txt_eq h5
    clear hx hv hn0 hn1 hn3 hL h0 h1 h2 h3 h4 h5
    clear hiv hqb
    go_wp2_with (first
      | (go_at_call 45; (with_reducible refine (lo_readBytes 6 c2 HC.out.2.2.2 iv qb HRB.out.1 HRB.out.2 _ (HI.out.1.below HB.out.1.be)).mono ?_); rintro e1 V3 ⟨rfl, q3⟩; have HBn := Lib.hid (And.intro (HB.out.1.below q3) (HB.out.2.chg (l := []) (Chg.of_fresh q3) (by simp))); clear HB; have HB := HBn; clear HBn q3; have q0 := HB.out.1.bq.cell (i := 0) rfl; have g0 := HB.out.1.bq.free 0; have q1 := HB.out.1.bq.cell (i := 1) rfl; have g1 := HB.out.1.bq.free 1; have q2 := HB.out.1.bq.cell (i := 2) rfl; have g2 := HB.out.1.bq.free 2; have q3 := HB.out.1.bq.cell (i := 3) rfl; have g3 := HB.out.1.bq.free 3; have q4 := HB.out.1.bq.cell (i := 4) rfl; have g4 := HB.out.1.bq.free 4; have q5 := HB.out.1.bq.cell (i := 5) rfl; have g5 := HB.out.1.bq.free 5; have q6 := HB.out.1.bq.cell (i := 6) rfl; have g6 := HB.out.1.bq.free 6; have q7 := HB.out.1.bq.cell (i := 7) rfl; have g7 := HB.out.1.bq.free 7; have q8 := HB.out.1.bq.cell (i := 8) rfl; have g8 := HB.out.1.bq.free 8; have q9 := HB.out.1.bq.cell (i := 9) rfl; have g9 := HB.out.1.bq.free 9; have q10 := HB.out.1.bq.cell (i := 10) rfl; have g10 := HB.out.1.bq.free 10; have q11 := HB.out.1.bq.cell (i := 11) rfl; have g11 := HB.out.1.bq.free 11))
    have HW9 : Hid (Blk ((((((((((((V3.setCell ⟨Q, 0, none⟩ (.int .i64 6)).setCell ⟨Q, 1, none⟩ (.int .i64 iv)).setCell ⟨Q, 2, none⟩ (.int .i64 (qb.size : Int))).setCell ⟨Q, 3, none⟩ (.int .i64 0)).setCell ⟨Q, 4, none⟩ (.string qb)).setCell ⟨Q, 5, none⟩ (.int .i64 0)).setCell ⟨Q, 6, none⟩ (.int .i64 0)).setCell ⟨Q, 7, none⟩ (.int .i64 0)).setCell ⟨Q, 8, none⟩ (.int .i64 0)).setCell ⟨Q, 9, none⟩ (.int .i64 0)).setCell ⟨Q, 10, none⟩ (.int .i64 0)).setCell ⟨Q, 11, none⟩ (.int .i64 0)) Q [.int .i64 6, .int .i64 iv, .int .i64 (qb.size : Int), .int .i64 0, .string qb, .int .i64 0, .int .i64 0, .int .i64 0, .int .i64 0, .int .i64 0, .int .i64 0, .int .i64 0] 26 ∧ Below w.heap.size w ((((((((((((V3.setCell ⟨Q, 0, none⟩ (.int .i64 6)).setCell ⟨Q, 1, none⟩ (.int .i64 iv)).setCell ⟨Q, 2, none⟩ (.int .i64 (qb.size : Int))).setCell ⟨Q, 3, none⟩ (.int .i64 0)).setCell ⟨Q, 4, none⟩ (.string qb)).setCell ⟨Q, 5, none⟩ (.int .i64 0)).setCell ⟨Q, 6, none⟩ (.int .i64 0)).setCell ⟨Q, 7, none⟩ (.int .i64 0)).setCell ⟨Q, 8, none⟩ (.int .i64 0)).setCell ⟨Q, 9, none⟩ (.int .i64 0)).setCell ⟨Q, 10, none⟩ (.int .i64 0)).setCell ⟨Q, 11, none⟩ (.int .i64 0))) := Lib.hid (HB.out.1.fill _ _ _ _ _ _ _ _ _ _ _ _)
    clear q0 g0 q1 g1 q2 g2 q3 g3 q4 g4 q5 g5 q6 g6 q7 g7 q8 g8 q9 g9 q10 g10 q11 g11
    revert HW9
    generalize ((((((((((((V3.setCell ⟨Q, 0, none⟩ (.int .i64 6)).setCell ⟨Q, 1, none⟩ (.int .i64 iv)).setCell ⟨Q, 2, none⟩ (.int .i64 (qb.size : Int))).setCell ⟨Q, 3, none⟩ (.int .i64 0)).setCell ⟨Q, 4, none⟩ (.string qb)).setCell ⟨Q, 5, none⟩ (.int .i64 0)).setCell ⟨Q, 6, none⟩ (.int .i64 0)).setCell ⟨Q, 7, none⟩ (.int .i64 0)).setCell ⟨Q, 8, none⟩ (.int .i64 0)).setCell ⟨Q, 9, none⟩ (.int .i64 0)).setCell ⟨Q, 10, none⟩ (.int .i64 0)).setCell ⟨Q, 11, none⟩ (.int .i64 0)) = W9
    intro HW9
    have r0 := HW9.out.1.cell (i := 0) rfl
    have r1 := HW9.out.1.cell (i := 1) rfl
    have r2 := HW9.out.1.cell (i := 2) rfl
    have r3 := HW9.out.1.cell (i := 3) rfl
    have r4 := HW9.out.1.cell (i := 4) rfl
    have r5 := HW9.out.1.cell (i := 5) rfl
    have r6 := HW9.out.1.cell (i := 6) rfl
    have r7 := HW9.out.1.cell (i := 7) rfl
    have r8 := HW9.out.1.cell (i := 8) rfl
    have r9 := HW9.out.1.cell (i := 9) rfl
    have r10 := HW9.out.1.cell (i := 10) rfl
    have r11 := HW9.out.1.cell (i := 11) rfl
    (try simp only [Exit.inBlock, Exit.then])
    exact bodyPost_ret (v := .agg x.c.toArray) (by rw [← HX.out]; simp [results, Tryz.results29, go_sem, r0, r1, r2, r3, r4, r5, r6, r7, r8, r9, r10, r11, Ev.c]) rfl ⟨rfl, HW9.out.2⟩
  by_cases h6 : c1.data.toList = [101, 111, 102]
  · have HX : Hid ((⟨5, n0, 0, 0, { data := #[] }, 0, 0, 0, 0, 0, 0, 0⟩ : Ev) = x) := Lib.hid (by rw [← hx, h6, Lo.rd_eof, hn0])
    have b0 := Lo.txt_ne h0
    have b1 := Lo.txt_ne h1
    have b2 := Lo.txt_ne h2
    have b3 := Lo.txt_ne h3
    have b4 := Lo.txt_ne h4
    have b5 := Lo.txt_ne h5
    have b6 := Lo.txt_eq h6
    clear hx hv hn0 hn1 hn3 hL h0 h1 h2 h3 h4 h5 h6
    go_wp2_with (first
      | (go_at_call 44; (with_reducible refine (lo_number bk L n HU.out.1 hn2 HU.out.2 0 0 rfl n0 HV.out.2.1 _ _ HB.out.2 (HI.out.1.below HB.out.1.be)).mono ?_); rintro e1 V3 ⟨rfl, q3⟩; have HBn := Lib.hid (And.intro (HB.out.1.below q3) (HB.out.2.chg (l := []) (Chg.of_fresh q3) (by simp))); clear HB; have HB := HBn; clear HBn q3; have q0 := HB.out.1.bq.cell (i := 0) rfl; have g0 := HB.out.1.bq.free 0; have q1 := HB.out.1.bq.cell (i := 1) rfl; have g1 := HB.out.1.bq.free 1; have q2 := HB.out.1.bq.cell (i := 2) rfl; have g2 := HB.out.1.bq.free 2; have q3 := HB.out.1.bq.cell (i := 3) rfl; have g3 := HB.out.1.bq.free 3; have q4 := HB.out.1.bq.cell (i := 4) rfl; have g4 := HB.out.1.bq.free 4; have q5 := HB.out.1.bq.cell (i := 5) rfl; have g5 := HB.out.1.bq.free 5; have q6 := HB.out.1.bq.cell (i := 6) rfl; have g6 := HB.out.1.bq.free 6; have q7 := HB.out.1.bq.cell (i := 7) rfl; have g7 := HB.out.1.bq.free 7; have q8 := HB.out.1.bq.cell (i := 8) rfl; have g8 := HB.out.1.bq.free 8; have q9 := HB.out.1.bq.cell (i := 9) rfl; have g9 := HB.out.1.bq.free 9; have q10 := HB.out.1.bq.cell (i := 10) rfl; have g10 := HB.out.1.bq.free 10; have q11 := HB.out.1.bq.cell (i := 11) rfl; have g11 := HB.out.1.bq.free 11))
    have HW9 : Hid (Blk ((((((((((((V3.setCell ⟨Q, 0, none⟩ (.int .i64 5)).setCell ⟨Q, 1, none⟩ (.int .i64 n0)).setCell ⟨Q, 2, none⟩ (.int .i64 0)).setCell ⟨Q, 3, none⟩ (.int .i64 0)).setCell ⟨Q, 4, none⟩ (.string { data := #[] })).setCell ⟨Q, 5, none⟩ (.int .i64 0)).setCell ⟨Q, 6, none⟩ (.int .i64 0)).setCell ⟨Q, 7, none⟩ (.int .i64 0)).setCell ⟨Q, 8, none⟩ (.int .i64 0)).setCell ⟨Q, 9, none⟩ (.int .i64 0)).setCell ⟨Q, 10, none⟩ (.int .i64 0)).setCell ⟨Q, 11, none⟩ (.int .i64 0)) Q [.int .i64 5, .int .i64 n0, .int .i64 0, .int .i64 0, .string { data := #[] }, .int .i64 0, .int .i64 0, .int .i64 0, .int .i64 0, .int .i64 0, .int .i64 0, .int .i64 0] 26 ∧ Below w.heap.size w ((((((((((((V3.setCell ⟨Q, 0, none⟩ (.int .i64 5)).setCell ⟨Q, 1, none⟩ (.int .i64 n0)).setCell ⟨Q, 2, none⟩ (.int .i64 0)).setCell ⟨Q, 3, none⟩ (.int .i64 0)).setCell ⟨Q, 4, none⟩ (.string { data := #[] })).setCell ⟨Q, 5, none⟩ (.int .i64 0)).setCell ⟨Q, 6, none⟩ (.int .i64 0)).setCell ⟨Q, 7, none⟩ (.int .i64 0)).setCell ⟨Q, 8, none⟩ (.int .i64 0)).setCell ⟨Q, 9, none⟩ (.int .i64 0)).setCell ⟨Q, 10, none⟩ (.int .i64 0)).setCell ⟨Q, 11, none⟩ (.int .i64 0))) := Lib.hid (HB.out.1.fill _ _ _ _ _ _ _ _ _ _ _ _)
    clear q0 g0 q1 g1 q2 g2 q3 g3 q4 g4 q5 g5 q6 g6 q7 g7 q8 g8 q9 g9 q10 g10 q11 g11
    revert HW9
    generalize ((((((((((((V3.setCell ⟨Q, 0, none⟩ (.int .i64 5)).setCell ⟨Q, 1, none⟩ (.int .i64 n0)).setCell ⟨Q, 2, none⟩ (.int .i64 0)).setCell ⟨Q, 3, none⟩ (.int .i64 0)).setCell ⟨Q, 4, none⟩ (.string { data := #[] })).setCell ⟨Q, 5, none⟩ (.int .i64 0)).setCell ⟨Q, 6, none⟩ (.int .i64 0)).setCell ⟨Q, 7, none⟩ (.int .i64 0)).setCell ⟨Q, 8, none⟩ (.int .i64 0)).setCell ⟨Q, 9, none⟩ (.int .i64 0)).setCell ⟨Q, 10, none⟩ (.int .i64 0)).setCell ⟨Q, 11, none⟩ (.int .i64 0)) = W9
    intro HW9
    have r0 := HW9.out.1.cell (i := 0) rfl
    have r1 := HW9.out.1.cell (i := 1) rfl
    have r2 := HW9.out.1.cell (i := 2) rfl
    have r3 := HW9.out.1.cell (i := 3) rfl
    have r4 := HW9.out.1.cell (i := 4) rfl
    have r5 := HW9.out.1.cell (i := 5) rfl
    have r6 := HW9.out.1.cell (i := 6) rfl
    have r7 := HW9.out.1.cell (i := 7) rfl
    have r8 := HW9.out.1.cell (i := 8) rfl
    have r9 := HW9.out.1.cell (i := 9) rfl
    have r10 := HW9.out.1.cell (i := 10) rfl
    have r11 := HW9.out.1.cell (i := 11) rfl
    (try simp only [Exit.inBlock, Exit.then])
    exact bodyPost_ret (v := .agg x.c.toArray) (by rw [← HX.out]; simp [results, Tryz.results29, go_sem, r0, r1, r2, r3, r4, r5, r6, r7, r8, r9, r10, r11, Ev.c]) rfl ⟨rfl, HW9.out.2⟩
  by_cases h7 : c1.data.toList = [115, 116, 101, 112]
  · obtain ⟨u0, hu0⟩ : ∃ v, (Tx.parse (Lo.at L 1).data.toList).1 = v := ⟨_, rfl⟩
    obtain ⟨u1, hu1⟩ : ∃ v, Lo.num (Lo.at L 2).data.toList = v := ⟨_, rfl⟩
    obtain ⟨u2, hu2⟩ : ∃ v, Lo.lst Lo.word (Lo.at L 3) 15 = v := ⟨_, rfl⟩
    obtain ⟨u3, hu3⟩ : ∃ v, Lo.num (Lo.at L 4).data.toList = v := ⟨_, rfl⟩
    obtain ⟨u4, hu4⟩ : ∃ v, Lo.num (Lo.at L 5).data.toList = v := ⟨_, rfl⟩
    obtain ⟨u5, hu5⟩ : ∃ v, Lo.lst Le.word (Lo.at L 6) 6 = v := ⟨_, rfl⟩
    have HS := Lib.hid (And.intro hu0 (And.intro hu1 (And.intro hu2 (And.intro hu3 (And.intro hu4 hu5)))))
    have HX : Hid ((⟨8, n0, 0, 0, { data := #[] }, 0, u0, u1, u2, u3, u4, u5⟩ : Ev) = x) := Lib.hid (by rw [← hx, h7, Lo.rd_step, hn0, hL, hu0, hu1, hu2, hu3, hu4, hu5])
    have b0 := Lo.txt_ne h0
    have b1 := Lo.txt_ne h1
    have b2 := Lo.txt_ne h2
    have b3 := Lo.txt_ne h3
    have b4 := Lo.txt_ne h4
    have b5 := Lo.txt_ne h5
    have b6 := Lo.txt_ne h6
    have b7 := Lo.txt_eq h7
    clear hx hv hn0 hn1 hn3 hL h0 h1 h2 h3 h4 h5 h6 h7
    clear hu0 hu1 hu2 hu3 hu4 hu5
    go_wp2_with (first
      | (go_at_call 44; (with_reducible refine (lo_number bk L n HU.out.1 hn2 HU.out.2 0 0 rfl n0 HV.out.2.1 _ _ HB.out.2 (HI.out.1.below HB.out.1.be)).mono ?_); rintro e1 V3 ⟨rfl, q3⟩; have HBn := Lib.hid (And.intro (HB.out.1.below q3) (HB.out.2.chg (l := []) (Chg.of_fresh q3) (by simp))); clear HB; have HB := HBn; clear HBn q3)
      | (go_at_call 46; (with_reducible refine (lo_readStep bk L n HU.out.1 hn2 HU.out.2 u0 u1 u2 u3 u4 u5 HS.out.1 HS.out.2.1 HS.out.2.2.1 HS.out.2.2.2.1 HS.out.2.2.2.2.1 HS.out.2.2.2.2.2 _ _ HB.out.2 (HI.out.1.below HB.out.1.be) (HI.out.2.1.below HB.out.1.be) (HI.out.2.2.below HB.out.1.be)).mono ?_); rintro e1 V3 ⟨rfl, q3⟩; have HBn := Lib.hid (And.intro (HB.out.1.below q3) (HB.out.2.chg (l := []) (Chg.of_fresh q3) (by simp))); clear HB; have HB := HBn; clear HBn q3; have q0 := HB.out.1.bq.cell (i := 0) rfl; have g0 := HB.out.1.bq.free 0; have q1 := HB.out.1.bq.cell (i := 1) rfl; have g1 := HB.out.1.bq.free 1; have q2 := HB.out.1.bq.cell (i := 2) rfl; have g2 := HB.out.1.bq.free 2; have q3 := HB.out.1.bq.cell (i := 3) rfl; have g3 := HB.out.1.bq.free 3; have q4 := HB.out.1.bq.cell (i := 4) rfl; have g4 := HB.out.1.bq.free 4; have q5 := HB.out.1.bq.cell (i := 5) rfl; have g5 := HB.out.1.bq.free 5; have q6 := HB.out.1.bq.cell (i := 6) rfl; have g6 := HB.out.1.bq.free 6; have q7 := HB.out.1.bq.cell (i := 7) rfl; have g7 := HB.out.1.bq.free 7; have q8 := HB.out.1.bq.cell (i := 8) rfl; have g8 := HB.out.1.bq.free 8; have q9 := HB.out.1.bq.cell (i := 9) rfl; have g9 := HB.out.1.bq.free 9; have q10 := HB.out.1.bq.cell (i := 10) rfl; have g10 := HB.out.1.bq.free 10; have q11 := HB.out.1.bq.cell (i := 11) rfl; have g11 := HB.out.1.bq.free 11))
    have HW9 : Hid (Blk ((((((((((((V3.setCell ⟨Q, 0, none⟩ (.int .i64 8)).setCell ⟨Q, 1, none⟩ (.int .i64 n0)).setCell ⟨Q, 2, none⟩ (.int .i64 0)).setCell ⟨Q, 3, none⟩ (.int .i64 0)).setCell ⟨Q, 4, none⟩ (.string { data := #[] })).setCell ⟨Q, 5, none⟩ (.int .i64 0)).setCell ⟨Q, 6, none⟩ (.int .i64 u0)).setCell ⟨Q, 7, none⟩ (.int .i64 u1)).setCell ⟨Q, 8, none⟩ (.int .i64 u2)).setCell ⟨Q, 9, none⟩ (.int .i64 u3)).setCell ⟨Q, 10, none⟩ (.int .i64 u4)).setCell ⟨Q, 11, none⟩ (.int .i64 u5)) Q [.int .i64 8, .int .i64 n0, .int .i64 0, .int .i64 0, .string { data := #[] }, .int .i64 0, .int .i64 u0, .int .i64 u1, .int .i64 u2, .int .i64 u3, .int .i64 u4, .int .i64 u5] 26 ∧ Below w.heap.size w ((((((((((((V3.setCell ⟨Q, 0, none⟩ (.int .i64 8)).setCell ⟨Q, 1, none⟩ (.int .i64 n0)).setCell ⟨Q, 2, none⟩ (.int .i64 0)).setCell ⟨Q, 3, none⟩ (.int .i64 0)).setCell ⟨Q, 4, none⟩ (.string { data := #[] })).setCell ⟨Q, 5, none⟩ (.int .i64 0)).setCell ⟨Q, 6, none⟩ (.int .i64 u0)).setCell ⟨Q, 7, none⟩ (.int .i64 u1)).setCell ⟨Q, 8, none⟩ (.int .i64 u2)).setCell ⟨Q, 9, none⟩ (.int .i64 u3)).setCell ⟨Q, 10, none⟩ (.int .i64 u4)).setCell ⟨Q, 11, none⟩ (.int .i64 u5))) := Lib.hid (HB.out.1.fill _ _ _ _ _ _ _ _ _ _ _ _)
    clear q0 g0 q1 g1 q2 g2 q3 g3 q4 g4 q5 g5 q6 g6 q7 g7 q8 g8 q9 g9 q10 g10 q11 g11
    revert HW9
    generalize ((((((((((((V3.setCell ⟨Q, 0, none⟩ (.int .i64 8)).setCell ⟨Q, 1, none⟩ (.int .i64 n0)).setCell ⟨Q, 2, none⟩ (.int .i64 0)).setCell ⟨Q, 3, none⟩ (.int .i64 0)).setCell ⟨Q, 4, none⟩ (.string { data := #[] })).setCell ⟨Q, 5, none⟩ (.int .i64 0)).setCell ⟨Q, 6, none⟩ (.int .i64 u0)).setCell ⟨Q, 7, none⟩ (.int .i64 u1)).setCell ⟨Q, 8, none⟩ (.int .i64 u2)).setCell ⟨Q, 9, none⟩ (.int .i64 u3)).setCell ⟨Q, 10, none⟩ (.int .i64 u4)).setCell ⟨Q, 11, none⟩ (.int .i64 u5)) = W9
    intro HW9
    have r0 := HW9.out.1.cell (i := 0) rfl
    have r1 := HW9.out.1.cell (i := 1) rfl
    have r2 := HW9.out.1.cell (i := 2) rfl
    have r3 := HW9.out.1.cell (i := 3) rfl
    have r4 := HW9.out.1.cell (i := 4) rfl
    have r5 := HW9.out.1.cell (i := 5) rfl
    have r6 := HW9.out.1.cell (i := 6) rfl
    have r7 := HW9.out.1.cell (i := 7) rfl
    have r8 := HW9.out.1.cell (i := 8) rfl
    have r9 := HW9.out.1.cell (i := 9) rfl
    have r10 := HW9.out.1.cell (i := 10) rfl
    have r11 := HW9.out.1.cell (i := 11) rfl
    (try simp only [Exit.inBlock, Exit.then])
    exact bodyPost_ret (v := .agg x.c.toArray) (by rw [← HX.out]; simp [results, Tryz.results29, go_sem, r0, r1, r2, r3, r4, r5, r6, r7, r8, r9, r10, r11, Ev.c]) rfl ⟨rfl, HW9.out.2⟩
  by_cases h8 : c1.data.toList = [115, 116, 111, 112]
  · have HX : Hid ((⟨9, 0, 0, 0, { data := #[] }, 0, 0, 0, 0, 0, 0, 0⟩ : Ev) = x) := Lib.hid (by rw [← hx, h8, Lo.rd_stop])
    have b0 := Lo.txt_ne h0
    have b1 := Lo.txt_ne h1
    have b2 := Lo.txt_ne h2
    have b3 := Lo.txt_ne h3
    have b4 := Lo.txt_ne h4
    have b5 := Lo.txt_ne h5
    have b6 := Lo.txt_ne h6
    have b7 := Lo.txt_ne h7
    have b8 := Lo.txt_eq h8
    clear hx hv hn0 hn1 hn3 hL h0 h1 h2 h3 h4 h5 h6 h7 h8
    have q0 := HB.out.1.bq.cell (i := 0) rfl
    have g0 := HB.out.1.bq.free 0
    have q1 := HB.out.1.bq.cell (i := 1) rfl
    have g1 := HB.out.1.bq.free 1
    have q2 := HB.out.1.bq.cell (i := 2) rfl
    have g2 := HB.out.1.bq.free 2
    have q3 := HB.out.1.bq.cell (i := 3) rfl
    have g3 := HB.out.1.bq.free 3
    have q4 := HB.out.1.bq.cell (i := 4) rfl
    have g4 := HB.out.1.bq.free 4
    have q5 := HB.out.1.bq.cell (i := 5) rfl
    have g5 := HB.out.1.bq.free 5
    have q6 := HB.out.1.bq.cell (i := 6) rfl
    have g6 := HB.out.1.bq.free 6
    have q7 := HB.out.1.bq.cell (i := 7) rfl
    have g7 := HB.out.1.bq.free 7
    have q8 := HB.out.1.bq.cell (i := 8) rfl
    have g8 := HB.out.1.bq.free 8
    have q9 := HB.out.1.bq.cell (i := 9) rfl
    have g9 := HB.out.1.bq.free 9
    have q10 := HB.out.1.bq.cell (i := 10) rfl
    have g10 := HB.out.1.bq.free 10
    have q11 := HB.out.1.bq.cell (i := 11) rfl
    have g11 := HB.out.1.bq.free 11
    go_wp2_with fail
    have HW9 : Hid (Blk ((((((((((((V2.setCell ⟨Q, 0, none⟩ (.int .i64 9)).setCell ⟨Q, 1, none⟩ (.int .i64 0)).setCell ⟨Q, 2, none⟩ (.int .i64 0)).setCell ⟨Q, 3, none⟩ (.int .i64 0)).setCell ⟨Q, 4, none⟩ (.string { data := #[] })).setCell ⟨Q, 5, none⟩ (.int .i64 0)).setCell ⟨Q, 6, none⟩ (.int .i64 0)).setCell ⟨Q, 7, none⟩ (.int .i64 0)).setCell ⟨Q, 8, none⟩ (.int .i64 0)).setCell ⟨Q, 9, none⟩ (.int .i64 0)).setCell ⟨Q, 10, none⟩ (.int .i64 0)).setCell ⟨Q, 11, none⟩ (.int .i64 0)) Q [.int .i64 9, .int .i64 0, .int .i64 0, .int .i64 0, .string { data := #[] }, .int .i64 0, .int .i64 0, .int .i64 0, .int .i64 0, .int .i64 0, .int .i64 0, .int .i64 0] 26 ∧ Below w.heap.size w ((((((((((((V2.setCell ⟨Q, 0, none⟩ (.int .i64 9)).setCell ⟨Q, 1, none⟩ (.int .i64 0)).setCell ⟨Q, 2, none⟩ (.int .i64 0)).setCell ⟨Q, 3, none⟩ (.int .i64 0)).setCell ⟨Q, 4, none⟩ (.string { data := #[] })).setCell ⟨Q, 5, none⟩ (.int .i64 0)).setCell ⟨Q, 6, none⟩ (.int .i64 0)).setCell ⟨Q, 7, none⟩ (.int .i64 0)).setCell ⟨Q, 8, none⟩ (.int .i64 0)).setCell ⟨Q, 9, none⟩ (.int .i64 0)).setCell ⟨Q, 10, none⟩ (.int .i64 0)).setCell ⟨Q, 11, none⟩ (.int .i64 0))) := Lib.hid (HB.out.1.fill _ _ _ _ _ _ _ _ _ _ _ _)
    clear q0 g0 q1 g1 q2 g2 q3 g3 q4 g4 q5 g5 q6 g6 q7 g7 q8 g8 q9 g9 q10 g10 q11 g11
    revert HW9
    generalize ((((((((((((V2.setCell ⟨Q, 0, none⟩ (.int .i64 9)).setCell ⟨Q, 1, none⟩ (.int .i64 0)).setCell ⟨Q, 2, none⟩ (.int .i64 0)).setCell ⟨Q, 3, none⟩ (.int .i64 0)).setCell ⟨Q, 4, none⟩ (.string { data := #[] })).setCell ⟨Q, 5, none⟩ (.int .i64 0)).setCell ⟨Q, 6, none⟩ (.int .i64 0)).setCell ⟨Q, 7, none⟩ (.int .i64 0)).setCell ⟨Q, 8, none⟩ (.int .i64 0)).setCell ⟨Q, 9, none⟩ (.int .i64 0)).setCell ⟨Q, 10, none⟩ (.int .i64 0)).setCell ⟨Q, 11, none⟩ (.int .i64 0)) = W9
    intro HW9
    have r0 := HW9.out.1.cell (i := 0) rfl
    have r1 := HW9.out.1.cell (i := 1) rfl
    have r2 := HW9.out.1.cell (i := 2) rfl
    have r3 := HW9.out.1.cell (i := 3) rfl
    have r4 := HW9.out.1.cell (i := 4) rfl
    have r5 := HW9.out.1.cell (i := 5) rfl
    have r6 := HW9.out.1.cell (i := 6) rfl
    have r7 := HW9.out.1.cell (i := 7) rfl
    have r8 := HW9.out.1.cell (i := 8) rfl
    have r9 := HW9.out.1.cell (i := 9) rfl
    have r10 := HW9.out.1.cell (i := 10) rfl
    have r11 := HW9.out.1.cell (i := 11) rfl
    (try simp only [Exit.inBlock, Exit.then])
    exact bodyPost_ret (v := .agg x.c.toArray) (by rw [← HX.out]; simp [results, Tryz.results29, go_sem, r0, r1, r2, r3, r4, r5, r6, r7, r8, r9, r10, r11, Ev.c]) rfl ⟨rfl, HW9.out.2⟩
  have HX : Hid ((⟨0, 0, 0, 0, { data := #[] }, 0, 0, 0, 0, 0, 0, 0⟩ : Ev) = x) := Lib.hid (by rw [← hx]; unfold Lo.rd; rw [if_neg h0, if_neg h1, if_neg h2, if_neg h3, if_neg h4, if_neg h5, if_neg h6, if_neg h7, if_neg h8])
  have b0 := Lo.txt_ne h0
  have b1 := Lo.txt_ne h1
  have b2 := Lo.txt_ne h2
  have b3 := Lo.txt_ne h3
  have b4 := Lo.txt_ne h4
  have b5 := Lo.txt_ne h5
  have b6 := Lo.txt_ne h6
  have b7 := Lo.txt_ne h7
  have b8 := Lo.txt_ne h8
  clear hx hv hn0 hn1 hn3 hL h0 h1 h2 h3 h4 h5 h6 h7 h8
  have q0 := HB.out.1.bq.cell (i := 0) rfl
  have g0 := HB.out.1.bq.free 0
  have q1 := HB.out.1.bq.cell (i := 1) rfl
  have g1 := HB.out.1.bq.free 1
  have q2 := HB.out.1.bq.cell (i := 2) rfl
  have g2 := HB.out.1.bq.free 2
  have q3 := HB.out.1.bq.cell (i := 3) rfl
  have g3 := HB.out.1.bq.free 3
  have q4 := HB.out.1.bq.cell (i := 4) rfl
  have g4 := HB.out.1.bq.free 4
  have q5 := HB.out.1.bq.cell (i := 5) rfl
  have g5 := HB.out.1.bq.free 5
  have q6 := HB.out.1.bq.cell (i := 6) rfl
  have g6 := HB.out.1.bq.free 6
  have q7 := HB.out.1.bq.cell (i := 7) rfl
  have g7 := HB.out.1.bq.free 7
  have q8 := HB.out.1.bq.cell (i := 8) rfl
  have g8 := HB.out.1.bq.free 8
  have q9 := HB.out.1.bq.cell (i := 9) rfl
  have g9 := HB.out.1.bq.free 9
  have q10 := HB.out.1.bq.cell (i := 10) rfl
  have g10 := HB.out.1.bq.free 10
  have q11 := HB.out.1.bq.cell (i := 11) rfl
  have g11 := HB.out.1.bq.free 11
  go_wp2_with fail
  have HW9 : Hid (Blk ((((((((((((V2.setCell ⟨Q, 0, none⟩ (.int .i64 0)).setCell ⟨Q, 1, none⟩ (.int .i64 0)).setCell ⟨Q, 2, none⟩ (.int .i64 0)).setCell ⟨Q, 3, none⟩ (.int .i64 0)).setCell ⟨Q, 4, none⟩ (.string { data := #[] })).setCell ⟨Q, 5, none⟩ (.int .i64 0)).setCell ⟨Q, 6, none⟩ (.int .i64 0)).setCell ⟨Q, 7, none⟩ (.int .i64 0)).setCell ⟨Q, 8, none⟩ (.int .i64 0)).setCell ⟨Q, 9, none⟩ (.int .i64 0)).setCell ⟨Q, 10, none⟩ (.int .i64 0)).setCell ⟨Q, 11, none⟩ (.int .i64 0)) Q [.int .i64 0, .int .i64 0, .int .i64 0, .int .i64 0, .string { data := #[] }, .int .i64 0, .int .i64 0, .int .i64 0, .int .i64 0, .int .i64 0, .int .i64 0, .int .i64 0] 26 ∧ Below w.heap.size w ((((((((((((V2.setCell ⟨Q, 0, none⟩ (.int .i64 0)).setCell ⟨Q, 1, none⟩ (.int .i64 0)).setCell ⟨Q, 2, none⟩ (.int .i64 0)).setCell ⟨Q, 3, none⟩ (.int .i64 0)).setCell ⟨Q, 4, none⟩ (.string { data := #[] })).setCell ⟨Q, 5, none⟩ (.int .i64 0)).setCell ⟨Q, 6, none⟩ (.int .i64 0)).setCell ⟨Q, 7, none⟩ (.int .i64 0)).setCell ⟨Q, 8, none⟩ (.int .i64 0)).setCell ⟨Q, 9, none⟩ (.int .i64 0)).setCell ⟨Q, 10, none⟩ (.int .i64 0)).setCell ⟨Q, 11, none⟩ (.int .i64 0))) := Lib.hid (HB.out.1.fill _ _ _ _ _ _ _ _ _ _ _ _)
  clear q0 g0 q1 g1 q2 g2 q3 g3 q4 g4 q5 g5 q6 g6 q7 g7 q8 g8 q9 g9 q10 g10 q11 g11
  revert HW9
  generalize ((((((((((((V2.setCell ⟨Q, 0, none⟩ (.int .i64 0)).setCell ⟨Q, 1, none⟩ (.int .i64 0)).setCell ⟨Q, 2, none⟩ (.int .i64 0)).setCell ⟨Q, 3, none⟩ (.int .i64 0)).setCell ⟨Q, 4, none⟩ (.string { data := #[] })).setCell ⟨Q, 5, none⟩ (.int .i64 0)).setCell ⟨Q, 6, none⟩ (.int .i64 0)).setCell ⟨Q, 7, none⟩ (.int .i64 0)).setCell ⟨Q, 8, none⟩ (.int .i64 0)).setCell ⟨Q, 9, none⟩ (.int .i64 0)).setCell ⟨Q, 10, none⟩ (.int .i64 0)).setCell ⟨Q, 11, none⟩ (.int .i64 0)) = W9
  intro HW9
  have r0 := HW9.out.1.cell (i := 0) rfl
  have r1 := HW9.out.1.cell (i := 1) rfl
  have r2 := HW9.out.1.cell (i := 2) rfl
  have r3 := HW9.out.1.cell (i := 3) rfl
  have r4 := HW9.out.1.cell (i := 4) rfl
  have r5 := HW9.out.1.cell (i := 5) rfl
  have r6 := HW9.out.1.cell (i := 6) rfl
  have r7 := HW9.out.1.cell (i := 7) rfl
  have r8 := HW9.out.1.cell (i := 8) rfl
  have r9 := HW9.out.1.cell (i := 9) rfl
  have r10 := HW9.out.1.cell (i := 10) rfl
  have r11 := HW9.out.1.cell (i := 11) rfl
  (try simp only [Exit.inBlock, Exit.then])
  exact bodyPost_ret (v := .agg x.c.toArray) (by rw [← HX.out]; simp [results, Tryz.results29, go_sem, r0, r1, r2, r3, r4, r5, r6, r7, r8, r9, r10, r11, Ev.c]) rfl ⟨rfl, HW9.out.2⟩
end Go.Proofs.YtfhhkmjjifbfeaaGreatDoor
/- Log: the event of a line. -/
namespace Go.Proofs.YtfhhkmjjifbfeaaGreatDoor
open Go.ChangeShapes Go.WideShapes Go.ChangeAt Go.RowKit
set_option linter.unusedSimpArgs false
set_option linter.unusedVariables false

theorem lo_print12 (k i n t : Int) (b : ByteArray) (e s0 s1 s2 s3 s4 s5 : Int) (hok : Ev.ok ⟨k, i, n, t, b, e, s0, s1, s2, s3, s4, s5⟩) (hb : b.size ≤ 4000) (R : ByteArray) (er : Int) (hR : Lo.pr ⟨k, i, n, t, b, e, s0, s1, s2, s3, s4, s5⟩ = (R, er)) (w : World) (htab : Lib.TabIs Tryz.prog w "internal/strconv.uint64pow10" .u64 Lib.pow10Tab) (hwi : WI w) (hsi : SI w) :
    Calls Tryz.prog 7 #[.agg #[.int .i64 k, .int .i64 i, .int .i64 n, .int .i64 t, .string b, .int .i64 e, .int .i64 s0, .int .i64 s1, .int .i64 s2, .int .i64 s3, .int .i64 s4, .int .i64 s5]] w fun e w' => e = .returned (.tuple #[.string R, .int .i64 er]) ∧ Below w.heap.size w w' := lo_print ⟨k, i, n, t, b, e, s0, s1, s2, s3, s4, s5⟩ hok hb R er hR w htab hwi hsi
theorem lo_read12 (s : ByteArray) (hs : s.size ≤ 4000) (k i n t : Int) (b : ByteArray) (e s0 s1 s2 s3 s4 s5 : Int) (hx : Lo.read s.data.toList = ⟨k, i, n, t, b, e, s0, s1, s2, s3, s4, s5⟩) (w : World) (hni : NI w) (hwi : WI w) (hsi : SI w) :
    Calls Tryz.prog 29 #[.string s] w fun r w' => r = .returned (.agg #[.int .i64 k, .int .i64 i, .int .i64 n, .int .i64 t, .string b, .int .i64 e, .int .i64 s0, .int .i64 s1, .int .i64 s2, .int .i64 s3, .int .i64 s4, .int .i64 s5]) ∧ Below w.heap.size w w' := lo_read s hs ⟨k, i, n, t, b, e, s0, s1, s2, s3, s4, s5⟩ hx w hni hwi hsi
set_option maxRecDepth 20000 in
set_option maxHeartbeats 16000000 in
theorem lo_parse (s : ByteArray) (hs : s.size ≤ 4000) (x : Ev) (er : Int) (hx : Lo.parse s = (x, er)) (w : World) (htab : Lib.TabIs Tryz.prog w "internal/strconv.uint64pow10" .u64 Lib.pow10Tab) (hni : NI w) (hwi : WI w) (hsi : SI w) :
    Calls Tryz.prog 15 #[.string s] w fun e w' => e = .returned (.tuple #[.agg x.c.toArray, .int .i64 er]) ∧ Below w.heap.size w w' := by
  obtain ⟨y, hy⟩ : ∃ y, Lo.read s.data.toList = y := ⟨_, rfl⟩
  have hyo := Lo.read_ok s.data.toList (by have : s.data.toList.length = s.size := rfl; omega)
  have hsz : s.data.toList.length = s.size := rfl
  rw [hy] at hyo
  obtain ⟨k, i, n, t, b, e, s0, s1, s2, s3, s4, s5⟩ := y
  have hyb : b.size ≤ 4000 := by have := hyo.2; dsimp only at this; omega
  obtain ⟨R, pe, hp⟩ : ∃ R pe, Lo.pr ⟨k, i, n, t, b, e, s0, s1, s2, s3, s4, s5⟩ = (R, pe) := ⟨_, _, rfl⟩
  unfold Lo.parse at hx
  rw [hy, hp] at hx
  have HC := Lib.hid (And.intro hs (And.intro hy (And.intro hp (And.intro hyo.1 hyb))))
  have HI := Lib.hid (And.intro htab (And.intro hni (And.intro hwi hsi)))
  have HQ : Hid (LQ w (w.alloc (.cells #[.int .i64 0, .int .i64 0, .int .i64 0, .int .i64 0, .string { data := #[] }, .int .i64 0, .int .i64 0, .int .i64 0, .int .i64 0, .int .i64 0, .int .i64 0, .int .i64 0] 26)) w.heap.size) := Lib.hid (LQ.new w)
  clear hs hy hp hyo hyb hsz htab hni hwi hsi
  go_enter Tryz.func15, Tryz.ntmps15
  go_upto_region 1 with fail
  revert HQ
  generalize (w.alloc (.cells #[.int .i64 0, .int .i64 0, .int .i64 0, .int .i64 0, .string { data := #[] }, .int .i64 0, .int .i64 0, .int .i64 0, .int .i64 0, .int .i64 0, .int .i64 0, .int .i64 0] 26)) = W0
  generalize w.heap.size = Q
  intro HQ
  go_upto_region 2 with (go_at_call 29; (with_reducible refine (lo_read12 s HC.out.1 k i n t b e s0 s1 s2 s3 s4 s5 HC.out.2.1 _ (HI.out.2.1.below HQ.out.be) (HI.out.2.2.1.below HQ.out.be) (HI.out.2.2.2.below HQ.out.be)).mono ?_); rintro e1 V1 ⟨rfl, q3⟩; have HQn := Lib.hid (HQ.out.below q3); clear HQ; have HQ := HQn; clear HQn q3)
  have HB : Hid (LQ w (V1.alloc (.cells #[.int .i64 k, .int .i64 i, .int .i64 n, .int .i64 t, .string b, .int .i64 e, .int .i64 s0, .int .i64 s1, .int .i64 s2, .int .i64 s3, .int .i64 s4, .int .i64 s5] 26)) Q ∧ Blk (V1.alloc (.cells #[.int .i64 k, .int .i64 i, .int .i64 n, .int .i64 t, .string b, .int .i64 e, .int .i64 s0, .int .i64 s1, .int .i64 s2, .int .i64 s3, .int .i64 s4, .int .i64 s5] 26)) V1.heap.size [.int .i64 k, .int .i64 i, .int .i64 n, .int .i64 t, .string b, .int .i64 e, .int .i64 s0, .int .i64 s1, .int .i64 s2, .int .i64 s3, .int .i64 s4, .int .i64 s5] 26) := Lib.hid ⟨HQ.out.below ((Below.refl _ _).alloc (Nat.le_refl _) _), Blk.newA _ _ _⟩
  clear HQ
  revert HB
  generalize (V1.alloc (.cells #[.int .i64 k, .int .i64 i, .int .i64 n, .int .i64 t, .string b, .int .i64 e, .int .i64 s0, .int .i64 s1, .int .i64 s2, .int .i64 s3, .int .i64 s4, .int .i64 s5] 26)) = W1
  generalize V1.heap.size = X
  intro HB
  have d0 := HB.out.2.cell (i := 0) rfl
  have d1 := HB.out.2.cell (i := 1) rfl
  have d2 := HB.out.2.cell (i := 2) rfl
  have d3 := HB.out.2.cell (i := 3) rfl
  have d4 := HB.out.2.cell (i := 4) rfl
  have d5 := HB.out.2.cell (i := 5) rfl
  have d6 := HB.out.2.cell (i := 6) rfl
  have d7 := HB.out.2.cell (i := 7) rfl
  have d8 := HB.out.2.cell (i := 8) rfl
  have d9 := HB.out.2.cell (i := 9) rfl
  have d10 := HB.out.2.cell (i := 10) rfl
  have d11 := HB.out.2.cell (i := 11) rfl
  go_upto_region 3 with (go_at_call 7; (with_reducible refine (lo_print12 k i n t b e s0 s1 s2 s3 s4 s5 HC.out.2.2.2.1 HC.out.2.2.2.2 R pe HC.out.2.2.1 _ (tab_below HB.out.1.be HI.out.1) (HI.out.2.2.1.below HB.out.1.be) (HI.out.2.2.2.below HB.out.1.be)).mono ?_); rintro e1 V2 ⟨rfl, q3⟩; have HBn := Lib.hid (And.intro (HB.out.1.below q3) (HB.out.2.chg (l := []) (Chg.of_fresh q3) (by simp))); clear HB; have HB := HBn; clear HBn q3)
  clear d0 d1 d2 d3 d4 d5 d6 d7 d8 d9 d10 d11
  by_cases hpe : pe = 0
  · subst hpe
    by_cases hR : R = s
    · subst hR
      rw [if_pos rfl] at hx
      have HX : Hid ((⟨k, i, n, t, b, e, s0, s1, s2, s3, s4, s5⟩ : Ev) = x ∧ (0 : Int) = er) := Lib.hid (Prod.mk.inj hx)
      have b1 : (R.toList == R.toList) = true := by simp
      clear hx
      have q0 := HB.out.1.bq.cell (i := 0) rfl
      have g0 := HB.out.1.bq.free 0
      have q1 := HB.out.1.bq.cell (i := 1) rfl
      have g1 := HB.out.1.bq.free 1
      have q2 := HB.out.1.bq.cell (i := 2) rfl
      have g2 := HB.out.1.bq.free 2
      have q3 := HB.out.1.bq.cell (i := 3) rfl
      have g3 := HB.out.1.bq.free 3
      have q4 := HB.out.1.bq.cell (i := 4) rfl
      have g4 := HB.out.1.bq.free 4
      have q5 := HB.out.1.bq.cell (i := 5) rfl
      have g5 := HB.out.1.bq.free 5
      have q6 := HB.out.1.bq.cell (i := 6) rfl
      have g6 := HB.out.1.bq.free 6
      have q7 := HB.out.1.bq.cell (i := 7) rfl
      have g7 := HB.out.1.bq.free 7
      have q8 := HB.out.1.bq.cell (i := 8) rfl
      have g8 := HB.out.1.bq.free 8
      have q9 := HB.out.1.bq.cell (i := 9) rfl
      have g9 := HB.out.1.bq.free 9
      have q10 := HB.out.1.bq.cell (i := 10) rfl
      have g10 := HB.out.1.bq.free 10
      have q11 := HB.out.1.bq.cell (i := 11) rfl
      have g11 := HB.out.1.bq.free 11
      have d0 := HB.out.2.cell (i := 0) rfl
      have d1 := HB.out.2.cell (i := 1) rfl
      have d2 := HB.out.2.cell (i := 2) rfl
      have d3 := HB.out.2.cell (i := 3) rfl
      have d4 := HB.out.2.cell (i := 4) rfl
      have d5 := HB.out.2.cell (i := 5) rfl
      have d6 := HB.out.2.cell (i := 6) rfl
      have d7 := HB.out.2.cell (i := 7) rfl
      have d8 := HB.out.2.cell (i := 8) rfl
      have d9 := HB.out.2.cell (i := 9) rfl
      have d10 := HB.out.2.cell (i := 10) rfl
      have d11 := HB.out.2.cell (i := 11) rfl
      go_wp2_with fail
      have HW9 : Hid (Blk ((((((((((((V2.setCell ⟨Q, 0, none⟩ (.int .i64 k)).setCell ⟨Q, 1, none⟩ (.int .i64 i)).setCell ⟨Q, 2, none⟩ (.int .i64 n)).setCell ⟨Q, 3, none⟩ (.int .i64 t)).setCell ⟨Q, 4, none⟩ (.string b)).setCell ⟨Q, 5, none⟩ (.int .i64 e)).setCell ⟨Q, 6, none⟩ (.int .i64 s0)).setCell ⟨Q, 7, none⟩ (.int .i64 s1)).setCell ⟨Q, 8, none⟩ (.int .i64 s2)).setCell ⟨Q, 9, none⟩ (.int .i64 s3)).setCell ⟨Q, 10, none⟩ (.int .i64 s4)).setCell ⟨Q, 11, none⟩ (.int .i64 s5)) Q [.int .i64 k, .int .i64 i, .int .i64 n, .int .i64 t, .string b, .int .i64 e, .int .i64 s0, .int .i64 s1, .int .i64 s2, .int .i64 s3, .int .i64 s4, .int .i64 s5] 26 ∧ Below w.heap.size w ((((((((((((V2.setCell ⟨Q, 0, none⟩ (.int .i64 k)).setCell ⟨Q, 1, none⟩ (.int .i64 i)).setCell ⟨Q, 2, none⟩ (.int .i64 n)).setCell ⟨Q, 3, none⟩ (.int .i64 t)).setCell ⟨Q, 4, none⟩ (.string b)).setCell ⟨Q, 5, none⟩ (.int .i64 e)).setCell ⟨Q, 6, none⟩ (.int .i64 s0)).setCell ⟨Q, 7, none⟩ (.int .i64 s1)).setCell ⟨Q, 8, none⟩ (.int .i64 s2)).setCell ⟨Q, 9, none⟩ (.int .i64 s3)).setCell ⟨Q, 10, none⟩ (.int .i64 s4)).setCell ⟨Q, 11, none⟩ (.int .i64 s5))) := Lib.hid (HB.out.1.fill _ _ _ _ _ _ _ _ _ _ _ _)
      clear q0 g0 d0 q1 g1 d1 q2 g2 d2 q3 g3 d3 q4 g4 d4 q5 g5 d5 q6 g6 d6 q7 g7 d7 q8 g8 d8 q9 g9 d9 q10 g10 d10 q11 g11 d11
      revert HW9
      generalize ((((((((((((V2.setCell ⟨Q, 0, none⟩ (.int .i64 k)).setCell ⟨Q, 1, none⟩ (.int .i64 i)).setCell ⟨Q, 2, none⟩ (.int .i64 n)).setCell ⟨Q, 3, none⟩ (.int .i64 t)).setCell ⟨Q, 4, none⟩ (.string b)).setCell ⟨Q, 5, none⟩ (.int .i64 e)).setCell ⟨Q, 6, none⟩ (.int .i64 s0)).setCell ⟨Q, 7, none⟩ (.int .i64 s1)).setCell ⟨Q, 8, none⟩ (.int .i64 s2)).setCell ⟨Q, 9, none⟩ (.int .i64 s3)).setCell ⟨Q, 10, none⟩ (.int .i64 s4)).setCell ⟨Q, 11, none⟩ (.int .i64 s5)) = W9
      intro HW9
      have r0 := HW9.out.1.cell (i := 0) rfl
      have r1 := HW9.out.1.cell (i := 1) rfl
      have r2 := HW9.out.1.cell (i := 2) rfl
      have r3 := HW9.out.1.cell (i := 3) rfl
      have r4 := HW9.out.1.cell (i := 4) rfl
      have r5 := HW9.out.1.cell (i := 5) rfl
      have r6 := HW9.out.1.cell (i := 6) rfl
      have r7 := HW9.out.1.cell (i := 7) rfl
      have r8 := HW9.out.1.cell (i := 8) rfl
      have r9 := HW9.out.1.cell (i := 9) rfl
      have r10 := HW9.out.1.cell (i := 10) rfl
      have r11 := HW9.out.1.cell (i := 11) rfl
      (try simp only [Exit.inBlock, Exit.then])
      exact bodyPost_ret (v := .tuple #[.agg x.c.toArray, .int .i64 er]) (by rw [← HX.out.1, ← HX.out.2]; simp [results, Tryz.results15, go_sem, r0, r1, r2, r3, r4, r5, r6, r7, r8, r9, r10, r11, Ev.c, Ev.none]) rfl ⟨rfl, HW9.out.2⟩
    · rw [if_neg (fun h => hR (Prod.mk.inj h).1)] at hx
      have HX : Hid (Ev.none = x ∧ (2 : Int) = er) := Lib.hid (Prod.mk.inj hx)
      have b1 : (R.toList == s.toList) = false := by
        rw [beq_eq_false_iff_ne]
        intro h
        rw [Lib.toList_data, Lib.toList_data] at h
        exact hR (ByteArray.ext (Array.ext' h))
      clear hx hR
      have q0 := HB.out.1.bq.cell (i := 0) rfl
      have g0 := HB.out.1.bq.free 0
      have q1 := HB.out.1.bq.cell (i := 1) rfl
      have g1 := HB.out.1.bq.free 1
      have q2 := HB.out.1.bq.cell (i := 2) rfl
      have g2 := HB.out.1.bq.free 2
      have q3 := HB.out.1.bq.cell (i := 3) rfl
      have g3 := HB.out.1.bq.free 3
      have q4 := HB.out.1.bq.cell (i := 4) rfl
      have g4 := HB.out.1.bq.free 4
      have q5 := HB.out.1.bq.cell (i := 5) rfl
      have g5 := HB.out.1.bq.free 5
      have q6 := HB.out.1.bq.cell (i := 6) rfl
      have g6 := HB.out.1.bq.free 6
      have q7 := HB.out.1.bq.cell (i := 7) rfl
      have g7 := HB.out.1.bq.free 7
      have q8 := HB.out.1.bq.cell (i := 8) rfl
      have g8 := HB.out.1.bq.free 8
      have q9 := HB.out.1.bq.cell (i := 9) rfl
      have g9 := HB.out.1.bq.free 9
      have q10 := HB.out.1.bq.cell (i := 10) rfl
      have g10 := HB.out.1.bq.free 10
      have q11 := HB.out.1.bq.cell (i := 11) rfl
      have g11 := HB.out.1.bq.free 11
      have d0 := HB.out.2.cell (i := 0) rfl
      have d1 := HB.out.2.cell (i := 1) rfl
      have d2 := HB.out.2.cell (i := 2) rfl
      have d3 := HB.out.2.cell (i := 3) rfl
      have d4 := HB.out.2.cell (i := 4) rfl
      have d5 := HB.out.2.cell (i := 5) rfl
      have d6 := HB.out.2.cell (i := 6) rfl
      have d7 := HB.out.2.cell (i := 7) rfl
      have d8 := HB.out.2.cell (i := 8) rfl
      have d9 := HB.out.2.cell (i := 9) rfl
      have d10 := HB.out.2.cell (i := 10) rfl
      have d11 := HB.out.2.cell (i := 11) rfl
      go_wp2_with fail
      have HW9 : Hid (Blk ((((((((((((V2.setCell ⟨Q, 0, none⟩ (.int .i64 0)).setCell ⟨Q, 1, none⟩ (.int .i64 0)).setCell ⟨Q, 2, none⟩ (.int .i64 0)).setCell ⟨Q, 3, none⟩ (.int .i64 0)).setCell ⟨Q, 4, none⟩ (.string { data := #[] })).setCell ⟨Q, 5, none⟩ (.int .i64 0)).setCell ⟨Q, 6, none⟩ (.int .i64 0)).setCell ⟨Q, 7, none⟩ (.int .i64 0)).setCell ⟨Q, 8, none⟩ (.int .i64 0)).setCell ⟨Q, 9, none⟩ (.int .i64 0)).setCell ⟨Q, 10, none⟩ (.int .i64 0)).setCell ⟨Q, 11, none⟩ (.int .i64 0)) Q [.int .i64 0, .int .i64 0, .int .i64 0, .int .i64 0, .string { data := #[] }, .int .i64 0, .int .i64 0, .int .i64 0, .int .i64 0, .int .i64 0, .int .i64 0, .int .i64 0] 26 ∧ Below w.heap.size w ((((((((((((V2.setCell ⟨Q, 0, none⟩ (.int .i64 0)).setCell ⟨Q, 1, none⟩ (.int .i64 0)).setCell ⟨Q, 2, none⟩ (.int .i64 0)).setCell ⟨Q, 3, none⟩ (.int .i64 0)).setCell ⟨Q, 4, none⟩ (.string { data := #[] })).setCell ⟨Q, 5, none⟩ (.int .i64 0)).setCell ⟨Q, 6, none⟩ (.int .i64 0)).setCell ⟨Q, 7, none⟩ (.int .i64 0)).setCell ⟨Q, 8, none⟩ (.int .i64 0)).setCell ⟨Q, 9, none⟩ (.int .i64 0)).setCell ⟨Q, 10, none⟩ (.int .i64 0)).setCell ⟨Q, 11, none⟩ (.int .i64 0))) := Lib.hid (HB.out.1.fill _ _ _ _ _ _ _ _ _ _ _ _)
      clear q0 g0 d0 q1 g1 d1 q2 g2 d2 q3 g3 d3 q4 g4 d4 q5 g5 d5 q6 g6 d6 q7 g7 d7 q8 g8 d8 q9 g9 d9 q10 g10 d10 q11 g11 d11
      revert HW9
      generalize ((((((((((((V2.setCell ⟨Q, 0, none⟩ (.int .i64 0)).setCell ⟨Q, 1, none⟩ (.int .i64 0)).setCell ⟨Q, 2, none⟩ (.int .i64 0)).setCell ⟨Q, 3, none⟩ (.int .i64 0)).setCell ⟨Q, 4, none⟩ (.string { data := #[] })).setCell ⟨Q, 5, none⟩ (.int .i64 0)).setCell ⟨Q, 6, none⟩ (.int .i64 0)).setCell ⟨Q, 7, none⟩ (.int .i64 0)).setCell ⟨Q, 8, none⟩ (.int .i64 0)).setCell ⟨Q, 9, none⟩ (.int .i64 0)).setCell ⟨Q, 10, none⟩ (.int .i64 0)).setCell ⟨Q, 11, none⟩ (.int .i64 0)) = W9
      intro HW9
      have r0 := HW9.out.1.cell (i := 0) rfl
      have r1 := HW9.out.1.cell (i := 1) rfl
      have r2 := HW9.out.1.cell (i := 2) rfl
      have r3 := HW9.out.1.cell (i := 3) rfl
      have r4 := HW9.out.1.cell (i := 4) rfl
      have r5 := HW9.out.1.cell (i := 5) rfl
      have r6 := HW9.out.1.cell (i := 6) rfl
      have r7 := HW9.out.1.cell (i := 7) rfl
      have r8 := HW9.out.1.cell (i := 8) rfl
      have r9 := HW9.out.1.cell (i := 9) rfl
      have r10 := HW9.out.1.cell (i := 10) rfl
      have r11 := HW9.out.1.cell (i := 11) rfl
      (try simp only [Exit.inBlock, Exit.then])
      exact bodyPost_ret (v := .tuple #[.agg x.c.toArray, .int .i64 er]) (by rw [← HX.out.1, ← HX.out.2]; simp [results, Tryz.results15, go_sem, r0, r1, r2, r3, r4, r5, r6, r7, r8, r9, r10, r11, Ev.c, Ev.none]) rfl ⟨rfl, HW9.out.2⟩
  · rw [if_neg (fun h => hpe (Prod.mk.inj h).2)] at hx
    have HX : Hid (Ev.none = x ∧ (2 : Int) = er) := Lib.hid (Prod.mk.inj hx)
    clear hx
    have q0 := HB.out.1.bq.cell (i := 0) rfl
    have g0 := HB.out.1.bq.free 0
    have q1 := HB.out.1.bq.cell (i := 1) rfl
    have g1 := HB.out.1.bq.free 1
    have q2 := HB.out.1.bq.cell (i := 2) rfl
    have g2 := HB.out.1.bq.free 2
    have q3 := HB.out.1.bq.cell (i := 3) rfl
    have g3 := HB.out.1.bq.free 3
    have q4 := HB.out.1.bq.cell (i := 4) rfl
    have g4 := HB.out.1.bq.free 4
    have q5 := HB.out.1.bq.cell (i := 5) rfl
    have g5 := HB.out.1.bq.free 5
    have q6 := HB.out.1.bq.cell (i := 6) rfl
    have g6 := HB.out.1.bq.free 6
    have q7 := HB.out.1.bq.cell (i := 7) rfl
    have g7 := HB.out.1.bq.free 7
    have q8 := HB.out.1.bq.cell (i := 8) rfl
    have g8 := HB.out.1.bq.free 8
    have q9 := HB.out.1.bq.cell (i := 9) rfl
    have g9 := HB.out.1.bq.free 9
    have q10 := HB.out.1.bq.cell (i := 10) rfl
    have g10 := HB.out.1.bq.free 10
    have q11 := HB.out.1.bq.cell (i := 11) rfl
    have g11 := HB.out.1.bq.free 11
    have d0 := HB.out.2.cell (i := 0) rfl
    have d1 := HB.out.2.cell (i := 1) rfl
    have d2 := HB.out.2.cell (i := 2) rfl
    have d3 := HB.out.2.cell (i := 3) rfl
    have d4 := HB.out.2.cell (i := 4) rfl
    have d5 := HB.out.2.cell (i := 5) rfl
    have d6 := HB.out.2.cell (i := 6) rfl
    have d7 := HB.out.2.cell (i := 7) rfl
    have d8 := HB.out.2.cell (i := 8) rfl
    have d9 := HB.out.2.cell (i := 9) rfl
    have d10 := HB.out.2.cell (i := 10) rfl
    have d11 := HB.out.2.cell (i := 11) rfl
    go_wp2_with fail
    have HW9 : Hid (Blk ((((((((((((V2.setCell ⟨Q, 0, none⟩ (.int .i64 0)).setCell ⟨Q, 1, none⟩ (.int .i64 0)).setCell ⟨Q, 2, none⟩ (.int .i64 0)).setCell ⟨Q, 3, none⟩ (.int .i64 0)).setCell ⟨Q, 4, none⟩ (.string { data := #[] })).setCell ⟨Q, 5, none⟩ (.int .i64 0)).setCell ⟨Q, 6, none⟩ (.int .i64 0)).setCell ⟨Q, 7, none⟩ (.int .i64 0)).setCell ⟨Q, 8, none⟩ (.int .i64 0)).setCell ⟨Q, 9, none⟩ (.int .i64 0)).setCell ⟨Q, 10, none⟩ (.int .i64 0)).setCell ⟨Q, 11, none⟩ (.int .i64 0)) Q [.int .i64 0, .int .i64 0, .int .i64 0, .int .i64 0, .string { data := #[] }, .int .i64 0, .int .i64 0, .int .i64 0, .int .i64 0, .int .i64 0, .int .i64 0, .int .i64 0] 26 ∧ Below w.heap.size w ((((((((((((V2.setCell ⟨Q, 0, none⟩ (.int .i64 0)).setCell ⟨Q, 1, none⟩ (.int .i64 0)).setCell ⟨Q, 2, none⟩ (.int .i64 0)).setCell ⟨Q, 3, none⟩ (.int .i64 0)).setCell ⟨Q, 4, none⟩ (.string { data := #[] })).setCell ⟨Q, 5, none⟩ (.int .i64 0)).setCell ⟨Q, 6, none⟩ (.int .i64 0)).setCell ⟨Q, 7, none⟩ (.int .i64 0)).setCell ⟨Q, 8, none⟩ (.int .i64 0)).setCell ⟨Q, 9, none⟩ (.int .i64 0)).setCell ⟨Q, 10, none⟩ (.int .i64 0)).setCell ⟨Q, 11, none⟩ (.int .i64 0))) := Lib.hid (HB.out.1.fill _ _ _ _ _ _ _ _ _ _ _ _)
    clear q0 g0 d0 q1 g1 d1 q2 g2 d2 q3 g3 d3 q4 g4 d4 q5 g5 d5 q6 g6 d6 q7 g7 d7 q8 g8 d8 q9 g9 d9 q10 g10 d10 q11 g11 d11
    revert HW9
    generalize ((((((((((((V2.setCell ⟨Q, 0, none⟩ (.int .i64 0)).setCell ⟨Q, 1, none⟩ (.int .i64 0)).setCell ⟨Q, 2, none⟩ (.int .i64 0)).setCell ⟨Q, 3, none⟩ (.int .i64 0)).setCell ⟨Q, 4, none⟩ (.string { data := #[] })).setCell ⟨Q, 5, none⟩ (.int .i64 0)).setCell ⟨Q, 6, none⟩ (.int .i64 0)).setCell ⟨Q, 7, none⟩ (.int .i64 0)).setCell ⟨Q, 8, none⟩ (.int .i64 0)).setCell ⟨Q, 9, none⟩ (.int .i64 0)).setCell ⟨Q, 10, none⟩ (.int .i64 0)).setCell ⟨Q, 11, none⟩ (.int .i64 0)) = W9
    intro HW9
    have r0 := HW9.out.1.cell (i := 0) rfl
    have r1 := HW9.out.1.cell (i := 1) rfl
    have r2 := HW9.out.1.cell (i := 2) rfl
    have r3 := HW9.out.1.cell (i := 3) rfl
    have r4 := HW9.out.1.cell (i := 4) rfl
    have r5 := HW9.out.1.cell (i := 5) rfl
    have r6 := HW9.out.1.cell (i := 6) rfl
    have r7 := HW9.out.1.cell (i := 7) rfl
    have r8 := HW9.out.1.cell (i := 8) rfl
    have r9 := HW9.out.1.cell (i := 9) rfl
    have r10 := HW9.out.1.cell (i := 10) rfl
    have r11 := HW9.out.1.cell (i := 11) rfl
    (try simp only [Exit.inBlock, Exit.then])
    exact bodyPost_ret (v := .tuple #[.agg x.c.toArray, .int .i64 er]) (by rw [← HX.out.1, ← HX.out.2]; simp [results, Tryz.results15, go_sem, r0, r1, r2, r3, r4, r5, r6, r7, r8, r9, r10, r11, Ev.c, Ev.none]) rfl ⟨rfl, HW9.out.2⟩
end Go.Proofs.YtfhhkmjjifbfeaaGreatDoor
