/- Log: what a line is read as (no program). -/
import Derived.Test.YtfhhkmjjifbfeaaDoorLo12
import Derived.Test.YtfhhkmjjifbfeaaDoorLo8
import Derived.Test.YtfhhkmjjifbfeaaDoorTx1
import Derived.WalkKit
import Derived.ProofKit
import Derived.Handy
import Derived.WalkLawsBesides
import Derived.WalkSpells
import Derived.Lib.Hide
import Derived.Lib.SliceRun
import Derived.Deep.RegionLaw
import Derived.RegionTactic
import Derived.ChangeAlike
import Derived.WalkSmall
import Derived.Deep.QuietTactic
import Derived.BigQuiet
import Derived.OwnWalk
import Derived.Outline
import Derived.Deep.CutRange
import Derived.Deep.CutBlock
import Derived.LoopTactic
namespace Go.Proofs.YtfhhkmjjifbfeaaDoor
open Go.ChangeShapes Go.WideShapes Go.ChangeAt Go.RowKit
set_option linter.unusedSimpArgs false
set_option linter.unusedVariables false

/-- A text cut at each byte c. -/
def Lo.sp (c : UInt8) : List UInt8 → List (List UInt8)
  | [] => [[]]
  | b :: r => if b = c then [] :: Lo.sp c r else match Lo.sp c r with
    | [] => [[b]]
    | a :: m => (b :: a) :: m
theorem Lo.sp_ne (c : UInt8) (t : List UInt8) : ∃ a m, Lo.sp c t = a :: m := by
  cases t with
  | nil => exact ⟨_, _, rfl⟩
  | cons b r =>
    rw [Lo.sp]
    by_cases h : b = c
    · rw [if_pos h]; exact ⟨_, _, rfl⟩
    · rw [if_neg h]
      cases Lo.sp c r <;> exact ⟨_, _, rfl⟩
theorem Lo.sp_none (c : UInt8) : ∀ (t : List UInt8), c ∉ t → Lo.sp c t = [t]
  | [], _ => rfl
  | b :: r, h => by
    rw [Lo.sp, if_neg (fun e => h (by rw [e]; exact List.mem_cons_self ..)), Lo.sp_none c r (fun e => h (List.mem_cons_of_mem _ e))]
theorem Lo.sp_app (c : UInt8) (t : List UInt8) : ∀ (a : List UInt8), c ∉ a → Lo.sp c (a ++ c :: t) = a :: Lo.sp c t
  | [], _ => by rw [List.nil_append, Lo.sp, if_pos rfl]
  | b :: r, h => by
    rw [List.cons_append, Lo.sp, if_neg (fun e => h (by rw [e]; exact List.mem_cons_self ..)), Lo.sp_app c t r (fun e => h (List.mem_cons_of_mem _ e))]
theorem Lo.join_two (x y : List UInt8) (L : List (List UInt8)) (c : UInt8) : Lib.join (x :: y :: L) [c] = x ++ c :: Lib.join (y :: L) [c] := by simp [Lib.join, List.intercalate]
theorem Lo.sp_join (c : UInt8) : ∀ (L : List (List UInt8)), L ≠ [] → (∀ l ∈ L, c ∉ l) → Lo.sp c (Lib.join L [c]) = L
  | [], h, _ => absurd rfl h
  | [x], _, h => by rw [Lib.join_one]; exact Lo.sp_none c x (h x (by simp))
  | x :: y :: L, _, h => by
    rw [Lo.join_two, Lo.sp_app c _ x (h x (by simp)), Lo.sp_join c (y :: L) (by simp) (fun l hl => h l (List.mem_cons_of_mem _ hl))]
theorem Lo.sp_hit (c : UInt8) : ∀ (t : List UInt8) (i : Nat), t[i]? = some c → (∀ k : Nat, k < i → t[k]? ≠ some c) → Lo.sp c t = t.take i :: Lo.sp c (t.drop (i + 1))
  | [], i, h, _ => by simp at h
  | b :: r, 0, h, _ => by
    rw [Lo.sp, if_pos (by simpa using h)]; rfl
  | b :: r, i + 1, h, h2 => by
    have h0 := h2 0 (by omega)
    rw [Lo.sp, if_neg (by intro e; exact h0 (by rw [e]; rfl)), Lo.sp_hit c r i (by simpa using h) (fun k hk => by have := h2 (k + 1) (by omega); simpa using this)]
    rfl
theorem Lo.sp_le (c : UInt8) : ∀ (t : List UInt8), (Lo.sp c t).length ≤ t.length + 1 ∧ ∀ x ∈ Lo.sp c t, x.length ≤ t.length
  | [] => ⟨by simp [Lo.sp], by simp [Lo.sp]⟩
  | b :: r => by
    obtain ⟨h1, h2⟩ := Lo.sp_le c r
    obtain ⟨a, m, ham⟩ := Lo.sp_ne c r
    rw [Lo.sp]
    by_cases h : b = c
    · rw [if_pos h]
      refine ⟨by simp only [List.length_cons]; omega, fun x hx => ?_⟩
      rcases List.mem_cons.1 hx with rfl | hx
      · simp
      · have := h2 x hx; simp only [List.length_cons]; omega
    · rw [if_neg h, ham]
      rw [ham] at h1 h2
      refine ⟨by simp only [List.length_cons] at h1 ⊢; omega, fun x hx => ?_⟩
      rcases List.mem_cons.1 hx with rfl | hx
      · have := h2 a (by simp); simp only [List.length_cons]; omega
      · have := h2 x (by simp [hx]); simp only [List.length_cons]; omega
theorem Lo.mem_none {c : UInt8} {t : List UInt8} (h : ∀ k : Nat, t[k]? ≠ some c) : c ∉ t := fun e => by
  obtain ⟨k, hk⟩ := List.mem_iff_getElem?.1 e
  exact h k hk
theorem Lo.split_sp (c : UInt8) (s : ByteArray) : ∀ n, s.size ≤ n → (Lib.splitB { data := #[c] } 0 (Lib.countB s { data := #[c] }) s).map (fun x => x.data.toList) = Lo.sp c s.data.toList := by
  intro n
  induction n generalizing s with
  | zero =>
    intro hn
    have h0 : s.data.toList = [] := by
      have : s.data.toList.length = s.size := by simp
      exact List.eq_nil_of_length_eq_zero (by omega)
    have hi : Lib.indexB s { data := #[c] } = -1 := by
      show Lib.index s.data.toList _ = -1
      rw [h0]; rfl
    rw [Lib.countB_miss s _ hi, Lib.splitB_zero, h0]
    show [s.data.toList] = _
    rw [h0]; rfl
  | succ n ih =>
    intro hn
    have hone : Lib.indexB s { data := #[c] } = Lib.indexByte s.data.toList c := by
      unfold Lib.indexB
      exact Lib.index_one _ _
    rcases Lib.indexB_cases s { data := #[c] } with h | ⟨i, h, hi⟩
    · rw [Lib.countB_miss s _ h, Lib.splitB_zero]
      rw [hone] at h
      rw [Lo.sp_none c _ (Lo.mem_none (fun k => Lib.indexByte_none h k))]
      rfl
    · have hh := h
      rw [hone] at hh
      obtain ⟨h1, h2⟩ := Lib.indexByte_some hh
      have hsz : ({ data := #[c] } : ByteArray).size = 1 := rfl
      rw [Lib.countB_hit s _ i (by rw [hsz]; omega) h, Nat.add_comm 1, Lib.splitB_hit _ _ _ _ i h, hsz]
      rw [hsz] at hi
      have ih1 := ih (s.extract (i + 1) s.size) (by rw [ByteArray.size_extract]; omega)
      have hd : (s.extract (i + 1) s.size).data.toList = s.data.toList.drop (i + 1) := Lib.extract_to_end s (i + 1)
      have ht : (s.extract 0 (i + 0)).data.toList = s.data.toList.take i := Lib.extract_from_zero s (i + 0)
      rw [hd] at ih1
      rw [Lo.sp_hit c _ i h1 h2, List.map_cons, ih1, ht]
/-- The texts of a cut text. -/
def Lo.spB (c : UInt8) (l : List UInt8) : List ByteArray := (Lo.sp c l).map Le.t
theorem Lo.split_spB (c : UInt8) (s : ByteArray) : Lib.splitB { data := #[c] } 0 (Lib.countB s { data := #[c] }) s = Lo.spB c s.data.toList := by
  have h := Lo.split_sp c s s.size (Nat.le_refl _)
  unfold Lo.spB
  rw [← h, List.map_map]
  conv => lhs; rw [← List.map_id (Lib.splitB _ _ _ _)]
  exact List.map_congr_left fun x _ => Le.t_of rfl
theorem Lo.index_none {c : UInt8} : ∀ {a : List UInt8}, c ∉ a → Lib.indexByte a c = -1
  | [], _ => rfl
  | b :: l, h => by
    have h1 : ¬ b = c := fun e => h (by rw [e]; exact List.mem_cons_self ..)
    rw [Lib.indexByte, if_neg (by simpa using h1), Lo.index_none (fun e => h (List.mem_cons_of_mem _ e))]
    rfl
theorem Lo.index_app {c : UInt8} (t : List UInt8) : ∀ {a : List UInt8}, c ∉ a → Lib.indexByte (a ++ c :: t) c = (a.length : Int)
  | [], _ => by rw [List.nil_append, Lib.indexByte, if_pos (by simp), List.length_nil]; rfl
  | b :: l, h => by
    have h1 : ¬ b = c := fun e => h (by rw [e]; exact List.mem_cons_self ..)
    rw [List.cons_append, Lib.indexByte, if_neg (by simpa using h1), Lo.index_app t (fun e => h (List.mem_cons_of_mem _ e)), if_neg (by simp)]
    simp
theorem Lo.cut_none {c : UInt8} {a : List UInt8} (h : c ∉ a) : Lib.cut a [c] = (a, [], false) := by
  unfold Lib.cut
  rw [Lib.index_one, Lo.index_none h, if_neg (by omega)]
theorem Lo.cut_app {c : UInt8} {a : List UInt8} (t : List UInt8) (h : c ∉ a) : Lib.cut (a ++ c :: t) [c] = (a, t, true) := by
  unfold Lib.cut
  rw [Lib.index_one, Lo.index_app t h, if_pos (by omega)]
  simp
theorem Lo.uint_go : ∀ (l : List UInt8) (acc : Nat), l.all Tx.dig = true → Tx.go acc l < 18446744073709551616 → Lib.parseUint10 acc l = .ok (Tx.go acc l)
  | [], acc, _, _ => by rw [Tx.go_nil]; rfl
  | b :: r, acc, h, hl => by
    rw [List.all_cons, Bool.and_eq_true] at h
    rw [Tx.go_cons] at hl
    have h1 := Tx.go_le (Tx.one acc b) r
    have e1 := Tx.one_eq acc b
    have hd := h.1
    unfold Tx.dig at hd
    rw [Bool.and_eq_true, decide_eq_true_eq, decide_eq_true_eq] at hd
    rw [Lib.parseUint10, if_pos hd, if_neg (by omega), if_neg (by omega), Tx.go_cons]
    have e2 : acc * 10 + (b.toNat - 48) = Tx.one acc b := by rw [e1]; omega
    rw [e2]
    exact Lo.uint_go r _ h.2 hl
theorem Lo.mag_dec (u : Nat) (h : u < 18446744073709551616) : Lib.parseMag (Lib.decDigits u) = .ok u := by
  unfold Lib.parseMag
  rw [if_neg (Tx.dec_pos u)]
  have hv : Tx.go 0 (Lib.decDigits u) = u := Tx.dec_val u
  rw [Lo.uint_go _ 0 (Tx.dec_dig u) (by rw [hv]; exact h), hv]
theorem Lo.num_itoa (n : Int) (h : Lo.i64 n) : Lo.num (Lib.itoa n) = n := by
  unfold Lo.i64 at h
  unfold Lo.num Lib.itoa
  by_cases h0 : n < 0
  · rw [if_pos h0, Lib.atoiAll_minus, Lo.mag_dec _ (by omega)]
    unfold Lib.signed
    dsimp only
    rw [if_neg (by omega)]
    dsimp only
    omega
  · rw [if_neg h0]
    have hm := Lo.mag_dec n.toNat (by omega)
    have hd := Tx.dec_dig n.toNat
    cases hl : Lib.decDigits n.toNat with
    | nil => exact absurd hl (Tx.dec_pos _)
    | cons b r =>
      rw [hl] at hm hd
      rw [List.all_cons, Bool.and_eq_true] at hd
      have hb := hd.1
      unfold Tx.dig at hb
      rw [Bool.and_eq_true, decide_eq_true_eq, decide_eq_true_eq] at hb
      rw [Lib.atoiAll_plain b r (by omega) (by omega), hm]
      unfold Lib.signless
      dsimp only
      rw [if_neg (by omega)]
      dsimp only
      omega
theorem Lo.no32_dec (u : Nat) : (32 : UInt8) ∉ Lib.decDigits u := fun e => by
  have h := List.all_eq_true.1 (Tx.dec_dig u) _ e
  revert h
  decide
theorem Lo.no32_itoa (n : Int) : (32 : UInt8) ∉ Lib.itoa n := by
  unfold Lib.itoa
  split
  · intro e
    rcases List.mem_cons.1 e with e | e
    · exact absurd e (by decide)
    · exact Lo.no32_dec _ e
  · exact Lo.no32_dec _
theorem Lo.no32_tt (t : Int) : (32 : UInt8) ∉ Lo.tt t := by
  unfold Lo.tt Tx.text
  split
  · decide
  · exact Lo.no32_dec _
theorem Lo.parse_tt (t : Int) (h0 : 0 ≤ t) (h : t ≤ 9223372036854775807) : (Tx.parse (Lo.tt t)).1 = t := by
  have h1 : Tk.own t = t := by unfold Tk.own; split <;> omega
  unfold Lo.tt
  rw [h1, Tx.parse_text _ (by omega)]
  dsimp only
  omega
theorem Lo.lst_hit (f : Int → ByteArray) (X : ByteArray) (n : Nat) (hn : f n = X) : ∀ k : Nat, n < k → (∀ j : Nat, n < j → j < k → f j ≠ X) → Lo.lst f X k = (n : Int)
  | 0, h, _ => by omega
  | k + 1, h, hj => by
    unfold Lo.lst
    by_cases hk : k = n
    · subst hk; rw [if_pos hn]
    · rw [if_neg (hj k (by omega) (by omega))]
      exact Lo.lst_hit f X n hn k (by omega) (fun j h1 h2 => hj j h1 (by omega))
theorem Lo.word_ne : ∀ i : Fin 15, ∀ j : Fin 15, i.val < j.val → Lo.word (j.val : Int) ≠ Lo.word (i.val : Int) := by decide +kernel
theorem Lo.word5_ne : ∀ i : Fin 6, ∀ j : Fin 6, i.val < j.val → Le.word (j.val : Int) ≠ Le.word (i.val : Int) := by decide +kernel
theorem Lo.no32_word : ∀ i : Fin 15, (32 : UInt8) ∉ (Lo.word (i.val : Int)).data.toList := by decide +kernel
theorem Lo.no32_word5 : ∀ i : Fin 6, (32 : UInt8) ∉ (Le.word (i.val : Int)).data.toList := by decide +kernel
theorem Lo.lst_word (s : Int) (h0 : 0 ≤ s) (h : s < 15) : Lo.lst Lo.word (Lo.word s) 15 = s := by
  obtain ⟨n, rfl⟩ : ∃ n : Nat, s = (n : Int) := ⟨s.toNat, by omega⟩
  exact Lo.lst_hit Lo.word _ n rfl 15 (by omega) (fun j h1 h2 => Lo.word_ne ⟨n, by omega⟩ ⟨j, h2⟩ h1)
theorem Lo.lst_word5 (s : Int) (h0 : 0 ≤ s) (h : s < 6) : Lo.lst Le.word (Le.word s) 6 = s := by
  obtain ⟨n, rfl⟩ : ∃ n : Nat, s = (n : Int) := ⟨s.toNat, by omega⟩
  exact Lo.lst_hit Le.word _ n rfl 6 (by omega) (fun j h1 h2 => Lo.word5_ne ⟨n, by omega⟩ ⟨j, h2⟩ h1)
/-- The event that a line is read as. -/
noncomputable def Lo.rd (w r : List UInt8) : Ev :=
  if w = [114, 111, 117, 110, 100] then ⟨1, 0, 0, (Tx.parse r).1, { data := #[] }, 0, 0, 0, 0, 0, 0, 0⟩ else
  if w = [100, 114, 97, 105, 110] then ⟨7, 0, 0, (Tx.parse r).1, { data := #[] }, 0, 0, 0, 0, 0, 0, 0⟩ else
  if w = [111, 112, 101, 110] then ⟨2, Lo.num (Lo.at (Lo.spB 32 r) 0).data.toList, Lo.num (Lo.at (Lo.spB 32 r) 1).data.toList, 0, { data := #[] }, 0, 0, 0, 0, 0, 0, 0⟩ else
  if w = [114, 101, 102, 117, 115, 101] then ⟨3, Lo.num (Lo.at (Lo.spB 32 r) 0).data.toList, Lo.num (Lo.at (Lo.spB 32 r) 1).data.toList, 0, { data := #[] }, Lo.num (Lo.at (Lo.spB 32 r) 2).data.toList, 0, 0, 0, 0, 0, 0⟩ else
  if w = [114, 101, 97, 100] then Lo.readB 4 r else
  if w = [119, 114, 105, 116, 101] then Lo.readB 6 r else
  if w = [101, 111, 102] then ⟨5, Lo.num (Lo.at (Lo.spB 32 r) 0).data.toList, 0, 0, { data := #[] }, 0, 0, 0, 0, 0, 0, 0⟩ else
  if w = [115, 116, 101, 112] then ⟨8, Lo.num (Lo.at (Lo.spB 32 r) 0).data.toList, 0, 0, { data := #[] }, 0, (Tx.parse (Lo.at (Lo.spB 32 r) 1).data.toList).1, Lo.num (Lo.at (Lo.spB 32 r) 2).data.toList, Lo.lst Lo.word (Lo.at (Lo.spB 32 r) 3) 15, Lo.num (Lo.at (Lo.spB 32 r) 4).data.toList, Lo.num (Lo.at (Lo.spB 32 r) 5).data.toList, Lo.lst Le.word (Lo.at (Lo.spB 32 r) 6) 6⟩ else
  if w = [115, 116, 111, 112] then ⟨9, 0, 0, 0, { data := #[] }, 0, 0, 0, 0, 0, 0, 0⟩ else ⟨0, 0, 0, 0, { data := #[] }, 0, 0, 0, 0, 0, 0, 0⟩
noncomputable def Lo.read (l : List UInt8) : Ev := Lo.rd (Lib.cut l [32]).1 (Lib.cut l [32]).2.1
end Go.Proofs.YtfhhkmjjifbfeaaDoor
