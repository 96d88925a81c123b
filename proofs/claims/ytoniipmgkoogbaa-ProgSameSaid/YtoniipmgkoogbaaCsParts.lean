/- The members of a set, rising; the parts of a set's text, and what they are read as. No Go in sight. -/
import Derived.Test.YtoniipmgkoogbaaCsPop
namespace Go.Proofs.Ytoniipmgkoogbaa.Cs
set_option linter.unusedSimpArgs false
set_option linter.unusedVariables false

/-- The members from b on, below 256. -/
def memF (X : BitVec 256) (b : Nat) : List UInt8 := ((List.range' b (256 - b)).filter X.getLsbD).map UInt8.ofNat
/-- The members below k. -/
def memT (X : BitVec 256) (k : Nat) : List UInt8 := ((List.range k).filter X.getLsbD).map UInt8.ofNat
theorem memF_zero (X : BitVec 256) : memF X 0 = memT X 256 := by unfold memF memT; rw [List.range_eq_range']
theorem memF_end (X : BitVec 256) : memF X 256 = [] := rfl
theorem memF_step (X : BitVec 256) (b : Nat) (hb : b < 256) : memF X b = if X.getLsbD b then UInt8.ofNat b :: memF X (b + 1) else memF X (b + 1) := by
  unfold memF
  obtain ⟨n, hn⟩ : ∃ n, 256 - b = n + 1 := ⟨255 - b, by omega⟩
  rw [hn, List.range'_succ, show 256 - (b + 1) = n by omega, List.filter_cons]
  split <;> rfl
theorem memT_step (X : BitVec 256) (k : Nat) : memT X (k + 1) = if X.getLsbD k then memT X k ++ [UInt8.ofNat k] else memT X k := by
  unfold memT
  rw [List.range_succ, List.filter_append, List.map_append]
  by_cases h : X.getLsbD k = true
  · simp [h]
  · simp [h]
theorem memT_len (X : BitVec 256) (k : Nat) : (memT X k).length = cnt X.getLsbD k := by simp [memT, cnt]
theorem toNat_lt {b : Nat} (h : b < 256) : (UInt8.ofNat b).toNat = b := by rw [UInt8.toNat_ofNat']; omega
theorem memF_ge (X : BitVec 256) : ∀ n b, b + n = 256 → ∀ d ∈ memF X b, b ≤ d.toNat
  | 0, b, h, d, hd => by
    obtain rfl : b = 256 := by omega
    rw [memF_end] at hd; cases hd
  | n + 1, b, h, d, hd => by
    rw [memF_step X b (by omega)] at hd
    have ih := memF_ge X n (b + 1) (by omega)
    split at hd
    · rcases List.mem_cons.1 hd with e | e
      · rw [e, toNat_lt (by omega)]; exact Nat.le_refl _
      · have := ih d e; omega
    · have := ih d hd; omega
/-- A byte's sign. -/
def sgn (b : UInt8) : List UInt8 := if b = 37 ∨ b = 93 ∨ b = 45 ∨ b = 94 then [37, b] else [b]
/-- How far bytes follow one another behind c. -/
def run1 : UInt8 → List UInt8 → Nat
  | _, [] => 0
  | c, d :: r => if d.toNat = c.toNat + 1 then run1 d r + 1 else 0
/-- The parts: a byte, or two with all between. -/
def prP : Nat → List UInt8 → List (UInt8 × Option UInt8)
  | 0, _ => []
  | _ + 1, [] => []
  | f + 1, c :: r => if run1 c r + 1 < 3 then (c, none) :: prP f r else (c, some (UInt8.ofNat (c.toNat + run1 c r))) :: prP f (r.drop (run1 c r))
def ptxt : UInt8 × Option UInt8 → List UInt8
  | (c, none) => sgn c
  | (c, some d) => sgn c ++ (45 :: sgn d)
def txt (l : List (UInt8 × Option UInt8)) : List UInt8 := l.flatMap ptxt
def pset : UInt8 × Option UInt8 → BitVec 256
  | (c, none) => bitS c.toNat
  | (c, some d) => span c.toNat d.toNat
def setP (l : List (UInt8 × Option UInt8)) : BitVec 256 := l.foldl (fun X p => X ||| pset p) 0
theorem setP_snoc (l : List (UInt8 × Option UInt8)) (p : UInt8 × Option UInt8) : setP (l ++ [p]) = setP l ||| pset p := by simp [setP, List.foldl_append]
def okP (p : UInt8 × Option UInt8) : Prop := ∀ d, p.2 = some d → p.1.toNat ≤ d.toNat
theorem run1_le : ∀ (c : UInt8) (r : List UInt8), run1 c r ≤ r.length
  | _, [] => Nat.le_refl _
  | c, d :: r => by
    have := run1_le d r
    simp only [run1, List.length_cons]; split <;> omega
/-- Those that follow one another: the j-th is j more. -/
theorem run1_at : ∀ (c : UInt8) (r : List UInt8) (j : Nat), j ≤ run1 c r → ∃ d, (c :: r)[j]? = some d ∧ d.toNat = c.toNat + j
  | c, r, 0, _ => ⟨c, rfl, rfl⟩
  | c, [], j + 1, h => by simp [run1] at h
  | c, d :: r, j + 1, h => by
    simp only [run1] at h
    split at h
    · rename_i e
      obtain ⟨x, h1, h2⟩ := run1_at d r j (by omega)
      exact ⟨x, h1, by omega⟩
    · omega
theorem run1_stop : ∀ (c : UInt8) (r : List UInt8) (d : UInt8), (c :: r)[run1 c r + 1]? = some d → d.toNat ≠ c.toNat + run1 c r + 1
  | c, [], d, h => by simp [run1] at h
  | c, e :: r, d, h => by
    simp only [run1] at h ⊢
    split at h
    · rename_i he
      rw [if_pos he]
      have := run1_stop e r d (by simpa using h)
      omega
    · rename_i he
      rw [if_neg he]
      have hd : e = d := by simpa using h
      rw [← hd]; omega
theorem prP_ok : ∀ (f : Nat) (l : List UInt8), (∀ p ∈ prP f l, okP p)
  | 0, l, p, h => by simp [prP] at h
  | f + 1, [], p, h => by simp [prP] at h
  | f + 1, c :: r, p, h => by
    simp only [prP] at h
    split at h
    · rcases List.mem_cons.1 h with e | e
      · subst e; intro d hd; cases hd
      · exact prP_ok f _ p e
    · rcases List.mem_cons.1 h with e | e
      · subst e
        intro d hd
        injection hd with hd
        obtain ⟨x, h1, h2⟩ := run1_at c r (run1 c r) (Nat.le_refl _)
        have := x.toNat_lt
        rw [← hd, toNat_lt (by omega)]
        simp only
        omega
      · exact prP_ok f _ p e
theorem setP_get (l : List (UInt8 × Option UInt8)) (i : Nat) : (setP l).getLsbD i = l.any fun p => (pset p).getLsbD i := by
  have h : ∀ (l : List (UInt8 × Option UInt8)) (X : BitVec 256), (l.foldl (fun X p => X ||| pset p) X).getLsbD i = (X.getLsbD i || l.any fun p => (pset p).getLsbD i) := by
    intro l
    induction l with
    | nil => intro X; simp
    | cons b r ih => intro X; rw [List.foldl_cons, ih, BitVec.getLsbD_or, List.any_cons, Bool.or_assoc]
  unfold setP
  rw [h l 0]; simp
theorem span_get (a b i : Nat) (hi : i < 256) : (span a b).getLsbD i = (decide (a ≤ i) && decide (i ≤ b)) := by
  unfold span
  rw [mkN_get _ _ _ hi]; simp [hi]
/-- The parts of a row are its bytes. -/
theorem prP_set (i : Nat) (hi : i < 256) : ∀ (f : Nat) (l : List UInt8), l.length < f → ((prP f l).any fun p => (pset p).getLsbD i) = l.any fun b => b.toNat == i
  | 0, l, h => by omega
  | f + 1, [], h => by simp [prP]
  | f + 1, c :: r, h => by
    simp only [List.length_cons] at h
    simp only [prP]
    split
    · rw [List.any_cons, List.any_cons, prP_set i hi f r (by omega)]
      congr 1
      simp only [pset, bitS_get]
      have := c.toNat_lt
      by_cases e : c.toNat = i <;> simp [e, hi]
    · have hl := run1_le c r
      rw [List.any_cons, prP_set i hi f (r.drop (run1 c r)) (by rw [List.length_drop]; omega)]
      obtain ⟨x, h1, h2⟩ := run1_at c r (run1 c r) (Nat.le_refl _)
      have hx := x.toNat_lt
      simp only [pset, span_get _ _ _ hi]
      rw [toNat_lt (by omega)]
      have e : (c :: r) = (c :: r.take (run1 c r)) ++ r.drop (run1 c r) := by simp
      have e2 : ((c :: r).any fun b => b.toNat == i) = (((c :: r.take (run1 c r)).any fun b => b.toNat == i) || ((r.drop (run1 c r)).any fun b => b.toNat == i)) := by
        rw [← List.any_append, ← e]
      rw [e2]
      congr 1
      rw [Bool.eq_iff_iff]
      simp only [Bool.and_eq_true, decide_eq_true_eq, List.any_eq_true, beq_iff_eq]
      have et : c :: r.take (run1 c r) = (c :: r).take (run1 c r + 1) := rfl
      constructor
      · intro ⟨k1, k2⟩
        obtain ⟨d, d1, d2⟩ := run1_at c r (i - c.toNat) (by omega)
        refine ⟨d, ?_, by omega⟩
        rw [et]
        exact List.mem_of_getElem? (i := i - c.toNat) (by rw [List.getElem?_take, if_pos (by omega)]; exact d1)
      · intro ⟨d, hd, k⟩
        rw [et] at hd
        obtain ⟨j, hj⟩ := List.getElem?_of_mem hd
        rw [List.getElem?_take] at hj
        split at hj
        · obtain ⟨d2, q1, q2⟩ := run1_at c r j (by omega)
          rw [q1] at hj
          injection hj with hj
          rw [← hj] at k
          omega
        · cases hj
theorem mem_any (X : BitVec 256) (i : Nat) (hi : i < 256) : ((memT X 256).any fun b => b.toNat == i) = X.getLsbD i := by
  rw [Bool.eq_iff_iff, List.any_eq_true]
  unfold memT
  constructor
  · intro ⟨d, hd, k⟩
    obtain ⟨j, hj, rfl⟩ := List.mem_map.1 hd
    have hm := List.mem_filter.1 hj
    have := List.mem_range.1 hm.1
    rw [beq_iff_eq, toNat_lt this] at k
    rw [← k]; exact hm.2
  · intro h
    exact ⟨UInt8.ofNat i, List.mem_map.2 ⟨i, List.mem_filter.2 ⟨List.mem_range.2 hi, h⟩, rfl⟩, by rw [beq_iff_eq, toNat_lt hi]⟩
/-- The parts of a set's members are the set. -/
theorem setP_mem (X : BitVec 256) (f : Nat) (hf : (memT X 256).length < f) : setP (prP f (memT X 256)) = X :=
  ext_get fun i hi => by rw [setP_get, prP_set i hi f _ hf, mem_any X i hi]
theorem memT_rise (X : BitVec 256) : (memT X 256).Pairwise fun a b => a.toNat < b.toNat := by
  unfold memT
  rw [List.pairwise_map]
  have h : ((List.range 256).filter X.getLsbD).Pairwise (· < ·) := List.Pairwise.filter _ List.pairwise_lt_range
  refine h.imp_of_mem ?_
  intro a b ha hb hab
  have h1 := List.mem_range.1 (List.mem_filter.1 ha).1
  have h2 := List.mem_range.1 (List.mem_filter.1 hb).1
  rw [toNat_lt h1, toNat_lt h2]; exact hab
theorem rise_at {l : List UInt8} (h : l.Pairwise fun a b => a.toNat < b.toNat) {i : Nat} {a b : UInt8} (ha : l[i]? = some a) (hb : l[i + 1]? = some b) : a.toNat < b.toNat := by
  obtain ⟨h1, e1⟩ := List.getElem?_eq_some_iff.1 ha
  obtain ⟨h2, e2⟩ := List.getElem?_eq_some_iff.1 hb
  have := List.pairwise_iff_getElem.1 h i (i + 1) h1 h2 (by omega)
  rw [e1, e2] at this; exact this
theorem sgn_len (b : UInt8) : 1 ≤ (sgn b).length ∧ (sgn b).length ≤ 2 := by unfold sgn; split <;> simp
theorem memT_le (X : BitVec 256) : (memT X 256).length ≤ 256 := by rw [memT_len]; exact cnt_le _ _
/-- One part more. -/
theorem prP_short {f : Nat} {c : UInt8} {r : List UInt8} (h : run1 c r + 1 < 3) : txt (prP (f + 1) (c :: r)) = sgn c ++ txt (prP f r) := by
  simp only [prP, if_pos h, txt, List.flatMap_cons, ptxt]
theorem prP_long {f : Nat} {c : UInt8} {r : List UInt8} (h : ¬ run1 c r + 1 < 3) : txt (prP (f + 1) (c :: r)) = sgn c ++ (45 :: sgn (UInt8.ofNat (c.toNat + run1 c r))) ++ txt (prP f (r.drop (run1 c r))) := by
  simp only [prP, if_neg h, txt, List.flatMap_cons, ptxt]
/-- Where the row of those that follow one another ends. -/
theorem run_go {c : UInt8} {r : List UInt8} {j : Nat} {x y : UInt8} (hj : j ≤ run1 c r) (hy : (c :: r)[j]? = some y) (hx : (c :: r)[j + 1]? = some x) (h : x.toNat = y.toNat + 1) : j + 1 ≤ run1 c r := by
  obtain ⟨d, h1, h2⟩ := run1_at c r j hj
  rw [hy] at h1
  injection h1 with h1
  rcases Nat.lt_or_ge j (run1 c r) with k | k
  · exact k
  · obtain rfl : j = run1 c r := by omega
    exact absurd (by rw [h, h1, h2]) (run1_stop c r x hx)
theorem run_end {c : UInt8} {r : List UInt8} {j : Nat} {x y : UInt8} (hj : j ≤ run1 c r) (hy : (c :: r)[j]? = some y) (hx : (c :: r)[j + 1]? = some x) (h : ¬ x.toNat = y.toNat + 1) : j = run1 c r := by
  rcases Nat.lt_or_ge j (run1 c r) with k | k
  · obtain ⟨d, h1, h2⟩ := run1_at c r j hj
    obtain ⟨e, h3, h4⟩ := run1_at c r (j + 1) (by omega)
    rw [hy] at h1; rw [hx] at h3
    injection h1 with h1; injection h3 with h3
    exact absurd (by rw [h3, h4, h1, h2]; omega) h
  · omega
theorem run_last {c : UInt8} {r : List UInt8} {j : Nat} (hj : j ≤ run1 c r) (hl : (c :: r).length ≤ j + 1) : j = run1 c r := by
  have := run1_le c r
  simp at hl; omega
theorem txt_le : ∀ (f : Nat) (l : List UInt8), (txt (prP f l)).length ≤ 5 * l.length
  | 0, l => by simp [prP, txt]
  | f + 1, [] => by simp [prP, txt]
  | f + 1, c :: r => by
    have sc := sgn_len c
    by_cases h : run1 c r + 1 < 3
    · rw [prP_short h, List.length_append]
      have := txt_le f r
      simp only [List.length_cons]; omega
    · rw [prP_long h, List.length_append, List.length_append, List.length_cons]
      have sd := sgn_len (UInt8.ofNat (c.toNat + run1 c r))
      have := txt_le f (r.drop (run1 c r))
      rw [List.length_drop] at this
      simp only [List.length_cons]; omega
/-- Whether a set's text has a ^. -/
def neg (X : BitVec 256) : Bool := decide (cnt X.getLsbD 256 = 0) || (decide (128 < cnt X.getLsbD 256) && decide (cnt X.getLsbD 256 < 256))
/-- The members that a set's text tells. -/
def told (X : BitVec 256) : BitVec 256 := if neg X then ~~~X else X
/-- The parts' text. -/
def ptx (X : BitVec 256) : List UInt8 := txt (prP 257 (memT X 256))
/-- A set's text. -/
def prt (X : BitVec 256) : List UInt8 := (if neg X then [91, 94] else [91]) ++ ptx (told X) ++ [93]
theorem ptx_le (X : BitVec 256) : (ptx X).length ≤ 1280 := by
  have h1 := txt_le 257 (memT X 256)
  have h2 := memT_le X
  unfold ptx; omega
/-- The first words those of F, the next one v, the others 0. -/
def WS (M : BitVec 256) (i : Nat) (v : Int) (F : BitVec 256) : Prop := ∀ j, j < 4 → wd M j = if j < i then wd F j else if j = i then v else 0
theorem WS.start (F : BitVec 256) : WS 0 0 0 F := fun j hj => by
  have : wd 0 j = 0 := by simp [wd, wb]
  rw [this]; simp
theorem WS.here {M F : BitVec 256} {i : Nat} {v : Int} (h : WS M i v F) (hi : i < 4) : wd M i = v := (h i hi).trans (by simp)
theorem WS.set {M F : BitVec 256} {i : Nat} {v : Int} (h : WS M i v F) (hi : i < 4) (u : Int) (h0 : 0 ≤ u) (h1 : u < 18446744073709551616) : ∃ M', (cells M).set i (.int .u64 u) = cells M' ∧ WS M' i u F := by
  obtain ⟨M', e1, e2⟩ := set_word M i hi u h0 h1
  refine ⟨M', e1, fun j hj => ?_⟩
  rw [e2 j hj]
  by_cases e : j = i
  · subst e; simp
  · rw [if_neg e, h j hj, if_neg e, if_neg e]
theorem WS.next {M F : BitVec 256} {i : Nat} {v : Int} (h : WS M i v F) (hv : v = wd F i) : WS M (i + 1) 0 F := fun j hj => by
  rw [h j hj]
  by_cases h1 : j < i
  · rw [if_pos h1, if_pos (by omega)]
  · by_cases h2 : j = i
    · subst h2; simp [hv]
    · rw [if_neg h1, if_neg h2, if_neg (by omega)]; split <;> rfl
theorem WS.stop {M F : BitVec 256} {v : Int} (h : WS M 4 v F) : M = F :=
  sv_eq ((h 0 (by omega)).trans (by simp)) ((h 1 (by omega)).trans (by simp)) ((h 2 (by omega)).trans (by simp)) ((h 3 (by omega)).trans (by simp))
/-- A word, bit by bit from above. -/
theorem half (f : Nat → Bool) (i k : Nat) (hi : i < 4) (hk : k < 64) : (wb (mkN f 256) i).toNat / 2 ^ k = 2 * ((wb (mkN f 256) i).toNat / 2 ^ (k + 1)) + (if f (64 * i + k) then 1 else 0) := by
  have hb := wb_get (mkN f 256) i k
  rw [mkN_get f 256 (64 * i + k) (by omega)] at hb
  have h1 : decide (k < 64) = true := by simp [hk]
  have h2 : decide (64 * i + k < 256) = true := by simp; omega
  rw [h1, h2, BitVec.getLsbD, Nat.testBit_eq_decide_div_mod_eq] at hb
  simp only [Bool.true_and] at hb
  rw [Nat.pow_succ, ← Nat.div_div_eq_div_mul]
  generalize (wb (mkN f 256) i).toNat / 2 ^ k = z at hb ⊢
  cases hf : f (64 * i + k)
  · rw [hf] at hb; simp at hb; simp; omega
  · rw [hf] at hb; simp at hb; simp; omega
end Go.Proofs.Ytoniipmgkoogbaa.Cs
