/- Sets of bytes as 256 bits, and the four words that hold them. No Go in sight but the bits of words. -/
import Derived.Test.YtoniipmgkoogbaaRows
import Derived.WalkKit
namespace Go.Proofs.Ytoniipmgkoogbaa.Cs
set_option linter.unusedSimpArgs false
set_option linter.unusedVariables false

/-- Word i of a set. -/
def wb (X : BitVec 256) (i : Nat) : BitVec 64 := X.extractLsb' (64 * i) 64
def wd (X : BitVec 256) (i : Nat) : Int := ((wb X i).toNat : Int)
def cells (X : BitVec 256) : List Value := [.int .u64 (wd X 0), .int .u64 (wd X 1), .int .u64 (wd X 2), .int .u64 (wd X 3)]
def sv (X : BitVec 256) : Value := .agg #[.int .u64 (wd X 0), .int .u64 (wd X 1), .int .u64 (wd X 2), .int .u64 (wd X 3)]
theorem wb_get (X : BitVec 256) (i k : Nat) : (wb X i).getLsbD k = (decide (k < 64) && X.getLsbD (64 * i + k)) := by
  unfold wb; rw [BitVec.getLsbD_extractLsb']
theorem wd_lo (X : BitVec 256) (i : Nat) : 0 ≤ wd X i := Int.natCast_nonneg _
theorem wd_hi (X : BitVec 256) (i : Nat) : wd X i < 18446744073709551616 := by
  unfold wd; have := (wb X i).isLt; omega
theorem wd_wrap (X : BitVec 256) (i : Nat) : IntKind.u64.wrap (wd X i) = wd X i := by
  have h1 := wd_lo X i; have h2 := wd_hi X i
  simp [IntKind.wrap, IntKind.signed, IntKind.bits]; omega
/-- The words tell the set. -/
theorem ext_words {X Y : BitVec 256} (h : ∀ i, i < 4 → wb X i = wb Y i) : X = Y := by
  apply BitVec.eq_of_getLsbD_eq
  intro b hb
  have h1 := congrArg (fun z => z.getLsbD (b % 64)) (h (b / 64) (by omega))
  simp only [wb_get] at h1
  have e : 64 * (b / 64) + b % 64 = b := by omega
  have e2 : decide (b % 64 < 64) = true := by simp; omega
  rw [e, e2] at h1
  simpa using h1
theorem wd_inj {X Y : BitVec 256} {i : Nat} (h : wd X i = wd Y i) : wb X i = wb Y i := by
  apply BitVec.eq_of_toNat_eq; unfold wd at h; omega
theorem sv_eq {X Y : BitVec 256} (h0 : wd X 0 = wd Y 0) (h1 : wd X 1 = wd Y 1) (h2 : wd X 2 = wd Y 2) (h3 : wd X 3 = wd Y 3) : X = Y :=
  ext_words fun i hi => by
    rcases i with _ | _ | _ | _ | i
    · exact wd_inj h0
    · exact wd_inj h1
    · exact wd_inj h2
    · exact wd_inj h3
    · omega
theorem cells_at (X : BitVec 256) (i : Nat) (hi : i < 4) : (cells X)[i]? = some (.int .u64 (wd X i)) := by
  rcases i with _ | _ | _ | _ | i <;> first | rfl | omega
/-- Any four words are a set. -/
theorem words_set (a b c d : Int) (ha : 0 ≤ a ∧ a < 18446744073709551616) (hb : 0 ≤ b ∧ b < 18446744073709551616) (hc : 0 ≤ c ∧ c < 18446744073709551616) (hd : 0 ≤ d ∧ d < 18446744073709551616) :
    ∃ X, wd X 0 = a ∧ wd X 1 = b ∧ wd X 2 = c ∧ wd X 3 = d := by
  refine ⟨BitVec.ofNat 256 (a.toNat + 2 ^ 64 * b.toNat + 2 ^ 128 * c.toNat + 2 ^ 192 * d.toNat), ?_, ?_, ?_, ?_⟩
  all_goals
    simp only [wd, wb, BitVec.extractLsb'_toNat, BitVec.toNat_ofNat, Nat.shiftRight_eq_div_pow]
    omega
/-- A bit. -/
def bitS (b : Nat) : BitVec 256 := BitVec.twoPow 256 b
theorem bitS_get (b j : Nat) : (bitS b).getLsbD j = (decide (b < 256) && decide (b = j)) := BitVec.getLsbD_twoPow b j
theorem ofInt_wd (X : BitVec 256) (i : Nat) : BitVec.ofInt 64 (wd X i) = wb X i := by
  apply BitVec.eq_of_toNat_eq
  unfold wd
  rw [BitVec.ofInt_natCast, BitVec.toNat_ofNat]
  exact Nat.mod_eq_of_lt (wb X i).isLt
theorem wrap_toNat (v : BitVec 64) : IntKind.u64.wrap (v.toNat : Int) = v.toNat := by
  have := v.isLt
  simp [IntKind.wrap, IntKind.signed, IntKind.bits]; omega
theorem wb_or (X Y : BitVec 256) (i : Nat) : wb X i ||| wb Y i = wb (X ||| Y) i := by
  apply BitVec.eq_of_getLsbD_eq; intro k hk
  rw [BitVec.getLsbD_or, wb_get, wb_get, wb_get, BitVec.getLsbD_or]
  simp [hk]
theorem wb_and (X Y : BitVec 256) (i : Nat) : wb X i &&& wb Y i = wb (X &&& Y) i := by
  apply BitVec.eq_of_getLsbD_eq; intro k hk
  rw [BitVec.getLsbD_and, wb_get, wb_get, wb_get, BitVec.getLsbD_and]
  simp [hk]
theorem wb_not (X : BitVec 256) (i : Nat) (hi : i < 4) : BitVec.ofInt 64 18446744073709551615 ^^^ wb X i = wb (~~~X) i := by
  have e : BitVec.ofInt 64 18446744073709551615 = BitVec.allOnes 64 := by decide
  apply BitVec.eq_of_getLsbD_eq; intro k hk
  have : 64 * i + k < 256 := by omega
  rw [BitVec.getLsbD_xor, wb_get, wb_get, e, BitVec.getLsbD_allOnes, BitVec.getLsbD_not]
  simp [hk, this]
theorem wd_or (X Y : BitVec 256) (i : Nat) : bits BinOp.or IntKind.u64 (wd X i) (wd Y i) = wd (X ||| Y) i := by
  show IntKind.u64.wrap _ = _
  have h : (BitVec.ofInt 64 (wd X i) ||| BitVec.ofInt 64 (wd Y i)) = wb (X ||| Y) i := by rw [ofInt_wd, ofInt_wd, wb_or]
  exact (congrArg (fun v : BitVec 64 => IntKind.u64.wrap (v.toNat : Int)) h).trans (wrap_toNat _)
theorem wd_and (X Y : BitVec 256) (i : Nat) : bits BinOp.and IntKind.u64 (wd X i) (wd Y i) = wd (X &&& Y) i := by
  show IntKind.u64.wrap _ = _
  have h : (BitVec.ofInt 64 (wd X i) &&& BitVec.ofInt 64 (wd Y i)) = wb (X &&& Y) i := by rw [ofInt_wd, ofInt_wd, wb_and]
  exact (congrArg (fun v : BitVec 64 => IntKind.u64.wrap (v.toNat : Int)) h).trans (wrap_toNat _)
theorem wd_not (X : BitVec 256) (i : Nat) (hi : i < 4) : bits BinOp.xor IntKind.u64 18446744073709551615 (wd X i) = wd (~~~X) i := by
  show IntKind.u64.wrap _ = _
  have h : (BitVec.ofInt 64 18446744073709551615 ^^^ BitVec.ofInt 64 (wd X i)) = wb (~~~X) i := by rw [ofInt_wd, wb_not X i hi]
  exact (congrArg (fun v : BitVec 64 => IntKind.u64.wrap (v.toNat : Int)) h).trans (wrap_toNat _)
theorem bit_wd (b : Nat) (hb : b < 256) : ((2 : Int) ^ (b % 64)) = wd (bitS b) (b / 64) := by
  have e : wb (bitS b) (b / 64) = BitVec.twoPow 64 (b % 64) := by
    apply BitVec.eq_of_getLsbD_eq; intro k hk
    rw [wb_get, bitS_get, BitVec.getLsbD_twoPow]
    have h1 : b % 64 < 64 := by omega
    simp only [hk, hb, h1, decide_true, Bool.true_and]
    congr 1
    apply propext; omega
  unfold wd
  rw [e, BitVec.toNat_twoPow, Nat.mod_eq_of_lt (Nat.pow_lt_pow_right (by omega) (by omega))]
  simp
theorem set_bit (X : BitVec 256) (b : Nat) (hb : b < 256) : (cells X).set (b / 64) (.int .u64 (wd (X ||| bitS b) (b / 64))) = cells (X ||| bitS b) := by
  have other : ∀ i, i < 4 → i ≠ b / 64 → wd (X ||| bitS b) i = wd X i := fun i hi hne => by
    unfold wd
    have : wb (X ||| bitS b) i = wb X i := by
      apply BitVec.eq_of_getLsbD_eq; intro k hk
      rw [wb_get, wb_get, BitVec.getLsbD_or, bitS_get]
      have : decide (b = 64 * i + k) = false := by simp; omega
      simp [this]
    rw [this]
  apply List.ext_getElem?
  intro i
  rw [List.getElem?_set]
  by_cases hi : i < 4
  · rw [cells_at X i hi, cells_at (X ||| bitS b) i hi]
    split
    · rename_i e; subst e
      simp [cells, hi]
    · rename_i e
      rw [other i hi (fun h => e h.symm)]
  · have l : ∀ Y, (cells Y).length = 4 := fun _ => rfl
    rw [List.getElem?_eq_none (by rw [l]; omega), List.getElem?_eq_none (by rw [l]; omega)]
    split
    · split
      · rename_i e1 e2; rw [l] at e2; omega
      · rfl
    · rfl
/-- Has, by the program's shifts. -/
theorem has_shift (X : BitVec 256) (b : Nat) (hb : b < 256) : (wd X (b / 64) / 2 ^ (b % 64)) % 2 = if X.getLsbD b then 1 else 0 := by
  have h : (wb X (b / 64)).getLsbD (b % 64) = X.getLsbD b := by
    rw [wb_get]
    have e : 64 * (b / 64) + b % 64 = b := by omega
    have e2 : decide (b % 64 < 64) = true := by simp; omega
    rw [e, e2]; rfl
  rw [← h, BitVec.getLsbD, Nat.testBit_eq_decide_div_mod_eq]
  unfold wd
  have e : (((wb X (b / 64)).toNat : Int) / 2 ^ (b % 64)) % 2 = (((wb X (b / 64)).toNat / 2 ^ (b % 64) % 2 : Nat) : Int) := by simp
  rw [e]
  rcases Nat.mod_two_eq_zero_or_one ((wb X (b / 64)).toNat / 2 ^ (b % 64)) with h | h <;> simp [h]
/-- One word of a set set. -/
theorem set_word (X : BitVec 256) (i : Nat) (hi : i < 4) (v : Int) (h0 : 0 ≤ v) (h1 : v < 18446744073709551616) : ∃ M, (cells X).set i (.int .u64 v) = cells M ∧ ∀ j, j < 4 → wd M j = if j = i then v else wd X j := by
  obtain ⟨M, m0, m1, m2, m3⟩ := words_set (if 0 = i then v else wd X 0) (if 1 = i then v else wd X 1) (if 2 = i then v else wd X 2) (if 3 = i then v else wd X 3)
    (by split; exact ⟨h0, h1⟩; exact ⟨wd_lo _ _, wd_hi _ _⟩) (by split; exact ⟨h0, h1⟩; exact ⟨wd_lo _ _, wd_hi _ _⟩) (by split; exact ⟨h0, h1⟩; exact ⟨wd_lo _ _, wd_hi _ _⟩) (by split; exact ⟨h0, h1⟩; exact ⟨wd_lo _ _, wd_hi _ _⟩)
  refine ⟨M, ?_, fun j hj => ?_⟩
  · unfold cells
    rw [m0, m1, m2, m3]
    rcases i with _ | _ | _ | _ | i <;> first | rfl | omega
  · rcases j with _ | _ | _ | _ | j
    · exact m0
    · exact m1
    · exact m2
    · exact m3
    · omega
/-- Where the first k words are those of Y, the others those of X. -/
def Mid (M X Y : BitVec 256) (k : Nat) : Prop := ∀ j, j < 4 → wd M j = if j < k then wd Y j else wd X j
theorem Mid.start (X Y : BitVec 256) : Mid X X Y 0 := fun j _ => by simp
theorem Mid.stop {M X Y : BitVec 256} (h : Mid M X Y 4) : M = Y :=
  sv_eq ((h 0 (by omega)).trans (by simp)) ((h 1 (by omega)).trans (by simp)) ((h 2 (by omega)).trans (by simp)) ((h 3 (by omega)).trans (by simp))
theorem Mid.here {M X Y : BitVec 256} {k : Nat} (h : Mid M X Y k) (hk : k < 4) : wd M k = wd X k := (h k hk).trans (by simp)
theorem Mid.step {M X Y : BitVec 256} {k : Nat} (h : Mid M X Y k) (hk : k < 4) : ∃ M', (cells M).set k (.int .u64 (wd Y k)) = cells M' ∧ Mid M' X Y (k + 1) := by
  obtain ⟨M', h1, h2⟩ := set_word M k hk (wd Y k) (wd_lo _ _) (wd_hi _ _)
  refine ⟨M', h1, fun j hj => ?_⟩
  rw [h2 j hj]
  split
  · rename_i e; subst e; simp
  · rename_i e
    rw [h j hj]
    by_cases hjk : j < k
    · rw [if_pos hjk, if_pos (by omega)]
    · rw [if_neg hjk, if_neg (by omega)]
/-- The set of those below n of which f says so. -/
def mkN (f : Nat → Bool) : Nat → BitVec 256
  | 0 => 0
  | n + 1 => mkN f n ||| (if f n then bitS n else 0)
theorem mkN_get (f : Nat → Bool) : ∀ (n i : Nat), i < 256 → (mkN f n).getLsbD i = (decide (i < n) && f i)
  | 0, i, hi => by simp [mkN]
  | n + 1, i, hi => by
    rw [mkN, BitVec.getLsbD_or, mkN_get f n i hi]
    by_cases hf : f n = true
    · rw [if_pos hf, bitS_get]
      by_cases h1 : n = i
      · subst h1; simp [hf, hi]
      · have h2 : decide (i < n + 1) = decide (i < n) := by congr 1; apply propext; omega
        have h3 : decide (n = i) = false := by simp [h1]
        rw [h2, h3]; simp
    · rw [if_neg hf]
      by_cases h1 : n = i
      · subst h1; simp [hf]
      · have h2 : decide (i < n + 1) = decide (i < n) := by congr 1; apply propext; omega
        rw [h2]; simp
theorem ext_get {X Y : BitVec 256} (h : ∀ i, i < 256 → X.getLsbD i = Y.getLsbD i) : X = Y := BitVec.eq_of_getLsbD_eq fun i hi => h i hi
/-- All bytes from one to another. -/
def span (a b : Nat) : BitVec 256 := mkN (fun i => decide (a ≤ i) && decide (i ≤ b)) 256
/-- The set of some bytes. -/
def ofL (l : List UInt8) : BitVec 256 := l.foldl (fun X b => X ||| bitS b.toNat) 0
theorem ofL_snoc (l : List UInt8) (b : UInt8) : ofL (l ++ [b]) = ofL l ||| bitS b.toNat := by simp [ofL, List.foldl_append]
theorem ofL_get (l : List UInt8) (i : Nat) (hi : i < 256) : (ofL l).getLsbD i = l.any fun b => b.toNat == i := by
  have h : ∀ (l : List UInt8) (X : BitVec 256), (l.foldl (fun X b => X ||| bitS b.toNat) X).getLsbD i = (X.getLsbD i || l.any fun b => b.toNat == i) := by
    intro l
    induction l with
    | nil => intro X; simp
    | cons b r ih =>
      intro X
      rw [List.foldl_cons, ih, BitVec.getLsbD_or, bitS_get, List.any_cons, Bool.or_assoc]
      congr 2
      by_cases e : b.toNat = i
      · simp [e, hi]
      · simp [e]
  unfold ofL
  rw [h l 0]; simp
end Go.Proofs.Ytoniipmgkoogbaa.Cs
