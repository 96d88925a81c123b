/- Several texts in one. -/
import Derived.Test.YtoniipmgkoogbaaCs11
/- The document's own answers on sets of bytes: whether a byte is in one, and the row of all. -/
namespace Go.Proofs.Ytoniipmgkoogbaa
open Go.ChangeShapes Go.WideShapes Go.ChangeAt Go.RowKit
set_option linter.unusedSimpArgs false
set_option linter.unusedVariables false

theorem has_nat (X : BitVec 256) (b : Nat) (hb : b < 256) : ((Cs.wb X (b / 64)).toNat / 2 ^ (b % 64)) % 2 = if X.getLsbD b then 1 else 0 := by
  have h := Cs.has_shift X b hb
  have e : ((Cs.wd X (b / 64) / 2 ^ (b % 64)) % 2 : Int) = (((Cs.wb X (b / 64)).toNat / 2 ^ (b % 64) % 2 : Nat) : Int) := by simp [Cs.wd]
  rw [e] at h
  generalize (Cs.wb X (b / 64)).toNat / 2 ^ (b % 64) % 2 = z at h ⊢
  cases hx : X.getLsbD b
  · rw [hx] at h; simp only [Bool.false_eq_true, if_false] at h ⊢; omega
  · rw [hx] at h; simp only [if_true] at h ⊢; omega
theorem infob : (Try.prog.info? 4).map (fun i => (i.zero, i.size, i.bytes)) = some (some (.bool false), 1, 1) := by kernel_rfl
def bl (f : Nat → Bool) (n : Nat) : List Value := (List.range n).map fun i => .bool (f i)
theorem bl_length (f : Nat → Bool) (n : Nat) : (bl f n).length = n := by simp [bl]
theorem bl_snoc (f : Nat → Bool) (n : Nat) : bl f (n + 1) = bl f n ++ [.bool (f n)] := by simp [bl, List.range_succ]
theorem bl_at (f : Nat → Bool) {n i : Nat} (h : i < n) : (bl f n)[i]? = some (.bool (f i)) := by simp [bl, h]
theorem one_b (b : Bool) : ∀ u ∈ [Value.bool b], u.oneCell' = true := by intro u hu; simp at hu; subst hu; rfl
end Go.Proofs.Ytoniipmgkoogbaa
/- The document's own answers on sets of bytes: the set of those of which a row says so. -/
namespace Go.Proofs.Ytoniipmgkoogbaa
open Go.ChangeShapes Go.WideShapes Go.ChangeAt Go.RowKit
set_option linter.unusedSimpArgs false
set_option linter.unusedVariables false

theorem Rw.below {w w' : World} {g cap : Nat} {L : List Value} {T : TypeId} (h : Rw w g cap L T) (k : Below w.heap.size w w') : Rw w' g cap L T := by
  obtain ⟨r, h1, h2, h3⟩ := h; exact ⟨r, h1, h2, h3.below k h3.lt⟩
theorem SB.at' {w : World} {B : Nat} {X : BitVec 256} (h : SB w B X) {i : Nat} (hi : i < 4) {v : Int} (hv : Cs.wd X i = v) : w.cell? ⟨B, i, none⟩ = some (.int .u64 v) := by rw [← hv]; exact h.at hi
end Go.Proofs.Ytoniipmgkoogbaa
/- The document's own answers on sets of bytes: of a text, of all from one to another. -/
namespace Go.Proofs.Ytoniipmgkoogbaa
open Go.ChangeShapes Go.WideShapes Go.ChangeAt Go.RowKit
set_option linter.unusedSimpArgs false
set_option linter.unusedVariables false

theorem Rw.put {w : World} {g cap : Nat} {L : List Value} {T : TypeId} (h : Rw w g cap L T) {i : Nat} (hi : i < L.length) (v : Value) : Rw (w.setCell ⟨g, i, none⟩ v) g cap (L.set i v) T := by
  obtain ⟨r, h1, h2, h3⟩ := h
  refine ⟨r, by simpa using h1, h2, ?_⟩
  have := h3.set i v
  rwa [List.set_append_left _ _ hi] at this
theorem Rw.free {w : World} {g cap : Nat} {L : List Value} {T : TypeId} (h : Rw w g cap L T) (i : Nat) : w.frozen? ⟨g, i, none⟩ = false := by
  obtain ⟨r, h1, h2, h3⟩ := h; exact h3.free i
theorem bl_set (f h : Nat → Bool) (i : Nat) (b : Bool) (hh : ∀ j, j < 256 → h j = if j = i then b else f j) : (bl f 256).set i (.bool b) = bl h 256 := by
  apply List.ext_getElem?
  intro j
  rw [List.getElem?_set]
  by_cases hj : j < 256
  · rw [bl_at h hj, bl_at f hj, hh j hj]
    by_cases e : i = j
    · subst e; simp [bl_length, hj]
    · rw [if_neg e, if_neg (fun k => e k.symm)]
  · have e1 : (bl h 256)[j]? = none := List.getElem?_eq_none (by rw [bl_length]; omega)
    have e2 : (bl f 256)[j]? = none := List.getElem?_eq_none (by rw [bl_length]; omega)
    rw [e1, e2]
    split
    · rw [if_neg (by rw [bl_length]; omega)]
    · rfl
theorem bl_congr {f h : Nat → Bool} (hh : ∀ j, j < 256 → f j = h j) : bl f 256 = bl h 256 := by
  unfold bl
  exact List.map_congr_left fun j hj => by rw [hh j (List.mem_range.1 hj)]
theorem Rw.flip {w : World} {g cap : Nat} {f h : Nat → Bool} (k : Rw w g cap (bl f 256) 4) {i : Nat} (hi : i < 256) {b : Bool} (hh : ∀ j, j < 256 → h j = if j = i then b else f j) : Rw (w.setCell ⟨g, i, none⟩ (.bool b)) g cap (bl h 256) 4 := by
  have := k.put (i := i) (by rw [bl_length]; exact hi) (.bool b)
  rwa [bl_set f h i b hh] at this
theorem Rw.other {w : World} {g cap : Nat} {L : List Value} {T : TypeId} (h : Rw w g cap L T) {c : Nat} (hne : g ≠ c) (i : Nat) (v : Value) : Rw (w.setCell ⟨c, i, none⟩ v) g cap L T := by
  obtain ⟨r, h1, h2, h3⟩ := h; exact ⟨r, h1, h2, h3.other hne i v⟩
/-- Which bytes came so far. -/
def came (s : ByteArray) (k : Nat) : Nat → Bool := fun j => (s.data.toList.take k).any fun b => b.toNat == j
theorem came_step (s : ByteArray) (k : Nat) (hk : k < s.size) (j : Nat) : came s (k + 1) j = if j = s[k].toNat then true else came s k j := by
  unfold came
  rw [List.take_succ_eq_append_getElem (by simpa using hk), List.any_append]
  have e : s.data.toList[k]'(by simpa using hk) = s[k] := rfl
  rw [e]
  by_cases h : j = s[k].toNat
  · subst h; simp
  · have : (s[k].toNat == j) = false := by rw [beq_eq_false_iff_ne]; exact fun e => h e.symm
    simp [this, h]
theorem came_all (s : ByteArray) : Cs.mkN (came s s.size) 256 = Cs.ofL s.data.toList := Cs.ext_get fun i hi => by
  rw [Cs.mkN_get _ _ _ hi, Cs.ofL_get _ _ hi]
  unfold came
  rw [List.take_of_length_le (by simp)]
  simp [hi]
end Go.Proofs.Ytoniipmgkoogbaa
/- The document's own answers on sets of bytes: all other bytes, all bytes. -/
namespace Go.Proofs.Ytoniipmgkoogbaa
open Go.ChangeShapes Go.WideShapes Go.ChangeAt Go.RowKit
set_option linter.unusedSimpArgs false
set_option linter.unusedVariables false

end Go.Proofs.Ytoniipmgkoogbaa
/- The document's own answers on sets of bytes: what comes of two sets. -/
namespace Go.Proofs.Ytoniipmgkoogbaa
open Go.ChangeShapes Go.WideShapes Go.ChangeAt Go.RowKit
set_option linter.unusedSimpArgs false
set_option linter.unusedVariables false

end Go.Proofs.Ytoniipmgkoogbaa
/- The document's own answers on sets of bytes: a byte's sign. -/
namespace Go.Proofs.Ytoniipmgkoogbaa
open Go.ChangeShapes Go.WideShapes Go.ChangeAt Go.RowKit
set_option linter.unusedSimpArgs false
set_option linter.unusedVariables false

theorem one_list {u : ByteArray} {b : Nat} (hb : b < 256) (hu : u.data.toList = [UInt8.ofNat b]) (c : UInt8) : (u.toList == [c]) = decide (b = c.toNat) := by
  rw [Lib.toList_data, hu]
  by_cases h : b = c.toNat
  · have : UInt8.ofNat b = c := by rw [h]; simp
    simp [this, h]
  · have : UInt8.ofNat b ≠ c := fun e => h (by rw [← e, Cs.toNat_lt hb])
    simp [this, h]
end Go.Proofs.Ytoniipmgkoogbaa
/- The document's own answers on sets of bytes: a set's text. -/
namespace Go.Proofs.Ytoniipmgkoogbaa
open Go.ChangeShapes Go.WideShapes Go.ChangeAt Go.RowKit
set_option linter.unusedSimpArgs false
set_option linter.unusedVariables false

theorem runF_math (X : BitVec 256) : ∀ n b, b + n + 1 = 256 → (∀ j, j ≤ Cs.run1 (UInt8.ofNat b) (Cs.memF X (b + 1)) → b + j < 256 ∧ (j = 0 ∨ X.getLsbD (b + j) = true)) ∧ (b + Cs.run1 (UInt8.ofNat b) (Cs.memF X (b + 1)) + 1 < 256 → X.getLsbD (b + Cs.run1 (UInt8.ofNat b) (Cs.memF X (b + 1)) + 1) = false) ∧ (Cs.memF X (b + 1)).drop (Cs.run1 (UInt8.ofNat b) (Cs.memF X (b + 1))) = Cs.memF X (b + Cs.run1 (UInt8.ofNat b) (Cs.memF X (b + 1)) + 1)
  | 0, b, h => by
    obtain rfl : b = 255 := by omega
    refine ⟨fun j hj => ?_, fun h => absurd h (by omega), rfl⟩
    rw [show (255 : Nat) + 1 = 256 from rfl, Cs.memF_end] at hj
    have : j = 0 := by simpa [Cs.run1] using hj
    subst this; exact ⟨by omega, Or.inl rfl⟩
  | n + 1, b, h => by
    have hs := Cs.memF_step X (b + 1) (by omega)
    cases hz : X.getLsbD (b + 1) with
    | true =>
      rw [hz] at hs
      simp only [if_true] at hs
      have hr : Cs.run1 (UInt8.ofNat b) (Cs.memF X (b + 1)) = Cs.run1 (UInt8.ofNat (b + 1)) (Cs.memF X (b + 1 + 1)) + 1 := by
        rw [hs, Cs.run1, if_pos (by rw [Cs.toNat_lt (by omega), Cs.toNat_lt (by omega)])]
      obtain ⟨i1, i2, i3⟩ := runF_math X n (b + 1) (by omega)
      rw [hr]
      refine ⟨fun j hj => ?_, fun h => ?_, ?_⟩
      · cases j with
        | zero => exact ⟨by omega, Or.inl rfl⟩
        | succ j =>
          obtain ⟨k1, k2⟩ := i1 j (by omega)
          refine ⟨by omega, Or.inr ?_⟩
          rcases k2 with e | e
          · subst e; exact hz
          · rw [show b + (j + 1) = b + 1 + j by omega]; exact e
      · have := i2 (by omega)
        rw [← this]; congr 1; omega
      · rw [hs, List.drop_succ_cons, i3]; congr 1; omega
    | false =>
      rw [hz] at hs
      simp only [Bool.false_eq_true, if_false] at hs
      have hr : Cs.run1 (UInt8.ofNat b) (Cs.memF X (b + 1)) = 0 := by
        have hge := Cs.memF_ge X n (b + 1 + 1) (by omega)
        rw [hs]
        cases hm : Cs.memF X (b + 1 + 1) with
        | nil => rfl
        | cons d r =>
          have := hge d (by rw [hm]; simp)
          rw [Cs.run1, if_neg (by rw [Cs.toNat_lt (by omega)]; omega)]
      rw [hr]
      refine ⟨fun j hj => ⟨by omega, Or.inl (by omega)⟩, fun _ => hz, rfl⟩
end Go.Proofs.Ytoniipmgkoogbaa
