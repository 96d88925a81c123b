/- How a slice of items comes in. -/
import Derived.Test.YtoniipmgkoogbaaGlB
import Derived.Test.YtoniipmgkoogbaaOpen
import Derived.Test.YtoniipmgkoogbaaCsQ
import Derived.Laws.IdiomArrays
namespace Go.Proofs.Ytoniipmgkoogbaa
open Go.ChangeShapes Go.WideShapes Go.ChangeAt Go.RowKit
set_option linter.unusedSimpArgs false
set_option linter.unusedVariables false

open Go.Joins Go.Deep
/-- A slice of items that came in. -/
def IsIt (w : World) (a : Option Addr) (len cap : Nat) (l : List (Bool × BitVec 256)) : Prop := l.length = len ∧ len ≤ cap ∧ cap ≤ maxLen ∧ IA w a l
theorem pick_list {α : Type} {P : Nat → α → Prop} : ∀ n, (∀ i, i < n → ∃ x, P i x) → ∃ l : List α, l.length = n ∧ ∀ i x, l[i]? = some x → P i x
  | 0, _ => ⟨[], rfl, fun i x h => by simp at h⟩
  | n + 1, h => by
    obtain ⟨l, hl, hp⟩ := pick_list n fun i hi => h i (by omega)
    obtain ⟨x, hx⟩ := h n (by omega)
    refine ⟨l ++ [x], by simp [hl], fun i y hy => ?_⟩
    by_cases hin : i < n
    · rw [List.getElem?_append_left (by omega)] at hy; exact hp i y hy
    · rw [List.getElem?_append_right (by omega)] at hy
      have : i - l.length = 0 := by
        have := (List.getElem?_eq_some_iff.1 hy).1
        simp at this; omega
      rw [this] at hy
      have hi : i = n := by omega
      simp at hy; subst hy; rw [hi]; exact hx
theorem its_cells {f : Nat → Option Value} : ∀ (l : List (Bool × BitVec 256)) (o : Nat), (∀ j x, l[j]? = some x → f (o + j * 5) = some (.bool x.1) ∧ f (o + j * 5 + 1) = some (.int .u64 (Cs.wd x.2 0)) ∧ f (o + j * 5 + 2) = some (.int .u64 (Cs.wd x.2 1)) ∧ f (o + j * 5 + 3) = some (.int .u64 (Cs.wd x.2 2)) ∧ f (o + j * 5 + 4) = some (.int .u64 (Cs.wd x.2 3))) → ∀ i v, (its l)[i]? = some v → f (o + i) = some v
  | [], o, _, i, v, hv => by simp [its] at hv
  | x :: l, o, h, i, v, hv => by
    obtain ⟨a, b, c, d, e⟩ := h 0 x rfl
    match i, hv with
    | 0, hv => rw [← hv]; simpa [its] using a
    | 1, hv => rw [← hv]; simpa [its] using b
    | 2, hv => rw [← hv]; simpa [its] using c
    | 3, hv => rw [← hv]; simpa [its] using d
    | 4, hv => rw [← hv]; simpa [its] using e
    | i + 5, hv =>
      have hr := its_cells l (o + 5) (fun j y hy => by
        have := h (j + 1) y (by simpa using hy)
        rw [show o + (j + 1) * 5 = o + 5 + j * 5 by omega] at this
        exact this) i v (by simpa [its] using hv)
      rw [show o + (i + 5) = o + 5 + i by omega]; exact hr
section
variable {H : Type} {enc : TypeId × Value → H} {w : World} {base : Nat} {held : Bool}
set_option maxRecDepth 20000 in
theorem fld_items {v : Value} {n : Nat} {y : DataW H × List MemPlace} (h : DataW.trod enc Try.prog w base (fun _ => true) held n 60 [v] = some y) : ∃ a len cap l, v = .slice a len cap ∧ IsIt w a len cap l := by
  have hC : Try.prog.cellsOf 69 = 5 := by kernel_rfl
  rcases open_slice Try.underlying60 h with ⟨hcs, _⟩ | ⟨a, len, cap, m, n', D, Pl, hcs, hb, hl, hm, hmm, hx, hi⟩
  · exact ⟨none, 0, 0, [], by simpa using hcs, rfl, Nat.le_refl _, Nat.zero_le _, Or.inl rfl⟩
  · have hlm : len ≤ m := by rw [hmm]; split <;> omega
    obtain ⟨b, off, spot⟩ := a
    have cellAt : ∀ i, i < len → ∃ x : Bool × BitVec 256, (i = 0 → spot = none) ∧ b < w.heap.size ∧ w.cell? ⟨b, off + i * 5, none⟩ = some (.bool x.1) ∧ w.cell? ⟨b, off + i * 5 + 1, none⟩ = some (.int .u64 (Cs.wd x.2 0)) ∧ w.cell? ⟨b, off + i * 5 + 2, none⟩ = some (.int .u64 (Cs.wd x.2 1)) ∧ w.cell? ⟨b, off + i * 5 + 3, none⟩ = some (.int .u64 (Cs.wd x.2 2)) ∧ w.cell? ⟨b, off + i * 5 + 4, none⟩ = some (.int .u64 (Cs.wd x.2 3)) := by
      intro i hil
      obtain ⟨cs', hc, ht'⟩ := hi i (by omega)
      rw [hC] at hc
      obtain ⟨ys, n2, hn2, hy, hlen', hyl, hf⟩ := DataW.trod_struct Try.underlying69 ht'
      obtain ⟨_, hcl, hat⟩ := World.cells?_some hc
      match cs', hcl with
      | [c0, c1, c2, c3, c4], _ =>
        have f0 := hf 0 _ rfl
        have f1 := hf 1 _ rfl
        have y0 : ys[0]? = some (ys[0]'(by rw [hyl]; decide)) := List.getElem?_eq_getElem _
        have y1 : ys[1]? = some (ys[1]'(by rw [hyl]; decide)) := List.getElem?_eq_getElem _
        have g0 := f0.trans y0
        have g1 := f1.trans y1
        obtain ⟨r, hr⟩ := fld_bool (v := c0) Try.underlying4 g0
        obtain ⟨z0, z1, z2, z3, nn, _, q0, q1, q2, q3⟩ := trod_array4 (c0 := c1) (c1 := c2) (c2 := c3) (c3 := c4) Try.underlying67 (by kernel_rfl) g1
        obtain ⟨a0, e0, w0⟩ := fld_int Try.underlying65 q0
        obtain ⟨a1, e1, w1⟩ := fld_int Try.underlying65 q1
        obtain ⟨a2, e2, w2⟩ := fld_int Try.underlying65 q2
        obtain ⟨a3, e3, w3⟩ := fld_int Try.underlying65 q3
        obtain ⟨X, x0, x1, x2, x3⟩ := Cs.words_set a0 a1 a2 a3 (wf_u64 w0) (wf_u64 w1) (wf_u64 w2) (wf_u64 w3)
        have h0 := hat 0 (by decide)
        have h1 := hat 1 (by decide)
        have h2 := hat 2 (by decide)
        have h3 := hat 3 (by decide)
        have h4 := hat 4 (by decide)
        have hs : i = 0 → spot = none := fun hi0 => by subst hi0; simpa [Addr.add] using World.cell?_spot h0
        have ad : ∀ j, (({ block := b, off := off, spot := spot } : Addr).add (i * 5)).add j = ⟨b, off + i * 5 + j, none⟩ := by
          intro j
          rw [Go.Deep.add_add]
          unfold Addr.add
          split
          · rename_i hz
            rw [hs (by omega), show off + i * 5 + j = off by omega]
          · rw [Nat.add_assoc]
        rw [ad] at h0 h1 h2 h3 h4
        have hbl := World.block_lt_of_cell? _ _ h0
        refine ⟨(r, X), hs, hbl, ?_, ?_, ?_, ?_, ?_⟩
        · rw [← hr]; exact h0
        · rw [x0, ← e0]; exact h1
        · rw [x1, ← e1]; exact h2
        · rw [x2, ← e2]; exact h3
        · rw [x3, ← e3]; exact h4
    obtain ⟨l, hll, hlp⟩ := pick_list len cellAt
    refine ⟨some ⟨b, off, spot⟩, len, cap, l, by simpa using hcs, hll, hl, hm, ?_⟩
    by_cases h0 : len = 0
    · exact Or.inl (List.eq_nil_of_length_eq_zero (by omega))
    · obtain ⟨x, hs, hbl, _⟩ := cellAt 0 (by omega)
      obtain rfl := hs rfl
      exact Or.inr ⟨b, off, rfl, hbl, its_cells (f := fun i => w.cell? ⟨b, i, none⟩) l off fun j x hx => (hlp j x hx).2.2⟩
end
end Go.Proofs.Ytoniipmgkoogbaa
