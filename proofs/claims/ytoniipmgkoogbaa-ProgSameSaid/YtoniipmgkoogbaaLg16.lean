/- Patterns: what comes later; short texts; one behind another. -/
import Derived.Test.YtoniipmgkoogbaaLgC
namespace Go.Proofs.Ytoniipmgkoogbaa
open Go.ChangeShapes Go.WideShapes Go.ChangeAt Go.RowKit
set_option linter.unusedSimpArgs false
set_option linter.unusedVariables false

/-- Items as Few gives them, which is never none. -/
theorem own_iz {w : World} {base : Nat} {v : Value} {n : Nat} {l : List (Bool × BitVec 256)} (h : w.ownsRow base 69 5 v n (its l)) (hz : v ≠ .slice none 0 0) : ∃ g c, v = .slice (some ⟨g, 0, none⟩) l.length c ∧ IK w (some ⟨g, 0, none⟩) l := by
  obtain ⟨a, c, hv, hl⟩ := own_ik h
  rcases h.2 with ⟨h1, h2⟩ | ⟨g, cap, cur, h1, _⟩
  · exact absurd h1 hz
  · rw [h1] at hv
    injection hv with e e1 e2
    subst e
    exact ⟨g, c, by rw [h1, ← e1, e2], hl⟩
theorem IK.src {w : World} {g : Nat} {l : List (Bool × BitVec 256)} (h : IK w (some ⟨g, 0, none⟩) l) (j : Nat) (u : Value) (hj : (its l)[j]? = some u) : w.cell? ((⟨g, 0, none⟩ : Addr).add j) = some u := by
  have e2 : (({ block := g, off := 0, spot := none } : Addr).add j) = ⟨g, j, none⟩ := by simp [Addr.add]; omega
  rw [e2]
  rcases h.1 with h0 | ⟨g', h1, h2⟩
  · rw [h0] at hj; simp [its] at hj
  · have e := Option.some.inj h1
    injection e with e1
    rw [e1]; exact h2.2 j u hj
theorem its_both (l m : List (Bool × BitVec 256)) : its l ++ its m = its (l ++ m) := (its_append l m).symm
theorem NV.nil (w : World) : NV w none [] := Or.inl rfl
theorem lgT_app (t u : List UInt8) (x : Nat) (h : x < t.length) : lgT (t ++ u) x = lgT t x := by
  unfold lgT; rw [List.getElem?_append_left h]
theorem occ_app (l : List (Bool × BitVec 256)) (t u : List UInt8) (k : Nat) (hk : k ≤ t.length) : Lg.occ l (t ++ u) k = Lg.occ l t k := by
  unfold Lg.occ
  exact any_congr_mem fun i _ => lgD_congr i _ _ (fun _ _ => rfl) (fun x hx => lgT_app t u x (by omega))
theorem starts_app (l : List (Bool × BitVec 256)) (t u : List UInt8) (k : Nat) (hk : k ≤ t.length) : Lg.starts l (t ++ u) k = Lg.starts l t k := by
  unfold Lg.starts
  exact List.filter_congr fun i _ => lgD_congr i _ _ (fun _ _ => rfl) (fun x hx => lgT_app t u x (by omega))
theorem first_cases (l : List (Bool × BitVec 256)) (t : List UInt8) : (∃ k, k ≤ t.length ∧ (∀ j, j < k → Lg.occ l t j = false) ∧ Lg.occ l t k = true ∧ Lg.firstR l t = ((Lg.starts l t k).headD 0, k, true)) ∨ ((∀ j, j ≤ t.length → Lg.occ l t j = false) ∧ Lg.firstR l t = (0, 0, false)) := by
  cases h : (List.range (t.length + 1)).find? (Lg.occ l t) with
  | none =>
    right
    rw [List.find?_eq_none] at h
    have h0 : ∀ j, j ≤ t.length → Lg.occ l t j = false := fun j hj => by
      have := h j (List.mem_range.2 (by omega))
      simpa using this
    exact ⟨h0, first_none h0⟩
  | some k =>
    left
    rw [List.find?_range_eq_some] at h
    obtain ⟨h1, h2, h3⟩ := h
    have hk := List.mem_range.1 h2
    have h0 : ∀ j, j < k → Lg.occ l t j = false := fun j hj => by have := h3 j hj; simpa using this
    exact ⟨k, by omega, h0, h1, first_some (by omega) h0 h1⟩
/-- Where a pattern occurs first doesn't hang on what comes later. -/
theorem first_app (l : List (Bool × BitVec 256)) (t u : List UInt8) (a b : Nat) (ok : Bool) (h : Lg.firstR l t = (a, b, ok)) (c d : Nat) (is : Bool) (h2 : Lg.firstR l (t ++ u) = (c, d, is)) : (ok = true → is = true ∧ c = a ∧ d = b) ∧ (ok = false → is = true → t.length < d) := by
  rcases first_cases l t with ⟨k, hk, h0, h1, e⟩ | ⟨h0, e⟩
  · rw [e] at h
    simp only [Prod.mk.injEq] at h
    have e2 := first_some (l := l) (t := t ++ u) (k := k) (by rw [List.length_append]; omega) (fun j hj => by rw [occ_app l t u j (by omega)]; exact h0 j hj) (by rw [occ_app l t u k hk]; exact h1)
    rw [starts_app l t u k hk, h2] at e2
    simp only [Prod.mk.injEq] at e2
    exact ⟨fun _ => ⟨e2.2.2, by rw [e2.1, h.1], by rw [e2.2.1, h.2.1]⟩, fun hf => absurd (h.2.2.trans hf) (by simp)⟩
  · rw [e] at h
    simp only [Prod.mk.injEq] at h
    refine ⟨fun ht => absurd (h.2.2.trans ht) (by simp), fun _ hi => ?_⟩
    rcases first_cases l (t ++ u) with ⟨k, hk, h3, h4, e3⟩ | ⟨h3, e3⟩
    · rw [e3] at h2
      simp only [Prod.mk.injEq] at h2
      rcases Nat.lt_or_ge t.length k with q | q
      · omega
      · rw [occ_app l t u k q, h0 k q] at h4; cases h4
    · rw [e3] at h2
      simp only [Prod.mk.injEq] at h2
      rw [← h2.2.2] at hi; cases hi
/-- A text that is as short as may be: of each set its last byte. -/
def Lg.short (l : List (Bool × BitVec 256)) : List UInt8 := l.flatMap fun x => if x.1 then [] else (Cs.memT x.2 256).getLast?.toList
theorem short_snoc (l : List (Bool × BitVec 256)) (x : Bool × BitVec 256) : Lg.short (l ++ [x]) = Lg.short l ++ (if x.1 then [] else (Cs.memT x.2 256).getLast?.toList) := by
  unfold Lg.short; simp
theorem memT_fits (X : BitVec 256) (b : UInt8) (h : (Cs.memT X 256).getLast? = some b) : X.getLsbD b.toNat = true := by
  have hm := List.mem_of_getLast? h
  unfold Cs.memT at hm
  rw [List.mem_map] at hm
  obtain ⟨j, hj, e⟩ := hm
  rw [List.mem_filter] at hj
  have hj2 := List.mem_range.1 hj.1
  rw [← e, UInt8.toNat_ofNat']
  rw [show j % 2 ^ 8 = j by omega]
  exact hj.2
/-- It is matched, and no longer than asked, unless nothing is. -/
theorem short_ok (l : List (Bool × BitVec 256)) (hv : Lg.void l = false) : Lg.m l (Lg.short l) = true ∧ (Lg.short l).length = Lg.least l := by
  have key : ∀ k, k ≤ l.length → Lg.D (lgL l) (lgT (Lg.short l)) 0 k (Lg.short (l.take k)).length = true ∧ (Lg.short (l.take k)).length = Lg.least (l.take k) ∧ (Lg.short (l.take k)) <+: (Lg.short l) := by
    intro k
    induction k with
    | zero => intro _; refine ⟨by rw [lgD_zero]; rfl, rfl, ?_⟩; simp [Lg.short]
    | succ k ih =>
      intro hk
      obtain ⟨i1, i2, i3⟩ := ih (by omega)
      obtain ⟨x, hx⟩ : ∃ x, l[k]? = some x := ⟨_, List.getElem?_eq_getElem (by omega)⟩
      obtain ⟨r, X⟩ := x
      have e : lgL l k = (r, X) := by unfold lgL; rw [hx]; rfl
      have et : l.take (k + 1) = l.take k ++ [(r, X)] := by rw [List.take_add_one, hx]; rfl
      have hpre : (Lg.short (l.take (k + 1))) <+: (Lg.short l) := by
        have : l = l.take (k + 1) ++ l.drop (k + 1) := (List.take_append_drop _ _).symm
        refine ⟨Lg.short (l.drop (k + 1)), ?_⟩
        conv => rhs; rw [this]
        unfold Lg.short; rw [List.flatMap_append]
      rw [least_take hx]
      cases r with
      | true =>
        have es : Lg.short (l.take (k + 1)) = Lg.short (l.take k) := by rw [et, short_snoc]; simp
        rw [es]
        refine ⟨?_, by rw [i2]; rfl, i3⟩
        rw [lgD_back]
        exact ⟨_, i1, by unfold Lg.one; rw [e, if_pos rfl]; simp⟩
      | false =>
        have hX : X ≠ 0 := by
          intro h0
          unfold Lg.void at hv
          rw [List.any_eq_false] at hv
          have := hv (false, X) (List.mem_of_getElem? hx)
          rw [h0] at this; simp at this
        obtain ⟨b, hb⟩ : ∃ b, (Cs.memT X 256).getLast? = some b := by
          cases hm : Cs.memT X 256 with
          | nil => exact absurd ((memT_nil X).1 hm) hX
          | cons y ys => exact ⟨_, List.getLast?_eq_some_getLast (by simp)⟩
        have es : Lg.short (l.take (k + 1)) = Lg.short (l.take k) ++ [b] := by rw [et, short_snoc]; simp [hb]
        have hat : lgT (Lg.short l) (Lg.short (l.take k)).length = b := by
          obtain ⟨rest, hr⟩ := hpre
          unfold lgT
          rw [← hr, es, List.append_assoc, List.getElem?_append_right (Nat.le_refl _)]
          simp
        have el : (Lg.short (l.take (k + 1))).length = (Lg.short (l.take k)).length + 1 := by rw [es]; simp
        refine ⟨?_, by rw [el, i2]; rfl, hpre⟩
        rw [el, lgD_one (by rw [e]), i1, e, hat]
        unfold Lg.fits
        rw [memT_fits X b hb]; rfl
  obtain ⟨k1, k2, k3⟩ := key l.length (Nat.le_refl _)
  rw [List.take_length] at k1 k2
  exact ⟨k1, k2⟩
/-- Without runs what is matched is not longer. -/
theorem m_exact {l : List (Bool × BitVec 256)} {t : List UInt8} (hr : l.any (fun x => x.1) = false) (h : Lg.m l t = true) : t.length = Lg.least l := by
  have hall : ∀ j, j < l.length → (lgL l j).1 = false := by
    intro j hj
    rw [List.any_eq_false] at hr
    unfold lgL
    rw [List.getElem?_eq_getElem hj]
    have := hr _ (List.getElem_mem hj)
    simpa using this
  have key : ∀ k n, k ≤ l.length → Lg.D (lgL l) (lgT t) 0 k n = true → n = k := by
    intro k
    induction k with
    | zero => intro n _ h; rw [lgD_zero, beq_iff_eq] at h; exact h
    | succ k ih =>
      intro n hk h
      obtain ⟨m, h1, h2⟩ := (lgD_back _ _ _ _ _).1 h
      have := ih m (by omega) h1
      unfold Lg.one at h2
      rw [hall k (by omega), if_neg (by simp), Bool.and_eq_true] at h2
      have := of_decide_eq_true h2.1
      omega
  have h1 := key l.length t.length (Nat.le_refl _) h
  rw [h1]
  unfold Lg.least
  have : ∀ x ∈ l, (!x.1) = true := by
    intro x hx
    rw [List.any_eq_false] at hr
    have := hr x hx
    simpa using this
  exact (List.countP_eq_length.2 this).symm
/-- One pattern behind another one: what is cut into what they match. -/
theorem m_join (l m : List (Bool × BitVec 256)) (t : List UInt8) : Lg.m (l ++ m) t = (List.range (t.length + 1)).any fun i => Lg.m l (t.take i) && Lg.m m (t.drop i) := by
  apply bool_iff
  unfold Lg.m
  rw [List.length_append, lg_join l m (lgT t) 0 m.length t.length (Nat.le_refl _), List.any_eq_true]
  have e1 : ∀ p, p ≤ t.length → Lg.D (lgL l) (lgT t) 0 l.length p = Lg.D (lgL l) (lgT (t.take p)) 0 l.length (t.take p).length := fun p hp => by
    rw [List.length_take, Nat.min_eq_left hp]
    exact lgD_congr 0 _ _ (fun _ _ => rfl) (fun x hx => by unfold lgT; rw [List.getElem?_take, if_pos hx])
  have e2 : ∀ p, p ≤ t.length → Lg.D (lgL m) (lgT t) p m.length t.length = Lg.D (lgL m) (lgT (t.drop p)) 0 m.length (t.drop p).length := fun p hp => by
    have h := lg_piece m t p t.length hp (Nat.le_refl _)
    rw [← h]
    unfold Lg.m
    rw [List.take_of_length_le (by rw [List.length_drop]; omega)]
  constructor
  · rintro ⟨p, h1, h2⟩
    have hp := lgD_le h2
    exact ⟨p, List.mem_range.2 (by omega), by rw [Bool.and_eq_true]; exact ⟨by rw [← e1 p hp]; exact h1, by rw [← e2 p hp]; exact h2⟩⟩
  · rintro ⟨p, hp, h⟩
    have hp := List.mem_range.1 hp
    rw [Bool.and_eq_true] at h
    exact ⟨p, by rw [e1 p (by omega)]; exact h.1, by rw [e2 p (by omega)]; exact h.2⟩
end Go.Proofs.Ytoniipmgkoogbaa
