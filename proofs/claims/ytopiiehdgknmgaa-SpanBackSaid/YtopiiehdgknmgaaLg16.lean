/- Patterns: what comes later; short texts; one behind another. -/
import Derived.Test.YtopiiehdgknmgaaLgC
namespace Go.Proofs.Ytopiiehdgknmgaa
open Go.ChangeShapes Go.WideShapes Go.ChangeAt Go.RowKit
set_option linter.unusedSimpArgs false
set_option linter.unusedVariables false

set_option maxRecDepth 20000 in
set_option maxHeartbeats 1000000 in
theorem gl_fewz (mx : Nat) (hmx : mx ≤ 1000) (l : List (Bool × BitVec 256)) (a : Option Addr) (n c : Nat) (hn : l.length = n) (hn6 : n ≤ maxLen) (w : World) (h : IA w a l) :
    Calls Try.prog 30 #[.slice a n c, .int .i64 mx] w fun e w' => ∃ v, e = .returned v ∧ v ≠ .slice none 0 0 ∧ w'.ownsRow w.heap.size 62 5 v (l.take mx).length (its (l.take mx)) ∧ Below w.heap.size w w' := by
  obtain ⟨i0, hi, hz0, hz1, hz2⟩ := info_split infoI
  have HI := Lib.hid hi
  have HI0 := Lib.hid hz0
  have HI1 := Lib.hid hz1
  have HI2 := Lib.hid hz2
  have HP := Lib.hid (And.intro hn h)
  have mx0 : (0 : Int) ≤ (mx : Int) := by omega
  have hn9 : n ≤ 9223372036854775807 := by unfold maxLen at hn6; omega
  have hstart : Hid ((w.alloc (.cells #[] 62)).ownsRow w.heap.size 62 5 (.slice (some ⟨w.heap.size, 0, none⟩) 0 0) 0 (its []) ∧ Below w.heap.size w (w.alloc (.cells #[] 62))) := Lib.hid ⟨World.ownsRow_lit w #[] 0 (Nat.le_refl _) (by decide) rfl, (Below.refl _ _).alloc (Nat.le_refl _) _⟩
  clear hi hz0 hz1 hz2 hn h hn6
  go_enter Try.func30, Try.ntmps30
  go_upto_region 2 with fail
  revert hstart
  generalize w.alloc (.cells #[] 62) = W
  intro hstart
  go_wp2
  go_loopw [5, 6] (fun v i wr => ∃ k : Nat, i = .int .i64 k ∧ k ≤ n ∧ k ≤ mx ∧ Hid (wr.ownsRow w.heap.size 62 5 v k (its (l.take k)) ∧ Below w.heap.size w wr) ∧ Hid (v ≠ .slice none 0 0)) (fun _ i _ => n - (intOf i).toNat)
  case atStart => exact ⟨0, rfl, by omega, by omega, Lib.hid ⟨by simpa using hstart.out.1, hstart.out.2⟩, Lib.hid (by simp)⟩
  case round =>
    clear hstart
    obtain ⟨k, rfl, hk, hk64, HB, HZ⟩ := hrel
    have j0 : (0 : Int) ≤ (k : Int) := by omega
    by_cases hkn : k < n
    · by_cases hk6 : k < mx
      · obtain ⟨x, hx⟩ : ∃ x, l[k]? = some x := ⟨_, List.getElem?_eq_getElem (by rw [HP.out.1]; exact hkn)⟩
        obtain ⟨r, X⟩ := x
        obtain ⟨a', c', hv⟩ := own_slice HB.out.1
        subst hv
        have HX := Lib.hid hx
        have hIA : IA wr a l := HP.out.2.below HB.out.2
        obtain ⟨g, o, ha, hg, z0, z1, z2, z3, z4⟩ := hIA.cell hx
        subst ha
        have w1 : IntKind.i64.wrap ((k : Int) + 1) = (k : Int) + 1 := IntWalk.i64_in _ (by omega)
        clear hIA hx
        dsimp only at z0 z1 z2 z3 z4
        have hd : Hid (Below w.heap.size w (wr.alloc (.cells #[.bool r, .int .u64 (Cs.wd X 0), .int .u64 (Cs.wd X 1), .int .u64 (Cs.wd X 2), .int .u64 (Cs.wd X 3)] 62)) ∧ (wr.alloc (.cells #[.bool r, .int .u64 (Cs.wd X 0), .int .u64 (Cs.wd X 1), .int .u64 (Cs.wd X 2), .int .u64 (Cs.wd X 3)] 62)).ownsRow w.heap.size 62 5 (.slice a' k c') k (its (l.take k))) := Lib.hid ⟨HB.out.2.alloc HB.out.2.size _, HB.out.1.alloc _⟩
        go_wp2_with (at_builtin; refine wpList_append_own _ rfl _ _ 54 rfl w.heap.size 62 i0 (.agg #[.bool false, .int .u64 0, .int .u64 0, .int .u64 0, .int .u64 0]) 5 40 Try.underlying54 HI.out HI0.out HI1.out HI2.out rfl (by decide) _ _ _ rfl hd.out.2 ⟨wr.heap.size, 0, none⟩ 1 1 [.bool r, .int .u64 (Cs.wd X 0), .int .u64 (Cs.wd X 1), .int .u64 (Cs.wd X 2), .int .u64 (Cs.wd X 3)] rfl rfl (new_cells _ _ _) (one_item _ _ _ _ _) (by unfold maxLen; omega) (by omega) (by have := hd.out.1.size; simp; have := HB.out.2.size; omega) ?_)
        intro v' w3 hown hgrow hnil
        have HZ2 : Hid (v' ≠ .slice none 0 0) := by first | exact Lib.hid hnil | exact Lib.hid (fun e => HZ.out (hnil.1 e).1)
        clear hnil
        have HN : Hid (w3.ownsRow w.heap.size 62 5 v' (k + 1) (its (l.take (k + 1))) ∧ Below w.heap.size w w3) := by
          refine Lib.hid ⟨?_, hd.out.1.grown hgrow (by have := HB.out.2.size; simp; omega) (fun q hq => (hd.out.2.lt q hq).1)⟩
          rw [take_more l k (r, X) HX.out, its_append]; exact hown
        clear hown hgrow
        go_wp2
        refine ⟨?_, ?measure⟩
        case measure => simp [intOf]; omega
        first
          | exact ⟨k + 1, by go_num, by omega, by omega, HN, HZ2⟩
          | ((repeat apply Exists.intro); exact ⟨⟨k + 1, by go_num, by omega, by omega, HN, HZ2⟩, rfl⟩)
      · obtain rfl : k = mx := by omega
        have hlt : (l.take k).length = k := by rw [List.length_take, HP.out.1]; omega
        go_wp2
        go_ret
        exact ⟨_, rfl, HZ.out, by rw [hlt]; exact HB.out.1, HB.out.2⟩
    · obtain rfl : k = n := by omega
      have hlt : (l.take mx).length = k := by rw [List.length_take, HP.out.1]; omega
      have hlt2 : l.take mx = l.take k := by rw [List.take_of_length_le (by rw [HP.out.1]; omega), List.take_of_length_le (by rw [HP.out.1]; omega)]
      go_wp2
      go_ret
      exact ⟨_, rfl, HZ.out, by rw [hlt, hlt2]; exact HB.out.1, HB.out.2⟩
/-- Items as Few gives them, which is never none. -/
theorem own_iz {w : World} {base : Nat} {v : Value} {n : Nat} {l : List (Bool × BitVec 256)} (h : w.ownsRow base 62 5 v n (its l)) (hz : v ≠ .slice none 0 0) : ∃ g c, v = .slice (some ⟨g, 0, none⟩) l.length c ∧ IK w (some ⟨g, 0, none⟩) l := by
  obtain ⟨a, c, hv, hl⟩ := own_ik h
  rcases h.2 with ⟨h1, h2⟩ | ⟨g, cap, cur, h1, _⟩
  · exact absurd h1 hz
  · rw [h1] at hv
    injection hv with e e1 e2
    subst e
    exact ⟨g, c, by rw [h1, ← e1, e2], hl⟩
theorem fewz_first (mx : Nat) (hmx : mx ≤ 1000) (l L : List (Bool × BitVec 256)) (hL : l.take mx = L) (n : Nat) (hn : L.length = n) (a : Option Addr) (n0 c : Nat) (hn0 : l.length = n0) (hm : n0 ≤ maxLen) (mi : Int) (hmi : mi = mx) (w : World) (h : IA w a l) :
    Calls Try.prog 30 #[.slice a n0 c, .int .i64 mi] w fun e w' => ∃ g c', e = .returned (.slice (some ⟨g, 0, none⟩) n c') ∧ IK w' (some ⟨g, 0, none⟩) L ∧ Below w.heap.size w w' := by
  subst hmi
  refine (gl_fewz mx hmx l a n0 c hn0 hm w h).mono ?_
  rintro e W ⟨v, rfl, hz, h1, h2⟩
  rw [hL] at h1
  obtain ⟨g, c', rfl, h3⟩ := own_iz h1 hz
  exact ⟨g, c', by rw [hn], h3, h2⟩
theorem IK.src {w : World} {g : Nat} {l : List (Bool × BitVec 256)} (h : IK w (some ⟨g, 0, none⟩) l) (j : Nat) (u : Value) (hj : (its l)[j]? = some u) : w.cell? ((⟨g, 0, none⟩ : Addr).add j) = some u := by
  have e2 : (({ block := g, off := 0, spot := none } : Addr).add j) = ⟨g, j, none⟩ := by simp [Addr.add]; omega
  rw [e2]
  rcases h.1 with h0 | ⟨g', h1, h2⟩
  · rw [h0] at hj; simp [its] at hj
  · have e := Option.some.inj h1
    injection e with e1
    rw [e1]; exact h2.2 j u hj
theorem its_both (l m : List (Bool × BitVec 256)) : its l ++ its m = its (l ++ m) := (its_append l m).symm
theorem NV.nil (w : World) : NV w none [] := Or.inl rfl
theorem few_own (mx : Nat) (hmx : mx ≤ 1000) (L : List (Bool × BitVec 256)) (n : Nat) (hn : L.length = n) (hn6 : n ≤ mx) (a : Option Addr) (c : Nat) (mi : Int) (hmi : mi = mx) (w : World) (h : IA w a L) :
    Calls Try.prog 30 #[.slice a n c, .int .i64 mi] w fun e w' => ∃ v, e = .returned v ∧ w'.ownsRow w.heap.size 62 5 v n (its L) ∧ Below w.heap.size w w' := by
  subst hmi
  refine (gl_fewm mx hmx L a n c hn (by unfold maxLen; omega) w h).mono ?_
  rintro e W ⟨v, rfl, h1, h2⟩
  rw [List.take_of_length_le (by omega), hn] at h1
  exact ⟨v, rfl, h1, h2⟩
theorem lgT_app (t u : List UInt8) (x : Nat) (h : x < t.length) : lgT (t ++ u) x = lgT t x := by
  unfold lgT; rw [List.getElem?_append_left h]
theorem occ_app (l : List (Bool × BitVec 256)) (t u : List UInt8) (k : Nat) (hk : k ≤ t.length) : Lg.occ l (t ++ u) k = Lg.occ l t k := by
  unfold Lg.occ
  exact any_congr_mem fun i _ => lgD_congr i _ _ (fun _ _ => rfl) (fun x hx => lgT_app t u x (by omega))
theorem starts_app (l : List (Bool × BitVec 256)) (t u : List UInt8) (k : Nat) (hk : k ≤ t.length) : Lg.starts l (t ++ u) k = Lg.starts l t k := by
  unfold Lg.starts
  exact List.filter_congr fun i _ => lgD_congr i _ _ (fun _ _ => rfl) (fun x hx => lgT_app t u x (by omega))
theorem first_cases (l : List (Bool × BitVec 256)) (t : List UInt8) : (∃ k, k ≤ t.length ∧ (∀ j, j < k → Lg.occ l t j = false) ∧ Lg.occ l t k = true ∧ Lg.firstR l t = ((Lg.starts l t k).headD 0, k, true)) ∨ ((∀ j, j ≤ t.length → Lg.occ l t j = false) ∧ Lg.firstR l t = (0, 0, false)) := by
  cases h : (List.range (t.length + 1)).find? (Lg.occ l t) with
  | none =>
    right
    rw [List.find?_eq_none] at h
    have h0 : ∀ j, j ≤ t.length → Lg.occ l t j = false := fun j hj => by
      have := h j (List.mem_range.2 (by omega))
      simpa using this
    exact ⟨h0, first_none h0⟩
  | some k =>
    left
    rw [List.find?_range_eq_some] at h
    obtain ⟨h1, h2, h3⟩ := h
    have hk := List.mem_range.1 h2
    have h0 : ∀ j, j < k → Lg.occ l t j = false := fun j hj => by have := h3 j hj; simpa using this
    exact ⟨k, by omega, h0, h1, first_some (by omega) h0 h1⟩
/-- Where a pattern occurs first doesn't hang on what comes later. -/
theorem first_app (l : List (Bool × BitVec 256)) (t u : List UInt8) (a b : Nat) (ok : Bool) (h : Lg.firstR l t = (a, b, ok)) (c d : Nat) (is : Bool) (h2 : Lg.firstR l (t ++ u) = (c, d, is)) : (ok = true → is = true ∧ c = a ∧ d = b) ∧ (ok = false → is = true → t.length < d) := by
  rcases first_cases l t with ⟨k, hk, h0, h1, e⟩ | ⟨h0, e⟩
  · rw [e] at h
    simp only [Prod.mk.injEq] at h
    have e2 := first_some (l := l) (t := t ++ u) (k := k) (by rw [List.length_append]; omega) (fun j hj => by rw [occ_app l t u j (by omega)]; exact h0 j hj) (by rw [occ_app l t u k hk]; exact h1)
    rw [starts_app l t u k hk, h2] at e2
    simp only [Prod.mk.injEq] at e2
    exact ⟨fun _ => ⟨e2.2.2, by rw [e2.1, h.1], by rw [e2.2.1, h.2.1]⟩, fun hf => absurd (h.2.2.trans hf) (by simp)⟩
  · rw [e] at h
    simp only [Prod.mk.injEq] at h
    refine ⟨fun ht => absurd (h.2.2.trans ht) (by simp), fun _ hi => ?_⟩
    rcases first_cases l (t ++ u) with ⟨k, hk, h3, h4, e3⟩ | ⟨h3, e3⟩
    · rw [e3] at h2
      simp only [Prod.mk.injEq] at h2
      rcases Nat.lt_or_ge t.length k with q | q
      · omega
      · rw [occ_app l t u k q, h0 k q] at h4; cases h4
    · rw [e3] at h2
      simp only [Prod.mk.injEq] at h2
      rw [← h2.2.2] at hi; cases hi
/-- A text that is as short as may be: of each set its last byte. -/
def Lg.short (l : List (Bool × BitVec 256)) : List UInt8 := l.flatMap fun x => if x.1 then [] else (Cs.memT x.2 256).getLast?.toList
theorem short_snoc (l : List (Bool × BitVec 256)) (x : Bool × BitVec 256) : Lg.short (l ++ [x]) = Lg.short l ++ (if x.1 then [] else (Cs.memT x.2 256).getLast?.toList) := by
  unfold Lg.short; simp
theorem memT_fits (X : BitVec 256) (b : UInt8) (h : (Cs.memT X 256).getLast? = some b) : X.getLsbD b.toNat = true := by
  have hm := List.mem_of_getLast? h
  unfold Cs.memT at hm
  rw [List.mem_map] at hm
  obtain ⟨j, hj, e⟩ := hm
  rw [List.mem_filter] at hj
  have hj2 := List.mem_range.1 hj.1
  rw [← e, UInt8.toNat_ofNat']
  rw [show j % 2 ^ 8 = j by omega]
  exact hj.2
/-- It is matched, and no longer than asked, unless nothing is. -/
theorem short_ok (l : List (Bool × BitVec 256)) (hv : Lg.void l = false) : Lg.m l (Lg.short l) = true ∧ (Lg.short l).length = Lg.least l := by
  have key : ∀ k, k ≤ l.length → Lg.D (lgL l) (lgT (Lg.short l)) 0 k (Lg.short (l.take k)).length = true ∧ (Lg.short (l.take k)).length = Lg.least (l.take k) ∧ (Lg.short (l.take k)) <+: (Lg.short l) := by
    intro k
    induction k with
    | zero => intro _; refine ⟨by rw [lgD_zero]; rfl, rfl, ?_⟩; simp [Lg.short]
    | succ k ih =>
      intro hk
      obtain ⟨i1, i2, i3⟩ := ih (by omega)
      obtain ⟨x, hx⟩ : ∃ x, l[k]? = some x := ⟨_, List.getElem?_eq_getElem (by omega)⟩
      obtain ⟨r, X⟩ := x
      have e : lgL l k = (r, X) := by unfold lgL; rw [hx]; rfl
      have et : l.take (k + 1) = l.take k ++ [(r, X)] := by rw [List.take_add_one, hx]; rfl
      have hpre : (Lg.short (l.take (k + 1))) <+: (Lg.short l) := by
        have : l = l.take (k + 1) ++ l.drop (k + 1) := (List.take_append_drop _ _).symm
        refine ⟨Lg.short (l.drop (k + 1)), ?_⟩
        conv => rhs; rw [this]
        unfold Lg.short; rw [List.flatMap_append]
      rw [least_take hx]
      cases r with
      | true =>
        have es : Lg.short (l.take (k + 1)) = Lg.short (l.take k) := by rw [et, short_snoc]; simp
        rw [es]
        refine ⟨?_, by rw [i2]; rfl, i3⟩
        rw [lgD_back]
        exact ⟨_, i1, by unfold Lg.one; rw [e, if_pos rfl]; simp⟩
      | false =>
        have hX : X ≠ 0 := by
          intro h0
          unfold Lg.void at hv
          rw [List.any_eq_false] at hv
          have := hv (false, X) (List.mem_of_getElem? hx)
          rw [h0] at this; simp at this
        obtain ⟨b, hb⟩ : ∃ b, (Cs.memT X 256).getLast? = some b := by
          cases hm : Cs.memT X 256 with
          | nil => exact absurd ((memT_nil X).1 hm) hX
          | cons y ys => exact ⟨_, List.getLast?_eq_some_getLast (by simp)⟩
        have es : Lg.short (l.take (k + 1)) = Lg.short (l.take k) ++ [b] := by rw [et, short_snoc]; simp [hb]
        have hat : lgT (Lg.short l) (Lg.short (l.take k)).length = b := by
          obtain ⟨rest, hr⟩ := hpre
          unfold lgT
          rw [← hr, es, List.append_assoc, List.getElem?_append_right (Nat.le_refl _)]
          simp
        have el : (Lg.short (l.take (k + 1))).length = (Lg.short (l.take k)).length + 1 := by rw [es]; simp
        refine ⟨?_, by rw [el, i2]; rfl, hpre⟩
        rw [el, lgD_one (by rw [e]), i1, e, hat]
        unfold Lg.fits
        rw [memT_fits X b hb]; rfl
  obtain ⟨k1, k2, k3⟩ := key l.length (Nat.le_refl _)
  rw [List.take_length] at k1 k2
  exact ⟨k1, k2⟩
/-- Without runs what is matched is not longer. -/
theorem m_exact {l : List (Bool × BitVec 256)} {t : List UInt8} (hr : l.any (fun x => x.1) = false) (h : Lg.m l t = true) : t.length = Lg.least l := by
  have hall : ∀ j, j < l.length → (lgL l j).1 = false := by
    intro j hj
    rw [List.any_eq_false] at hr
    unfold lgL
    rw [List.getElem?_eq_getElem hj]
    have := hr _ (List.getElem_mem hj)
    simpa using this
  have key : ∀ k n, k ≤ l.length → Lg.D (lgL l) (lgT t) 0 k n = true → n = k := by
    intro k
    induction k with
    | zero => intro n _ h; rw [lgD_zero, beq_iff_eq] at h; exact h
    | succ k ih =>
      intro n hk h
      obtain ⟨m, h1, h2⟩ := (lgD_back _ _ _ _ _).1 h
      have := ih m (by omega) h1
      unfold Lg.one at h2
      rw [hall k (by omega), if_neg (by simp), Bool.and_eq_true] at h2
      have := of_decide_eq_true h2.1
      omega
  have h1 := key l.length t.length (Nat.le_refl _) h
  rw [h1]
  unfold Lg.least
  have : ∀ x ∈ l, (!x.1) = true := by
    intro x hx
    rw [List.any_eq_false] at hr
    have := hr x hx
    simpa using this
  exact (List.countP_eq_length.2 this).symm
/-- One pattern behind another one: what is cut into what they match. -/
theorem m_join (l m : List (Bool × BitVec 256)) (t : List UInt8) : Lg.m (l ++ m) t = (List.range (t.length + 1)).any fun i => Lg.m l (t.take i) && Lg.m m (t.drop i) := by
  apply bool_iff
  unfold Lg.m
  rw [List.length_append, lg_join l m (lgT t) 0 m.length t.length (Nat.le_refl _), List.any_eq_true]
  have e1 : ∀ p, p ≤ t.length → Lg.D (lgL l) (lgT t) 0 l.length p = Lg.D (lgL l) (lgT (t.take p)) 0 l.length (t.take p).length := fun p hp => by
    rw [List.length_take, Nat.min_eq_left hp]
    exact lgD_congr 0 _ _ (fun _ _ => rfl) (fun x hx => by unfold lgT; rw [List.getElem?_take, if_pos hx])
  have e2 : ∀ p, p ≤ t.length → Lg.D (lgL m) (lgT t) p m.length t.length = Lg.D (lgL m) (lgT (t.drop p)) 0 m.length (t.drop p).length := fun p hp => by
    have h := lg_piece m t p t.length hp (Nat.le_refl _)
    rw [← h]
    unfold Lg.m
    rw [List.take_of_length_le (by rw [List.length_drop]; omega)]
  constructor
  · rintro ⟨p, h1, h2⟩
    have hp := lgD_le h2
    exact ⟨p, List.mem_range.2 (by omega), by rw [Bool.and_eq_true]; exact ⟨by rw [← e1 p hp]; exact h1, by rw [← e2 p hp]; exact h2⟩⟩
  · rintro ⟨p, hp, h⟩
    have hp := List.mem_range.1 hp
    rw [Bool.and_eq_true] at h
    exact ⟨p, by rw [e1 p (by omega)]; exact h.1, by rw [e2 p (by omega)]; exact h.2⟩
end Go.Proofs.Ytopiiehdgknmgaa
