/- Several texts in one. -/
import Derived.Test.YtbdjcppkfihonaaLg10
import Derived.Test.YtbdjcppkfihonaaCsRA
import Derived.Test.YtbdjcppkfihonaaGl13
/- Patterns: the document's Least, Void, Starts. -/
namespace Go.Proofs.Ytbdjcppkfihonaa
open Go.ChangeShapes Go.WideShapes Go.ChangeAt Go.RowKit
set_option linter.unusedSimpArgs false
set_option linter.unusedVariables false

theorem memT_nil (X : BitVec 256) : Cs.memT X 256 = [] ↔ X = 0 := by
  constructor
  · intro h
    refine Cs.ext_get fun i hi => ?_
    unfold Cs.memT at h
    rw [List.map_eq_nil_iff, List.filter_eq_nil_iff] at h
    have := h i (List.mem_range.2 hi)
    simpa using this
  · rintro rfl
    unfold Cs.memT
    simp
set_option maxRecDepth 20000 in
set_option maxHeartbeats 4000000 in
theorem rg_least (l : List (Bool × BitVec 256)) (m : Nat) (hm : Lg.least l = m) (n : Nat) (a : Option Addr) (c : Nat) (hn : l.length = n) (hn6 : n ≤ 1000000) (w : World) (hI : IA w a l) :
    Calls Try.prog 85 #[.slice a n c] w fun e w' => e = .returned (.int .i64 m) ∧ Below w.heap.size w w' := by
  have HG := Lib.hid (And.intro hI (And.intro hn hm))
  clear hI hn hm
  go_enter Try.func85, Try.ntmps85
  go_wp2
  go_loopw [3, 4] (fun q i wr => ∃ k j : Nat, i = .int .i64 k ∧ q = .int .i64 j ∧ k ≤ n ∧ j ≤ k ∧ Hid (Lg.least (l.take k) = j) ∧ Hid (Below w.heap.size w wr)) (fun _ i _ => n - (intOf i).toNat)
  case atStart => exact ⟨0, 0, rfl, rfl, by omega, by omega, Lib.hid rfl, Lib.hid (Below.refl _ _)⟩
  case round =>
    obtain ⟨k, j, rfl, rfl, hk, hjk, HK, HB⟩ := hrel
    have j0 : (0 : Int) ≤ (k : Int) := by omega
    by_cases hkl : k < n
    · have w1 : IntKind.i64.wrap ((j : Int) + 1) = (j : Int) + 1 := IntWalk.i64_in _ (by omega)
      obtain ⟨x, hx⟩ : ∃ x, l[k]? = some x := ⟨_, List.getElem?_eq_getElem (by rw [HG.out.2.1]; exact hkl)⟩
      obtain ⟨r, X⟩ := x
      have hIA : IA wr a l := HG.out.1.below HB.out
      obtain ⟨gi, o, ha, hgi, z0, z1, z2, z3, z4⟩ := hIA.cell hx
      subst ha
      have HXX : Hid (l[k]? = some (r, X)) := Lib.hid hx
      dsimp only at z0 z1 z2 z3 z4
      clear hx hIA
      cases r with
      | true =>
        have HK2 : Hid (Lg.least (l.take (k + 1)) = j) := Lib.hid (by rw [least_take HXX.out, HK.out]; rfl)
        go_wp2
        refine ⟨?_, ?measure⟩
        case measure => simp [intOf]; omega
        first
          | exact ⟨k + 1, j, by go_num, rfl, by omega, by omega, HK2, HB⟩
          | ((repeat apply Exists.intro); exact ⟨⟨k + 1, j, by go_num, rfl, by omega, by omega, HK2, HB⟩, rfl⟩)
      | false =>
        have HK2 : Hid (Lg.least (l.take (k + 1)) = j + 1) := Lib.hid (by rw [least_take HXX.out, HK.out]; rfl)
        go_wp2
        refine ⟨?_, ?measure⟩
        case measure => simp [intOf]; omega
        first
          | exact ⟨k + 1, j + 1, by go_num, by go_num, by omega, by omega, HK2, HB⟩
          | ((repeat apply Exists.intro); exact ⟨⟨k + 1, j + 1, by go_num, by go_num, by omega, by omega, HK2, HB⟩, rfl⟩)
    · obtain rfl : k = n := by omega
      have e : j = m := by rw [← HK.out, ← HG.out.2.2, List.take_of_length_le (by rw [HG.out.2.1]; omega)]
      subst e
      go_wp2
      go_ret
      exact ⟨rfl, HB.out⟩
/-- The places ahead of k from which a pattern occurs to tt. -/
def Lg.pre (l : List (Bool × BitVec 256)) (t : List UInt8) (tt k : Nat) : List Nat := (List.range k).filter fun i => Lg.D (lgL l) (lgT t) i l.length tt
theorem pre_all (l : List (Bool × BitVec 256)) (t : List UInt8) (tt : Nat) : Lg.pre l t tt (tt + 1) = Lg.starts l t tt := by
  unfold Lg.pre Lg.starts; rw [List.range_eq_range']
theorem pre_yes {l : List (Bool × BitVec 256)} {t : List UInt8} {tt k : Nat} (h : Lg.D (lgL l) (lgT t) k l.length tt = true) : Lg.pre l t tt (k + 1) = Lg.pre l t tt k ++ [k] := by
  unfold Lg.pre; rw [List.range_succ, List.filter_append]; simp [h]
theorem pre_no {l : List (Bool × BitVec 256)} {t : List UInt8} {tt k : Nat} (h : Lg.D (lgL l) (lgT t) k l.length tt = false) : Lg.pre l t tt (k + 1) = Lg.pre l t tt k := by
  unfold Lg.pre; rw [List.range_succ, List.filter_append]; simp [h]
set_option maxRecDepth 20000 in
set_option maxHeartbeats 8000000 in
theorem rg_starts (l : List (Bool × BitVec 256)) (s : ByteArray) (t : List UInt8) (hs : s.size ≤ 1000) (ht : s.data.toList = t) (n : Nat) (a : Option Addr) (c : Nat) (hn : l.length = n) (hn6 : n ≤ 1000) (tt : Nat) (htt : tt ≤ s.size) (L : List Nat) (hL : Lg.starts l t tt = L) (w : World) (hI : IA w a l) :
    Calls Try.prog 76 #[.slice a n c, .string s, .int .i64 tt] w fun e w' => ∃ a' c', e = .returned (.slice a' L.length c') ∧ NV w' a' L ∧ Below w.heap.size w w' := by
  obtain ⟨N, hN⟩ : ∃ N, s.size = N := ⟨_, rfl⟩
  obtain ⟨i0, hi, hz0, hz1, hz2⟩ := info_split infoN
  have HIN := Lib.hid (And.intro hi (And.intro hz0 (And.intro hz1 hz2)))
  have HG := Lib.hid (And.intro hI (And.intro hn (And.intro ht (And.intro (show t.length = N by rw [← ht]; simpa using hN) hL))))
  have j0 : (0 : Int) ≤ (tt : Int) := by omega
  have j1 : (tt : Int) ≤ (N : Int) := by omega
  have htN : tt ≤ N := by omega
  have HE : Hid (Below w.heap.size w (w.alloc (.cells #[] 3)) ∧ (w.alloc (.cells #[] 3)).ownsRow w.heap.size 3 1 (.slice (some ⟨w.heap.size, 0, none⟩) 0 0) (0) ((Lg.pre l t tt 0).map nv) ∧ w.heap.size ≤ (w.alloc (.cells #[] 3)).heap.size) := Lib.hid ⟨(Below.refl _ _).alloc (Nat.le_refl _) _, World.ownsRow_lit w #[] 0 (Nat.le_refl _) (by decide) rfl, by simp⟩
  clear hI hn hL hi hz0 hz1 hz2 ht htt
  go_enter Try.func76, Try.ntmps76
  go_upto_region 2 with fail
  revert HE
  generalize w.alloc (.cells #[] 3) = W1
  intro HE
  go_wp2_with fail
  go_loopw [7, 8] (fun v i wr => ∃ k m : Nat, i = .int .i64 k ∧ k ≤ tt + 1 ∧ m ≤ k ∧ Hid (Below w.heap.size w wr ∧ wr.ownsRow w.heap.size 3 1 v (m) ((Lg.pre l t tt k).map nv) ∧ w.heap.size ≤ wr.heap.size)) (fun _ i _ => tt + 1 - (intOf i).toNat)
  case atStart => exact ⟨0, 0, rfl, by omega, by omega, HE⟩
  case round =>
    clear HE
    obtain ⟨k, m, rfl, hk, hm, HB⟩ := hrel
    have k0 : (0 : Int) ≤ (k : Int) := by omega
    obtain ⟨rn, cn, hv⟩ := own_slice HB.out.2.1
    subst hv
    by_cases hkt : k ≤ tt
    · have hkI : (k : Int) ≤ (tt : Int) := by omega
      obtain ⟨u, hu⟩ : ∃ u, s.extract k tt = u := ⟨_, rfl⟩
      have HU : Hid (u.data.toList = (t.drop k).take (tt - k) ∧ u.size ≤ 1000) := Lib.hid (by
        have e : u.data.toList = (t.drop k).take (tt - k) := by
          rw [← hu, ByteArray.data_extract, Array.toList_extract, List.extract_eq_take_drop, HG.out.2.2.1]
        exact ⟨e, by rw [size_of e, List.length_take]; omega⟩)
      obtain ⟨b, hb⟩ : ∃ b, Lg.D (lgL l) (lgT t) k l.length tt = b := ⟨_, rfl⟩
      have HD := Lib.hid hb
      have HM : Hid (Lg.m l ((t.drop k).take (tt - k)) = b) := Lib.hid (by rw [lg_piece l t k tt hkt (by rw [HG.out.2.2.2.1]; exact htN), hb])
      clear hb
      cases b with
      | false =>
        go_wp2_with (go_at_call 89; refine (rg_matches l u ((t.drop k).take (tt - k)) HU.out.2 HU.out.1 false HM.out n a c HG.out.2.1 hn6 _ (HG.out.1.below HB.out.1)).mono ?_; rintro e W4 ⟨rfl, b4⟩; replace HB : Hid (Below w.heap.size w W4 ∧ W4.ownsRow w.heap.size 3 1 (.slice rn m cn) (m) ((Lg.pre l t tt k).map nv) ∧ w.heap.size ≤ W4.heap.size) := Lib.hid ⟨HB.out.1.trans (b4.mono HB.out.1.size), own_below HB.out.2.1 b4, by have := b4.size; have := HB.out.2.2; omega⟩; clear b4)
        have HN : Hid (Below w.heap.size w W4 ∧ W4.ownsRow w.heap.size 3 1 (.slice rn m cn) (m) ((Lg.pre l t tt (k + 1)).map nv) ∧ w.heap.size ≤ W4.heap.size) := Lib.hid ⟨HB.out.1, by rw [pre_no HD.out]; exact HB.out.2.1, HB.out.2.2⟩
        refine ⟨?_, ?measure⟩
        case measure => simp [intOf]; omega
        first
          | exact ⟨k + 1, m, by go_num, by omega, by omega, HN⟩
          | ((repeat apply Exists.intro); exact ⟨⟨k + 1, m, by go_num, by omega, by omega, HN⟩, rfl⟩)
      | true =>
        go_wp2_with (first
          | (go_at_call 89; refine (rg_matches l u ((t.drop k).take (tt - k)) HU.out.2 HU.out.1 true HM.out n a c HG.out.2.1 hn6 _ (HG.out.1.below HB.out.1)).mono ?_; rintro e W4 ⟨rfl, b4⟩; replace HB : Hid (Below w.heap.size w W4 ∧ W4.ownsRow w.heap.size 3 1 (.slice rn m cn) (m) ((Lg.pre l t tt k).map nv) ∧ w.heap.size ≤ W4.heap.size) := Lib.hid ⟨HB.out.1.trans (b4.mono HB.out.1.size), own_below HB.out.2.1 b4, by have := b4.size; have := HB.out.2.2; omega⟩; clear b4)
          | (at_builtin; refine wpList_append_own _ rfl _ _ 128 rfl w.heap.size 3 i0 (.int .i64 0) 1 8 Try.underlying128 HIN.out.1 HIN.out.2.1 HIN.out.2.2.1 HIN.out.2.2.2 rfl (by decide) _ _ _ rfl (HB.out.2.1.alloc _) ⟨W4.heap.size, 0, none⟩ 1 1 [.int .i64 k] rfl rfl (new_cells _ _ _) (one_nv k) (by unfold maxLen; omega) (by omega) (by have := HB.out.2.2; simp; omega) ?_; intro v9 w3 hown hgrow _; have HN : Hid (Below w.heap.size w w3 ∧ w3.ownsRow w.heap.size 3 1 v9 (m + 1) ((Lg.pre l t tt (k + 1)).map nv) ∧ w.heap.size ≤ w3.heap.size) := Lib.hid (by
              obtain ⟨q1, q2, q3, q4⟩ := app_b HB.out.1 HB.out.2.1 HB.out.2.2 _ hgrow (Nat.le_refl _) hown (xs := (Lg.pre l t tt (k + 1)).map nv) (by rw [pre_yes HD.out, List.map_append]; rfl)
              exact ⟨q1, q2, q3⟩); clear hown hgrow))
        refine ⟨?_, ?measure⟩
        case measure => simp [intOf]; omega
        first
          | exact ⟨k + 1, m + 1, by go_num, by omega, by omega, HN⟩
          | ((repeat apply Exists.intro); exact ⟨⟨k + 1, m + 1, by go_num, by omega, by omega, HN⟩, rfl⟩)
    · have hkI : ¬ (k : Int) ≤ (tt : Int) := by omega
      have hke : k = tt + 1 := by omega
      obtain ⟨el, r9, c9, e9, k9⟩ := own_nv HB.out.2.1
      have HPL : Hid (Lg.pre l t tt k = L) := Lib.hid (by rw [hke, pre_all, HG.out.2.2.2.2])
      have HE9 : Hid (Value.slice rn m cn = Value.slice r9 L.length c9) := Lib.hid (by rw [e9, ← el, HPL.out])
      have HK9 : Hid (NV wr r9 L) := Lib.hid (by rw [← HPL.out]; exact k9)
      clear e9 k9 el hke
      go_wp2
      go_ret
      first
        | exact ⟨r9, c9, congrArg Ending.returned HE9.out, HK9.out, HB.out.1⟩
        | exact ⟨r9, ⟨c9, congrArg Ending.returned HE9.out⟩, HK9.out, HB.out.1⟩
end Go.Proofs.Ytbdjcppkfihonaa
/- Patterns: lists taken, numbers the same, what matches. -/
namespace Go.Proofs.Ytbdjcppkfihonaa
open Go.ChangeShapes Go.WideShapes Go.ChangeAt Go.RowKit
set_option linter.unusedSimpArgs false
set_option linter.unusedVariables false

/-- Items as Few gives them. -/
def IK (w : World) (a : Option Addr) (l : List (Bool × BitVec 256)) : Prop := LI w a l ∧ (a = none ∨ ∃ g, a = some ⟨g, 0, none⟩)
theorem IK.below {w w' : World} {a : Option Addr} {l : List (Bool × BitVec 256)} (h : IK w a l) (k : Below w.heap.size w w') : IK w' a l := ⟨h.1.below k, h.2⟩
theorem IK.ia {w : World} {a : Option Addr} {l : List (Bool × BitVec 256)} (h : IK w a l) : IA w a l := h.1.any
theorem IK.ij {w : World} {a : Option Addr} {l : List (Bool × BitVec 256)} (h : IK w a l) : IJ w a l := ⟨h.1.any, by
  rcases h.2 with h | ⟨g, h⟩
  · exact Or.inl h
  · exact Or.inr ⟨g, 0, h⟩⟩
theorem own_ik {w : World} {base : Nat} {v : Value} {n : Nat} {l : List (Bool × BitVec 256)} (h : w.ownsRow base 158 5 v n (its l)) : ∃ a c, v = .slice a l.length c ∧ IK w a l := by
  obtain ⟨a, c, hv, hl⟩ := LI.own h
  refine ⟨a, c, hv, hl, ?_⟩
  rcases h.2 with ⟨h1, h2⟩ | ⟨g, cap, cur, h1, _⟩
  · rw [h1] at hv; injection hv with e; exact Or.inl e.symm
  · rw [h1] at hv; injection hv with e; exact Or.inr ⟨g, e.symm⟩
theorem m_least {L : LgL} {T : LgT} {i : Nat} : ∀ {k n : Nat}, Lg.D L T i k n = true → i + ((List.range k).countP fun j => !(L j).1) ≤ n
  | 0, n, h => by rw [lgD_zero, beq_iff_eq] at h; simp; omega
  | k + 1, n, h => by
    obtain ⟨m, h1, h2⟩ := (lgD_back L T i k n).1 h
    have := m_least h1
    rw [List.range_succ, List.countP_append]
    have hle := lgone_le h2
    cases hr : (L k).1 with
    | true => simp [hr]; omega
    | false =>
      unfold Lg.one at h2
      rw [hr, if_neg (by simp), Bool.and_eq_true] at h2
      have := of_decide_eq_true h2.1
      simp [hr]; omega
theorem least_pre (l : List (Bool × BitVec 256)) : ∀ k, k ≤ l.length → Lg.least (l.take k) = ((List.range k).countP fun j => !(lgL l j).1)
  | 0, _ => by simp [Lg.least]
  | k + 1, hk => by
    obtain ⟨x, hx⟩ : ∃ x, l[k]? = some x := ⟨_, List.getElem?_eq_getElem (by omega)⟩
    obtain ⟨r, X⟩ := x
    have e : lgL l k = (r, X) := by unfold lgL; rw [hx]; rfl
    rw [least_take hx, least_pre l k (by omega), List.range_succ, List.countP_append]
    cases r <;> simp [e]
theorem least_fun (l : List (Bool × BitVec 256)) : Lg.least l = ((List.range l.length).countP fun j => !(lgL l j).1) := by
  rw [← least_pre l l.length (Nat.le_refl _), List.take_length]
/-- What matches is long enough. -/
theorem m_long {l : List (Bool × BitVec 256)} {t : List UInt8} (h : Lg.m l t = true) : Lg.least l ≤ t.length := by
  have := m_least h
  rw [least_fun]; omega
theorem m_fits {L : LgL} {T : LgT} {i : Nat} : ∀ {k n : Nat}, Lg.D L T i k n = true → ∀ j, j < k → (L j).1 = false → (L j).2 ≠ 0
  | 0, n, h, j, hj => absurd hj (by omega)
  | k + 1, n, h, j, hj => by
    obtain ⟨m, h1, h2⟩ := (lgD_back L T i k n).1 h
    by_cases e : j = k
    · subst e
      intro hr h0
      unfold Lg.one Lg.fits at h2
      rw [hr, if_neg (by simp), h0, Bool.and_eq_true] at h2
      have := h2.2
      simp at this
    · exact m_fits h1 j (by omega)
/-- What matches is not void. -/
theorem m_void {l : List (Bool × BitVec 256)} {t : List UInt8} (h : Lg.m l t = true) : Lg.void l = false := by
  unfold Lg.void
  rw [List.any_eq_false]
  intro x hx
  obtain ⟨j, hj⟩ := List.getElem?_of_mem hx
  have hlt := (List.getElem?_eq_some_iff.1 hj).1
  have := m_fits h j hlt
  unfold lgL at this
  rw [hj] at this
  simp only [Option.getD_some] at this
  cases hr : x.1 with
  | true => simp
  | false => rw [decide_eq_false (this hr)]; simp
/-- The empty text. -/
theorem m_empty (l : List (Bool × BitVec 256)) : Lg.m l [] = decide (Lg.least l = 0) := by
  apply bool_iff
  rw [decide_eq_true_iff]
  constructor
  · intro h
    have := m_long h
    simpa using this
  · intro h
    unfold Lg.m
    have hr : ∀ j, j < l.length → (lgL l j).1 = true := by
      intro j hj
      rw [least_fun, List.countP_eq_zero] at h
      have := h j (List.mem_range.2 hj)
      simpa using this
    have : ∀ k, k ≤ l.length → Lg.D (lgL l) (lgT []) 0 k 0 = true := by
      intro k
      induction k with
      | zero => intro _; rw [lgD_zero]; rfl
      | succ k ih => intro hk; rw [lgD_run0 (hr k (by omega))]; exact ih (by omega)
    exact this l.length (Nat.le_refl _)
end Go.Proofs.Ytbdjcppkfihonaa
/- Patterns: the document's Ends, First. -/
namespace Go.Proofs.Ytbdjcppkfihonaa
open Go.ChangeShapes Go.WideShapes Go.ChangeAt Go.RowKit
set_option linter.unusedSimpArgs false
set_option linter.unusedVariables false

theorem occ_starts (l : List (Bool × BitVec 256)) (t : List UInt8) (k : Nat) (b : Bool) (hb : Lg.occ l t k = b) (L : List Nat) (hL : Lg.starts l t k = L) : (b = true → ∃ y Ls, L = y :: Ls) ∧ (b = false → L = []) := by
  constructor
  · intro h
    subst h
    obtain ⟨y, Ls, e⟩ := starts_occ l t k hb
    exact ⟨y, Ls, by rw [← hL, e]⟩
  · intro h
    subst h
    rw [← hL]; exact starts_no l t k hb
set_option maxRecDepth 20000 in
theorem rg_starts_no (s : ByteArray) (n : Nat) (a : Option Addr) (c : Nat) (tt : Int) (htt : tt < 0 ∨ (s.size : Int) < tt) (w : World) :
    Calls Try.prog 76 #[.slice a n c, .string s, .int .i64 tt] w fun e w' => ∃ a' c', e = .returned (.slice a' 0 c') ∧ NV w' a' [] ∧ Below w.heap.size w w' := by
  have HE : Hid (Below w.heap.size w (w.alloc (.cells #[] 3))) := Lib.hid ((Below.refl _ _).alloc (Nat.le_refl _) _)
  rcases htt with h | h
  · have h0 : ¬ (0 : Int) ≤ tt := by omega
    go_enter Try.func76, Try.ntmps76
    go_upto_region 2 with fail
    revert HE
    generalize w.alloc (.cells #[] 3) = W1
    intro HE
    go_wp2_with fail
    go_loopw [7, 8] (fun v i wr => v = .slice (some ⟨w.heap.size, 0, none⟩) 0 0 ∧ i = .int .i64 0 ∧ wr = W1) (fun _ _ _ => 0)
    case atStart => exact ⟨rfl, rfl, rfl⟩
    case round =>
      obtain ⟨rfl, rfl, rfl⟩ := hrel
      go_wp2
      go_ret
      first
        | exact ⟨_, _, rfl, Or.inl rfl, HE.out⟩
        | exact ⟨_, ⟨_, rfl⟩, Or.inl rfl, HE.out⟩
  · have h0 : (0 : Int) ≤ tt := by omega
    have h1 : ¬ tt ≤ (s.size : Int) := by omega
    go_enter Try.func76, Try.ntmps76
    go_upto_region 2 with fail
    revert HE
    generalize w.alloc (.cells #[] 3) = W1
    intro HE
    go_wp2_with fail
    go_loopw [7, 8] (fun v i wr => v = .slice (some ⟨w.heap.size, 0, none⟩) 0 0 ∧ i = .int .i64 0 ∧ wr = W1) (fun _ _ _ => 0)
    case atStart => exact ⟨rfl, rfl, rfl⟩
    case round =>
      obtain ⟨rfl, rfl, rfl⟩ := hrel
      go_wp2
      go_ret
      first
        | exact ⟨_, _, rfl, Or.inl rfl, HE.out⟩
        | exact ⟨_, ⟨_, rfl⟩, Or.inl rfl, HE.out⟩
end Go.Proofs.Ytbdjcppkfihonaa
/- Patterns: a pattern is found. -/
namespace Go.Proofs.Ytbdjcppkfihonaa
open Go.ChangeShapes Go.WideShapes Go.ChangeAt Go.RowKit
set_option linter.unusedSimpArgs false
set_option linter.unusedVariables false

theorem lv_first : Lg.firstR [(false, Cs.ofL [97]), (true, 0), (false, Cs.ofL [98])] [120, 97, 97, 98] = (1, 4, true) := by decide +kernel
theorem lv_yes : Lg.m [(false, Cs.ofL [97]), (true, 0), (false, Cs.ofL [98])] [97, 98] = true := by decide +kernel
theorem lv_no : Lg.m [(false, Cs.ofL [97]), (true, 0), (false, Cs.ofL [98])] [97] = false := by decide +kernel
theorem lv_items (X Y : BitVec 256) (W : World) : IK (W.alloc (.cells #[.bool false, .int .u64 (Cs.wd X 0), .int .u64 (Cs.wd X 1), .int .u64 (Cs.wd X 2), .int .u64 (Cs.wd X 3), .bool true, .int .u64 0, .int .u64 0, .int .u64 0, .int .u64 0, .bool false, .int .u64 (Cs.wd Y 0), .int .u64 (Cs.wd Y 1), .int .u64 (Cs.wd Y 2), .int .u64 (Cs.wd Y 3)] 158)) (some ⟨W.heap.size, 0, none⟩) [(false, X), (true, 0), (false, Y)] := by
  refine ⟨Or.inr ⟨W.heap.size, rfl, ?_⟩, Or.inr ⟨_, rfl⟩⟩
  exact IL.blk (Blk.newA W #[.bool false, .int .u64 (Cs.wd X 0), .int .u64 (Cs.wd X 1), .int .u64 (Cs.wd X 2), .int .u64 (Cs.wd X 3), .bool true, .int .u64 0, .int .u64 0, .int .u64 0, .int .u64 0, .bool false, .int .u64 (Cs.wd Y 0), .int .u64 (Cs.wd Y 1), .int .u64 (Cs.wd Y 2), .int .u64 (Cs.wd Y 3)] 158) (fun i v h => h)
end Go.Proofs.Ytbdjcppkfihonaa
/- Patterns: in the laws' words. -/
namespace Go.Proofs.Ytbdjcppkfihonaa
open Go.ChangeShapes Go.WideShapes Go.ChangeAt Go.RowKit
set_option linter.unusedSimpArgs false
set_option linter.unusedVariables false

theorem IK.li {w : World} {a : Option Addr} {l : List (Bool × BitVec 256)} (h : IK w a l) : LI w a l := h.1
theorem cut_m (s t : ByteArray) (m : Nat) (hm : m ≤ 1000) (hs : s.size ≤ maxLen) (ht : cutT s m = t) (mi : Int) (hmi : mi = m) (w : World) :
    Calls Try.prog 35 #[.string s, .int .i64 mi] w fun e w' => e = .returned (.string t) ∧ Below w.heap.size w w' := by
  subst hmi
  refine (cut_any s t m hm hs ht w).mono ?_
  rintro e w' ⟨he, rfl⟩
  exact ⟨he, Below.refl _ _⟩
theorem lg_empty2 (l : List (Bool × BitVec 256)) (m : Nat) (hm : Lg.least l = m) (e0 : Bool) (he : decide (m = 0) = e0) (n : Nat) (a : Option Addr) (c : Nat) (hn : l.length = n) (hn6 : n ≤ 1000000) (w : World) (hI : IA w a l) :
    Calls Try.prog 100 #[.slice a n c] w fun e w' => e = .returned (.bool e0) ∧ Below w.heap.size w w' := by
  rw [← he]; exact lg_empty l m hm n a c hn hn6 w hI
theorem rg_matches0 (l : List (Bool × BitVec 256)) (e0 : Bool) (he : decide (Lg.least l = 0) = e0) (n : Nat) (a : Option Addr) (c : Nat) (hn : l.length = n) (hn6 : n ≤ 1000) (w : World) (hI : IA w a l) :
    Calls Try.prog 89 #[.slice a n c, .string { data := #[] }] w fun e w' => e = .returned (.bool e0) ∧ Below w.heap.size w w' :=
  rg_matches l { data := #[] } [] (by decide) rfl e0 (by rw [m_empty]; exact he) n a c hn hn6 w hI
/-- What a law of patterns has at the start: a list, somewhat cut. -/
theorem items_in {w : World} {a : Option Addr} {len cap : Nat} {z : List (Bool × BitVec 256)} (h : IsIt w a len cap z) : z.length = len ∧ len ≤ maxLen ∧ IA w a z := ⟨h.1, Nat.le_trans h.2.1 h.2.2.1, h.2.2.2⟩
end Go.Proofs.Ytbdjcppkfihonaa
