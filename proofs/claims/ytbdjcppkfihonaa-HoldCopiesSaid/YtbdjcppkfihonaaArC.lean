/- Several texts in one. -/
import Derived.Test.YtbdjcppkfihonaaArB
import Derived.Test.YtbdjcppkfihonaaOpen
/- Arms: New of texts that came in. -/
namespace Go.Proofs.Ytbdjcppkfihonaa
open Go.ChangeShapes Go.WideShapes Go.ChangeAt Go.RowKit
set_option linter.unusedSimpArgs false
set_option linter.unusedVariables false

theorem TX.at0 {w : World} {g k : Nat} {ss : List ByteArray} {s : ByteArray} (h : TX w (some ⟨g, 0, none⟩) ss) (hk : ss[k]? = some s) : w.cell? ⟨g, k, none⟩ = some (.string s) := by
  obtain ⟨_, g1, o1, ha, _, cp⟩ := h k s hk
  injection ha with ha
  injection ha with ha1 ha2
  subst ha1 ha2
  rwa [Nat.zero_add] at cp
theorem tx_in {w : World} {a : Option Addr} {len cap : Nat} {ss : List ByteArray} (h : IsStrs w a len cap ss) : TX w a ss := fun i s hi => by
  obtain ⟨h1, h2, h3, h4, h5, h6⟩ := h
  have hlt : i < len := by
    rcases Nat.lt_or_ge i ss.length with h | h
    · omega
    · rw [List.getElem?_eq_none h] at hi; cases hi
  obtain ⟨b, o, z1, z2, z3⟩ := h6 (by omega)
  refine ⟨h5 s (List.mem_of_getElem? hi), b, o, z1, z2, ?_⟩
  rw [z3 i hlt, List.getD_eq_getElem?_getD, hi]; rfl
theorem ar_new_no (ss : List ByteArray) (n : Nat) (hn : ss.length = n) (hn8 : n ≤ 8) (a : Option Addr) (c : Nat) (hs : ∀ s ∈ ss, s.size ≤ 1000000) (K e : Nat) (hr : Ar.nw ss n = (K, e)) (he : e ≠ 0) (w : World) (hI : TX w a ss) :
    Calls Try.prog 65 #[.slice a n c] w fun r w' => r = .returned (.tuple #[.pointer none, .int .i64 K, .int .i64 e]) ∧ Below w.heap.size w w' :=
  (ar_new ss n hn hn8 a c hs K e hr w hI).mono fun r w' ⟨h1, h2⟩ => by
    rcases h2 with ⟨_, h⟩ | ⟨h, _⟩
    · exact ⟨h, h1⟩
    · exact absurd h he
theorem nw_ok_zero {ss : List ByteArray} {n : Nat} (h : (Ar.nw ss n).2 = 0) (hn : n ≤ ss.length) : Ar.nw ss n = (0, 0) := nw_ok ss n hn (nw_zero ss n hn h)
theorem ar_new_yes (ss : List ByteArray) (n : Nat) (hn : ss.length = n) (hn8 : n ≤ 8) (a : Option Addr) (c : Nat) (hs : ∀ s ∈ ss, s.size ≤ 1000000) (he : (Ar.nw ss n).2 = 0) (w : World) (hI : TX w a ss) :
    Calls Try.prog 65 #[.slice a n c] w fun r w' => ∃ x gs cs b ca A, r = .returned (.tuple #[.pointer (some ⟨x, 0, none⟩), .int .i64 0, .int .i64 0]) ∧ AR w' x gs cs b ca A n (Ar.st0 (ss.map Ar.pat)) 0 ∧ A.map Prod.fst = ss.map Ar.pat ∧ w.heap.size ≤ x ∧ x < gs ∧ Below w.heap.size w w' :=
  (ar_new ss n hn hn8 a c hs 0 0 (nw_ok_zero he (by omega)) w hI).mono fun r w' ⟨h1, h2⟩ => by
    rcases h2 with ⟨h, _⟩ | ⟨_, x, gs, cs, b, ca, A, z1, z2, z3, z4, z5, z6⟩
    · exact absurd rfl h
    · exact ⟨x, gs, cs, b, ca, A, z1, z2, z3, z4, z5, h1⟩
theorem ar_new_row (ss : List ByteArray) (n : Nat) (hn : ss.length = n) (hn8 : n ≤ 8) (a : Option Addr) (c : Nat) (hs : ∀ s ∈ ss, s.size ≤ 1000000) (he : (Ar.nw ss n).2 = 0) (w : World) (hI : TX w a ss) :
    Calls Try.prog 65 #[.slice a n c] w fun r w' => ∃ x gs cs b ca A, r = .returned (.tuple #[.pointer (some ⟨x, 0, none⟩), .int .i64 0, .int .i64 0]) ∧ AR w' x gs cs b ca A n (Ar.st0 (ss.map Ar.pat)) 0 ∧ A.map Prod.fst = ss.map Ar.pat ∧ w.heap.size ≤ x ∧ x < gs ∧ (0 < n → ∃ g0, b = some ⟨g0, 0, none⟩ ∧ Rw w' g0 ca (A.map (fun y : List (Bool × BitVec 256) × Nat => Value.pointer (some ⟨y.2, 0, none⟩))) 137) ∧ Below w.heap.size w w' :=
  (ar_new ss n hn hn8 a c hs 0 0 (nw_ok_zero he (by omega)) w hI).mono fun r w' ⟨h1, h2⟩ => by
    rcases h2 with ⟨h, _⟩ | ⟨_, x, gs, cs, b, ca, A, z1, z2, z3, z4, z5, z6⟩
    · exact absurd rfl h
    · exact ⟨x, gs, cs, b, ca, A, z1, z2, z3, z4, z5, z6, h1⟩
theorem rk_new_no (hC : ∀ (s : ByteArray) (l : List UInt8), s.size ≤ 1000000 → s.data.toList = l → ∀ (X : BitVec 256) (n e : Nat), Cs.rdC l = (X, n, e) → ∀ w, Calls Try.prog 94 #[.string s] w fun r w' => r = .returned (.tuple #[Cs.sv X, .int .i64 n, .int .i64 e]) ∧ Below w.heap.size w w')
    (ss : List ByteArray) (n : Nat) (hn : ss.length = n) (hn8 : n ≤ 8) (a : Option Addr) (c : Nat) (hs : ∀ s ∈ ss, s.size ≤ 1000000) (K e : Nat) (hr : Ar.nw ss n = (K, e)) (he : e ≠ 0) (w : World) (hI : TX w a ss) :
    Calls Try.prog 48 #[.slice a n c] w fun r w' => r = .returned (.tuple #[.slice none 0 0, .int .i64 K, .int .i64 e]) ∧ Below w.heap.size w w' :=
  (rk_new hC ss n hn hn8 a c hs K e hr w hI).mono fun r w' ⟨h1, h2⟩ => by
    rcases h2 with ⟨_, h⟩ | ⟨h, _⟩
    · exact ⟨h, h1⟩
    · exact absurd h he
theorem rk_new_yes (hC : ∀ (s : ByteArray) (l : List UInt8), s.size ≤ 1000000 → s.data.toList = l → ∀ (X : BitVec 256) (n e : Nat), Cs.rdC l = (X, n, e) → ∀ w, Calls Try.prog 94 #[.string s] w fun r w' => r = .returned (.tuple #[Cs.sv X, .int .i64 n, .int .i64 e]) ∧ Below w.heap.size w w')
    (ss : List ByteArray) (n : Nat) (hn : ss.length = n) (hn8 : n ≤ 8) (a : Option Addr) (c : Nat) (hs : ∀ s ∈ ss, s.size ≤ 1000000) (he : (Ar.nw ss n).2 = 0) (w : World) (hI : TX w a ss) :
    Calls Try.prog 48 #[.slice a n c] w fun r w' => ∃ g c, r = .returned (.tuple #[.slice (some ⟨g, 0, none⟩) n c, .int .i64 0, .int .i64 0]) ∧ LL w' (some ⟨g, 0, none⟩) (ss.map Ar.pat) ∧ w.heap.size ≤ g ∧ Below w.heap.size w w' :=
  (rk_new hC ss n hn hn8 a c hs 0 0 (nw_ok_zero he (by omega)) w hI).mono fun r w' ⟨h1, h2⟩ => by
    rcases h2 with ⟨h, _⟩ | ⟨_, g, c, z1, z0, z2⟩
    · exact absurd rfl h
    · exact ⟨g, c, z1, z2, z0, h1⟩
end Go.Proofs.Ytbdjcppkfihonaa
/- Arms: which is found first. -/
namespace Go.Proofs.Ytbdjcppkfihonaa
open Go.ChangeShapes Go.WideShapes Go.ChangeAt Go.RowKit
set_option linter.unusedSimpArgs false
set_option linter.unusedVariables false

theorem occ_zero {l : List (Bool × BitVec 256)} (t : List UInt8) (h : decide (Lg.least l = 0) = false) : Lg.occ l t 0 = false := by
  have e : Lg.occ l t 0 = Lg.occ l [] 0 := occ_app l [] t 0 (Nat.zero_le _)
  rw [e]
  have e2 : Lg.occ l [] 0 = Lg.m l [] := by unfold Lg.occ Lg.m; simp
  rw [e2, m_empty, h]
theorem fs_congr {d d2 : Nat → Bool} : ∀ n, (∀ j, j < n → d j = d2 j) → Ar.fs d n = Ar.fs d2 n
  | 0, _ => rfl
  | n + 1, h => by rw [Ar.fs, Ar.fs, fs_congr n (fun j hj => h j (by omega)), h n (by omega)]
theorem fs_spec (d : Nat → Bool) : ∀ n q ok, Ar.fs d n = (q, ok) → (ok = true → q < n ∧ d q = true ∧ ∀ j, j < q → d j = false) ∧ (ok = false → q = 0 ∧ ∀ j, j < n → d j = false)
  | 0, q, ok, h => by
    rw [Ar.fs] at h
    injection h with h1 h2
    subst h1 h2
    exact ⟨by simp, fun _ => ⟨rfl, fun j hj => by omega⟩⟩
  | n + 1, q, ok, h => by
    obtain ⟨⟨q1, ok1⟩, h1⟩ : ∃ x, Ar.fs d n = x := ⟨_, rfl⟩
    have hs := fs_spec d n q1 ok1 h1
    rw [Ar.fs, h1] at h
    cases ok1 with
    | true =>
      rw [if_pos rfl] at h
      injection h with h2 h3
      subst h2 h3
      obtain ⟨z1, z2, z3⟩ := hs.1 rfl
      exact ⟨fun _ => ⟨by omega, z2, z3⟩, by simp⟩
    | false =>
      rw [if_neg (by simp)] at h
      obtain ⟨z1, z2⟩ := hs.2 rfl
      subst z1
      cases hd : d n with
      | true =>
        rw [hd, if_pos rfl] at h
        injection h with h2 h3
        subst h2 h3
        exact ⟨fun _ => ⟨by omega, hd, z2⟩, by simp⟩
      | false =>
        rw [hd, if_neg (by simp)] at h
        injection h with h2 h3
        subst h2 h3
        refine ⟨by simp, fun _ => ⟨rfl, fun j hj => ?_⟩⟩
        by_cases e : j = n
        · rw [e]; exact hd
        · exact z2 j (by omega)
theorem fi_spec (F : Nat → Nat × Bool) : ∀ n q m is, Ar.fi F n = (q, m, is) → (is = true → 1 ≤ m ∧ m ≤ n ∧ F m = (q, true) ∧ ∀ j, 1 ≤ j → j < m → (F j).2 = false) ∧ (is = false → q = 0 ∧ m = 0 ∧ ∀ j, 1 ≤ j → j ≤ n → (F j).2 = false)
  | 0, q, m, is, h => by
    rw [Ar.fi] at h
    injection h with h1 h2
    injection h2 with h2 h3
    subst h1 h2 h3
    exact ⟨by simp, fun _ => ⟨rfl, rfl, fun j h1 h2 => by omega⟩⟩
  | n + 1, q, m, is, h => by
    obtain ⟨⟨q1, m1, is1⟩, h1⟩ : ∃ x, Ar.fi F n = x := ⟨_, rfl⟩
    have hs := fi_spec F n q1 m1 is1 h1
    rw [Ar.fi, h1] at h
    cases is1 with
    | true =>
      rw [if_pos rfl] at h
      injection h with h2 h3
      injection h3 with h3 h4
      subst h2 h3 h4
      obtain ⟨z1, z2, z3, z4⟩ := hs.1 rfl
      exact ⟨fun _ => ⟨z1, by omega, z3, z4⟩, by simp⟩
    | false =>
      rw [if_neg (by simp)] at h
      obtain ⟨z1, z2, z3⟩ := hs.2 rfl
      obtain ⟨⟨q2, ok2⟩, h2⟩ : ∃ x, F (n + 1) = x := ⟨_, rfl⟩
      rw [h2] at h
      cases ok2 with
      | true =>
        rw [if_pos rfl] at h
        injection h with h3 h4
        injection h4 with h4 h5
        subst h3 h4 h5
        exact ⟨fun _ => ⟨by omega, by omega, h2, fun j j1 j2 => z3 j j1 (by omega)⟩, by simp⟩
      | false =>
        rw [if_neg (by simp)] at h
        injection h with h3 h4
        injection h4 with h4 h5
        subst h3 h4 h5
        refine ⟨by simp, fun _ => ⟨rfl, rfl, fun j j1 j2 => ?_⟩⟩
        by_cases e : j = n + 1
        · rw [e, h2]
        · exact z3 j j1 (by omega)
/-- Whatever occurs first of one pattern ends no sooner; and where it ends there too, it is no earlier one. -/
theorem finds_least (Ls : List (List (Bool × BitVec 256))) (n : Nat) (hn : Ls.length = n) (hz : ∀ l ∈ Ls, decide (Lg.least l = 0) = false) (t : List UInt8) (N : Nat) (hN : t.length = N) (D : Nat → Nat → Bool) (hD : ∀ k i l, k ≤ N → Ls[i]? = some l → Lg.occ l t k = D k i) (q m : Nat) (is : Bool) (hr : Ar.fi (fun k => Ar.fs (D k) n) N = (q, m, is)) {j : Nat} {l : List (Bool × BitVec 256)} (hl : Ls[j]? = some l) {fr to_ : Nat} (hf : Lg.firstR l t = (fr, to_, true)) : is = true ∧ m ≤ to_ ∧ (to_ = m → q ≤ j) := by
  have hj : j < n := by
    rcases Nat.lt_or_ge j Ls.length with h | h
    · omega
    · rw [List.getElem?_eq_none h] at hl; cases hl
  rcases first_cases l t with ⟨k, hk, h0, h1, e⟩ | ⟨h0, e⟩
  · rw [e] at hf
    injection hf with e1 e2
    injection e2 with e2 e3
    subst e2
    rw [hN] at hk
    have hk0 : 1 ≤ k := by
      rcases Nat.eq_zero_or_pos k with h | h
      · rw [h, occ_zero t (hz l (List.mem_of_getElem? hl))] at h1; cases h1
      · exact h
    have hd : D k j = true := by rw [← hD k j l hk hl, h1]
    have hs := fi_spec _ N q m is hr
    obtain ⟨⟨q1, ok1⟩, hf1⟩ : ∃ x, Ar.fs (D k) n = x := ⟨_, rfl⟩
    have hs1 := fs_spec (D k) n q1 ok1 hf1
    have ht : ok1 = true := by
      cases ok1 with
      | true => rfl
      | false => have := (hs1.2 rfl).2 j hj; rw [hd] at this; cases this
    subst ht
    cases is with
    | false =>
      have := (hs.2 rfl).2.2 k hk0 hk
      rw [hf1] at this; cases this
    | true =>
      obtain ⟨z1, z2, z3, z4⟩ := hs.1 rfl
      have hm : m ≤ k := by
        rcases Nat.lt_or_ge k m with h | h
        · have := z4 k hk0 h
          rw [hf1] at this; cases this
        · exact h
      refine ⟨rfl, hm, fun e => ?_⟩
      subst e
      rw [hf1] at z3
      injection z3 with z3 _
      subst z3
      rcases Nat.lt_or_ge j q1 with h | h
      · have := (hs1.1 rfl).2.2 j h; rw [hd] at this; cases this
      · exact h
  · rw [e] at hf
    injection hf with _ e2
    injection e2 with _ e3
    cases e3
/-- More behind the text changes nothing of what is found. -/
theorem finds_app (Ls : List (List (Bool × BitVec 256))) (n : Nat) (hn : Ls.length = n) (t u : List UInt8) (N N2 : Nat) (hN : t.length = N) (hN2 : N ≤ N2) (D D2 : Nat → Nat → Bool) (hD : ∀ k i l, k ≤ N → Ls[i]? = some l → Lg.occ l t k = D k i) (hD2 : ∀ k i l, k ≤ N2 → Ls[i]? = some l → Lg.occ l (t ++ u) k = D2 k i) (q m : Nat) (hr : Ar.fi (fun k => Ar.fs (D k) n) N = (q, m, true)) : Ar.fi (fun k => Ar.fs (D2 k) n) N2 = (q, m, true) := by
  obtain ⟨z1, z2, z3, z4⟩ := (fi_spec _ N q m true hr).1 rfl
  have hc : ∀ k, k ≤ N → Ar.fs (D2 k) n = Ar.fs (D k) n := fun k hk => fs_congr n fun j hj => by
    have hl : Ls[j]? = some Ls[j] := List.getElem?_eq_getElem (by omega)
    rw [← hD k j _ hk hl, ← hD2 k j _ (by omega) hl, occ_app _ _ _ _ (by omega)]
  exact fi_some _ m q z1 (fun j h1 h2 => by rw [hc j (by omega)]; exact z4 j h1 h2) (by rw [hc m z2]; exact z3) N2 (by omega)
theorem LL.at0 {w : World} {g k : Nat} {A : List (List (Bool × BitVec 256))} {l : List (Bool × BitVec 256)} (h : LL w (some ⟨g, 0, none⟩) A) (hk : A[k]? = some l) : l.length ≤ 1000 ∧ ∃ ai ci, w.cell? ⟨g, k, none⟩ = some (.slice ai l.length ci) ∧ IK w ai l := by
  obtain ⟨h0, g1, o1, ai, ci, ha, _, cp, hi⟩ := h k l hk
  injection ha with ha
  injection ha with ha1 ha2
  subst ha1 ha2
  rw [Nat.zero_add] at cp
  exact ⟨h0, ai, ci, cp, hi⟩
/-- What the patterns of good texts are. -/
theorem pats_ok {ss : List ByteArray} {n : Nat} (hn : ss.length = n) (he : (Ar.nw ss n).2 = 0) : (∀ l ∈ ss.map Ar.pat, l.length ≤ 62) ∧ (∀ l ∈ ss.map Ar.pat, decide (Lg.least l = 0) = false) := by
  have h : ∀ s ∈ ss, Ar.ck s = 0 := fun s hs => by
    obtain ⟨i, hi⟩ := List.mem_iff_getElem?.1 hs
    have hlt : i < ss.length := by
      rcases Nat.lt_or_ge i ss.length with h | h
      · exact h
      · rw [List.getElem?_eq_none h] at hi; cases hi
    exact nw_zero ss n (by omega) he i s (by omega) hi
  constructor
  · intro l hl
    obtain ⟨s, hs, rfl⟩ := List.mem_map.1 hl
    have := pat_len (h s hs)
    omega
  · intro l hl
    obtain ⟨s, hs, rfl⟩ := List.mem_map.1 hl
    exact (ck_zero (h s hs)).2.1
theorem dn_occ {Ls : List (List (Bool × BitVec 256))} (h62 : ∀ l ∈ Ls, l.length ≤ 62) (t : List UInt8) (N : Nat) : ∀ k i l, k ≤ N → Ls[i]? = some l → Lg.occ l t k = Ar.dn Ls (Ar.stk Ls (lgT t) k) i := fun k i l _ hi => ats_done h62 (ats_stk h62 (lgT t) k) hi
end Go.Proofs.Ytbdjcppkfihonaa
/- Arms: what stands apart, and texts that begin anew. -/
namespace Go.Proofs.Ytbdjcppkfihonaa
open Go.ChangeShapes Go.WideShapes Go.ChangeAt Go.RowKit
set_option linter.unusedSimpArgs false
set_option linter.unusedVariables false

theorem LL.feed {w w' : World} {gl x gs cs ca n fed : Nat} {b : Option Addr} {A : List (List (Bool × BitVec 256) × Nat)} {f : Nat → BitVec 64} {Ls : List (List (Bool × BitVec 256))} (h : LL w (some ⟨gl, 0, none⟩) Ls) (hn : Ls.length = n) (H : AR w x gs cs b ca A n f fed) (hx : gl ≠ x) (hg : 0 < n → gl ≠ gs) (k : Chg [x, gs] w w') : LL w' (some ⟨gl, 0, none⟩) Ls := fun i l hi => by
  obtain ⟨h0, g, o, ai, ci, ha, hlt, cp, hk⟩ := h i l hi
  have hn0 : 0 < n := by
    rcases Nat.lt_or_ge i Ls.length with h | h
    · omega
    · rw [List.getElem?_eq_none h] at hi; cases hi
  injection ha with ha
  injection ha with ha1 ha2
  subst ha1 ha2
  refine ⟨h0, gl, 0, ai, ci, rfl, Nat.lt_of_lt_of_le hlt k.size, by rw [← cp]; exact k.cell hlt (by simp; exact ⟨hx, hg hn0⟩), ?_, hk.2⟩
  rcases hk.1 with e | ⟨bb, e, h1, h2⟩
  · exact Or.inl e
  · cases l with
    | nil => exact Or.inl rfl
    | cons y l =>
      obtain ⟨r, X⟩ := y
      have hb0 : w.cell? ⟨bb, 0, none⟩ = some (.bool r) := h2 0 (.bool r) (by simp [its, Cs.it])
      have hne1 : bb ≠ x := fun e => by
        subst e
        have := H.c0
        rw [this] at hb0
        cases hb0
      have hne2 : bb ≠ gs := fun e => by
        subst e
        have := H.cg hn0
        rw [this] at hb0
        cases hb0
      refine Or.inr ⟨bb, e, Nat.lt_of_lt_of_le h1 k.size, fun i v hi => ?_⟩
      rw [← h2 i v hi]
      exact k.cell h1 (by simp; exact ⟨hne1, hne2⟩)
theorem AR.xlt {w : World} {x gs cs ca n fed : Nat} {a : Option Addr} {A : List (List (Bool × BitVec 256) × Nat)} {f : Nat → BitVec 64} (H : AR w x gs cs a ca A n f fed) : x < w.heap.size := by
  obtain ⟨_, ⟨_, _, h⟩, _⟩ := H
  exact Blk.lt h
theorem AR.glt {w : World} {x gs cs ca n fed : Nat} {a : Option Addr} {A : List (List (Bool × BitVec 256) × Nat)} {f : Nat → BitVec 64} (H : AR w x gs cs a ca A n f fed) (hn : 0 < n) : gs < w.heap.size := (H.2.2.1 hn).lt
theorem ar_apart {w : World} {gl x gs cs ca n fed B : Nat} {a : Option Addr} {A : List (List (Bool × BitVec 256) × Nat)} {f : Nat → BitVec 64} (H : AR w x gs cs a ca A n f fed) (hgl : w.heap.size ≤ gl) (h1 : B ≤ x) (h2 : x < gs) : gl ≠ x ∧ (0 < n → gl ≠ gs) ∧ ∀ y ∈ [x, gs], B ≤ y :=
  ⟨fun e => by have := H.xlt; omega, fun h0 e => by have := H.glt h0; omega, fun y hy => by simp at hy; omega⟩
theorem lgT_drop (t : List UInt8) (F c : Nat) : lgT (t.drop F) c = lgT t (F + c) := by
  unfold lgT; rw [List.getElem?_drop]
theorem take_extD (s u : ByteArray) (F n : Nat) (h : s.extract F n = u) : u.data.toList = (s.data.toList.drop F).take (n - F) := by
  rw [← h]; simp [ByteArray.data_extract, List.drop_take]
theorem here_at {Ls : List (List (Bool × BitVec 256))} (h62 : ∀ l ∈ Ls, l.length ≤ 62) (t : List UInt8) (F c : Nat) (hc : c ≤ (t.drop F).length) (u : List UInt8) (hu : (t.drop F).take c = u) (f : Nat → BitVec 64) (hf : Ar.stk Ls (lgT (t.drop F)) c = f) : ∀ i l, Ls[i]? = some l → Lg.occ l u c = Ar.dn Ls f i := fun i l hi => by
  rw [← hu, occ_take _ _ _ hc, ← hf]
  exact dn_occ h62 (t.drop F) c c i l (Nat.le_refl _) hi
theorem fs_zero {d : Nat → Bool} {n q : Nat} (h : Ar.fs d n = (q, false)) : q = 0 := ((fs_spec d n q false h).2 rfl).1
end Go.Proofs.Ytbdjcppkfihonaa
