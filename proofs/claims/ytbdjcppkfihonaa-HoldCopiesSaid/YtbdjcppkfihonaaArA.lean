/- Several texts in one. -/
import Derived.Test.YtbdjcppkfihonaaTbA
import Derived.Test.YtbdjcppkfihonaaGpB
/- Arms: what no patterns tell. -/
namespace Go.Proofs.Ytbdjcppkfihonaa
open Go.ChangeShapes Go.WideShapes Go.ChangeAt Go.RowKit
set_option linter.unusedSimpArgs false
set_option linter.unusedVariables false

theorem ar_feed_nil (b : Int) (w : World) : Calls Try.prog 63 #[.pointer none, .int .u8 b] w fun e w' => e = .returned (.tuple #[.int .i64 0, .bool false]) ∧ Below w.heap.size w w' := by
  go_enter Try.func63, Try.ntmps63
  go_wp2
  go_ret2
  exact ⟨rfl, Below.refl _ _⟩
theorem ar_reset_nil (w : World) : Calls Try.prog 81 #[.pointer none] w fun e w' => e = .returned (.tuple #[]) ∧ Below w.heap.size w w' := by
  go_enter Try.func81, Try.ntmps81
  go_wp2
  ((try simp only [Exit.inBlock, Exit.then]); refine bodyPost_ret (results_none rfl _ _ _) rfl ?_)
  exact ⟨rfl, Below.refl _ _⟩
end Go.Proofs.Ytbdjcppkfihonaa
/- Arms: a text's table. -/
namespace Go.Proofs.Ytbdjcppkfihonaa
open Go.ChangeShapes Go.WideShapes Go.ChangeAt Go.RowKit
set_option linter.unusedSimpArgs false
set_option linter.unusedVariables false

theorem okI_nil : okI [] := by intro x hx; simp at hx
set_option maxRecDepth 20000 in
theorem ar_bad (s : ByteArray) (l : List UInt8) (hs : s.size ≤ 1000000) (h : s.data.toList = l) (R : List (Bool × BitVec 256)) (p q : Nat) (hr : Cs.rdG (l.length + 1) l 0 [] = (R, p, q)) (hq : q ≠ 0) (w : World) :
    Calls Try.prog 82 #[.string s] w fun e w' => e = .returned (.tuple #[.pointer none, .int .i64 p, .int .i64 q]) ∧ Below w.heap.size w w' := by
  have hg : goodB R = true := by
    have := rdG_good (l.length + 1) l 0 [] (by simp) okI_nil
    rw [hr] at this; exact this
  have hn6 : R.length ≤ 1000000 := by have := (goodB_ok hg).2; omega
  obtain ⟨n, hn⟩ : ∃ n, R.length = n := ⟨_, rfl⟩
  have HS := Lib.hid (And.intro hs (And.intro h hr))
  have HN := Lib.hid (And.intro hn hg)
  have hqI : ((q : Int) == 0) = false := by rw [beq_eq_false_iff_ne]; omega
  rw [hn] at hn6
  clear hs h hr hg hn
  go_enter Try.func82, Try.ntmps82
  go_wp2_with (go_at_call 92; with_reducible refine (gl_rdG s l HS.out.1 HS.out.2.1 R p q HS.out.2.2 _).mono ?_; rintro e W1 ⟨v, rfl, h1, hb1⟩; obtain ⟨a, c, rfl, h3⟩ := own_ik h1; rw [HN.out.1]; have HB := Lib.hid (And.intro h3 hb1); clear h1 h3 hb1)
  go_ret3
  exact ⟨rfl, HB.out.2⟩
set_option maxRecDepth 20000 in
theorem ar_void (s : ByteArray) (l : List UInt8) (hs : s.size ≤ 1000000) (h : s.data.toList = l) (R : List (Bool × BitVec 256)) (p q : Nat) (hr : Cs.rdG (l.length + 1) l 0 [] = (R, p, q)) (hq : q = 0) (m : Nat) (hm : Lg.least R = m) (hm0 : decide (m = 0) = true) (w : World) :
    Calls Try.prog 82 #[.string s] w fun e w' => e = .returned (.tuple #[.pointer none, .int .i64 0, .int .i64 9]) ∧ Below w.heap.size w w' := by
  subst hq
  have hg : goodB R = true := by
    have := rdG_good (l.length + 1) l 0 [] (by simp) okI_nil
    rw [hr] at this; exact this
  have hn6 : R.length ≤ 1000000 := by have := (goodB_ok hg).2; omega
  obtain ⟨n, hn⟩ : ∃ n, R.length = n := ⟨_, rfl⟩
  have HS := Lib.hid (And.intro hs (And.intro h hr))
  have HN := Lib.hid (And.intro hn (And.intro hg (And.intro hm hm0)))
  rw [hn] at hn6
  clear hs h hr hg hn hm hm0
  go_enter Try.func82, Try.ntmps82
  go_wp2_with (first
    | (go_at_call 92; with_reducible refine (gl_rdG s l HS.out.1 HS.out.2.1 R p 0 HS.out.2.2 _).mono ?_; rintro e W1 ⟨v, rfl, h1, hb1⟩; obtain ⟨a, c, rfl, h3⟩ := own_ik h1; rw [HN.out.1]; have HB := Lib.hid (And.intro h3 hb1); clear h1 h3 hb1)
    | (go_at_call 93; with_reducible refine (tb_empty R HN.out.2.1 m HN.out.2.2.1 HN.out.2.2.2 n a c HN.out.1 hn6 _ HB.out.1).mono ?_; rintro e W2 ⟨rfl, hb1⟩; have HC := Lib.hid (HB.out.2.trans (hb1.mono HB.out.2.size)); clear hb1))
  go_ret3
  exact ⟨rfl, HC.out⟩
set_option maxRecDepth 20000 in
theorem ar_compile (s : ByteArray) (l : List UInt8) (hs : s.size ≤ 1000000) (h : s.data.toList = l) (R : List (Bool × BitVec 256)) (p q : Nat) (hr : Cs.rdG (l.length + 1) l 0 [] = (R, p, q)) (hq : q = 0) (m : Nat) (hm : Lg.least R = m) (hm0 : decide (m = 0) = false) (w : World) :
    Calls Try.prog 82 #[.string s] w fun e w' => ∃ x, e = .returned (.tuple #[.pointer (some ⟨x, 0, none⟩), .int .i64 0, .int .i64 0]) ∧ TB w' x R.length (Tb.mk (Tb.rf R) R.length) (fun b => Tb.mk (Tb.hf R b) R.length) ∧ Below w.heap.size w w' := by
  subst hq
  have hg : goodB R = true := by
    have := rdG_good (l.length + 1) l 0 [] (by simp) okI_nil
    rw [hr] at this; exact this
  have hn6 : R.length ≤ 1000000 := by have := (goodB_ok hg).2; omega
  obtain ⟨n, hn⟩ : ∃ n, R.length = n := ⟨_, rfl⟩
  have HS := Lib.hid (And.intro hs (And.intro h hr))
  have HN := Lib.hid (And.intro hn (And.intro hg (And.intro hm hm0)))
  rw [hn] at hn6
  rw [hn]
  clear hs h hr hg hn hm hm0
  go_enter Try.func82, Try.ntmps82
  go_wp2_with (first
    | (go_at_call 92; with_reducible refine (gl_rdG s l HS.out.1 HS.out.2.1 R p 0 HS.out.2.2 _).mono ?_; rintro e W1 ⟨v, rfl, h1, hb1⟩; obtain ⟨a, c, rfl, h3⟩ := own_ik h1; rw [HN.out.1]; have HB := Lib.hid (And.intro h3 hb1); clear h1 h3 hb1)
    | (go_at_call 93; with_reducible refine (tb_compile R HN.out.2.1 m HN.out.2.2.1 HN.out.2.2.2 n a c HN.out.1 _ HB.out.1).mono ?_; rintro e W2 ⟨x, rfl, k1, hb1⟩; have HC := Lib.hid (And.intro (TP.tb k1) (HB.out.2.trans (hb1.mono HB.out.2.size))); clear hb1 k1))
  go_ret3
  exact ⟨_, rfl, HC.out⟩
end Go.Proofs.Ytbdjcppkfihonaa
/- Arms: an object. -/
namespace Go.Proofs.Ytbdjcppkfihonaa
open Go.ChangeShapes Go.WideShapes Go.ChangeAt Go.RowKit
set_option linter.unusedSimpArgs false
set_option linter.unusedVariables false

/-- A row of states. -/
def ul (f : Nat → BitVec 64) (n : Nat) : List Value := (List.range n).map fun i => .int .u64 (f i).toNat
theorem ul_length (f : Nat → BitVec 64) (n : Nat) : (ul f n).length = n := by simp [ul]
theorem ul_snoc (f : Nat → BitVec 64) (n : Nat) : ul f (n + 1) = ul f n ++ [.int .u64 (f n).toNat] := by simp [ul, List.range_succ]
theorem ul_at (f : Nat → BitVec 64) {n i : Nat} (h : i < n) : (ul f n)[i]? = some (.int .u64 (f i).toNat) := by simp [ul, h]
theorem ul_congr {f h : Nat → BitVec 64} {n : Nat} (hh : ∀ j, j < n → f j = h j) : ul f n = ul h n := by
  unfold ul
  exact List.map_congr_left fun j hj => by rw [hh j (List.mem_range.1 hj)]
theorem ul_set (f h : Nat → BitVec 64) (n i : Nat) (b : BitVec 64) (hh : ∀ j, j < n → h j = if j = i then b else f j) : (ul f n).set i (.int .u64 b.toNat) = ul h n := by
  apply List.ext_getElem?
  intro j
  rw [List.getElem?_set]
  by_cases hj : j < n
  · rw [ul_at h hj, hh j hj]
    by_cases e : i = j
    · subst e; simp [ul_length, hj]
    · have e2 : ¬ j = i := fun x => e x.symm
      rw [if_neg e, ul_at f hj, if_neg e2]
  · rw [List.getElem?_eq_none (by rw [ul_length]; omega)]
    by_cases e : i = j
    · subst e; simp [ul_length, hj]
    · rw [if_neg e, List.getElem?_eq_none (by rw [ul_length]; omega)]
theorem ul_put {w : World} {g cap n : Nat} {f h : Nat → BitVec 64} (k : Rw w g cap (ul f n) 138) {i : Nat} (hi : i < n) {b : BitVec 64} {v : Int} (hv : (b.toNat : Int) = v) (hh : ∀ j, j < n → h j = if j = i then b else f j) : Rw (w.setCell ⟨g, i, none⟩ (.int .u64 v)) g cap (ul h n) 138 := by
  have := k.put (i := i) (by rw [ul_length]; exact hi) (.int .u64 v)
  rw [← hv] at this ⊢
  rwa [ul_set f h n i b hh] at this
/-- The tables of patterns, none of whose blocks is in N. -/
def ArP (w : World) (N : List Nat) (a : Option Addr) (A : List (List (Bool × BitVec 256) × Nat)) : Prop := ∀ i l p, A[i]? = some (l, p) → ∃ g o, a = some ⟨g, o, none⟩ ∧ g < w.heap.size ∧ g ∉ N ∧ p ∉ N ∧ l.length ≤ 62 ∧ w.cell? ⟨g, o + i, none⟩ = some (.pointer (some ⟨p, 0, none⟩)) ∧ TB w p l.length (Tb.mk (Tb.rf l) l.length) (fun b => Tb.mk (Tb.hf l b) l.length)
theorem ArP.chg {w w' : World} {N : List Nat} {a : Option Addr} {A : List (List (Bool × BitVec 256) × Nat)} (h : ArP w N a A) (k : Chg N w w') : ArP w' N a A := fun i l p hi => by
  obtain ⟨g, o, h1, h2, h3, h4, h5, h6, h7⟩ := h i l p hi
  exact ⟨g, o, h1, Nat.lt_of_lt_of_le h2 k.size, h3, h4, h5, by rw [← h6]; exact Chg.cell k h2 h3, Blk.chg h7 k h4⟩
theorem ArP.below {w w' : World} {N : List Nat} {a : Option Addr} {A : List (List (Bool × BitVec 256) × Nat)} (h : ArP w N a A) (k : Below w.heap.size w w') : ArP w' N a A := h.chg (Chg.of_fresh k)
/-- Patterns in a block: their tables, their states, how many bytes were fed. -/
def AR (w : World) (x gs cs : Nat) (a : Option Addr) (ca : Nat) (A : List (List (Bool × BitVec 256) × Nat)) (n : Nat) (f : Nat → BitVec 64) (fed : Nat) : Prop := A.length = n ∧ (∃ b, (0 < n → b = some ⟨gs, 0, none⟩) ∧ Blk w x [.slice a n ca, .slice b n cs, .int .i64 fed] 136) ∧ (0 < n → Rw w gs cs (ul f n) 138) ∧ ArP w [x, gs] a A ∧ x ≠ gs
theorem AR.below {w w' : World} {x gs cs ca n fed : Nat} {a : Option Addr} {A : List (List (Bool × BitVec 256) × Nat)} {f : Nat → BitVec 64} (h : AR w x gs cs a ca A n f fed) (k : Below w.heap.size w w') : AR w' x gs cs a ca A n f fed := by
  obtain ⟨h1, ⟨b, hb, h2⟩, h3, h4, h5⟩ := h
  exact ⟨h1, ⟨b, hb, Blk.below h2 k (Blk.lt h2)⟩, fun h0 => (h3 h0).fresh k, h4.below k, h5⟩
theorem AR.c0 {w : World} {x gs cs ca n fed : Nat} {a : Option Addr} {A : List (List (Bool × BitVec 256) × Nat)} {f : Nat → BitVec 64} (H : AR w x gs cs a ca A n f fed) : w.cell? ⟨x, 0, none⟩ = some (.slice a n ca) := by
  obtain ⟨b, _, h⟩ := H.2.1
  exact Blk.cell h (i := 0) rfl
theorem AR.c1 {w : World} {x gs cs ca n fed : Nat} {a : Option Addr} {A : List (List (Bool × BitVec 256) × Nat)} {f : Nat → BitVec 64} (H : AR w x gs cs a ca A n f fed) {k : Nat} (hk : k < n) : w.cell? ⟨x, 1, none⟩ = some (.slice (some ⟨gs, 0, none⟩) n cs) := by
  obtain ⟨b, hb, h⟩ := H.2.1
  rw [hb (by omega)] at h
  exact Blk.cell h (i := 1) rfl
theorem AR.c2 {w : World} {x gs cs ca n fed : Nat} {a : Option Addr} {A : List (List (Bool × BitVec 256) × Nat)} {f : Nat → BitVec 64} (H : AR w x gs cs a ca A n f fed) : w.cell? ⟨x, 2, none⟩ = some (.int .i64 fed) := by
  obtain ⟨b, _, h⟩ := H.2.1
  exact Blk.cell h (i := 2) rfl
theorem AR.cf2 {w : World} {x gs cs ca n fed : Nat} {a : Option Addr} {A : List (List (Bool × BitVec 256) × Nat)} {f : Nat → BitVec 64} (H : AR w x gs cs a ca A n f fed) : w.frozen? ⟨x, 2, none⟩ = false := by
  obtain ⟨b, _, h⟩ := H.2.1
  exact Blk.free h 2
end Go.Proofs.Ytbdjcppkfihonaa
/- Arms: Reset. -/
namespace Go.Proofs.Ytbdjcppkfihonaa
open Go.ChangeShapes Go.WideShapes Go.ChangeAt Go.RowKit
set_option linter.unusedSimpArgs false
set_option linter.unusedVariables false

theorem AR.cg {w : World} {x gs cs ca n fed : Nat} {a : Option Addr} {A : List (List (Bool × BitVec 256) × Nat)} {f : Nat → BitVec 64} (H : AR w x gs cs a ca A n f fed) {k : Nat} (hk : k < n) : w.cell? ⟨gs, k, none⟩ = some (.int .u64 (f k).toNat) := (H.2.2.1 (by omega)).cell (ul_at f hk)
theorem AR.cf {w : World} {x gs cs ca n fed : Nat} {a : Option Addr} {A : List (List (Bool × BitVec 256) × Nat)} {f : Nat → BitVec 64} (H : AR w x gs cs a ca A n f fed) {k : Nat} (hk : k < n) : w.frozen? ⟨gs, k, none⟩ = false := (H.2.2.1 (by omega)).free k
theorem AR.putState {w : World} {x gs cs ca n fed : Nat} {a : Option Addr} {A : List (List (Bool × BitVec 256) × Nat)} {f h : Nat → BitVec 64} (H : AR w x gs cs a ca A n f fed) {i : Nat} (hi : i < n) {b : BitVec 64} {v : Int} (hv : (b.toNat : Int) = v) (hh : ∀ j, j < n → h j = if j = i then b else f j) : AR (w.setCell ⟨gs, i, none⟩ (.int .u64 v)) x gs cs a ca A n h fed :=
by
  obtain ⟨h1, ⟨b0, hb, h2⟩, h3, h4, h5⟩ := H
  exact ⟨h1, ⟨b0, hb, Blk.chg h2 ((Chg.refl [gs] w).set (Or.inl (by simp)) _ _) (by simp; exact h5)⟩, fun h0 => ul_put (h3 h0) hi hv hh, h4.chg ((Chg.refl [x, gs] w).set (Or.inl (by simp)) _ _), h5⟩
theorem AR.putFed {w : World} {x gs cs ca n fed : Nat} {a : Option Addr} {A : List (List (Bool × BitVec 256) × Nat)} {f : Nat → BitVec 64} (H : AR w x gs cs a ca A n f fed) (m : Nat) {v : Int} (hv : v = (m : Int)) : AR (w.setCell ⟨x, 2, none⟩ (.int .i64 v)) x gs cs a ca A n f m :=
by
  obtain ⟨h1, ⟨b0, hb, h2⟩, h3, h4, h5⟩ := H
  exact ⟨h1, ⟨b0, hb, by rw [hv]; exact Blk.set h2 2 (.int .i64 (m : Int))⟩, fun h0 => (h3 h0).other (fun e => h5 e.symm) _ _, h4.chg ((Chg.refl [x, gs] w).set (Or.inl (by simp)) _ _), h5⟩
theorem AR.same {w : World} {x gs cs ca n fed : Nat} {a : Option Addr} {A : List (List (Bool × BitVec 256) × Nat)} {f h : Nat → BitVec 64} (H : AR w x gs cs a ca A n f fed) (hh : ∀ j, j < n → f j = h j) : AR w x gs cs a ca A n h fed :=
  ⟨H.1, H.2.1, by rw [← ul_congr hh]; exact H.2.2.1, H.2.2.2.1, H.2.2.2.2⟩
set_option maxRecDepth 20000 in
set_option maxHeartbeats 4000000 in
theorem ar_reset (x gs cs ca n fed : Nat) (a : Option Addr) (A : List (List (Bool × BitVec 256) × Nat)) (f st : Nat → BitVec 64) (hn : n ≤ 1000) (hst : ∀ i l p, A[i]? = some (l, p) → Tb.start l.length (Tb.mk (Tb.rf l) l.length) = st i) (w : World) (h : AR w x gs cs a ca A n f fed) :
    Calls Try.prog 81 #[.pointer (some ⟨x, 0, none⟩)] w fun e w' => e = .returned (.tuple #[]) ∧ AR w' x gs cs a ca A n st 0 ∧ Chg [x, gs] w w' := by
  have HS := Lib.hid hst
  have H1 : Hid (AR (w.setCell ⟨x, 2, none⟩ (.int .i64 0)) x gs cs a ca A n (fun j => if j < 0 then st j else f j) 0 ∧ Chg [x, gs] w (w.setCell ⟨x, 2, none⟩ (.int .i64 0))) := Lib.hid ⟨(h.putFed 0 rfl).same (fun j _ => by simp), (Chg.refl [x, gs] w).set (Or.inl (by simp)) _ _⟩
  have c2 := h.c2
  have cf2 := h.cf2
  clear hst h
  go_enter Try.func81, Try.ntmps81
  go_upto_region 2 with fail
  clear c2 cf2
  revert H1
  generalize (w.setCell ⟨x, 2, none⟩ (.int .i64 0)) = V1
  intro H1
  have c0 := H1.out.1.c0
  go_wp2_with fail
  clear c0
  go_loopw [2, 3, 14] (fun _ _ i wr => ∃ k : Nat, i = .int .i64 k ∧ k ≤ n ∧ Hid (AR wr x gs cs a ca A n (fun j => if j < k then st j else f j) 0 ∧ Chg [x, gs] w wr)) (fun _ _ i _ => n - (intOf i).toNat)
  case atStart => exact ⟨0, rfl, by omega, H1⟩
  case round =>
    clear H1
    obtain ⟨k, rfl, hk, HB⟩ := hrel
    have k0 : (0 : Int) ≤ (k : Int) := by omega
    by_cases hkl : k < n
    · obtain ⟨y, hy⟩ : ∃ y, A[k]? = some y := ⟨_, List.getElem?_eq_getElem (by rw [HB.out.1.1]; exact hkl)⟩
      obtain ⟨l, p⟩ := y
      obtain ⟨g, o, ha, hg1, hg2, hg3, h62, cp, tb⟩ := HB.out.1.2.2.2.1 k l p hy
      subst ha
      obtain ⟨Y, hY⟩ : ∃ Y, Tb.start l.length (Tb.mk (Tb.rf l) l.length) = Y := ⟨_, rfl⟩
      obtain ⟨yv, hyv⟩ : ∃ v : Int, (Y.toNat : Int) = v := ⟨_, rfl⟩
      have hsk : st k = Y := by rw [← HS.out k l p hy, hY]
      have HT := Lib.hid (And.intro tb (And.intro hY (And.intro hyv hsk)))
      have w1 : IntKind.i64.wrap ((k : Int) + 1) = (k : Int) + 1 := IntWalk.i64_in _ (by omega)
      clear hy tb hY hyv hsk hg1 hg2 hg3
      go_upto_region 5 with fail
      have c1 := HB.out.1.c1 hkl
      have cg := HB.out.1.cg hkl
      have cf := HB.out.1.cf hkl
      replace HT : Hid (TB wr.drew p l.length (Tb.mk (Tb.rf l) l.length) (fun b => Tb.mk (Tb.hf l b) l.length) ∧ _) := Lib.hid ⟨HT.out.1, HT.out.2⟩
      replace HB : Hid (AR wr.drew x gs cs (some ⟨g, o, none⟩) ca A n (fun j => if j < k then st j else f j) 0 ∧ Chg [x, gs] w wr.drew) := Lib.hid ⟨HB.out.1, HB.out.2.drew⟩
      first | go_region_with (go_at_call 83; with_reducible refine (tb_start p l.length (Tb.mk (Tb.rf l) l.length) (fun b => Tb.mk (Tb.hf l b) l.length) h62 Y yv HT.out.2.1 HT.out.2.2.1 _ HT.out.1).mono ?_; rintro e W2 ⟨rfl, hb1⟩; clear c1 cg cf cp; have HC : Hid (AR W2 x gs cs (some ⟨g, o, none⟩) ca A n (fun j => if j < k then st j else f j) 0 ∧ Chg [x, gs] w W2) := Lib.hid ⟨HB.out.1.below hb1, HB.out.2.trans (Chg.of_fresh (l := []) hb1) (by simp)⟩; clear hb1; have c1 := HC.out.1.c1 hkl; have cg := HC.out.1.cg hkl; have cf := HC.out.1.cf hkl; have HN : Hid (AR (W2.setCell ⟨gs, k, none⟩ (.int .u64 yv)) x gs cs (some ⟨g, o, none⟩) ca A n (fun j => if j < (k + 1) then st j else f j) 0 ∧ Chg [x, gs] w (W2.setCell ⟨gs, k, none⟩ (.int .u64 yv))) := Lib.hid ⟨HC.out.1.putState hkl HT.out.2.2.1 (fun j _ => by
        by_cases e : j = k
        · rw [if_pos e, if_pos (by omega), e, HT.out.2.2.2]
        · rw [if_neg e]
          by_cases e2 : j < k
          · rw [if_pos e2, if_pos (by omega)]
          · rw [if_neg e2, if_neg (by omega)]), HC.out.2.set (Or.inl (by simp)) _ _⟩) | fail
      all_goals (
        go_wp2
        refine ⟨?_, ?measure⟩
        case measure => simp [intOf]; omega
        first
          | exact ⟨k + 1, by go_num, by omega, HN⟩
          | ((repeat apply Exists.intro); exact ⟨⟨k + 1, by go_num, by omega, HN⟩, rfl⟩))
    · obtain rfl : k = n := by omega
      have HE := Lib.hid (HB.out.1.same (h := st) (fun j hj => by rw [if_pos hj]))
      have HF := Lib.hid HB.out.2
      clear HB
      go_wp2
      go_end0
      exact ⟨rfl, HE.out, HF.out⟩
end Go.Proofs.Ytbdjcppkfihonaa
/- Arms: Feed. -/
namespace Go.Proofs.Ytbdjcppkfihonaa
open Go.ChangeShapes Go.WideShapes Go.ChangeAt Go.RowKit
set_option linter.unusedSimpArgs false
set_option linter.unusedVariables false

/-- The first of the arms that is done. -/
def Ar.fs (d : Nat → Bool) : Nat → Nat × Bool
  | 0 => (0, false)
  | k + 1 => if (Ar.fs d k).2 then Ar.fs d k else if d k then (k, true) else Ar.fs d k
theorem AR.cgv {w : World} {x gs cs ca n fed : Nat} {a : Option Addr} {A : List (List (Bool × BitVec 256) × Nat)} {f : Nat → BitVec 64} (H : AR w x gs cs a ca A n f fed) {k : Nat} (hk : k < n) {Y : BitVec 64} {y : Int} (hf : f k = Y) (hy : (Y.toNat : Int) = y) : w.cell? ⟨gs, k, none⟩ = some (.int .u64 y) := by
  rw [H.cg hk, hf, hy]
theorem AR.tb {w : World} {x gs cs ca n fed : Nat} {a : Option Addr} {A : List (List (Bool × BitVec 256) × Nat)} {f : Nat → BitVec 64} (H : AR w x gs cs a ca A n f fed) {k : Nat} {l : List (Bool × BitVec 256)} {p : Nat} (h : A[k]? = some (l, p)) : TB w p l.length (Tb.mk (Tb.rf l) l.length) (fun b => Tb.mk (Tb.hf l b) l.length) := by
  obtain ⟨g, o, _, _, _, _, _, _, z⟩ := H.2.2.2.1 k l p h
  exact z
set_option maxRecDepth 20000 in
set_option maxHeartbeats 8000000 in
theorem ar_feed (x gs cs ca n fed : Nat) (a : Option Addr) (A : List (List (Bool × BitVec 256) × Nat)) (f st : Nat → BitVec 64) (b : Nat) (hb : b < 256) (d : Nat → Bool) (hn : n ≤ 1000) (hfed : fed ≤ 1000000) (hst : ∀ i l p, A[i]? = some (l, p) → Tb.seek l.length (Tb.mk (Tb.rf l) l.length) (Tb.mk (Tb.hf l b) l.length) (f i) = st i ∧ (Tb.whole l.length (Tb.mk (Tb.rf l) l.length) (st i)).getLsbD l.length = d i) (r : Nat) (ok : Bool) (hr : Ar.fs d n = (r, ok)) (w : World) (h : AR w x gs cs a ca A n f fed) :
    Calls Try.prog 63 #[.pointer (some ⟨x, 0, none⟩), .int .u8 b] w fun e w' => e = .returned (.tuple #[.int .i64 r, .bool ok]) ∧ AR w' x gs cs a ca A n st (fed + 1) ∧ Chg [x, gs] w w' := by
  have HS := Lib.hid hst
  have HR := Lib.hid hr
  have H1 : Hid (AR (w.setCell ⟨x, 2, none⟩ (.int .i64 ((fed : Int) + 1))) x gs cs a ca A n (fun j => if j < 0 then st j else f j) (fed + 1) ∧ Chg [x, gs] w (w.setCell ⟨x, 2, none⟩ (.int .i64 ((fed : Int) + 1)))) := Lib.hid ⟨(h.putFed (fed + 1) (by omega)).same (fun j _ => by simp), (Chg.refl [x, gs] w).set (Or.inl (by simp)) _ _⟩
  have c2 := h.c2
  have cf2 := h.cf2
  have w1 : IntKind.i64.wrap ((fed : Int) + 1) = (fed : Int) + 1 := IntWalk.i64_in _ (by omega)
  clear hst h hr
  go_enter Try.func63, Try.ntmps63
  go_upto_region 4 with fail
  clear c2 cf2 w1
  revert H1
  generalize (w.setCell ⟨x, 2, none⟩ (.int .i64 ((fed : Int) + 1))) = V1
  intro H1
  have c0 := H1.out.1.c0
  go_wp2_with fail
  clear c0
  go_loopw [6, 7, 8, 9, 24] (fun v6 v7 _ _ i wr => ∃ (k q : Nat) (o : Bool), v6 = .int .i64 q ∧ v7 = .bool o ∧ i = .int .i64 k ∧ k ≤ n ∧ Hid (Ar.fs d k = (q, o)) ∧ Hid (AR wr x gs cs a ca A n (fun j => if j < k then st j else f j) (fed + 1) ∧ Chg [x, gs] w wr)) (fun _ _ _ _ i _ => n - (intOf i).toNat)
  case atStart => exact ⟨0, 0, false, rfl, rfl, rfl, by omega, Lib.hid rfl, H1⟩
  case round =>
    clear H1
    obtain ⟨k, q, ok0, rfl, rfl, rfl, hk, HQ, HB⟩ := hrel
    have k0 : (0 : Int) ≤ (k : Int) := by omega
    by_cases hkl : k < n
    · obtain ⟨y, hy⟩ : ∃ y, A[k]? = some y := ⟨_, List.getElem?_eq_getElem (by rw [HB.out.1.1]; exact hkl)⟩
      obtain ⟨l, p⟩ := y
      obtain ⟨g, o, ha, hg1, hg2, hg3, h62, cp, tb⟩ := HB.out.1.2.2.2.1 k l p hy
      subst ha
      obtain ⟨X, hX⟩ : ∃ Y, f k = Y := ⟨_, rfl⟩
      obtain ⟨xv, hxv⟩ : ∃ v : Int, (X.toNat : Int) = v := ⟨_, rfl⟩
      obtain ⟨Y, hY⟩ : ∃ Y, st k = Y := ⟨_, rfl⟩
      obtain ⟨yv, hyv⟩ : ∃ v : Int, (Y.toNat : Int) = v := ⟨_, rfl⟩
      obtain ⟨dk, hdk⟩ : ∃ v, d k = v := ⟨_, rfl⟩
      have hs := HS.out k l p hy
      rw [hX, hY, hdk] at hs
      have HT : Hid (Tb.seek l.length (Tb.mk (Tb.rf l) l.length) (Tb.mk (Tb.hf l b) l.length) X = Y ∧ (Tb.whole l.length (Tb.mk (Tb.rf l) l.length) Y).getLsbD l.length = dk ∧ (X.toNat : Int) = xv ∧ (Y.toNat : Int) = yv ∧ f k = X ∧ st k = Y ∧ d k = dk ∧ A[k]? = some (l, p)) := Lib.hid ⟨hs.1, hs.2, hxv, hyv, hX, hY, hdk, hy⟩
      have w1 : IntKind.i64.wrap ((k : Int) + 1) = (k : Int) + 1 := IntWalk.i64_in _ (by omega)
      clear hy tb hX hY hxv hyv hdk hs hg1 hg2 hg3
      go_upto_region 8 with fail
      replace HB : Hid (AR wr.drew x gs cs (some ⟨g, o, none⟩) ca A n (fun j => if j < k then st j else f j) (fed + 1) ∧ Chg [x, gs] w wr.drew) := Lib.hid ⟨HB.out.1, HB.out.2.drew⟩
      have c1 := HB.out.1.c1 hkl
      have cg := HB.out.1.cgv hkl (show (if k < k then st k else f k) = X by rw [if_neg (Nat.lt_irrefl k)]; exact HT.out.2.2.2.2.1) HT.out.2.2.1
      have HTB := Lib.hid (HB.out.1.tb HT.out.2.2.2.2.2.2.2)
      have hput : Hid (∀ j, j < n → (if j < k + 1 then st j else f j) = if j = k then Y else (if j < k then st j else f j)) := Lib.hid (fun j _ => by
        by_cases e : j = k
        · rw [if_pos e, if_pos (by omega), e, HT.out.2.2.2.2.2.1]
        · rw [if_neg e]
          by_cases e2 : j < k
          · rw [if_pos e2, if_pos (by omega)]
          · rw [if_neg e2, if_neg (by omega)])
      first | go_region_with (go_at_call 79; with_reducible refine (tb_seek p l.length (Tb.mk (Tb.rf l) l.length) (fun b => Tb.mk (Tb.hf l b) l.length) h62 X xv HT.out.2.2.1 b hb Y yv HT.out.1 HT.out.2.2.2.1 _ HTB.out).mono ?_; rintro e W2 ⟨rfl, hb1⟩; clear c1 cg cp; have HC : Hid (AR W2 x gs cs (some ⟨g, o, none⟩) ca A n (fun j => if j < k then st j else f j) (fed + 1) ∧ Chg [x, gs] w W2) := Lib.hid ⟨HB.out.1.below hb1, HB.out.2.trans (Chg.of_fresh (l := []) hb1) (by simp)⟩; clear hb1; have c1 := HC.out.1.c1 hkl; have cg := HC.out.1.cg hkl; have cf := HC.out.1.cf hkl; have HN : Hid (AR (W2.setCell ⟨gs, k, none⟩ (.int .u64 yv)) x gs cs (some ⟨g, o, none⟩) ca A n (fun j => if j < (k + 1) then st j else f j) (fed + 1) ∧ Chg [x, gs] w (W2.setCell ⟨gs, k, none⟩ (.int .u64 yv))) := Lib.hid ⟨HC.out.1.putState hkl HT.out.2.2.2.1 hput.out, HC.out.2.set (Or.inl (by simp)) _ _⟩; clear HC) | fail
      all_goals (
        clear c1 cg cf
        revert HN
        generalize (W2.setCell ⟨gs, k, none⟩ (.int .u64 yv)) = W3
        intro HN
        have c1 := HN.out.1.c1 hkl
        have cg := HN.out.1.cgv hkl (show (if k < k + 1 then st k else f k) = Y by rw [if_pos (by omega)]; exact HT.out.2.2.2.2.2.1) HT.out.2.2.2.1
        replace HTB := Lib.hid (HN.out.1.tb HT.out.2.2.2.2.2.2.2)
        cases ok0 with
        | true =>
          have HS2 : Hid (Ar.fs d (k + 1) = (q, true)) := Lib.hid (by rw [Ar.fs, HQ.out]; rfl)
          go_wp2
          refine ⟨?_, ?measure⟩
          case measure => simp [intOf]; omega
          first
            | exact ⟨k + 1, q, true, rfl, rfl, by go_num, by omega, HS2, HN⟩
            | ((repeat apply Exists.intro); exact ⟨⟨k + 1, q, true, rfl, rfl, by go_num, by omega, HS2, HN⟩, rfl⟩)
        | false =>
          cases dk with
          | true =>
            have HS2 : Hid (Ar.fs d (k + 1) = (k, true)) := Lib.hid (by rw [Ar.fs, HQ.out, HT.out.2.2.2.2.2.2.1]; rfl)
            go_wp2_with (go_at_call 80; with_reducible refine (tb_done p l.length (Tb.mk (Tb.rf l) l.length) (fun b => Tb.mk (Tb.hf l b) l.length) h62 Y yv HT.out.2.2.2.1 true HT.out.2.1 _ HTB.out).mono ?_; rintro e W4 ⟨rfl, hb1⟩; clear c1 cg; replace HN := Lib.hid (And.intro (HN.out.1.below hb1) (HN.out.2.trans (Chg.of_fresh (l := []) hb1) (by simp))); clear hb1)
            refine ⟨?_, ?measure⟩
            case measure => simp [intOf]; omega
            first
              | exact ⟨k + 1, k, true, rfl, rfl, by go_num, by omega, HS2, HN⟩
              | ((repeat apply Exists.intro); exact ⟨⟨k + 1, k, true, rfl, rfl, by go_num, by omega, HS2, HN⟩, rfl⟩)
          | false =>
            have HS2 : Hid (Ar.fs d (k + 1) = (q, false)) := Lib.hid (by rw [Ar.fs, HQ.out, HT.out.2.2.2.2.2.2.1]; rfl)
            go_wp2_with (go_at_call 80; with_reducible refine (tb_done p l.length (Tb.mk (Tb.rf l) l.length) (fun b => Tb.mk (Tb.hf l b) l.length) h62 Y yv HT.out.2.2.2.1 false HT.out.2.1 _ HTB.out).mono ?_; rintro e W4 ⟨rfl, hb1⟩; clear c1 cg; replace HN := Lib.hid (And.intro (HN.out.1.below hb1) (HN.out.2.trans (Chg.of_fresh (l := []) hb1) (by simp))); clear hb1)
            refine ⟨?_, ?measure⟩
            case measure => simp [intOf]; omega
            first
              | exact ⟨k + 1, q, false, rfl, rfl, by go_num, by omega, HS2, HN⟩
              | ((repeat apply Exists.intro); exact ⟨⟨k + 1, q, false, rfl, rfl, by go_num, by omega, HS2, HN⟩, rfl⟩))
    · obtain rfl : k = n := by omega
      have HE := Lib.hid (HB.out.1.same (h := st) (fun j hj => by rw [if_pos hj]))
      have HF := Lib.hid HB.out.2
      obtain ⟨rfl, rfl⟩ : q = r ∧ ok0 = ok := by have := HQ.out; rw [HR.out] at this; injection this with a b; exact ⟨a.symm, b.symm⟩
      clear HB
      go_wp2
      go_ret2
      exact ⟨rfl, HE.out, HF.out⟩
end Go.Proofs.Ytbdjcppkfihonaa
/- Arms: the document's Check. -/
namespace Go.Proofs.Ytbdjcppkfihonaa
open Go.ChangeShapes Go.WideShapes Go.ChangeAt Go.RowKit
set_option linter.unusedSimpArgs false
set_option linter.unusedVariables false

/-- A text that is a pattern is told at place 0. -/
theorem rdG_zero : ∀ (f : Nat) (l : List UInt8) (k : Nat) (L : List (Bool × BitVec 256)), (Cs.rdG f l k L).2.2 = 0 → (Cs.rdG f l k L).2.1 = 0
  | 0, l, k, L, _ => rfl
  | f + 1, l, k, L, h => by
    rw [rdG_succ] at h ⊢
    by_cases hk : l.length ≤ k
    · rw [if_pos hk]
    · rw [if_neg hk] at h ⊢
      by_cases h60 : L.length = 60
      · rw [if_pos h60] at h; simp at h
      · rw [if_neg h60] at h ⊢
        by_cases he : (Cs.rdI (l.drop k)).2.2 ≠ 0
        · rw [if_pos he] at h; exact absurd h he
        · rw [if_neg he] at h ⊢; exact rdG_zero f l _ _ h
set_option maxRecDepth 20000 in
theorem rk_bad (hC : ∀ (s : ByteArray) (l : List UInt8), s.size ≤ 1000000 → s.data.toList = l → ∀ (X : BitVec 256) (n e : Nat), Cs.rdC l = (X, n, e) → ∀ w, Calls Try.prog 94 #[.string s] w fun r w' => r = .returned (.tuple #[Cs.sv X, .int .i64 n, .int .i64 e]) ∧ Below w.heap.size w w')
    (s : ByteArray) (l : List UInt8) (hs : s.size ≤ 1000000) (h : s.data.toList = l) (R : List (Bool × BitVec 256)) (p q : Nat) (hr : Cs.rdG (l.length + 1) l 0 [] = (R, p, q)) (hq : q ≠ 0) (w : World) :
    Calls Try.prog 67 #[.string s] w fun e w' => ∃ v, e = .returned (.tuple #[v, .int .i64 p, .int .i64 q]) ∧ Below w.heap.size w w' := by
  have hg : goodB R = true := by
    have := rdG_good (l.length + 1) l 0 [] (by simp) okI_nil
    rw [hr] at this; exact this
  have hn6 : R.length ≤ 1000000 := by have := (goodB_ok hg).2; omega
  obtain ⟨n, hn⟩ : ∃ n, R.length = n := ⟨_, rfl⟩
  have HCd := Lib.hid hC
  have HS := Lib.hid (And.intro hs (And.intro h hr))
  have HN := Lib.hid (And.intro hn hg)
  have hqI : ((q : Int) == 0) = false := by rw [beq_eq_false_iff_ne]; omega
  rw [hn] at hn6
  clear hs h hr hg hn hC
  go_enter Try.func67, Try.ntmps67
  go_wp2_with (go_at_call 84; with_reducible refine (rg_rdG HCd.out s l HS.out.1 HS.out.2.1 R p q HS.out.2.2 _).mono ?_; rintro e W1 ⟨v, rfl, h1, hb1⟩; obtain ⟨a, c, rfl, h3⟩ := own_ik h1; rw [HN.out.1]; have HB := Lib.hid (And.intro h3 hb1); clear h1 h3 hb1)
  go_ret3
  exact ⟨_, rfl, HB.out.2⟩
set_option maxRecDepth 20000 in
theorem rk_void (hC : ∀ (s : ByteArray) (l : List UInt8), s.size ≤ 1000000 → s.data.toList = l → ∀ (X : BitVec 256) (n e : Nat), Cs.rdC l = (X, n, e) → ∀ w, Calls Try.prog 94 #[.string s] w fun r w' => r = .returned (.tuple #[Cs.sv X, .int .i64 n, .int .i64 e]) ∧ Below w.heap.size w w')
    (s : ByteArray) (l : List UInt8) (hs : s.size ≤ 1000000) (h : s.data.toList = l) (R : List (Bool × BitVec 256)) (p q : Nat) (hr : Cs.rdG (l.length + 1) l 0 [] = (R, p, q)) (hq : q = 0) (m : Nat) (hm : Lg.least R = m) (hm0 : decide (m = 0) = true) (w : World) :
    Calls Try.prog 67 #[.string s] w fun e w' => e = .returned (.tuple #[.slice none 0 0, .int .i64 0, .int .i64 9]) ∧ Below w.heap.size w w' := by
  subst hq
  have hg : goodB R = true := by
    have := rdG_good (l.length + 1) l 0 [] (by simp) okI_nil
    rw [hr] at this; exact this
  have hn6 : R.length ≤ 1000000 := by have := (goodB_ok hg).2; omega
  obtain ⟨n, hn⟩ : ∃ n, R.length = n := ⟨_, rfl⟩
  have HCd := Lib.hid hC
  have HS := Lib.hid (And.intro hs (And.intro h hr))
  have hmz : m = 0 := of_decide_eq_true hm0
  have HN := Lib.hid (And.intro hn (And.intro hg (And.intro hm hm0)))
  rw [hn] at hn6
  clear hs h hr hg hn hm hm0 hC
  go_enter Try.func67, Try.ntmps67
  go_wp2_with (first
    | (go_at_call 84; with_reducible refine (rg_rdG HCd.out s l HS.out.1 HS.out.2.1 R p 0 HS.out.2.2 _).mono ?_; rintro e W1 ⟨v, rfl, h1, hb1⟩; obtain ⟨a, c, rfl, h3⟩ := own_ik h1; rw [HN.out.1]; have HB := Lib.hid (And.intro h3 hb1); clear h1 h3 hb1)
    | (go_at_call 85; with_reducible refine (rg_least R m HN.out.2.2.1 n a c HN.out.1 hn6 _ HB.out.1.ia).mono ?_; rintro e W2 ⟨rfl, hb1⟩; replace HB := Lib.hid (And.intro (HB.out.1.below hb1) (HB.out.2.trans (hb1.mono HB.out.2.size))); clear hb1))
  go_ret3
  exact ⟨rfl, HB.out.2⟩
set_option maxRecDepth 20000 in
theorem rk_ok (hC : ∀ (s : ByteArray) (l : List UInt8), s.size ≤ 1000000 → s.data.toList = l → ∀ (X : BitVec 256) (n e : Nat), Cs.rdC l = (X, n, e) → ∀ w, Calls Try.prog 94 #[.string s] w fun r w' => r = .returned (.tuple #[Cs.sv X, .int .i64 n, .int .i64 e]) ∧ Below w.heap.size w w')
    (s : ByteArray) (l : List UInt8) (hs : s.size ≤ 1000000) (h : s.data.toList = l) (R : List (Bool × BitVec 256)) (p q : Nat) (hr : Cs.rdG (l.length + 1) l 0 [] = (R, p, q)) (hq : q = 0) (m : Nat) (hm : Lg.least R = m) (hm0 : decide (m = 0) = false) (w : World) :
    Calls Try.prog 67 #[.string s] w fun e w' => ∃ a c, e = .returned (.tuple #[.slice a R.length c, .int .i64 0, .int .i64 0]) ∧ IK w' a R ∧ Below w.heap.size w w' := by
  subst hq
  obtain rfl : p = 0 := by have := rdG_zero (l.length + 1) l 0 []; rw [hr] at this; exact this rfl
  have hg : goodB R = true := by
    have := rdG_good (l.length + 1) l 0 [] (by simp) okI_nil
    rw [hr] at this; exact this
  have hn6 : R.length ≤ 1000000 := by have := (goodB_ok hg).2; omega
  obtain ⟨n, hn⟩ : ∃ n, R.length = n := ⟨_, rfl⟩
  have HCd := Lib.hid hC
  have HS := Lib.hid (And.intro hs (And.intro h hr))
  have hmz : m ≠ 0 := of_decide_eq_false hm0
  have hmI : ((m : Int) == 0) = false := by rw [beq_eq_false_iff_ne]; omega
  have HN := Lib.hid (And.intro hn (And.intro hg (And.intro hm hm0)))
  rw [hn] at hn6
  rw [hn]
  clear hs h hr hg hn hm hm0 hC
  go_enter Try.func67, Try.ntmps67
  go_wp2_with (first
    | (go_at_call 84; with_reducible refine (rg_rdG HCd.out s l HS.out.1 HS.out.2.1 R 0 0 HS.out.2.2 _).mono ?_; rintro e W1 ⟨v, rfl, h1, hb1⟩; obtain ⟨a, c, rfl, h3⟩ := own_ik h1; rw [HN.out.1]; have HB := Lib.hid (And.intro h3 hb1); clear h1 h3 hb1)
    | (go_at_call 85; with_reducible refine (rg_least R m HN.out.2.2.1 n a c HN.out.1 hn6 _ HB.out.1.ia).mono ?_; rintro e W2 ⟨rfl, hb1⟩; replace HB := Lib.hid (And.intro (HB.out.1.below hb1) (HB.out.2.trans (hb1.mono HB.out.2.size))); clear hb1))
  go_ret3
  exact ⟨_, _, rfl, HB.out.1, HB.out.2⟩
end Go.Proofs.Ytbdjcppkfihonaa
/- Arms: the document's Here. -/
namespace Go.Proofs.Ytbdjcppkfihonaa
open Go.ChangeShapes Go.WideShapes Go.ChangeAt Go.RowKit
set_option linter.unusedSimpArgs false
set_option linter.unusedVariables false

theorem fs_none (d : Nat → Bool) : ∀ k, (∀ j, j < k → d j = false) → Ar.fs d k = (0, false)
  | 0, _ => rfl
  | k + 1, h => by rw [Ar.fs, fs_none d k (fun j hj => h j (by omega)), h k (by omega)]; rfl
theorem fs_some (d : Nat → Bool) (k : Nat) (h : ∀ j, j < k → d j = false) (hk : d k = true) : ∀ n, k < n → Ar.fs d n = (k, true)
  | 0, hn => by omega
  | n + 1, hn => by
    by_cases e : k = n
    · rw [Ar.fs, ← e, fs_none d k h, hk]; rfl
    · rw [Ar.fs, fs_some d k h hk n (by omega)]; rfl
/-- A row of patterns. -/
def LL (w : World) (a : Option Addr) (A : List (List (Bool × BitVec 256))) : Prop := ∀ i l, A[i]? = some l → l.length ≤ 1000 ∧ ∃ g o ai ci, a = some ⟨g, o, none⟩ ∧ g < w.heap.size ∧ w.cell? ⟨g, o + i, none⟩ = some (.slice ai l.length ci) ∧ IK w ai l
theorem LL.below {w w' : World} {a : Option Addr} {A : List (List (Bool × BitVec 256))} (h : LL w a A) (k : Below w.heap.size w w') : LL w' a A := fun i l hi => by
  obtain ⟨h0, g, o, ai, ci, h1, h2, h3, h4⟩ := h i l hi
  exact ⟨h0, g, o, ai, ci, h1, Nat.lt_of_lt_of_le h2 k.size, by rw [← h3]; exact Chg.cell (l := []) (Chg.of_fresh k) h2 (by simp), h4.below k⟩
set_option maxRecDepth 20000 in
set_option maxHeartbeats 4000000 in
theorem rk_here (A : List (List (Bool × BitVec 256))) (n : Nat) (hn : A.length = n) (hn3 : n ≤ 1000) (a : Option Addr) (c : Nat) (s : ByteArray) (t : List UInt8) (hs3 : s.size ≤ 1000) (ht : s.data.toList = t) (d : Nat → Bool) (hd : ∀ i l, A[i]? = some l → Lg.occ l t s.size = d i) (r : Nat) (ok : Bool) (hr : Ar.fs d n = (r, ok)) (v : Int) (hv : (if ok then (r : Int) else -1) = v) (w : World) (hI : LL w a A) :
    Calls Try.prog 61 #[.slice a n c, .string s] w fun e w' => e = .returned (.int .i64 v) ∧ Below w.heap.size w w' := by
  have HG := Lib.hid (And.intro hI hn)
  have HS := Lib.hid (And.intro ht (And.intro hd (And.intro hr hv)))
  have HB0 : Hid (Below w.heap.size w w) := Lib.hid (Below.refl _ _)
  clear hI hn ht hd hr hv
  go_enter Try.func61, Try.ntmps61
  go_wp2_with fail
  go_loopw [5] (fun i wr => ∃ k : Nat, i = .int .i64 k ∧ k ≤ n ∧ Hid (∀ j, j < k → d j = false) ∧ Hid (Below w.heap.size w wr)) (fun i _ => n - (intOf i).toNat)
  case atStart => exact ⟨0, rfl, by omega, Lib.hid (fun j hj => by omega), HB0⟩
  case round =>
    clear HB0
    obtain ⟨k, rfl, hk, HF, HB⟩ := hrel
    have k0 : (0 : Int) ≤ (k : Int) := by omega
    by_cases hkl : k < n
    · obtain ⟨l, hl⟩ : ∃ y, A[k]? = some y := ⟨_, List.getElem?_eq_getElem (by rw [HG.out.2]; exact hkl)⟩
      obtain ⟨h1000, g, o, ai, ci, ha, hg1, cc, hik⟩ := (HG.out.1.below HB.out) k l hl
      subst ha
      obtain ⟨dk, hdk⟩ : ∃ v, d k = v := ⟨_, rfl⟩
      have hoc : Lg.occ l t s.size = dk := by rw [HS.out.2.1 k l hl, hdk]
      obtain ⟨Z, hZ⟩ : ∃ Z, Lg.starts l t s.size = Z := ⟨_, rfl⟩
      obtain ⟨o1, o2⟩ := occ_starts l t s.size dk hoc Z hZ
      have HZ := Lib.hid (And.intro hZ hdk)
      have HI := Lib.hid hik
      have w1 : IntKind.i64.wrap ((k : Int) + 1) = (k : Int) + 1 := IntWalk.i64_in _ (by omega)
      clear hl hdk hoc hZ hg1 hik
      cases dk with
      | true =>
        have hl0 : 0 < Z.length := by obtain ⟨y, Ls, e⟩ := o1 rfl; rw [e]; simp
        have hl1 : (0 : Int) < (Z.length : Int) := by omega
        have HR : Hid ((k : Int) = v) := Lib.hid (by
          rw [← HS.out.2.2.2]
          have := fs_some d k HF.out HZ.out.2 n hkl
          rw [HS.out.2.2.1] at this
          injection this with e1 e2
          rw [e1, e2]; rfl)
        clear o1 o2
        go_wp2_with (go_at_call 76; with_reducible refine (rg_starts l s t hs3 HS.out.1 l.length ai ci rfl h1000 s.size (Nat.le_refl _) Z HZ.out.1 _ HI.out.ia).mono ?_; rintro e W1 ⟨q, cq, rfl, k1, hb1⟩; have HN : Hid (Below w.heap.size w W1) := Lib.hid (HB.out.trans (hb1.mono HB.out.size)); clear hb1 k1)
        go_ret
        exact ⟨by rw [← HR.out]; rfl, HN.out⟩
      | false =>
        have hl0 : Z.length = 0 := by rw [o2 rfl]; rfl
        clear o1 o2
        have HF2 : Hid (∀ j, j < k + 1 → d j = false) := Lib.hid (fun j hj => by
          by_cases e : j = k
          · rw [e]; exact HZ.out.2
          · exact HF.out j (by omega))
        go_wp2_with (go_at_call 76; with_reducible refine (rg_starts l s t hs3 HS.out.1 l.length ai ci rfl h1000 s.size (Nat.le_refl _) Z HZ.out.1 _ HI.out.ia).mono ?_; rintro e W1 ⟨q, cq, rfl, k1, hb1⟩; have HN : Hid (Below w.heap.size w W1) := Lib.hid (HB.out.trans (hb1.mono HB.out.size)); clear hb1 k1)
        refine ⟨?_, ?measure⟩
        case measure => simp [intOf]; omega
        first
          | exact ⟨k + 1, by go_num, by omega, HF2, HN⟩
          | ((repeat apply Exists.intro); exact ⟨⟨k + 1, by go_num, by omega, HF2, HN⟩, rfl⟩)
    · obtain rfl : k = n := by omega
      have HR : Hid ((-1 : Int) = v) := Lib.hid (by
        rw [← HS.out.2.2.2]
        have := fs_none d k HF.out
        rw [HS.out.2.2.1] at this
        injection this with e1 e2
        rw [e2]; rfl)
      go_wp2
      go_ret
      exact ⟨by rw [← HR.out]; rfl, HB.out⟩
end Go.Proofs.Ytbdjcppkfihonaa
/- Arms: the document's Find. -/
namespace Go.Proofs.Ytbdjcppkfihonaa
open Go.ChangeShapes Go.WideShapes Go.ChangeAt Go.RowKit
set_option linter.unusedSimpArgs false
set_option linter.unusedVariables false

/-- Which is found first, and to where. -/
def Ar.fi (F : Nat → Nat × Bool) : Nat → Nat × Nat × Bool
  | 0 => (0, 0, false)
  | n + 1 => if (Ar.fi F n).2.2 then Ar.fi F n else if (F (n + 1)).2 then ((F (n + 1)).1, n + 1, true) else (0, 0, false)
theorem fi_none (F : Nat → Nat × Bool) : ∀ n, (∀ j, 1 ≤ j → j ≤ n → (F j).2 = false) → Ar.fi F n = (0, 0, false)
  | 0, _ => rfl
  | n + 1, h => by rw [Ar.fi, fi_none F n (fun j h1 hj => h j h1 (by omega)), h (n + 1) (by omega) (by omega)]; rfl
theorem fi_some (F : Nat → Nat × Bool) (k r : Nat) (h1 : 1 ≤ k) (h : ∀ j, 1 ≤ j → j < k → (F j).2 = false) (hk : F k = (r, true)) : ∀ n, k ≤ n → Ar.fi F n = (r, k, true)
  | 0, hn => by omega
  | n + 1, hn => by
    by_cases e : k = n + 1
    · rw [Ar.fi, fi_none F n (fun j h2 hj => h j h2 (by omega)), ← e, hk]; rfl
    · rw [Ar.fi, fi_some F k r h1 h hk n (by omega)]; rfl
theorem ar_take (s u : ByteArray) (n : Nat) (h : s.extract 0 n = u) : u.data.toList = s.data.toList.take n := by
  rw [← h, ByteArray.data_extract, Array.toList_extract, List.extract_eq_take_drop]; simp
theorem occ_take (l : List (Bool × BitVec 256)) (t : List UInt8) (k : Nat) (hk : k ≤ t.length) : Lg.occ l (t.take k) k = Lg.occ l t k := by
  have := occ_app l (t.take k) (t.drop k) k (by rw [List.length_take]; omega)
  rw [List.take_append_drop] at this
  exact this.symm
set_option maxRecDepth 20000 in
set_option maxHeartbeats 4000000 in
theorem rk_find (A : List (List (Bool × BitVec 256))) (n : Nat) (hn : A.length = n) (hn3 : n ≤ 1000) (a : Option Addr) (c : Nat) (s : ByteArray) (t : List UInt8) (N : Nat) (hN : s.size = N) (hs3 : N ≤ 1000) (ht : s.data.toList = t) (D : Nat → Nat → Bool) (hd : ∀ k i l, k ≤ N → A[i]? = some l → Lg.occ l t k = D k i) (q m : Nat) (is : Bool) (hr : Ar.fi (fun k => Ar.fs (D k) n) N = (q, m, is)) (w : World) (hI : LL w a A) :
    Calls Try.prog 49 #[.slice a n c, .string s] w fun e w' => e = .returned (.tuple #[.int .i64 q, .int .i64 m, .bool is]) ∧ Below w.heap.size w w' := by
  have HG := Lib.hid (And.intro hI hn)
  have HS := Lib.hid (And.intro ht (And.intro hd hr))
  have htl : t.length = N := by rw [← ht]; simpa using hN
  have HB0 : Hid (Below w.heap.size w w) := Lib.hid (Below.refl _ _)
  have HTL := Lib.hid htl
  clear hI hn ht hd hr htl
  go_enter Try.func49, Try.ntmps49
  go_wp2_with fail
  go_loopw [7, 8] (fun i _ wr => ∃ k : Nat, i = .int .i64 k ∧ 1 ≤ k ∧ k ≤ N + 1 ∧ Hid (∀ j, 1 ≤ j → j < k → (Ar.fs (D j) n).2 = false) ∧ Hid (Below w.heap.size w wr)) (fun i _ _ => N + 1 - (intOf i).toNat)
  case atStart => exact ⟨1, rfl, by omega, by omega, Lib.hid (fun j h1 hj => by omega), HB0⟩
  case round =>
    clear HB0
    obtain ⟨k, rfl, hk1, hk, HK, HB⟩ := hrel
    have k0 : (0 : Int) ≤ (k : Int) := by omega
    by_cases hkl : k ≤ N
    · have hkI : (k : Int) ≤ (N : Int) := by omega
      have hks : k ≤ s.size := by omega
      obtain ⟨u, hu⟩ : ∃ u, s.extract 0 k = u := ⟨_, rfl⟩
      have htu : u.data.toList = t.take k := by rw [← HS.out.1]; exact ar_take s u k hu
      have hus : u.size = k := by rw [← hu]; simp; omega
      have HU : Hid (s.extract 0 k = u ∧ u.data.toList = t.take k ∧ u.size = k) := Lib.hid ⟨hu, htu, hus⟩
      have HD : Hid (∀ i l, A[i]? = some l → Lg.occ l (t.take k) u.size = D k i) := Lib.hid (fun i l h => by
        rw [hus, occ_take l t k (by rw [HTL.out]; exact hkl)]; exact HS.out.2.1 k i l hkl h)
      obtain ⟨⟨r, ok⟩, hf⟩ : ∃ x, Ar.fs (D k) n = x := ⟨_, rfl⟩
      have HF := Lib.hid hf
      have w1 : IntKind.i64.wrap ((k : Int) + 1) = (k : Int) + 1 := IntWalk.i64_in _ (by omega)
      have r0 : (0 : Int) ≤ (r : Int) := by omega
      clear hu htu hus hf
      cases ok with
      | true =>
        have HR : Hid (r = q ∧ k = m ∧ true = is) := Lib.hid (by
          have := fi_some (fun k => Ar.fs (D k) n) k r hk1 HK.out HF.out N hkl
          rw [HS.out.2.2] at this
          injection this with e1 e2
          injection e2 with e2 e3
          exact ⟨e1.symm, e2.symm, e3.symm⟩)
        go_wp2_with (go_at_call 61; rw [HU.out.1]; with_reducible refine (rk_here A n HG.out.2 hn3 a c u (t.take k) (by rw [HU.out.2.2]; omega) HU.out.2.1 (D k) HD.out r true HF.out (r : Int) (by simp) _ (HG.out.1.below HB.out)).mono ?_; rintro e W1 ⟨rfl, hb1⟩; have HN : Hid (Below w.heap.size w W1) := Lib.hid (HB.out.trans (hb1.mono HB.out.size)); clear hb1)
        go_ret3
        exact ⟨by rw [← HR.out.1, ← HR.out.2.1, ← HR.out.2.2]; rfl, HN.out⟩
      | false =>
        have HK2 : Hid (∀ j, 1 ≤ j → j < k + 1 → (Ar.fs (D j) n).2 = false) := Lib.hid (fun j h1 hj => by
          by_cases e : j = k
          · rw [e, HF.out]
          · exact HK.out j h1 (by omega))
        go_wp2_with (go_at_call 61; rw [HU.out.1]; with_reducible refine (rk_here A n HG.out.2 hn3 a c u (t.take k) (by rw [HU.out.2.2]; omega) HU.out.2.1 (D k) HD.out r false HF.out (-1) (by simp) _ (HG.out.1.below HB.out)).mono ?_; rintro e W1 ⟨rfl, hb1⟩; have HN : Hid (Below w.heap.size w W1) := Lib.hid (HB.out.trans (hb1.mono HB.out.size)); clear hb1)
        refine ⟨?_, ?measure⟩
        case measure => simp [intOf]; omega
        first
          | exact ⟨k + 1, by go_num, by omega, by omega, HK2, HN⟩
          | ((repeat apply Exists.intro); exact ⟨⟨k + 1, by go_num, by omega, by omega, HK2, HN⟩, rfl⟩)
    · have hkI : ¬ (k : Int) ≤ (N : Int) := by omega
      have HR : Hid (0 = q ∧ 0 = m ∧ false = is) := Lib.hid (by
        have := fi_none (fun k => Ar.fs (D k) n) N (fun j h1 hj => HK.out j h1 (by omega))
        rw [HS.out.2.2] at this
        injection this with e1 e2
        injection e2 with e2 e3
        exact ⟨e1.symm, e2.symm, e3.symm⟩)
      go_wp2
      go_ret3
      exact ⟨by rw [← HR.out.1, ← HR.out.2.1, ← HR.out.2.2]; rfl, HB.out⟩
end Go.Proofs.Ytbdjcppkfihonaa
/- Arms: two texts. -/
namespace Go.Proofs.Ytbdjcppkfihonaa
open Go.ChangeShapes Go.WideShapes Go.ChangeAt Go.RowKit
set_option linter.unusedSimpArgs false
set_option linter.unusedVariables false

theorem lv_ok : Cs.rdG 3 [111, 107] 0 [] = ([(false, Cs.bitS 111), (false, Cs.bitS 107)], 0, 0) := by decide +kernel
theorem lv_o : Cs.rdG 2 [111] 0 [] = ([(false, Cs.bitS 111)], 0, 0) := by decide +kernel
theorem lv_ok_least : Lg.least [(false, Cs.bitS 111), (false, Cs.bitS 107)] = 2 := by decide +kernel
theorem lv_o_least : Lg.least [(false, Cs.bitS 111)] = 1 := by decide +kernel
theorem lv_d00 : (Tb.whole 2 (Tb.mk (Tb.rf [(false, Cs.bitS 111), (false, Cs.bitS 107)]) 2) (Tb.seek 2 (Tb.mk (Tb.rf [(false, Cs.bitS 111), (false, Cs.bitS 107)]) 2) (Tb.mk (Tb.hf [(false, Cs.bitS 111), (false, Cs.bitS 107)] 111) 2) (Tb.start 2 (Tb.mk (Tb.rf [(false, Cs.bitS 111), (false, Cs.bitS 107)]) 2)))).getLsbD 2 = false := by decide +kernel
theorem lv_d01 : (Tb.whole 1 (Tb.mk (Tb.rf [(false, Cs.bitS 111)]) 1) (Tb.seek 1 (Tb.mk (Tb.rf [(false, Cs.bitS 111)]) 1) (Tb.mk (Tb.hf [(false, Cs.bitS 111)] 111) 1) (Tb.start 1 (Tb.mk (Tb.rf [(false, Cs.bitS 111)]) 1)))).getLsbD 1 = true := by decide +kernel
theorem lv_d10 : (Tb.whole 2 (Tb.mk (Tb.rf [(false, Cs.bitS 111), (false, Cs.bitS 107)]) 2) (Tb.seek 2 (Tb.mk (Tb.rf [(false, Cs.bitS 111), (false, Cs.bitS 107)]) 2) (Tb.mk (Tb.hf [(false, Cs.bitS 111), (false, Cs.bitS 107)] 107) 2) (Tb.seek 2 (Tb.mk (Tb.rf [(false, Cs.bitS 111), (false, Cs.bitS 107)]) 2) (Tb.mk (Tb.hf [(false, Cs.bitS 111), (false, Cs.bitS 107)] 111) 2) (Tb.start 2 (Tb.mk (Tb.rf [(false, Cs.bitS 111), (false, Cs.bitS 107)]) 2))))).getLsbD 2 = true := by decide +kernel
end Go.Proofs.Ytbdjcppkfihonaa
