/- Several texts in one. -/
import Derived.Test.YtoniipmgkoogbaaTbA
import Derived.Test.YtoniipmgkoogbaaGpB
/- Arms: what no patterns tell. -/
namespace Go.Proofs.Ytoniipmgkoogbaa
open Go.ChangeShapes Go.WideShapes Go.ChangeAt Go.RowKit
set_option linter.unusedSimpArgs false
set_option linter.unusedVariables false

end Go.Proofs.Ytoniipmgkoogbaa
/- Arms: a text's table. -/
namespace Go.Proofs.Ytoniipmgkoogbaa
open Go.ChangeShapes Go.WideShapes Go.ChangeAt Go.RowKit
set_option linter.unusedSimpArgs false
set_option linter.unusedVariables false

theorem okI_nil : okI [] := by intro x hx; simp at hx
set_option maxRecDepth 20000 in
theorem ar_bad (s : ByteArray) (l : List UInt8) (hs : s.size ≤ 1000000) (h : s.data.toList = l) (R : List (Bool × BitVec 256)) (p q : Nat) (hr : Cs.rdG (l.length + 1) l 0 [] = (R, p, q)) (hq : q ≠ 0) (w : World) :
    Calls Try.prog 32 #[.string s] w fun e w' => e = .returned (.tuple #[.pointer none, .int .i64 p, .int .i64 q]) ∧ Below w.heap.size w w' := by
  have hg : goodB R = true := by
    have := rdG_good (l.length + 1) l 0 [] (by simp) okI_nil
    rw [hr] at this; exact this
  have hn6 : R.length ≤ 1000000 := by have := (goodB_ok hg).2; omega
  obtain ⟨n, hn⟩ : ∃ n, R.length = n := ⟨_, rfl⟩
  have HS := Lib.hid (And.intro hs (And.intro h hr))
  have HN := Lib.hid (And.intro hn hg)
  have hqI : ((q : Int) == 0) = false := by rw [beq_eq_false_iff_ne]; omega
  rw [hn] at hn6
  clear hs h hr hg hn
  go_enter Try.func32, Try.ntmps32
  go_wp2_with (go_at_call 33; with_reducible refine (gl_rdG s l HS.out.1 HS.out.2.1 R p q HS.out.2.2 _).mono ?_; rintro e W1 ⟨v, rfl, h1, hb1⟩; obtain ⟨a, c, rfl, h3⟩ := own_ik h1; rw [HN.out.1]; have HB := Lib.hid (And.intro h3 hb1); clear h1 h3 hb1)
  go_ret3
  exact ⟨rfl, HB.out.2⟩
set_option maxRecDepth 20000 in
theorem ar_void (s : ByteArray) (l : List UInt8) (hs : s.size ≤ 1000000) (h : s.data.toList = l) (R : List (Bool × BitVec 256)) (p q : Nat) (hr : Cs.rdG (l.length + 1) l 0 [] = (R, p, q)) (hq : q = 0) (m : Nat) (hm : Lg.least R = m) (hm0 : decide (m = 0) = true) (w : World) :
    Calls Try.prog 32 #[.string s] w fun e w' => e = .returned (.tuple #[.pointer none, .int .i64 0, .int .i64 9]) ∧ Below w.heap.size w w' := by
  subst hq
  have hg : goodB R = true := by
    have := rdG_good (l.length + 1) l 0 [] (by simp) okI_nil
    rw [hr] at this; exact this
  have hn6 : R.length ≤ 1000000 := by have := (goodB_ok hg).2; omega
  obtain ⟨n, hn⟩ : ∃ n, R.length = n := ⟨_, rfl⟩
  have HS := Lib.hid (And.intro hs (And.intro h hr))
  have HN := Lib.hid (And.intro hn (And.intro hg (And.intro hm hm0)))
  rw [hn] at hn6
  clear hs h hr hg hn hm hm0
  go_enter Try.func32, Try.ntmps32
  go_wp2_with (first
    | (go_at_call 33; with_reducible refine (gl_rdG s l HS.out.1 HS.out.2.1 R p 0 HS.out.2.2 _).mono ?_; rintro e W1 ⟨v, rfl, h1, hb1⟩; obtain ⟨a, c, rfl, h3⟩ := own_ik h1; rw [HN.out.1]; have HB := Lib.hid (And.intro h3 hb1); clear h1 h3 hb1)
    | (go_at_call 34; with_reducible refine (tb_empty R HN.out.2.1 m HN.out.2.2.1 HN.out.2.2.2 n a c HN.out.1 hn6 _ HB.out.1).mono ?_; rintro e W2 ⟨rfl, hb1⟩; have HC := Lib.hid (HB.out.2.trans (hb1.mono HB.out.2.size)); clear hb1))
  go_ret3
  exact ⟨rfl, HC.out⟩
set_option maxRecDepth 20000 in
theorem ar_compile (s : ByteArray) (l : List UInt8) (hs : s.size ≤ 1000000) (h : s.data.toList = l) (R : List (Bool × BitVec 256)) (p q : Nat) (hr : Cs.rdG (l.length + 1) l 0 [] = (R, p, q)) (hq : q = 0) (m : Nat) (hm : Lg.least R = m) (hm0 : decide (m = 0) = false) (w : World) :
    Calls Try.prog 32 #[.string s] w fun e w' => ∃ x, e = .returned (.tuple #[.pointer (some ⟨x, 0, none⟩), .int .i64 0, .int .i64 0]) ∧ TB w' x R.length (Tb.mk (Tb.rf R) R.length) (fun b => Tb.mk (Tb.hf R b) R.length) ∧ Below w.heap.size w w' := by
  subst hq
  have hg : goodB R = true := by
    have := rdG_good (l.length + 1) l 0 [] (by simp) okI_nil
    rw [hr] at this; exact this
  have hn6 : R.length ≤ 1000000 := by have := (goodB_ok hg).2; omega
  obtain ⟨n, hn⟩ : ∃ n, R.length = n := ⟨_, rfl⟩
  have HS := Lib.hid (And.intro hs (And.intro h hr))
  have HN := Lib.hid (And.intro hn (And.intro hg (And.intro hm hm0)))
  rw [hn] at hn6
  rw [hn]
  clear hs h hr hg hn hm hm0
  go_enter Try.func32, Try.ntmps32
  go_wp2_with (first
    | (go_at_call 33; with_reducible refine (gl_rdG s l HS.out.1 HS.out.2.1 R p 0 HS.out.2.2 _).mono ?_; rintro e W1 ⟨v, rfl, h1, hb1⟩; obtain ⟨a, c, rfl, h3⟩ := own_ik h1; rw [HN.out.1]; have HB := Lib.hid (And.intro h3 hb1); clear h1 h3 hb1)
    | (go_at_call 34; with_reducible refine (tb_compile R HN.out.2.1 m HN.out.2.2.1 HN.out.2.2.2 n a c HN.out.1 _ HB.out.1).mono ?_; rintro e W2 ⟨x, rfl, k1, hb1⟩; have HC := Lib.hid (And.intro (TP.tb k1) (HB.out.2.trans (hb1.mono HB.out.2.size))); clear hb1 k1))
  go_ret3
  exact ⟨_, rfl, HC.out⟩
set_option maxRecDepth 20000 in
theorem ar_check_bad (s : ByteArray) (l : List UInt8) (hs : s.size ≤ 1000000) (h : s.data.toList = l) (R : List (Bool × BitVec 256)) (p q : Nat) (hr : Cs.rdG (l.length + 1) l 0 [] = (R, p, q)) (hq : q ≠ 0) (w : World) :
    Calls Try.prog 31 #[.string s] w fun e w' => e = .returned (.tuple #[.int .i64 p, .int .i64 q]) ∧ Below w.heap.size w w' := by
  go_enter Try.func31, Try.ntmps31
  go_wp2_with (go_at_call 32; with_reducible refine (ar_bad s l hs h R p q hr hq _).mono ?_; rintro e W1 ⟨rfl, hb1⟩; have HB := Lib.hid hb1; clear hb1)
  go_ret2
  exact ⟨rfl, HB.out⟩
set_option maxRecDepth 20000 in
theorem ar_check_void (s : ByteArray) (l : List UInt8) (hs : s.size ≤ 1000000) (h : s.data.toList = l) (R : List (Bool × BitVec 256)) (p q : Nat) (hr : Cs.rdG (l.length + 1) l 0 [] = (R, p, q)) (hq : q = 0) (m : Nat) (hm : Lg.least R = m) (hm0 : decide (m = 0) = true) (w : World) :
    Calls Try.prog 31 #[.string s] w fun e w' => e = .returned (.tuple #[.int .i64 0, .int .i64 9]) ∧ Below w.heap.size w w' := by
  go_enter Try.func31, Try.ntmps31
  go_wp2_with (go_at_call 32; with_reducible refine (ar_void s l hs h R p q hr hq m hm hm0 _).mono ?_; rintro e W1 ⟨rfl, hb1⟩; have HB := Lib.hid hb1; clear hb1)
  go_ret2
  exact ⟨rfl, HB.out⟩
set_option maxRecDepth 20000 in
theorem ar_check_ok (s : ByteArray) (l : List UInt8) (hs : s.size ≤ 1000000) (h : s.data.toList = l) (R : List (Bool × BitVec 256)) (p q : Nat) (hr : Cs.rdG (l.length + 1) l 0 [] = (R, p, q)) (hq : q = 0) (m : Nat) (hm : Lg.least R = m) (hm0 : decide (m = 0) = false) (w : World) :
    Calls Try.prog 31 #[.string s] w fun e w' => e = .returned (.tuple #[.int .i64 0, .int .i64 0]) ∧ Below w.heap.size w w' := by
  go_enter Try.func31, Try.ntmps31
  go_wp2_with (go_at_call 32; with_reducible refine (ar_compile s l hs h R p q hr hq m hm hm0 _).mono ?_; rintro e W1 ⟨x, rfl, k1, hb1⟩; have HB := Lib.hid hb1; clear hb1)
  go_ret2
  exact ⟨rfl, HB.out⟩
end Go.Proofs.Ytoniipmgkoogbaa
/- Arms: an object. -/
namespace Go.Proofs.Ytoniipmgkoogbaa
open Go.ChangeShapes Go.WideShapes Go.ChangeAt Go.RowKit
set_option linter.unusedSimpArgs false
set_option linter.unusedVariables false

/-- A row of states. -/
def ul (f : Nat → BitVec 64) (n : Nat) : List Value := (List.range n).map fun i => .int .u64 (f i).toNat
theorem ul_length (f : Nat → BitVec 64) (n : Nat) : (ul f n).length = n := by simp [ul]
theorem ul_snoc (f : Nat → BitVec 64) (n : Nat) : ul f (n + 1) = ul f n ++ [.int .u64 (f n).toNat] := by simp [ul, List.range_succ]
theorem ul_at (f : Nat → BitVec 64) {n i : Nat} (h : i < n) : (ul f n)[i]? = some (.int .u64 (f i).toNat) := by simp [ul, h]
theorem ul_congr {f h : Nat → BitVec 64} {n : Nat} (hh : ∀ j, j < n → f j = h j) : ul f n = ul h n := by
  unfold ul
  exact List.map_congr_left fun j hj => by rw [hh j (List.mem_range.1 hj)]
theorem ul_set (f h : Nat → BitVec 64) (n i : Nat) (b : BitVec 64) (hh : ∀ j, j < n → h j = if j = i then b else f j) : (ul f n).set i (.int .u64 b.toNat) = ul h n := by
  apply List.ext_getElem?
  intro j
  rw [List.getElem?_set]
  by_cases hj : j < n
  · rw [ul_at h hj, hh j hj]
    by_cases e : i = j
    · subst e; simp [ul_length, hj]
    · have e2 : ¬ j = i := fun x => e x.symm
      rw [if_neg e, ul_at f hj, if_neg e2]
  · rw [List.getElem?_eq_none (by rw [ul_length]; omega)]
    by_cases e : i = j
    · subst e; simp [ul_length, hj]
    · rw [if_neg e, List.getElem?_eq_none (by rw [ul_length]; omega)]
theorem ul_put {w : World} {g cap n : Nat} {f h : Nat → BitVec 64} (k : Rw w g cap (ul f n) 65) {i : Nat} (hi : i < n) {b : BitVec 64} {v : Int} (hv : (b.toNat : Int) = v) (hh : ∀ j, j < n → h j = if j = i then b else f j) : Rw (w.setCell ⟨g, i, none⟩ (.int .u64 v)) g cap (ul h n) 65 := by
  have := k.put (i := i) (by rw [ul_length]; exact hi) (.int .u64 v)
  rw [← hv] at this ⊢
  rwa [ul_set f h n i b hh] at this
/-- The tables of patterns, none of whose blocks is in N. -/
def ArP (w : World) (N : List Nat) (a : Option Addr) (A : List (List (Bool × BitVec 256) × Nat)) : Prop := ∀ i l p, A[i]? = some (l, p) → ∃ g o, a = some ⟨g, o, none⟩ ∧ g < w.heap.size ∧ g ∉ N ∧ p ∉ N ∧ l.length ≤ 62 ∧ w.cell? ⟨g, o + i, none⟩ = some (.pointer (some ⟨p, 0, none⟩)) ∧ TB w p l.length (Tb.mk (Tb.rf l) l.length) (fun b => Tb.mk (Tb.hf l b) l.length)
theorem ArP.chg {w w' : World} {N : List Nat} {a : Option Addr} {A : List (List (Bool × BitVec 256) × Nat)} (h : ArP w N a A) (k : Chg N w w') : ArP w' N a A := fun i l p hi => by
  obtain ⟨g, o, h1, h2, h3, h4, h5, h6, h7⟩ := h i l p hi
  exact ⟨g, o, h1, Nat.lt_of_lt_of_le h2 k.size, h3, h4, h5, by rw [← h6]; exact Chg.cell k h2 h3, Blk.chg h7 k h4⟩
theorem ArP.below {w w' : World} {N : List Nat} {a : Option Addr} {A : List (List (Bool × BitVec 256) × Nat)} (h : ArP w N a A) (k : Below w.heap.size w w') : ArP w' N a A := h.chg (Chg.of_fresh k)
end Go.Proofs.Ytoniipmgkoogbaa
/- Arms: Reset. -/
namespace Go.Proofs.Ytoniipmgkoogbaa
open Go.ChangeShapes Go.WideShapes Go.ChangeAt Go.RowKit
set_option linter.unusedSimpArgs false
set_option linter.unusedVariables false

end Go.Proofs.Ytoniipmgkoogbaa
/- Arms: Feed. -/
namespace Go.Proofs.Ytoniipmgkoogbaa
open Go.ChangeShapes Go.WideShapes Go.ChangeAt Go.RowKit
set_option linter.unusedSimpArgs false
set_option linter.unusedVariables false

/-- The first of the arms that is done. -/
def Ar.fs (d : Nat → Bool) : Nat → Nat × Bool
  | 0 => (0, false)
  | k + 1 => if (Ar.fs d k).2 then Ar.fs d k else if d k then (k, true) else Ar.fs d k
end Go.Proofs.Ytoniipmgkoogbaa
/- Arms: the document's Check. -/
namespace Go.Proofs.Ytoniipmgkoogbaa
open Go.ChangeShapes Go.WideShapes Go.ChangeAt Go.RowKit
set_option linter.unusedSimpArgs false
set_option linter.unusedVariables false

/-- A text that is a pattern is told at place 0. -/
theorem rdG_zero : ∀ (f : Nat) (l : List UInt8) (k : Nat) (L : List (Bool × BitVec 256)), (Cs.rdG f l k L).2.2 = 0 → (Cs.rdG f l k L).2.1 = 0
  | 0, l, k, L, _ => rfl
  | f + 1, l, k, L, h => by
    rw [rdG_succ] at h ⊢
    by_cases hk : l.length ≤ k
    · rw [if_pos hk]
    · rw [if_neg hk] at h ⊢
      by_cases h60 : L.length = 60
      · rw [if_pos h60] at h; simp at h
      · rw [if_neg h60] at h ⊢
        by_cases he : (Cs.rdI (l.drop k)).2.2 ≠ 0
        · rw [if_pos he] at h; exact absurd h he
        · rw [if_neg he] at h ⊢; exact rdG_zero f l _ _ h
end Go.Proofs.Ytoniipmgkoogbaa
/- Arms: the document's Here. -/
namespace Go.Proofs.Ytoniipmgkoogbaa
open Go.ChangeShapes Go.WideShapes Go.ChangeAt Go.RowKit
set_option linter.unusedSimpArgs false
set_option linter.unusedVariables false

theorem fs_none (d : Nat → Bool) : ∀ k, (∀ j, j < k → d j = false) → Ar.fs d k = (0, false)
  | 0, _ => rfl
  | k + 1, h => by rw [Ar.fs, fs_none d k (fun j hj => h j (by omega)), h k (by omega)]; rfl
theorem fs_some (d : Nat → Bool) (k : Nat) (h : ∀ j, j < k → d j = false) (hk : d k = true) : ∀ n, k < n → Ar.fs d n = (k, true)
  | 0, hn => by omega
  | n + 1, hn => by
    by_cases e : k = n
    · rw [Ar.fs, ← e, fs_none d k h, hk]; rfl
    · rw [Ar.fs, fs_some d k h hk n (by omega)]; rfl
/-- A row of patterns. -/
def LL (w : World) (a : Option Addr) (A : List (List (Bool × BitVec 256))) : Prop := ∀ i l, A[i]? = some l → l.length ≤ 1000 ∧ ∃ g o ai ci, a = some ⟨g, o, none⟩ ∧ g < w.heap.size ∧ w.cell? ⟨g, o + i, none⟩ = some (.slice ai l.length ci) ∧ IK w ai l
theorem LL.below {w w' : World} {a : Option Addr} {A : List (List (Bool × BitVec 256))} (h : LL w a A) (k : Below w.heap.size w w') : LL w' a A := fun i l hi => by
  obtain ⟨h0, g, o, ai, ci, h1, h2, h3, h4⟩ := h i l hi
  exact ⟨h0, g, o, ai, ci, h1, Nat.lt_of_lt_of_le h2 k.size, by rw [← h3]; exact Chg.cell (l := []) (Chg.of_fresh k) h2 (by simp), h4.below k⟩
end Go.Proofs.Ytoniipmgkoogbaa
/- Arms: the document's Find. -/
namespace Go.Proofs.Ytoniipmgkoogbaa
open Go.ChangeShapes Go.WideShapes Go.ChangeAt Go.RowKit
set_option linter.unusedSimpArgs false
set_option linter.unusedVariables false

/-- Which is found first, and to where. -/
def Ar.fi (F : Nat → Nat × Bool) : Nat → Nat × Nat × Bool
  | 0 => (0, 0, false)
  | n + 1 => if (Ar.fi F n).2.2 then Ar.fi F n else if (F (n + 1)).2 then ((F (n + 1)).1, n + 1, true) else (0, 0, false)
theorem fi_none (F : Nat → Nat × Bool) : ∀ n, (∀ j, 1 ≤ j → j ≤ n → (F j).2 = false) → Ar.fi F n = (0, 0, false)
  | 0, _ => rfl
  | n + 1, h => by rw [Ar.fi, fi_none F n (fun j h1 hj => h j h1 (by omega)), h (n + 1) (by omega) (by omega)]; rfl
theorem fi_some (F : Nat → Nat × Bool) (k r : Nat) (h1 : 1 ≤ k) (h : ∀ j, 1 ≤ j → j < k → (F j).2 = false) (hk : F k = (r, true)) : ∀ n, k ≤ n → Ar.fi F n = (r, k, true)
  | 0, hn => by omega
  | n + 1, hn => by
    by_cases e : k = n + 1
    · rw [Ar.fi, fi_none F n (fun j h2 hj => h j h2 (by omega)), ← e, hk]; rfl
    · rw [Ar.fi, fi_some F k r h1 h hk n (by omega)]; rfl
theorem ar_take (s u : ByteArray) (n : Nat) (h : s.extract 0 n = u) : u.data.toList = s.data.toList.take n := by
  rw [← h, ByteArray.data_extract, Array.toList_extract, List.extract_eq_take_drop]; simp
theorem occ_take (l : List (Bool × BitVec 256)) (t : List UInt8) (k : Nat) (hk : k ≤ t.length) : Lg.occ l (t.take k) k = Lg.occ l t k := by
  have := occ_app l (t.take k) (t.drop k) k (by rw [List.length_take]; omega)
  rw [List.take_append_drop] at this
  exact this.symm
end Go.Proofs.Ytoniipmgkoogbaa
/- Arms: two texts. -/
namespace Go.Proofs.Ytoniipmgkoogbaa
open Go.ChangeShapes Go.WideShapes Go.ChangeAt Go.RowKit
set_option linter.unusedSimpArgs false
set_option linter.unusedVariables false

theorem lv_ok : Cs.rdG 3 [111, 107] 0 [] = ([(false, Cs.bitS 111), (false, Cs.bitS 107)], 0, 0) := by decide +kernel
theorem lv_o : Cs.rdG 2 [111] 0 [] = ([(false, Cs.bitS 111)], 0, 0) := by decide +kernel
theorem lv_ok_least : Lg.least [(false, Cs.bitS 111), (false, Cs.bitS 107)] = 2 := by decide +kernel
theorem lv_o_least : Lg.least [(false, Cs.bitS 111)] = 1 := by decide +kernel
theorem lv_d00 : (Tb.whole 2 (Tb.mk (Tb.rf [(false, Cs.bitS 111), (false, Cs.bitS 107)]) 2) (Tb.seek 2 (Tb.mk (Tb.rf [(false, Cs.bitS 111), (false, Cs.bitS 107)]) 2) (Tb.mk (Tb.hf [(false, Cs.bitS 111), (false, Cs.bitS 107)] 111) 2) (Tb.start 2 (Tb.mk (Tb.rf [(false, Cs.bitS 111), (false, Cs.bitS 107)]) 2)))).getLsbD 2 = false := by decide +kernel
theorem lv_d01 : (Tb.whole 1 (Tb.mk (Tb.rf [(false, Cs.bitS 111)]) 1) (Tb.seek 1 (Tb.mk (Tb.rf [(false, Cs.bitS 111)]) 1) (Tb.mk (Tb.hf [(false, Cs.bitS 111)] 111) 1) (Tb.start 1 (Tb.mk (Tb.rf [(false, Cs.bitS 111)]) 1)))).getLsbD 1 = true := by decide +kernel
theorem lv_d10 : (Tb.whole 2 (Tb.mk (Tb.rf [(false, Cs.bitS 111), (false, Cs.bitS 107)]) 2) (Tb.seek 2 (Tb.mk (Tb.rf [(false, Cs.bitS 111), (false, Cs.bitS 107)]) 2) (Tb.mk (Tb.hf [(false, Cs.bitS 111), (false, Cs.bitS 107)] 107) 2) (Tb.seek 2 (Tb.mk (Tb.rf [(false, Cs.bitS 111), (false, Cs.bitS 107)]) 2) (Tb.mk (Tb.hf [(false, Cs.bitS 111), (false, Cs.bitS 107)] 111) 2) (Tb.start 2 (Tb.mk (Tb.rf [(false, Cs.bitS 111), (false, Cs.bitS 107)]) 2))))).getLsbD 2 = true := by decide +kernel
end Go.Proofs.Ytoniipmgkoogbaa
