/- Several texts in one. -/
import Derived.Test.YtoniipmgkoogbaaArA
import Derived.Test.YtoniipmgkoogbaaRv
import Derived.Test.YtoniipmgkoogbaaLgC
/- Arms: what a text comes to. -/
namespace Go.Proofs.Ytoniipmgkoogbaa
open Go.ChangeShapes Go.WideShapes Go.ChangeAt Go.RowKit
set_option linter.unusedSimpArgs false
set_option linter.unusedVariables false

/-- The pattern of a text; why it is none that may be waited for; where. -/
def Ar.pat (s : ByteArray) : List (Bool × BitVec 256) := (Cs.rdG (s.data.toList.length + 1) s.data.toList 0 []).1
def Ar.ck (s : ByteArray) : Nat := if (Cs.rdG (s.data.toList.length + 1) s.data.toList 0 []).2.2 ≠ 0 then (Cs.rdG (s.data.toList.length + 1) s.data.toList 0 []).2.2 else if decide (Lg.least (Ar.pat s) = 0) = true then 9 else 0
def Ar.pl (s : ByteArray) : Nat := if (Cs.rdG (s.data.toList.length + 1) s.data.toList 0 []).2.2 ≠ 0 then (Cs.rdG (s.data.toList.length + 1) s.data.toList 0 []).2.1 else 0
theorem ar_comp_no (s : ByteArray) (hs : s.size ≤ 1000000) (e : Nat) (he : Ar.ck s = e) (h0 : e ≠ 0) (w : World) :
    Calls Try.prog 32 #[.string s] w fun r w' => ∃ p : Int, r = .returned (.tuple #[.pointer none, .int .i64 p, .int .i64 e]) ∧ Below w.heap.size w w' := by
  obtain ⟨R, p, q, hr⟩ : ∃ R p q, Cs.rdG (s.data.toList.length + 1) s.data.toList 0 [] = (R, p, q) := ⟨_, _, _, rfl⟩
  unfold Ar.ck Ar.pat at he
  rw [hr] at he
  dsimp only at he
  by_cases hq : q = 0
  · rw [if_neg (not_not_intro hq)] at he
    cases hm : decide (Lg.least R = 0) with
    | false => rw [hm] at he; exact absurd he.symm h0
    | true =>
      rw [hm] at he
      obtain rfl : 9 = e := he
      exact (ar_void s _ hs rfl R p q hr hq _ rfl hm w).mono fun r w' ⟨h1, h2⟩ => ⟨_, h1, h2⟩
  · rw [if_pos hq] at he
    subst he
    exact (ar_bad s _ hs rfl R p q hr hq w).mono fun r w' ⟨h1, h2⟩ => ⟨_, h1, h2⟩
theorem ck_zero {s : ByteArray} (he : Ar.ck s = 0) : (Cs.rdG (s.data.toList.length + 1) s.data.toList 0 []).2.2 = 0 ∧ decide (Lg.least (Ar.pat s) = 0) = false ∧ Ar.pl s = 0 := by
  unfold Ar.ck at he
  by_cases hq : (Cs.rdG (s.data.toList.length + 1) s.data.toList 0 []).2.2 = 0
  · rw [if_neg (not_not_intro hq)] at he
    refine ⟨hq, ?_, by unfold Ar.pl; rw [if_neg (not_not_intro hq)]⟩
    cases hm : decide (Lg.least (Ar.pat s) = 0) with
    | false => rfl
    | true => rw [hm] at he; simp at he
  · rw [if_pos hq] at he; exact absurd he hq
theorem ck_ok {s : ByteArray} (he : Ar.ck s = 0) : Cs.rdG (s.data.toList.length + 1) s.data.toList 0 [] = (Ar.pat s, 0, 0) := by
  have h := (ck_zero he).1
  have h2 := rdG_zero _ _ _ _ h
  exact Prod.ext rfl (Prod.ext h2 h)
theorem pat_good {s : ByteArray} (he : Ar.ck s = 0) : goodB (Ar.pat s) = true := by
  have := rdG_good (s.data.toList.length + 1) s.data.toList 0 [] (by simp) okI_nil
  rw [ck_ok he] at this; exact this
theorem pat_len {s : ByteArray} (he : Ar.ck s = 0) : (Ar.pat s).length ≤ 60 := (goodB_ok (pat_good he)).2
theorem ar_comp_ok (s : ByteArray) (hs : s.size ≤ 1000000) (he : Ar.ck s = 0) (w : World) :
    Calls Try.prog 32 #[.string s] w fun r w' => ∃ x, r = .returned (.tuple #[.pointer (some ⟨x, 0, none⟩), .int .i64 0, .int .i64 0]) ∧ TB w' x (Ar.pat s).length (Tb.mk (Tb.rf (Ar.pat s)) (Ar.pat s).length) (fun b => Tb.mk (Tb.hf (Ar.pat s) b) (Ar.pat s).length) ∧ Below w.heap.size w w' :=
  ar_compile s _ hs rfl _ 0 0 (ck_ok he) rfl _ rfl (ck_zero he).2.1 w
theorem ar_check (s : ByteArray) (hs : s.size ≤ 1000000) (p e : Nat) (hp : Ar.pl s = p) (he : Ar.ck s = e) (w : World) :
    Calls Try.prog 31 #[.string s] w fun r w' => r = .returned (.tuple #[.int .i64 p, .int .i64 e]) ∧ Below w.heap.size w w' := by
  by_cases h0 : e = 0
  · rw [h0] at he
    have h1 := (ck_zero he).2.2
    rw [hp] at h1
    subst h0 h1
    exact ar_check_ok s _ hs rfl _ 0 0 (ck_ok he) rfl _ rfl (ck_zero he).2.1 w
  · obtain ⟨R, p', q, hr⟩ : ∃ R p q, Cs.rdG (s.data.toList.length + 1) s.data.toList 0 [] = (R, p, q) := ⟨_, _, _, rfl⟩
    unfold Ar.ck Ar.pat at he
    unfold Ar.pl at hp
    rw [hr] at he hp
    dsimp only at he hp
    by_cases hq : q = 0
    · rw [if_neg (not_not_intro hq)] at he hp
      cases hm : decide (Lg.least R = 0) with
      | false => rw [hm] at he; exact absurd he.symm h0
      | true =>
        rw [hm] at he
        obtain rfl : 9 = e := he
        subst hp
        exact ar_check_void s _ hs rfl R p' q hr hq _ rfl hm w
    · rw [if_pos hq] at he hp
      subst he hp
      exact ar_check_bad s _ hs rfl R p' q hr hq w
/-- Texts that came in, or that were made: by value. -/
def TX (w : World) (a : Option Addr) (ss : List ByteArray) : Prop := ∀ i s, ss[i]? = some s → s.size ≤ maxLen ∧ ∃ g o, a = some ⟨g, o, none⟩ ∧ g < w.heap.size ∧ w.cell? ⟨g, o + i, none⟩ = some (.string s)
theorem TX.below {w w' : World} {a : Option Addr} {ss : List ByteArray} (h : TX w a ss) (k : Below w.heap.size w w') : TX w' a ss := fun i s hi => by
  obtain ⟨h0, g, o, h1, h2, h3⟩ := h i s hi
  exact ⟨h0, g, o, h1, Nat.lt_of_lt_of_le h2 k.size, by rw [← h3]; exact Chg.cell (l := []) (Chg.of_fresh k) h2 (by simp)⟩
theorem TX.of_rw {w : World} {g c : Nat} {ss : List ByteArray} {T : TypeId} (h : Rw w g c (ss.map .string) T) (hs : ∀ s ∈ ss, s.size ≤ maxLen) : TX w (some ⟨g, 0, none⟩) ss := fun i s hi => by
  refine ⟨hs s (List.mem_of_getElem? hi), g, 0, rfl, h.lt, ?_⟩
  rw [Nat.zero_add]
  exact h.cell (by simp [hi])
/-- Which text is the first that is no pattern, and why. -/
def Ar.nw (ss : List ByteArray) : Nat → Nat × Nat
  | 0 => (0, 0)
  | k + 1 => if (Ar.nw ss k).2 ≠ 0 then Ar.nw ss k else match ss[k]? with
    | some s => if Ar.ck s ≠ 0 then (k, Ar.ck s) else (0, 0)
    | none => (0, 0)
theorem nw_ok (ss : List ByteArray) : ∀ k, k ≤ ss.length → (∀ i s, i < k → ss[i]? = some s → Ar.ck s = 0) → Ar.nw ss k = (0, 0)
  | 0, _, _ => rfl
  | k + 1, hk, h => by
    rw [Ar.nw, nw_ok ss k (by omega) (fun i s hi => h i s (by omega)), if_neg (by simp), List.getElem?_eq_getElem (by omega)]
    simp only
    rw [if_neg (by simp [h k ss[k] (by omega) (List.getElem?_eq_getElem (by omega))])]
theorem nw_bad (ss : List ByteArray) (K e : Nat) (s : ByteArray) (hK : ss[K]? = some s) (he : Ar.ck s = e) (h0 : e ≠ 0) (h : ∀ i s, i < K → ss[i]? = some s → Ar.ck s = 0) : ∀ n, K < n → Ar.nw ss n = (K, e)
  | 0, hn => by omega
  | n + 1, hn => by
    by_cases e1 : K = n
    · have hl : K ≤ ss.length := by
        rcases Nat.lt_or_ge K ss.length with h | h
        · omega
        · rw [List.getElem?_eq_none h] at hK; cases hK
      subst e1
      rw [Ar.nw, nw_ok ss K hl h, if_neg (by simp), hK]
      simp only
      rw [if_pos (by rw [he]; exact h0), he]
    · rw [Ar.nw, nw_bad ss K e s hK he h0 h n (by omega), if_pos h0]
theorem nw_zero (ss : List ByteArray) : ∀ n, n ≤ ss.length → (Ar.nw ss n).2 = 0 → ∀ i s, i < n → ss[i]? = some s → Ar.ck s = 0
  | 0, _, _ => fun i s hi => by omega
  | n + 1, hn, h => fun i s hi hs => by
    rw [Ar.nw] at h
    by_cases h1 : (Ar.nw ss n).2 = 0
    · rw [if_neg (by simp [h1])] at h
      by_cases e : i = n
      · subst e
        rw [hs] at h
        simp only at h
        by_cases h2 : Ar.ck s = 0
        · exact h2
        · rw [if_pos h2] at h; exact absurd h h2
      · exact nw_zero ss n (by omega) h1 i s (by omega) hs
    · rw [if_pos h1] at h; exact absurd h h1
end Go.Proofs.Ytoniipmgkoogbaa
/- Arms: texts that are cut. -/
namespace Go.Proofs.Ytoniipmgkoogbaa
open Go.ChangeShapes Go.WideShapes Go.ChangeAt Go.RowKit
set_option linter.unusedSimpArgs false
set_option linter.unusedVariables false

/-- Texts, somewhat cut. -/
def fewT (ss : List ByteArray) (most long : Nat) : List ByteArray := (ss.take most).map fun s => cutT s long
theorem cutT_id (s : ByteArray) (m : Nat) (h : s.size ≤ m) : cutT s m = s := by unfold cutT; rw [if_neg (by omega)]
theorem fewT_long {ss : List ByteArray} {most long : Nat} : ∀ s ∈ fewT ss most long, s.size ≤ long := by
  intro s hs
  unfold fewT at hs
  obtain ⟨u, _, rfl⟩ := List.mem_map.1 hs
  exact cutT_le u long
theorem fewT_len (ss : List ByteArray) (most long : Nat) : (fewT ss most long).length ≤ most := by unfold fewT; rw [List.length_map, List.length_take]; omega
theorem fewT_len2 (ss : List ByteArray) (most long : Nat) : (fewT ss most long).length = min most ss.length := by unfold fewT; rw [List.length_map, List.length_take]
theorem fewT_at {ss : List ByteArray} {most long i : Nat} {s : ByteArray} (h : ss[i]? = some s) (hi : i < most) : (fewT ss most long)[i]? = some (cutT s long) := by
  unfold fewT; rw [List.getElem?_map, List.getElem?_take, if_pos hi, h]; rfl
theorem fewT_self (ss : List ByteArray) (most long : Nat) (h1 : ss.length ≤ most) (h2 : ∀ s ∈ ss, s.size ≤ long) : fewT ss most long = ss := by
  unfold fewT
  rw [List.take_of_length_le h1]
  conv => rhs; rw [← List.map_id ss]
  exact List.map_congr_left fun s hs => cutT_id s long (h2 s hs)
theorem infostr : (Try.prog.info? 9).map (fun i => (i.zero, i.size, i.bytes)) = some (some (.string ByteArray.empty), 1, 16) := by kernel_rfl
theorem one_str (s : ByteArray) : ∀ u ∈ [Value.string s], u.oneCell' = true := by intro u hu; simp at hu; subst hu; rfl
end Go.Proofs.Ytoniipmgkoogbaa
/- Arms: patterns half made. -/
namespace Go.Proofs.Ytoniipmgkoogbaa
open Go.ChangeShapes Go.WideShapes Go.ChangeAt Go.RowKit
set_option linter.unusedSimpArgs false
set_option linter.unusedVariables false

/-- The states behind nothing. -/
def Ar.st0 (Ls : List (List (Bool × BitVec 256))) (i : Nat) : BitVec 64 := match Ls[i]? with
  | some l => Tb.start l.length (Tb.mk (Tb.rf l) l.length)
  | none => 0
theorem st0_at {Ls : List (List (Bool × BitVec 256))} {i : Nat} {l : List (Bool × BitVec 256)} (h : Ls[i]? = some l) : Ar.st0 Ls i = Tb.start l.length (Tb.mk (Tb.rf l) l.length) := by unfold Ar.st0; rw [h]
theorem rv_apart {w : World} {base n c : Nat} {r : Option Addr} {L : List Value} {T U : TypeId} (h : RV w base r n c L T) {b : Nat} {cs : List Value} (k : Blk w b cs U) (hT : T ≠ U) : b ∉ rvB r := by
  obtain ⟨h0, h1, h2 | ⟨g, h2, h3, rest, h4, h5, h6⟩⟩ := h
  · rw [h2.1]; simp [rvB]
  · subst h2
    intro hb
    simp [rvB] at hb
    subst hb
    unfold Blk at h6 k
    rw [h6] at k
    injection k with k
    injection k with k1 k2
    exact hT k2
theorem rv_apart2 {w : World} {base n c base' n' c' : Nat} {r r' : Option Addr} {L L' : List Value} {T U : TypeId} (h : RV w base r n c L T) (k : RV w base' r' n' c' L' U) (hT : T ≠ U) : ∀ g ∈ rvB r', g ∉ rvB r := by
  obtain ⟨h0, h1, h2 | ⟨g, h2, h3, rest, h4, h5, h6⟩⟩ := k
  · rw [h2.1]; simp [rvB]
  · subst h2
    intro g' hg
    simp [rvB] at hg
    subst hg
    exact rv_apart h h6 hT
theorem map_fst_snoc {α β : Type} (A : List (α × β)) (y : α × β) : (A ++ [y]).map Prod.fst = A.map Prod.fst ++ [y.1] := by simp
theorem blk_apart {w : World} {b d : Nat} {cs ds : List Value} {T V : TypeId} (h : Blk w b cs T) (k : Blk w d ds V) (hT : T ≠ V) : b ≠ d := fun e => by
  subst e
  unfold Blk at h k
  rw [h] at k
  injection k with k
  injection k with z1 z2
  exact hT z2
end Go.Proofs.Ytoniipmgkoogbaa
/- Arms: New. -/
namespace Go.Proofs.Ytoniipmgkoogbaa
open Go.ChangeShapes Go.WideShapes Go.ChangeAt Go.RowKit
set_option linter.unusedSimpArgs false
set_option linter.unusedVariables false

theorem infopt : (Try.prog.info? 57).map (fun i => (i.zero, i.size, i.bytes)) = some (some (.pointer none), 1, 8) := by kernel_rfl
theorem infou64 : (Try.prog.info? 65).map (fun i => (i.zero, i.size, i.bytes)) = some (some (.int .u64 0), 1, 8) := by kernel_rfl
theorem one_ptr (p : Option Addr) : ∀ u ∈ [Value.pointer p], u.oneCell' = true := by intro u hu; simp at hu; subst hu; rfl
theorem one_u (x : Int) : ∀ u ∈ [Value.int .u64 x], u.oneCell' = true := by intro u hu; simp at hu; subst hu; rfl
end Go.Proofs.Ytoniipmgkoogbaa
/- Arms: states by the patterns. -/
namespace Go.Proofs.Ytoniipmgkoogbaa
open Go.ChangeShapes Go.WideShapes Go.ChangeAt Go.RowKit
set_option linter.unusedSimpArgs false
set_option linter.unusedVariables false

/-- The states behind a byte more; which patterns are done. -/
def Ar.stp (Ls : List (List (Bool × BitVec 256))) (b : Nat) (f : Nat → BitVec 64) (i : Nat) : BitVec 64 := match Ls[i]? with
  | some l => Tb.seek l.length (Tb.mk (Tb.rf l) l.length) (Tb.mk (Tb.hf l b) l.length) (f i)
  | none => 0
def Ar.dn (Ls : List (List (Bool × BitVec 256))) (st : Nat → BitVec 64) (i : Nat) : Bool := match Ls[i]? with
  | some l => (Tb.whole l.length (Tb.mk (Tb.rf l) l.length) (st i)).getLsbD l.length
  | none => false
theorem fst_at {A : List (List (Bool × BitVec 256) × Nat)} {Ls : List (List (Bool × BitVec 256))} (h : A.map Prod.fst = Ls) {i : Nat} {l : List (Bool × BitVec 256)} {p : Nat} (hi : A[i]? = some (l, p)) : Ls[i]? = some l := by
  rw [← h, List.getElem?_map, hi]; rfl
theorem lv_nw : Ar.nw [({ data := #[111, 107] } : ByteArray), ({ data := #[111] } : ByteArray)] 2 = (0, 0) := by decide +kernel
theorem lv_f1 : Ar.fs (Ar.dn ([({ data := #[111, 107] } : ByteArray), ({ data := #[111] } : ByteArray)].map Ar.pat) (Ar.stp ([({ data := #[111, 107] } : ByteArray), ({ data := #[111] } : ByteArray)].map Ar.pat) 111 (Ar.st0 ([({ data := #[111, 107] } : ByteArray), ({ data := #[111] } : ByteArray)].map Ar.pat)))) 2 = (1, true) := by decide +kernel
theorem lv_f2 : Ar.fs (Ar.dn ([({ data := #[111, 107] } : ByteArray), ({ data := #[111] } : ByteArray)].map Ar.pat) (Ar.stp ([({ data := #[111, 107] } : ByteArray), ({ data := #[111] } : ByteArray)].map Ar.pat) 107 (Ar.stp ([({ data := #[111, 107] } : ByteArray), ({ data := #[111] } : ByteArray)].map Ar.pat) 111 (Ar.st0 ([({ data := #[111, 107] } : ByteArray), ({ data := #[111] } : ByteArray)].map Ar.pat))))) 2 = (0, true) := by decide +kernel
theorem lv_tx (w : World) : TX (w.alloc (.cells #[.string ({ data := #[111, 107] } : ByteArray), .string ({ data := #[111] } : ByteArray)] 9)) (some ⟨w.heap.size, 0, none⟩) [({ data := #[111, 107] } : ByteArray), ({ data := #[111] } : ByteArray)] := by
  intro i s hi
  have hb := Blk.newA w #[.string ({ data := #[111, 107] } : ByteArray), .string ({ data := #[111] } : ByteArray)] 9
  refine ⟨?_, w.heap.size, 0, rfl, by simp, ?_⟩
  · have : s ∈ [({ data := #[111, 107] } : ByteArray), ({ data := #[111] } : ByteArray)] := List.mem_of_getElem? hi
    simp at this
    rcases this with rfl | rfl <;> decide
  · rw [Nat.zero_add]
    refine Blk.cell hb ?_
    match i, hi with
    | 0, hi => injection hi with hi; subst hi; rfl
    | 1, hi => injection hi with hi; subst hi; rfl
    | i + 2, hi => simp at hi
theorem lv_all : ∃ (L : List (List (Bool × BitVec 256))) (f0 f1 f2 : Nat → BitVec 64), [({ data := #[111, 107] } : ByteArray), ({ data := #[111] } : ByteArray)].map Ar.pat = L ∧ Ar.st0 L = f0 ∧ Ar.stp L 111 f0 = f1 ∧ Ar.stp L 107 f1 = f2 ∧ Ar.fs (Ar.dn L f1) 2 = (1, true) ∧ Ar.fs (Ar.dn L f2) 2 = (0, true) := ⟨_, _, _, _, rfl, rfl, rfl, rfl, lv_f1, lv_f2⟩
end Go.Proofs.Ytoniipmgkoogbaa
/- Arms: Find. -/
namespace Go.Proofs.Ytoniipmgkoogbaa
open Go.ChangeShapes Go.WideShapes Go.ChangeAt Go.RowKit
set_option linter.unusedSimpArgs false
set_option linter.unusedVariables false

/-- The states behind k bytes, from the start. -/
def Ar.stk (Ls : List (List (Bool × BitVec 256))) (T : LgT) : Nat → Nat → BitVec 64
  | 0 => Ar.st0 Ls
  | k + 1 => Ar.stp Ls (T k).toNat (Ar.stk Ls T k)
/-- They say of each pattern what holds behind k bytes. -/
def Ar.ats (Ls : List (List (Bool × BitVec 256))) (T : LgT) (k : Nat) (f : Nat → BitVec 64) : Prop := ∀ i l, Ls[i]? = some l → Tb.at l l.length T k (f i)
theorem ats_zero {Ls : List (List (Bool × BitVec 256))} (h62 : ∀ l ∈ Ls, l.length ≤ 62) (T : LgT) : Ar.ats Ls T 0 (Ar.st0 Ls) := fun i l hi => by
  rw [st0_at hi]; exact start_at l l.length (h62 l (List.mem_of_getElem? hi)) T
theorem ats_step {Ls : List (List (Bool × BitVec 256))} (h62 : ∀ l ∈ Ls, l.length ≤ 62) {T : LgT} {k : Nat} {f : Nat → BitVec 64} (h : Ar.ats Ls T k f) {b : Nat} (hb : (T k).toNat = b) : Ar.ats Ls T (k + 1) (Ar.stp Ls b f) := fun i l hi => by
  unfold Ar.stp; rw [hi]
  exact seek_at (h62 l (List.mem_of_getElem? hi)) (h i l hi) hb
theorem ats_stk {Ls : List (List (Bool × BitVec 256))} (h62 : ∀ l ∈ Ls, l.length ≤ 62) (T : LgT) : ∀ k, Ar.ats Ls T k (Ar.stk Ls T k)
  | 0 => ats_zero h62 T
  | k + 1 => ats_step h62 (ats_stk h62 T k) rfl
theorem ats_done {Ls : List (List (Bool × BitVec 256))} (h62 : ∀ l ∈ Ls, l.length ≤ 62) {t : List UInt8} {k : Nat} {f : Nat → BitVec 64} (h : Ar.ats Ls (lgT t) k f) {i : Nat} {l : List (Bool × BitVec 256)} (hi : Ls[i]? = some l) : Lg.occ l t k = Ar.dn Ls f i := by
  unfold Ar.dn; rw [hi]
  exact (done_at (h62 l (List.mem_of_getElem? hi)) rfl (h i l hi)).symm
theorem infou64b : (Try.prog.info? 65).map (fun i => (i.zero, i.size, i.bytes)) = some (some (.int .u64 0), 1, 8) := by kernel_rfl
end Go.Proofs.Ytoniipmgkoogbaa
/- Arms: the document's New. -/
namespace Go.Proofs.Ytoniipmgkoogbaa
open Go.ChangeShapes Go.WideShapes Go.ChangeAt Go.RowKit
set_option linter.unusedSimpArgs false
set_option linter.unusedVariables false

theorem ik_apart {w : World} {g c : Nat} {vs : List Value} {T : TypeId} {a : Option Addr} {l : List (Bool × BitVec 256)} (h : Rw w g c vs T) (hv : ∀ v, vs[0]? = some v → ∃ r n c, v = .slice r n c) (hz : vs = [] → c = 0) (k : IK w a l) {w' : World} (q : Chg [g] w w') : IK w' a l := by
  refine ⟨?_, k.2⟩
  rcases k.1 with e | ⟨b, e, h1, h2⟩
  · exact Or.inl e
  · cases l with
    | nil => exact Or.inl rfl
    | cons y l =>
      obtain ⟨r, X⟩ := y
      have h0 : w.cell? ⟨b, 0, none⟩ = some (.bool r) := h2 0 (.bool r) (by simp [its, Cs.it])
      have hne : b ≠ g := fun e => by
        subst e
        cases vs with
        | nil =>
          obtain ⟨rest, z1, z2, z3⟩ := h
          rw [hz rfl] at z1
          obtain rfl : rest = [] := List.length_eq_zero_iff.1 (by simpa using z1)
          unfold World.cell? at h0
          unfold Blk at z3
          simp [z3] at h0
        | cons v vs =>
          obtain ⟨r', n', c', hv'⟩ := hv v rfl
          have := h.cell (j := 0) (v := v) rfl
          rw [this, hv'] at h0
          cases h0
      refine Or.inr ⟨b, e, Nat.lt_of_lt_of_le h1 q.size, fun i v hi => ?_⟩
      rw [← h2 i v hi]
      exact q.cell h1 (by simpa using hne)
/-- What the document's New tells. -/
def Ar.NewQ (ss : List ByteArray) (n K e : Nat) (w : World) (r : Ending) (w' : World) : Prop := Below w.heap.size w w' ∧ ((e ≠ 0 ∧ r = .returned (.tuple #[.slice none 0 0, .int .i64 K, .int .i64 e])) ∨ (e = 0 ∧ ∃ g c, r = .returned (.tuple #[.slice (some ⟨g, 0, none⟩) n c, .int .i64 0, .int .i64 0]) ∧ w.heap.size ≤ g ∧ LL w' (some ⟨g, 0, none⟩) (ss.map Ar.pat)))
/-- A row of patterns half made. -/
def LN (w w' : World) (g c k : Nat) (vs : List Value) (Ls : List (List (Bool × BitVec 256))) : Prop := Rw w' g c vs 60 ∧ vs.length = k ∧ (vs = [] → c = 0) ∧ (∀ (i : Nat) (v : Value), vs[i]? = some v → ∃ r n c, v = .slice r n c) ∧ (∀ (i : Nat) (l : List (Bool × BitVec 256)), i < k → Ls[i]? = some l → ∃ ai ci, vs[i]? = some (.slice ai l.length ci) ∧ IK w' ai l) ∧ w.heap.size ≤ g ∧ Below w.heap.size w w'
theorem LN.below {w w' v : World} {g c k : Nat} {vs : List Value} {Ls : List (List (Bool × BitVec 256))} (h : LN w w' g c k vs Ls) (q : Below w'.heap.size w' v) : LN w v g c k vs Ls := by
  obtain ⟨h1, h2, h3, h4, h5, h6, h7⟩ := h
  exact ⟨h1.chg (Chg.of_fresh (l := []) q) (by simp), h2, h3, h4, fun i l hi hl => by obtain ⟨ai, ci, z1, z2⟩ := h5 i l hi hl; exact ⟨ai, ci, z1, z2.below q⟩, h6, h7.trans (q.mono h7.size)⟩
theorem LN.app {w w' v : World} {g c k : Nat} {vs : List Value} {Ls : List (List (Bool × BitVec 256))} (h : LN w w' g c k vs Ls) {l : List (Bool × BitVec 256)} {ai : Option Addr} {ci : Nat} (hl : Ls[k]? = some l) (hk : IK w' ai l) {g' c' : Nat} (q1 : Rw v g' c' (vs ++ [.slice ai l.length ci]) 60) (q2 : g' = g ∨ w'.heap.size ≤ g') (q3 : Chg [g] w' v) : LN w v g' c' (k + 1) (vs ++ [.slice ai l.length ci]) Ls := by
  obtain ⟨h1, h2, h3, h4, h5, h6, h7⟩ := h
  have hsz := h7.size
  have hap := fun {a : Option Addr} {l : List (Bool × BitVec 256)} (z : IK w' a l) => ik_apart h1 (h4 0) h3 z q3
  refine ⟨q1, by simp [h2], fun e => by simp at e, ?_, ?_, by omega, Chg.onto h7 q3 hsz (by simp; omega)⟩
  · intro i u hi
    rw [List.getElem?_append] at hi
    split at hi
    · exact h4 i u hi
    · have hm := List.mem_of_getElem? hi
      simp at hm
      exact ⟨_, _, _, hm⟩
  · intro i l' hi hl'
    by_cases e : i = k
    · subst e
      rw [hl] at hl'
      injection hl' with hl'
      subst hl'
      exact ⟨ai, ci, by rw [List.getElem?_append_right (by omega), h2]; simp, hap hk⟩
    · obtain ⟨aj, cj, z1, z2⟩ := h5 i l' (by omega) hl'
      exact ⟨aj, cj, by rw [List.getElem?_append_left (by omega)]; exact z1, hap z2⟩
theorem LN.done {w w' : World} {g c n : Nat} {vs : List Value} {Ls : List (List (Bool × BitVec 256))} (h : LN w w' g c n vs Ls) (hn : Ls.length = n) (h60 : ∀ l ∈ Ls, l.length ≤ 62) : LL w' (some ⟨g, 0, none⟩) Ls := fun i l hi => by
  obtain ⟨h1, h2, h3, h4, h5, h6, h7⟩ := h
  have hlt : i < Ls.length := by
    rcases Nat.lt_or_ge i Ls.length with h | h
    · exact h
    · rw [List.getElem?_eq_none h] at hi; cases hi
  obtain ⟨ai, ci, z1, z2⟩ := h5 i l (by omega) hi
  have := h60 l (List.mem_of_getElem? hi)
  refine ⟨by omega, g, 0, ai, ci, rfl, h1.lt, ?_, z2⟩
  rw [Nat.zero_add]
  exact h1.cell z1
theorem infoit : (Try.prog.info? 60).map (fun i => (i.zero, i.size, i.bytes)) = some (some (.slice none 0 0), 1, 24) := by kernel_rfl
theorem one_sl (r : Option Addr) (n c : Nat) : ∀ u ∈ [Value.slice r n c], u.oneCell' = true := by intro u hu; simp at hu; subst hu; rfl
end Go.Proofs.Ytoniipmgkoogbaa
