/- Several texts in one. -/
import Derived.Test.YtbdjcppkfihonaaArA
import Derived.Test.YtbdjcppkfihonaaRv
import Derived.Test.YtbdjcppkfihonaaLgC
/- Arms: what a text comes to. -/
namespace Go.Proofs.Ytbdjcppkfihonaa
open Go.ChangeShapes Go.WideShapes Go.ChangeAt Go.RowKit
set_option linter.unusedSimpArgs false
set_option linter.unusedVariables false

/-- The pattern of a text; why it is none that may be waited for; where. -/
def Ar.pat (s : ByteArray) : List (Bool × BitVec 256) := (Cs.rdG (s.data.toList.length + 1) s.data.toList 0 []).1
def Ar.ck (s : ByteArray) : Nat := if (Cs.rdG (s.data.toList.length + 1) s.data.toList 0 []).2.2 ≠ 0 then (Cs.rdG (s.data.toList.length + 1) s.data.toList 0 []).2.2 else if decide (Lg.least (Ar.pat s) = 0) = true then 9 else 0
def Ar.pl (s : ByteArray) : Nat := if (Cs.rdG (s.data.toList.length + 1) s.data.toList 0 []).2.2 ≠ 0 then (Cs.rdG (s.data.toList.length + 1) s.data.toList 0 []).2.1 else 0
theorem ar_comp_no (s : ByteArray) (hs : s.size ≤ 1000000) (e : Nat) (he : Ar.ck s = e) (h0 : e ≠ 0) (w : World) :
    Calls Try.prog 82 #[.string s] w fun r w' => ∃ p : Int, r = .returned (.tuple #[.pointer none, .int .i64 p, .int .i64 e]) ∧ Below w.heap.size w w' := by
  obtain ⟨R, p, q, hr⟩ : ∃ R p q, Cs.rdG (s.data.toList.length + 1) s.data.toList 0 [] = (R, p, q) := ⟨_, _, _, rfl⟩
  unfold Ar.ck Ar.pat at he
  rw [hr] at he
  dsimp only at he
  by_cases hq : q = 0
  · rw [if_neg (not_not_intro hq)] at he
    cases hm : decide (Lg.least R = 0) with
    | false => rw [hm] at he; exact absurd he.symm h0
    | true =>
      rw [hm] at he
      obtain rfl : 9 = e := he
      exact (ar_void s _ hs rfl R p q hr hq _ rfl hm w).mono fun r w' ⟨h1, h2⟩ => ⟨_, h1, h2⟩
  · rw [if_pos hq] at he
    subst he
    exact (ar_bad s _ hs rfl R p q hr hq w).mono fun r w' ⟨h1, h2⟩ => ⟨_, h1, h2⟩
theorem ck_zero {s : ByteArray} (he : Ar.ck s = 0) : (Cs.rdG (s.data.toList.length + 1) s.data.toList 0 []).2.2 = 0 ∧ decide (Lg.least (Ar.pat s) = 0) = false ∧ Ar.pl s = 0 := by
  unfold Ar.ck at he
  by_cases hq : (Cs.rdG (s.data.toList.length + 1) s.data.toList 0 []).2.2 = 0
  · rw [if_neg (not_not_intro hq)] at he
    refine ⟨hq, ?_, by unfold Ar.pl; rw [if_neg (not_not_intro hq)]⟩
    cases hm : decide (Lg.least (Ar.pat s) = 0) with
    | false => rfl
    | true => rw [hm] at he; simp at he
  · rw [if_pos hq] at he; exact absurd he hq
theorem ck_ok {s : ByteArray} (he : Ar.ck s = 0) : Cs.rdG (s.data.toList.length + 1) s.data.toList 0 [] = (Ar.pat s, 0, 0) := by
  have h := (ck_zero he).1
  have h2 := rdG_zero _ _ _ _ h
  exact Prod.ext rfl (Prod.ext h2 h)
theorem pat_good {s : ByteArray} (he : Ar.ck s = 0) : goodB (Ar.pat s) = true := by
  have := rdG_good (s.data.toList.length + 1) s.data.toList 0 [] (by simp) okI_nil
  rw [ck_ok he] at this; exact this
theorem pat_len {s : ByteArray} (he : Ar.ck s = 0) : (Ar.pat s).length ≤ 60 := (goodB_ok (pat_good he)).2
theorem ar_comp_ok (s : ByteArray) (hs : s.size ≤ 1000000) (he : Ar.ck s = 0) (w : World) :
    Calls Try.prog 82 #[.string s] w fun r w' => ∃ x, r = .returned (.tuple #[.pointer (some ⟨x, 0, none⟩), .int .i64 0, .int .i64 0]) ∧ TB w' x (Ar.pat s).length (Tb.mk (Tb.rf (Ar.pat s)) (Ar.pat s).length) (fun b => Tb.mk (Tb.hf (Ar.pat s) b) (Ar.pat s).length) ∧ Below w.heap.size w w' :=
  ar_compile s _ hs rfl _ 0 0 (ck_ok he) rfl _ rfl (ck_zero he).2.1 w
theorem rk_check (hC : ∀ (s : ByteArray) (l : List UInt8), s.size ≤ 1000000 → s.data.toList = l → ∀ (X : BitVec 256) (n e : Nat), Cs.rdC l = (X, n, e) → ∀ w, Calls Try.prog 94 #[.string s] w fun r w' => r = .returned (.tuple #[Cs.sv X, .int .i64 n, .int .i64 e]) ∧ Below w.heap.size w w')
    (s : ByteArray) (hs : s.size ≤ 1000000) (p e : Nat) (hp : Ar.pl s = p) (he : Ar.ck s = e) (w : World) :
    Calls Try.prog 67 #[.string s] w fun r w' => ∃ v, r = .returned (.tuple #[v, .int .i64 p, .int .i64 e]) ∧ Below w.heap.size w w' := by
  by_cases h0 : e = 0
  · rw [h0] at he
    have h1 := (ck_zero he).2.2
    rw [hp] at h1
    subst h0 h1
    exact (rk_ok hC s _ hs rfl _ 0 0 (ck_ok he) rfl _ rfl (ck_zero he).2.1 w).mono fun r w' ⟨a, c, h1, _, h2⟩ => ⟨_, h1, h2⟩
  · obtain ⟨R, p', q, hr⟩ : ∃ R p q, Cs.rdG (s.data.toList.length + 1) s.data.toList 0 [] = (R, p, q) := ⟨_, _, _, rfl⟩
    unfold Ar.ck Ar.pat at he
    unfold Ar.pl at hp
    rw [hr] at he hp
    dsimp only at he hp
    by_cases hq : q = 0
    · rw [if_neg (not_not_intro hq)] at he hp
      cases hm : decide (Lg.least R = 0) with
      | false => rw [hm] at he; exact absurd he.symm h0
      | true =>
        rw [hm] at he
        obtain rfl : 9 = e := he
        subst hp
        exact (rk_void hC s _ hs rfl R p' q hr hq _ rfl hm w).mono fun r w' ⟨h1, h2⟩ => ⟨_, h1, h2⟩
    · rw [if_pos hq] at he hp
      subst he hp
      exact rk_bad hC s _ hs rfl R p' q hr hq w
theorem rk_good (hC : ∀ (s : ByteArray) (l : List UInt8), s.size ≤ 1000000 → s.data.toList = l → ∀ (X : BitVec 256) (n e : Nat), Cs.rdC l = (X, n, e) → ∀ w, Calls Try.prog 94 #[.string s] w fun r w' => r = .returned (.tuple #[Cs.sv X, .int .i64 n, .int .i64 e]) ∧ Below w.heap.size w w')
    (s : ByteArray) (hs : s.size ≤ 1000000) (he : Ar.ck s = 0) (w : World) :
    Calls Try.prog 67 #[.string s] w fun r w' => ∃ a c, r = .returned (.tuple #[.slice a (Ar.pat s).length c, .int .i64 0, .int .i64 0]) ∧ IK w' a (Ar.pat s) ∧ Below w.heap.size w w' :=
  rk_ok hC s _ hs rfl _ 0 0 (ck_ok he) rfl _ rfl (ck_zero he).2.1 w
/-- Texts that came in, or that were made: by value. -/
def TX (w : World) (a : Option Addr) (ss : List ByteArray) : Prop := ∀ i s, ss[i]? = some s → s.size ≤ maxLen ∧ ∃ g o, a = some ⟨g, o, none⟩ ∧ g < w.heap.size ∧ w.cell? ⟨g, o + i, none⟩ = some (.string s)
theorem TX.below {w w' : World} {a : Option Addr} {ss : List ByteArray} (h : TX w a ss) (k : Below w.heap.size w w') : TX w' a ss := fun i s hi => by
  obtain ⟨h0, g, o, h1, h2, h3⟩ := h i s hi
  exact ⟨h0, g, o, h1, Nat.lt_of_lt_of_le h2 k.size, by rw [← h3]; exact Chg.cell (l := []) (Chg.of_fresh k) h2 (by simp)⟩
theorem TX.of_rw {w : World} {g c : Nat} {ss : List ByteArray} {T : TypeId} (h : Rw w g c (ss.map .string) T) (hs : ∀ s ∈ ss, s.size ≤ maxLen) : TX w (some ⟨g, 0, none⟩) ss := fun i s hi => by
  refine ⟨hs s (List.mem_of_getElem? hi), g, 0, rfl, h.lt, ?_⟩
  rw [Nat.zero_add]
  exact h.cell (by simp [hi])
/-- Which text is the first that is no pattern, and why. -/
def Ar.nw (ss : List ByteArray) : Nat → Nat × Nat
  | 0 => (0, 0)
  | k + 1 => if (Ar.nw ss k).2 ≠ 0 then Ar.nw ss k else match ss[k]? with
    | some s => if Ar.ck s ≠ 0 then (k, Ar.ck s) else (0, 0)
    | none => (0, 0)
theorem nw_ok (ss : List ByteArray) : ∀ k, k ≤ ss.length → (∀ i s, i < k → ss[i]? = some s → Ar.ck s = 0) → Ar.nw ss k = (0, 0)
  | 0, _, _ => rfl
  | k + 1, hk, h => by
    rw [Ar.nw, nw_ok ss k (by omega) (fun i s hi => h i s (by omega)), if_neg (by simp), List.getElem?_eq_getElem (by omega)]
    simp only
    rw [if_neg (by simp [h k ss[k] (by omega) (List.getElem?_eq_getElem (by omega))])]
theorem nw_bad (ss : List ByteArray) (K e : Nat) (s : ByteArray) (hK : ss[K]? = some s) (he : Ar.ck s = e) (h0 : e ≠ 0) (h : ∀ i s, i < K → ss[i]? = some s → Ar.ck s = 0) : ∀ n, K < n → Ar.nw ss n = (K, e)
  | 0, hn => by omega
  | n + 1, hn => by
    by_cases e1 : K = n
    · have hl : K ≤ ss.length := by
        rcases Nat.lt_or_ge K ss.length with h | h
        · omega
        · rw [List.getElem?_eq_none h] at hK; cases hK
      subst e1
      rw [Ar.nw, nw_ok ss K hl h, if_neg (by simp), hK]
      simp only
      rw [if_pos (by rw [he]; exact h0), he]
    · rw [Ar.nw, nw_bad ss K e s hK he h0 h n (by omega), if_pos h0]
theorem nw_zero (ss : List ByteArray) : ∀ n, n ≤ ss.length → (Ar.nw ss n).2 = 0 → ∀ i s, i < n → ss[i]? = some s → Ar.ck s = 0
  | 0, _, _ => fun i s hi => by omega
  | n + 1, hn, h => fun i s hi hs => by
    rw [Ar.nw] at h
    by_cases h1 : (Ar.nw ss n).2 = 0
    · rw [if_neg (by simp [h1])] at h
      by_cases e : i = n
      · subst e
        rw [hs] at h
        simp only at h
        by_cases h2 : Ar.ck s = 0
        · exact h2
        · rw [if_pos h2] at h; exact absurd h h2
      · exact nw_zero ss n (by omega) h1 i s (by omega) hs
    · rw [if_pos h1] at h; exact absurd h h1
end Go.Proofs.Ytbdjcppkfihonaa
/- Arms: texts that are cut. -/
namespace Go.Proofs.Ytbdjcppkfihonaa
open Go.ChangeShapes Go.WideShapes Go.ChangeAt Go.RowKit
set_option linter.unusedSimpArgs false
set_option linter.unusedVariables false

/-- Texts, somewhat cut. -/
def fewT (ss : List ByteArray) (most long : Nat) : List ByteArray := (ss.take most).map fun s => cutT s long
theorem cutT_id (s : ByteArray) (m : Nat) (h : s.size ≤ m) : cutT s m = s := by unfold cutT; rw [if_neg (by omega)]
theorem fewT_long {ss : List ByteArray} {most long : Nat} : ∀ s ∈ fewT ss most long, s.size ≤ long := by
  intro s hs
  unfold fewT at hs
  obtain ⟨u, _, rfl⟩ := List.mem_map.1 hs
  exact cutT_le u long
theorem fewT_len (ss : List ByteArray) (most long : Nat) : (fewT ss most long).length ≤ most := by unfold fewT; rw [List.length_map, List.length_take]; omega
theorem fewT_len2 (ss : List ByteArray) (most long : Nat) : (fewT ss most long).length = min most ss.length := by unfold fewT; rw [List.length_map, List.length_take]
theorem fewT_at {ss : List ByteArray} {most long i : Nat} {s : ByteArray} (h : ss[i]? = some s) (hi : i < most) : (fewT ss most long)[i]? = some (cutT s long) := by
  unfold fewT; rw [List.getElem?_map, List.getElem?_take, if_pos hi, h]; rfl
theorem fewT_self (ss : List ByteArray) (most long : Nat) (h1 : ss.length ≤ most) (h2 : ∀ s ∈ ss, s.size ≤ long) : fewT ss most long = ss := by
  unfold fewT
  rw [List.take_of_length_le h1]
  conv => rhs; rw [← List.map_id ss]
  exact List.map_congr_left fun s hs => cutT_id s long (h2 s hs)
theorem infostr : (Try.prog.info? 9).map (fun i => (i.zero, i.size, i.bytes)) = some (some (.string ByteArray.empty), 1, 16) := by kernel_rfl
theorem one_str (s : ByteArray) : ∀ u ∈ [Value.string s], u.oneCell' = true := by intro u hu; simp at hu; subst hu; rfl
set_option maxRecDepth 20000 in
set_option maxHeartbeats 4000000 in
theorem fewt (ss : List ByteArray) (n : Nat) (hn : ss.length = n) (hn6 : n ≤ maxLen) (a : Option Addr) (c most long : Nat) (hm : most ≤ 1000) (hlo : long ≤ 1000) (rs : List ByteArray) (hr : fewT ss most long = rs) (m : Nat) (hmr : rs.length = m) (w : World) (hI : TX w a ss) :
    Calls Try.prog 41 #[.slice a n c, .int .i64 most, .int .i64 long] w fun e w' => ∃ g c', e = .returned (.slice (some ⟨g, 0, none⟩) m c') ∧ Rw w' g c' (rs.map .string) 9 ∧ w.heap.size ≤ g ∧ Below w.heap.size w w' := by
  have hmm : m = min most n := by rw [← hmr, ← hr, fewT_len2, hn]
  have hn63 : n ≤ 9223372036854775807 := hn6
  have HG := Lib.hid (And.intro hI hn)
  have HS := Lib.hid (And.intro hr hmr)
  have H1 : Hid (Below w.heap.size w (w.alloc (.cells #[] 9)) ∧ Rw (w.alloc (.cells #[] 9)) w.heap.size 0 ((rs.take (0)).map .string) 9 ∧ w.heap.size ≤ w.heap.size) := Lib.hid ⟨(Below.refl _ _).alloc (Nat.le_refl _) _, by simpa using Rw.empty w 9, Nat.le_refl _⟩
  clear hI hn hr hmr hn6
  go_enter Try.func41, Try.ntmps41
  go_upto_region 2 with fail
  revert H1
  generalize w.alloc (.cells #[] 9) = W1
  intro H1
  go_wp2_with fail
  go_loopw [7, 8] (fun v i wr => ∃ k g c' : Nat, v = .slice (some ⟨g, 0, none⟩) k c' ∧ i = .int .i64 k ∧ k ≤ m ∧ Hid (Below w.heap.size w wr ∧ Rw wr g c' ((rs.take (k)).map .string) 9 ∧ w.heap.size ≤ g)) (fun _ i _ => m - (intOf i).toNat)
  case atStart => exact ⟨0, w.heap.size, 0, rfl, rfl, by omega, H1⟩
  case round =>
    clear H1
    obtain ⟨k, g, c', rfl, rfl, hk, HB⟩ := hrel
    have k0 : (0 : Int) ≤ (k : Int) := by omega
    by_cases hkm : k < m
    · have hkn : k < n := by omega
      have hkmo : k < most := by omega
      have i1 : (k : Int) < (n : Int) := by omega
      have i2 : (k : Int) < (most : Int) := by omega
      obtain ⟨s, hs⟩ : ∃ s, ss[k]? = some s := ⟨_, List.getElem?_eq_getElem (by rw [HG.out.2]; exact hkn)⟩
      obtain ⟨hsm, gi, o, ha, hgi, cp⟩ := (HG.out.1.below HB.out.1) k s hs
      subst ha
      obtain ⟨u, hu⟩ : ∃ u, cutT s long = u := ⟨_, rfl⟩
      have hrk : rs[k]? = some u := by rw [← HS.out.1, fewT_at hs hkmo, hu]
      have HU : Hid (cutT s long = u ∧ (rs.take (k + 1)).map Value.string = (rs.take k).map Value.string ++ [.string u] ∧ ((rs.take k).map Value.string).length = k) := Lib.hid ⟨hu, by rw [List.take_add_one, hrk]; simp, by rw [List.length_map, List.length_take, HS.out.2]; omega⟩
      have hm1000 : m ≤ 1000 := by omega
      have w1 : IntKind.i64.wrap ((k : Int) + 1) = (k : Int) + 1 := IntWalk.i64_in _ (by omega)
      clear hs hgi hu hrk
      go_wp2_with (first
        | (go_at_call 35; with_reducible refine (cut_any s u long hlo hsm HU.out.1 _).mono ?_; rintro e W1 ⟨rfl, rfl⟩)
        | (at_builtin; refine wpList_append_rw _ rfl (.tmp 21) (.tmp 28) 65 65 rfl 9 (.string ByteArray.empty) 16 Try.underlying65 infostr rfl g k c' _ rfl HU.out.2.2 (HB.out.2.1.chg ((Chg.refl [] _).alloc _) (by simp)) _ rfl 1 _ (Src.ofSlice _ Try.underlying65 ⟨_, 0, none⟩ 1 1 [.string u] rfl (one_new _ _ _) (one_str u)) (by omega) (by omega) ?_; intro g4 c4 w4 r1 r2 r3; have HN : Hid (Below w.heap.size w w4 ∧ Rw w4 g4 c4 ((rs.take (k + 1)).map .string) 9 ∧ w.heap.size ≤ g4) := Lib.hid (by
            obtain ⟨q1, q2, q3⟩ := HB.out
            have hsz := q1.size
            rw [World.size_alloc] at r2
            exact ⟨r3.onto (q1.alloc hsz _) (by simp; omega) (by simp; omega), by rw [HU.out.2.1]; exact r1, by omega⟩); clear r1 r2 r3))
      refine ⟨?_, ?measure⟩
      case measure => simp [intOf]; omega
      first
        | exact ⟨k + 1, g4, c4, by go_num, by go_num, by omega, HN⟩
        | ((repeat apply Exists.intro); exact ⟨⟨k + 1, g4, c4, by go_num, by go_num, by omega, HN⟩, rfl⟩)
    · obtain rfl : k = m := by omega
      have HF : Hid (Rw wr g c' (rs.map .string) 9 ∧ w.heap.size ≤ g ∧ Below w.heap.size w wr) := Lib.hid (by
        obtain ⟨q1, q2, q3⟩ := HB.out
        rw [List.take_of_length_le (by rw [HS.out.2]; omega)] at q2
        exact ⟨q2, q3, q1⟩)
      by_cases hkn : k < n
      · have i1 : (k : Int) < (n : Int) := by omega
        have i2 : ¬ (k : Int) < (most : Int) := by omega
        go_wp2
        go_ret
        exact ⟨g, c', rfl, HF.out⟩
      · have i1 : ¬ (k : Int) < (n : Int) := by omega
        go_wp2
        go_ret
        exact ⟨g, c', rfl, HF.out⟩
end Go.Proofs.Ytbdjcppkfihonaa
/- Arms: patterns half made. -/
namespace Go.Proofs.Ytbdjcppkfihonaa
open Go.ChangeShapes Go.WideShapes Go.ChangeAt Go.RowKit
set_option linter.unusedSimpArgs false
set_option linter.unusedVariables false

/-- The states behind nothing. -/
def Ar.st0 (Ls : List (List (Bool × BitVec 256))) (i : Nat) : BitVec 64 := match Ls[i]? with
  | some l => Tb.start l.length (Tb.mk (Tb.rf l) l.length)
  | none => 0
theorem st0_at {Ls : List (List (Bool × BitVec 256))} {i : Nat} {l : List (Bool × BitVec 256)} (h : Ls[i]? = some l) : Ar.st0 Ls i = Tb.start l.length (Tb.mk (Tb.rf l) l.length) := by unfold Ar.st0; rw [h]
theorem rv_apart {w : World} {base n c : Nat} {r : Option Addr} {L : List Value} {T U : TypeId} (h : RV w base r n c L T) {b : Nat} {cs : List Value} (k : Blk w b cs U) (hT : T ≠ U) : b ∉ rvB r := by
  obtain ⟨h0, h1, h2 | ⟨g, h2, h3, rest, h4, h5, h6⟩⟩ := h
  · rw [h2.1]; simp [rvB]
  · subst h2
    intro hb
    simp [rvB] at hb
    subst hb
    unfold Blk at h6 k
    rw [h6] at k
    injection k with k
    injection k with k1 k2
    exact hT k2
theorem rv_apart2 {w : World} {base n c base' n' c' : Nat} {r r' : Option Addr} {L L' : List Value} {T U : TypeId} (h : RV w base r n c L T) (k : RV w base' r' n' c' L' U) (hT : T ≠ U) : ∀ g ∈ rvB r', g ∉ rvB r := by
  obtain ⟨h0, h1, h2 | ⟨g, h2, h3, rest, h4, h5, h6⟩⟩ := k
  · rw [h2.1]; simp [rvB]
  · subst h2
    intro g' hg
    simp [rvB] at hg
    subst hg
    exact rv_apart h h6 hT
/-- Patterns half made. -/
def AN (w w' : World) (x : Nat) (r0 : Option Addr) (k0 c0 : Nat) (r1 : Option Addr) (k1 c1 : Nat) (Ls : List (List (Bool × BitVec 256))) (A : List (List (Bool × BitVec 256) × Nat)) : Prop :=
  Blk w' x [.slice r0 k0 c0, .slice r1 k1 c1, .int .i64 0] 136 ∧ RV w' (x + 1) r0 k0 c0 (A.map (fun y : List (Bool × BitVec 256) × Nat => Value.pointer (some ⟨y.2, 0, none⟩))) 137 ∧ RV w' (x + 1) r1 k1 c1 (ul (Ar.st0 Ls) k1) 138 ∧ A.map Prod.fst = Ls.take k0 ∧ (∀ (i : Nat) (l : List (Bool × BitVec 256)) (p : Nat), A[i]? = some (l, p) → TB w' p l.length (Tb.mk (Tb.rf l) l.length) (fun b => Tb.mk (Tb.hf l b) l.length)) ∧ Below w.heap.size w w' ∧ w.heap.size ≤ x
theorem AN.len {w w' : World} {x k0 c0 k1 c1 : Nat} {r0 r1 : Option Addr} {Ls : List (List (Bool × BitVec 256))} {A : List (List (Bool × BitVec 256) × Nat)} (h : AN w w' x r0 k0 c0 r1 k1 c1 Ls A) : A.length = k0 := by have := h.2.1.1; rwa [List.length_map] at this
theorem AN.below {w w' v : World} {x k0 c0 k1 c1 : Nat} {r0 r1 : Option Addr} {Ls : List (List (Bool × BitVec 256))} {A : List (List (Bool × BitVec 256) × Nat)} (h : AN w w' x r0 k0 c0 r1 k1 c1 Ls A) (k : Below w'.heap.size w' v) : AN w v x r0 k0 c0 r1 k1 c1 Ls A := by
  obtain ⟨h1, h2, h3, h4, h5, h6, h7⟩ := h
  exact ⟨h1.below k h1.lt, h2.chg (Chg.of_fresh (l := []) k) (by simp), h3.chg (Chg.of_fresh (l := []) k) (by simp), h4, fun i l p hi => (h5 i l p hi).below k, h6.trans (k.mono h6.size), h7⟩
theorem AN.alloc {w w' : World} {x k0 c0 k1 c1 : Nat} {r0 r1 : Option Addr} {Ls : List (List (Bool × BitVec 256))} {A : List (List (Bool × BitVec 256) × Nat)} (h : AN w w' x r0 k0 c0 r1 k1 c1 Ls A) (o : Obj) : AN w (w'.alloc o) x r0 k0 c0 r1 k1 c1 Ls A := h.below ((Below.refl _ _).alloc (Nat.le_refl _) _)
theorem AN.drew {w w' : World} {x k0 c0 k1 c1 : Nat} {r0 r1 : Option Addr} {Ls : List (List (Bool × BitVec 256))} {A : List (List (Bool × BitVec 256) × Nat)} (h : AN w w' x r0 k0 c0 r1 k1 c1 Ls A) : AN w w'.drew x r0 k0 c0 r1 k1 c1 Ls A := h.below (((Chg.refl [] w').drew).below (Nat.le_refl _) (by simp))
theorem AN.c0 {w w' : World} {x k0 c0 k1 c1 : Nat} {r0 r1 : Option Addr} {Ls : List (List (Bool × BitVec 256))} {A : List (List (Bool × BitVec 256) × Nat)} (h : AN w w' x r0 k0 c0 r1 k1 c1 Ls A) : w'.cell? ⟨x, 0, none⟩ = some (.slice r0 k0 c0) := Blk.cell h.1 (i := 0) rfl
theorem AN.c1 {w w' : World} {x k0 c0 k1 c1 : Nat} {r0 r1 : Option Addr} {Ls : List (List (Bool × BitVec 256))} {A : List (List (Bool × BitVec 256) × Nat)} (h : AN w w' x r0 k0 c0 r1 k1 c1 Ls A) : w'.cell? ⟨x, 1, none⟩ = some (.slice r1 k1 c1) := Blk.cell h.1 (i := 1) rfl
theorem AN.cf {w w' : World} {x k0 c0 k1 c1 : Nat} {r0 r1 : Option Addr} {Ls : List (List (Bool × BitVec 256))} {A : List (List (Bool × BitVec 256) × Nat)} (h : AN w w' x r0 k0 c0 r1 k1 c1 Ls A) (i : Nat) : w'.frozen? ⟨x, i, none⟩ = false := Blk.free h.1 i
theorem map_fst_snoc {α β : Type} (A : List (α × β)) (y : α × β) : (A ++ [y]).map Prod.fst = A.map Prod.fst ++ [y.1] := by simp
/-- Behind the first append. -/
theorem AN.table {w w' v : World} {x k0 c0 k1 c1 : Nat} {r0 r1 : Option Addr} {Ls : List (List (Bool × BitVec 256))} {A : List (List (Bool × BitVec 256) × Nat)} (h : AN w w' x r0 k0 c0 r1 k1 c1 Ls A) {l : List (Bool × BitVec 256)} {p : Nat} (hl : Ls[k0]? = some l) (hp : TB w' p l.length (Tb.mk (Tb.rf l) l.length) (fun b => Tb.mk (Tb.hf l b) l.length)) {g cg : Nat} (q1 : RV v (x + 1) (some ⟨g, 0, none⟩) (k0 + 1) cg (A.map (fun y : List (Bool × BitVec 256) × Nat => Value.pointer (some ⟨y.2, 0, none⟩)) ++ [.pointer (some ⟨p, 0, none⟩)]) 137) (q2 : Chg (rvB r0) w' v) :
    AN w (v.setCell ⟨x, 0, none⟩ (.slice (some ⟨g, 0, none⟩) (k0 + 1) cg)) x (some ⟨g, 0, none⟩) (k0 + 1) cg r1 k1 c1 Ls (A ++ [(l, p)]) := by
  obtain ⟨h1, h2, h3, h4, h5, h6, h7⟩ := h
  have e1 := rv_apart h2 h1 (by decide)
  have e2 := rv_apart2 h2 h3 (by decide)
  have k1' := h1.chg q2 e1
  have k3' := h3.chg q2 e2
  have hx := fun y : Nat => fun hy : y ∈ rvB r0 => (h2.lt y hy).1
  have ch : Chg [x] v (v.setCell ⟨x, 0, none⟩ (.slice (some ⟨g, 0, none⟩) (k0 + 1) cg)) := (Chg.refl [x] v).set (Or.inl (by simp)) _ _
  have a1 := rv_apart q1 k1' (by decide)
  have a3 := rv_apart k3' k1' (by decide)
  have bl := h6.size
  have bl2 := q2.size
  refine ⟨k1'.set 0 _, ?_, k3'.chg ch (fun y hy e => a3 (by simp at e; rw [← e]; exact hy)), ?_, ?_, ?_, h7⟩
  · rw [List.map_append]
    exact q1.chg ch (fun y hy e => a1 (by simp at e; rw [← e]; exact hy))
  · rw [map_fst_snoc, h4, List.take_add_one, hl]; rfl
  · intro i l' p' hi
    have tb : TB w' p' l'.length (Tb.mk (Tb.rf l') l'.length) (fun b => Tb.mk (Tb.hf l' b) l'.length) := by
      rw [List.getElem?_append] at hi
      split at hi
      · exact h5 i l' p' hi
      · have e : i - A.length = 0 := by
          rcases Nat.eq_zero_or_pos (i - A.length) with h | h
          · exact h
          · rw [List.getElem?_eq_none (by simp; omega)] at hi; cases hi
        rw [e] at hi
        injection hi with hi
        injection hi with hi1 hi2
        subst hi1 hi2
        exact hp
    have b1 := Blk.chg tb q2 (rv_apart h2 tb (by decide))
    refine Blk.chg b1 ch (fun e => ?_)
    simp at e
    subst e
    unfold Blk at b1 k1'
    rw [b1] at k1'
    injection k1' with k1'
    injection k1' with z1 z2
    exact absurd z2 (by decide)
  · have b2 := Chg.onto h6 q2 bl (fun y hy => by have := hx y hy; omega)
    exact Chg.onto b2 ch (by omega) (fun y hy => by simp at hy; omega)
/-- Behind the second one. -/
theorem AN.state {w w' v : World} {x k0 c0 k1 c1 : Nat} {r0 r1 : Option Addr} {Ls : List (List (Bool × BitVec 256))} {A : List (List (Bool × BitVec 256) × Nat)} (h : AN w w' x r0 k0 c0 r1 k1 c1 Ls A) {l : List (Bool × BitVec 256)} {y : Int} (hl : Ls[k1]? = some l) (hy : ((Tb.start l.length (Tb.mk (Tb.rf l) l.length)).toNat : Int) = y) {g cg : Nat} (q1 : RV v (x + 1) (some ⟨g, 0, none⟩) (k1 + 1) cg (ul (Ar.st0 Ls) k1 ++ [.int .u64 y]) 138) (q2 : Chg (rvB r1) w' v) :
    AN w (v.setCell ⟨x, 1, none⟩ (.slice (some ⟨g, 0, none⟩) (k1 + 1) cg)) x r0 k0 c0 (some ⟨g, 0, none⟩) (k1 + 1) cg Ls A := by
  obtain ⟨h1, h2, h3, h4, h5, h6, h7⟩ := h
  have e1 := rv_apart h3 h1 (by decide)
  have e2 := rv_apart2 h3 h2 (by decide)
  have k1' := h1.chg q2 e1
  have k2' := h2.chg q2 e2
  have hx := fun y : Nat => fun hy : y ∈ rvB r1 => (h3.lt y hy).1
  have ch : Chg [x] v (v.setCell ⟨x, 1, none⟩ (.slice (some ⟨g, 0, none⟩) (k1 + 1) cg)) := (Chg.refl [x] v).set (Or.inl (by simp)) _ _
  have a1 := rv_apart q1 k1' (by decide)
  have a3 := rv_apart k2' k1' (by decide)
  have bl := h6.size
  have bl2 := q2.size
  refine ⟨k1'.set 1 _, k2'.chg ch (fun y hy e => a3 (by simp at e; rw [← e]; exact hy)), ?_, h4, ?_, ?_, h7⟩
  · have eu : ul (Ar.st0 Ls) (k1 + 1) = ul (Ar.st0 Ls) k1 ++ [.int .u64 y] := by rw [ul_snoc, st0_at hl, hy]
    rw [eu]
    exact q1.chg ch (fun y hy e => a1 (by simp at e; rw [← e]; exact hy))
  · intro i l' p' hi
    have tb := h5 i l' p' hi
    have b1 := Blk.chg tb q2 (rv_apart h3 tb (by decide))
    refine Blk.chg b1 ch (fun e => ?_)
    simp at e
    subst e
    unfold Blk at b1 k1'
    rw [b1] at k1'
    injection k1' with k1'
    injection k1' with z1 z2
    exact absurd z2 (by decide)
  · have b2 := Chg.onto h6 q2 bl (fun y hy => by have := hx y hy; omega)
    exact Chg.onto b2 ch (by omega) (fun y hy => by simp at hy; omega)
theorem AN.after0 {w w' v : World} {x k0 c0 k1 c1 : Nat} {r0 r1 : Option Addr} {Ls : List (List (Bool × BitVec 256))} {A : List (List (Bool × BitVec 256) × Nat)} (h : AN w w' x r0 k0 c0 r1 k1 c1 Ls A) (q2 : Chg (rvB r0) w' v) : v.cell? ⟨x, 0, none⟩ = some (.slice r0 k0 c0) ∧ v.frozen? ⟨x, 0, none⟩ = false :=
  have k := h.1.chg q2 (rv_apart h.2.1 h.1 (by decide))
  ⟨Blk.cell k (i := 0) rfl, Blk.free k 0⟩
theorem AN.after1 {w w' v : World} {x k0 c0 k1 c1 : Nat} {r0 r1 : Option Addr} {Ls : List (List (Bool × BitVec 256))} {A : List (List (Bool × BitVec 256) × Nat)} (h : AN w w' x r0 k0 c0 r1 k1 c1 Ls A) (q2 : Chg (rvB r1) w' v) : v.cell? ⟨x, 1, none⟩ = some (.slice r1 k1 c1) ∧ v.frozen? ⟨x, 1, none⟩ = false :=
  have k := h.1.chg q2 (rv_apart h.2.2.1 h.1 (by decide))
  ⟨Blk.cell k (i := 1) rfl, Blk.free k 1⟩
theorem blk_apart {w : World} {b d : Nat} {cs ds : List Value} {T V : TypeId} (h : Blk w b cs T) (k : Blk w d ds V) (hT : T ≠ V) : b ≠ d := fun e => by
  subst e
  unfold Blk at h k
  rw [h] at k
  injection k with k
  injection k with z1 z2
  exact hT z2
theorem AN.done {w w' : World} {x n c0 c1 : Nat} {r0 r1 : Option Addr} {Ls : List (List (Bool × BitVec 256))} {A : List (List (Bool × BitVec 256) × Nat)} (h : AN w w' x r0 n c0 r1 n c1 Ls A) (hn : Ls.length = n) (h62 : ∀ l ∈ Ls, l.length ≤ 62) : (∃ gs, AR w' x gs c1 r0 c0 A n (Ar.st0 Ls) 0 ∧ x < gs) ∧ A.map Prod.fst = Ls := by
  have hlen := h.len
  obtain ⟨h1, h2, h3, h4, h5, h6, h7⟩ := h
  rw [List.take_of_length_le (by omega)] at h4
  refine ⟨?_, h4⟩
  have h62' : ∀ (i : Nat) (l : List (Bool × BitVec 256)) (p : Nat), A[i]? = some (l, p) → l.length ≤ 62 := fun i l p hi => h62 l (by
    rw [← h4]; exact List.mem_map.2 ⟨(l, p), List.mem_of_getElem? hi, rfl⟩)
  rcases Nat.eq_zero_or_pos n with hz | hz
  · subst hz
    refine ⟨x + 1, ⟨hlen, ⟨r1, fun h => by omega, h1⟩, fun h => by omega, fun i l p hi => ?_, by omega⟩, by omega⟩
    rw [List.getElem?_eq_none (by omega)] at hi; cases hi
  · obtain ⟨g0, e0, b0, rest0, z1, z2, z3⟩ := h2.row hz
    obtain ⟨g1, e1, b1, rest1, y1, y2, y3⟩ := h3.row hz
    subst e0 e1
    refine ⟨g1, ⟨hlen, ⟨_, fun _ => rfl, h1⟩, fun _ => ⟨rest1, y1, y2, y3⟩, fun i l p hi => ?_, by omega⟩, by omega⟩
    have tb := h5 i l p hi
    refine ⟨g0, 0, rfl, z3.lt, ?_, ?_, h62' i l p hi, ?_, tb⟩
    · have d1 := blk_apart z3 y3 (by decide)
      have d2 := blk_apart z3 h1 (by decide)
      simp; exact ⟨d2, d1⟩
    · have d1 := blk_apart tb y3 (by decide)
      have d2 := blk_apart tb h1 (by decide)
      simp; exact ⟨d2, d1⟩
    · rw [Nat.zero_add]
      have hi' : i < A.length := by
        rcases Nat.lt_or_ge i A.length with h | h
        · exact h
        · rw [List.getElem?_eq_none h] at hi; cases hi
      refine Blk.cell z3 ?_
      rw [List.getElem?_append_left (by simpa using hi'), List.getElem?_map, hi]; rfl
end Go.Proofs.Ytbdjcppkfihonaa
/- Arms: New. -/
namespace Go.Proofs.Ytbdjcppkfihonaa
open Go.ChangeShapes Go.WideShapes Go.ChangeAt Go.RowKit
set_option linter.unusedSimpArgs false
set_option linter.unusedVariables false

/-- What New tells. -/
def Ar.NewP (ss : List ByteArray) (n K e : Nat) (w : World) (r : Ending) (w' : World) : Prop := Below w.heap.size w w' ∧ ((e ≠ 0 ∧ r = .returned (.tuple #[.pointer none, .int .i64 K, .int .i64 e])) ∨ (e = 0 ∧ ∃ x gs cs b ca A, r = .returned (.tuple #[.pointer (some ⟨x, 0, none⟩), .int .i64 0, .int .i64 0]) ∧ AR w' x gs cs b ca A n (Ar.st0 (ss.map Ar.pat)) 0 ∧ A.map Prod.fst = ss.map Ar.pat ∧ w.heap.size ≤ x ∧ x < gs ∧ (0 < n → ∃ g0, b = some ⟨g0, 0, none⟩ ∧ Rw w' g0 ca (A.map (fun y : List (Bool × BitVec 256) × Nat => Value.pointer (some ⟨y.2, 0, none⟩))) 137)))
theorem infopt : (Try.prog.info? 137).map (fun i => (i.zero, i.size, i.bytes)) = some (some (.pointer none), 1, 8) := by kernel_rfl
theorem infou64 : (Try.prog.info? 138).map (fun i => (i.zero, i.size, i.bytes)) = some (some (.int .u64 0), 1, 8) := by kernel_rfl
theorem one_ptr (p : Option Addr) : ∀ u ∈ [Value.pointer p], u.oneCell' = true := by intro u hu; simp at hu; subst hu; rfl
theorem one_u (x : Int) : ∀ u ∈ [Value.int .u64 x], u.oneCell' = true := by intro u hu; simp at hu; subst hu; rfl
set_option maxRecDepth 20000 in
theorem ar_new_long (n : Nat) (hn8 : 8 < n) (a : Option Addr) (c : Nat) (w : World) :
    Calls Try.prog 65 #[.slice a n c] w fun r w' => r = .returned (.tuple #[.pointer none, .int .i64 0, .int .i64 4]) ∧ Below w.heap.size w w' := by
  have i1 : (8 : Int) < (n : Int) := by omega
  go_enter Try.func65, Try.ntmps65
  go_wp2
  go_ret3
  exact ⟨rfl, Below.refl _ _⟩
set_option maxRecDepth 20000 in
set_option maxHeartbeats 8000000 in
theorem ar_new (ss : List ByteArray) (n : Nat) (hn : ss.length = n) (hn8 : n ≤ 8) (a : Option Addr) (c : Nat) (hs : ∀ s ∈ ss, s.size ≤ 1000000) (K e : Nat) (hr : Ar.nw ss n = (K, e)) (w : World) (hI : TX w a ss) :
    Calls Try.prog 65 #[.slice a n c] w fun r w' => Ar.NewP ss n K e w r w' := by
  have HG := Lib.hid (And.intro hI hn)
  have HS := Lib.hid (And.intro hs hr)
  have i1 : ¬ (8 : Int) < (n : Int) := by omega
  have H1 : Hid (AN w (w.alloc (.cells #[.slice none 0 0, .slice none 0 0, .int .i64 0] 136)) w.heap.size none 0 0 none 0 0 (ss.map Ar.pat) []) := Lib.hid ⟨Blk.newA w #[.slice none 0 0, .slice none 0 0, .int .i64 0] 136, RV.nil _ _ _ (by simp), RV.nil _ _ _ (by simp), rfl, by intro i l p hi; simp at hi, (Below.refl _ _).alloc (Nat.le_refl _) _, Nat.le_refl _⟩
  clear hI hn hs hr
  go_enter Try.func65, Try.ntmps65
  go_upto_region 4 with fail
  revert H1
  generalize (w.alloc (.cells #[.slice none 0 0, .slice none 0 0, .int .i64 0] 136)) = V1
  intro H1
  go_wp2_with fail
  go_loopw [6, 7, 8, 9, 10, 18] (fun _ _ _ _ _ i wr => ∃ (k : Nat) (r0 : Option Addr) (d0 : Nat) (r1 : Option Addr) (d1 : Nat) (A : List (List (Bool × BitVec 256) × Nat)), i = .int .i64 k ∧ k ≤ n ∧ Hid (∀ i s, i < k → ss[i]? = some s → Ar.ck s = 0) ∧ Hid (AN w wr w.heap.size r0 k d0 r1 k d1 (ss.map Ar.pat) A)) (fun _ _ _ _ _ i _ => n - (intOf i).toNat)
  case atStart => exact ⟨0, none, 0, none, 0, [], rfl, by omega, Lib.hid (fun i s hi => by omega), H1⟩
  case round =>
    clear H1
    obtain ⟨k, r0, d0, r1, d1, A, rfl, hk, HF, HB⟩ := hrel
    have k0 : (0 : Int) ≤ (k : Int) := by omega
    by_cases hkl : k < n
    · have i2 : (k : Int) < (n : Int) := by omega
      obtain ⟨s, hsk⟩ : ∃ s, ss[k]? = some s := ⟨_, List.getElem?_eq_getElem (by rw [HG.out.2]; exact hkl)⟩
      have hs6 : s.size ≤ 1000000 := HS.out.1 s (List.mem_of_getElem? hsk)
      obtain ⟨hsm, gi, o, ha, hgi, cp⟩ := (HG.out.1.below HB.out.2.2.2.2.2.1) k s hsk
      subst ha
      obtain ⟨q, hq⟩ : ∃ q, Ar.ck s = q := ⟨_, rfl⟩
      by_cases hq0 : q = 0
      · subst hq0
        have HE : Hid (Ar.ck s = 0 ∧ (ss.map Ar.pat)[k]? = some (Ar.pat s)) := Lib.hid ⟨hq, by simp [hsk]⟩
        have HF2 : Hid (∀ i s, i < k + 1 → ss[i]? = some s → Ar.ck s = 0) := Lib.hid (fun i t hi ht => by
          by_cases e : i = k
          · rw [e, hsk] at ht; injection ht with ht; rw [← ht]; exact hq
          · exact HF.out i t (by omega) ht)
        have w1 : IntKind.i64.wrap ((k : Int) + 1) = (k : Int) + 1 := IntWalk.i64_in _ (by omega)
        obtain ⟨Y, hY⟩ : ∃ Y, Tb.start (Ar.pat s).length (Tb.mk (Tb.rf (Ar.pat s)) (Ar.pat s).length) = Y := ⟨_, rfl⟩
        obtain ⟨yv, hyv⟩ : ∃ v : Int, (Y.toNat : Int) = v := ⟨_, rfl⟩
        have HY := Lib.hid (And.intro hY (And.intro hyv (pat_len hq)))
        have hst : (((Tb.start (Ar.pat s).length (Tb.mk (Tb.rf (Ar.pat s)) (Ar.pat s).length)).toNat : Nat) : Int) = yv := by rw [hY, hyv]
        have HST := Lib.hid hst
        clear hsk hgi hq hY hyv hst
        go_upto_region 11 with (first
          | (go_at_call 82; with_reducible refine (ar_comp_ok s hs6 HE.out.1 _).mono ?_; rintro _ W1 ⟨p, rfl, ktb, hb1⟩; have HN := Lib.hid (And.intro ktb (HB.out.below hb1)); clear hb1 ktb; have c0 := HN.out.2.c0; have cf0 := HN.out.2.cf 0)
          | (at_builtin; refine wpList_append_rv _ rfl (.tmp 37) (.tmp 39) 133 133 rfl 137 (.pointer none) 8 Try.underlying133 infopt rfl (w.heap.size + 1) r0 k d0 (A.map (fun y : List (Bool × BitVec 256) × Nat => Value.pointer (some ⟨y.2, 0, none⟩))) rfl (HN.out.2.alloc _).2.1 _ rfl 1 (by omega) _ (Src.ofSlice _ Try.underlying133 ⟨_, 0, none⟩ 1 1 [.pointer (some ⟨p, 0, none⟩)] rfl (one_new _ _ _) (one_ptr _)) (by omega) (by omega) ?_; intro g2 cg2 W2 q1 _ q2; clear c0 cf0; have HM : Hid (AN w (W2.setCell ⟨w.heap.size, 0, none⟩ (.slice (some ⟨g2, 0, none⟩) (k + 1) cg2)) w.heap.size (some ⟨g2, 0, none⟩) (k + 1) cg2 r1 k d1 (ss.map Ar.pat) (A ++ [(Ar.pat s, p)])) := Lib.hid ((HN.out.2.alloc _).table HE.out.2 (HN.out.1.below ((Below.refl _ _).alloc (Nat.le_refl _) _)) q1 q2); have hnew := (HN.out.2.alloc _).after0 q2; have c0 := hnew.1; have cf0 := hnew.2; clear hnew q1 q2 HN))
        clear c0 cf0
        revert HM
        generalize (W2.setCell ⟨w.heap.size, 0, none⟩ (.slice (some ⟨g2, 0, none⟩) (k + 1) cg2)) = W3
        intro HM
        replace HM : Hid (AN w W3.drew w.heap.size (some ⟨g2, 0, none⟩) (k + 1) cg2 r1 k d1 (ss.map Ar.pat) (A ++ [(Ar.pat s, p)])) := Lib.hid HM.out.drew
        have c1 := HM.out.c1
        have cf1 := HM.out.cf 1
        have HTB := Lib.hid (HM.out.2.2.2.2.1 k (Ar.pat s) p (by rw [List.getElem?_append_right (by have := HM.out.len; simp at this; omega)]; have := HM.out.len; simp at this; rw [this]; simp))
        go_region_law (first
          | (refine step_append_rv rfl (.tmp 47) (.tmp 50) 134 134 rfl 138 (.int .u64 0) 8 Try.underlying134 infou64 rfl (w.heap.size + 1) r1 k d1 (ul (Ar.st0 (ss.map Ar.pat)) k) rfl (HP.out.alloc _).2.2.1 _ rfl 1 (by omega) _ (Src.ofSlice _ Try.underlying134 ⟨_, 0, none⟩ 1 1 [.int .u64 yv] rfl (one_new _ _ _) (one_u _)) (by omega) (by omega) ?_; intro g4 cg4 W5 q1 _ q2; clear c1 cf1 c1a; have HQ : Hid (AN w (W5.setCell ⟨w.heap.size, 1, none⟩ (.slice (some ⟨g4, 0, none⟩) (k + 1) cg4)) w.heap.size (some ⟨g2, 0, none⟩) (k + 1) cg2 (some ⟨g4, 0, none⟩) (k + 1) cg4 (ss.map Ar.pat) (A ++ [(Ar.pat s, p)])) := Lib.hid ((HP.out.alloc _).state HE.out.2 HST.out q1 q2); have hnew := (HP.out.alloc _).after1 q2; have c1 := hnew.1; have cf1 := hnew.2; clear hnew q1 q2 HP)
          | (rw [if_pos (by simp [Region.wanted])]; unfold Oper.wp; go_simp; go_at_call 83; refine (tb_start p (Ar.pat s).length (Tb.mk (Tb.rf (Ar.pat s)) (Ar.pat s).length) (fun b => Tb.mk (Tb.hf (Ar.pat s) b) (Ar.pat s).length) (by have := HY.out.2.2; omega) Y yv HY.out.1 HY.out.2.1 _ HTB.out).mono ?_; rintro _ W4 ⟨rfl, hb1⟩; clear c1 cf1; have HP := Lib.hid (HM.out.below hb1); clear hb1 HTB; have c1 := HP.out.c1; have cf1 := HP.out.cf 1; have c1a := (HP.out.alloc (.cells #[.int .u64 yv] 138)).c1))
        all_goals (
          go_wp2
          refine ⟨?_, ?measure⟩
          case measure => simp [intOf]; omega
          first
            | exact ⟨k + 1, _, _, _, _, _, by go_num, by omega, HF2, HQ⟩
            | ((repeat apply Exists.intro); exact ⟨⟨k + 1, _, _, _, _, _, by go_num, by omega, HF2, HQ⟩, rfl⟩))
      · obtain ⟨rfl, rfl⟩ : k = K ∧ q = e := by
          have := nw_bad ss k q s hsk hq hq0 HF.out n hkl
          rw [HS.out.2] at this
          injection this with a b; exact ⟨a.symm, b.symm⟩
        have HE : Hid (Ar.ck s = q ∧ q ≠ 0) := Lib.hid ⟨hq, hq0⟩
        have hqI : ((q : Int) == 0) = false := by rw [beq_eq_false_iff_ne]; omega
        clear hsk hgi hq
        go_wp2_with (go_at_call 82; with_reducible refine (ar_comp_no s hs6 q HE.out.1 HE.out.2 _).mono ?_; rintro _ W1 ⟨pl, rfl, hb1⟩; have HN := Lib.hid (HB.out.below hb1); clear hb1)
        go_ret3
        unfold Ar.NewP
        exact ⟨HN.out.2.2.2.2.2.1, Or.inl ⟨HE.out.2, rfl⟩⟩
    · obtain rfl : k = n := by omega
      have i2 : ¬ (k : Int) < (k : Int) := by omega
      have HE : Hid (K = 0 ∧ e = 0) := Lib.hid (by
        have := nw_ok ss k (by rw [HG.out.2]; omega) HF.out
        rw [HS.out.2] at this
        injection this with a b; exact ⟨a, b⟩)
      go_wp2
      go_ret3
      unfold Ar.NewP
      refine ⟨HB.out.2.2.2.2.2.1, Or.inr ⟨HE.out.2, ?_⟩⟩
      obtain ⟨⟨gs, z1, z3⟩, z2⟩ := HB.out.done (by rw [List.length_map, HG.out.2]) (fun l hl => by
        obtain ⟨s, hs, rfl⟩ := List.mem_map.1 hl
        obtain ⟨i, hi⟩ := List.mem_iff_getElem?.1 hs
        have hlt : i < ss.length := by
          rcases Nat.lt_or_ge i ss.length with h | h
          · exact h
          · rw [List.getElem?_eq_none h] at hi; cases hi
        have := pat_len (HF.out i s (by rw [← HG.out.2]; exact hlt) hi)
        omega)
      exact ⟨_, gs, _, _, _, A, rfl, z1, z2, Nat.le_refl _, z3, fun hn0 => by
        obtain ⟨g0, e0, _, q0⟩ := HB.out.2.1.row hn0
        exact ⟨g0, e0, q0⟩⟩
end Go.Proofs.Ytbdjcppkfihonaa
/- Arms: states by the patterns. -/
namespace Go.Proofs.Ytbdjcppkfihonaa
open Go.ChangeShapes Go.WideShapes Go.ChangeAt Go.RowKit
set_option linter.unusedSimpArgs false
set_option linter.unusedVariables false

/-- The states behind a byte more; which patterns are done. -/
def Ar.stp (Ls : List (List (Bool × BitVec 256))) (b : Nat) (f : Nat → BitVec 64) (i : Nat) : BitVec 64 := match Ls[i]? with
  | some l => Tb.seek l.length (Tb.mk (Tb.rf l) l.length) (Tb.mk (Tb.hf l b) l.length) (f i)
  | none => 0
def Ar.dn (Ls : List (List (Bool × BitVec 256))) (st : Nat → BitVec 64) (i : Nat) : Bool := match Ls[i]? with
  | some l => (Tb.whole l.length (Tb.mk (Tb.rf l) l.length) (st i)).getLsbD l.length
  | none => false
theorem fst_at {A : List (List (Bool × BitVec 256) × Nat)} {Ls : List (List (Bool × BitVec 256))} (h : A.map Prod.fst = Ls) {i : Nat} {l : List (Bool × BitVec 256)} {p : Nat} (hi : A[i]? = some (l, p)) : Ls[i]? = some l := by
  rw [← h, List.getElem?_map, hi]; rfl
theorem ar_feed2 (Ls : List (List (Bool × BitVec 256))) (x gs cs ca n fed : Nat) (a : Option Addr) (A : List (List (Bool × BitVec 256) × Nat)) (hA : A.map Prod.fst = Ls) (f st : Nat → BitVec 64) (b : Nat) (hb : b < 256) (hst : Ar.stp Ls b f = st) (hn : n ≤ 1000) (hfed : fed ≤ 1000000) (r : Nat) (ok : Bool) (hr : Ar.fs (Ar.dn Ls st) n = (r, ok)) (w : World) (h : AR w x gs cs a ca A n f fed) :
    Calls Try.prog 63 #[.pointer (some ⟨x, 0, none⟩), .int .u8 b] w fun e w' => e = .returned (.tuple #[.int .i64 r, .bool ok]) ∧ AR w' x gs cs a ca A n st (fed + 1) ∧ Chg [x, gs] w w' :=
  ar_feed x gs cs ca n fed a A f st b hb (Ar.dn Ls st) hn hfed (fun i l p hi => by
    have hl := fst_at hA hi
    subst hst
    refine ⟨by unfold Ar.stp; rw [hl], by unfold Ar.dn; rw [hl]⟩) r ok hr w h
theorem ar_reset2 (Ls : List (List (Bool × BitVec 256))) (x gs cs ca n fed : Nat) (a : Option Addr) (A : List (List (Bool × BitVec 256) × Nat)) (hA : A.map Prod.fst = Ls) (f st : Nat → BitVec 64) (hst : Ar.st0 Ls = st) (hn : n ≤ 1000) (w : World) (h : AR w x gs cs a ca A n f fed) :
    Calls Try.prog 81 #[.pointer (some ⟨x, 0, none⟩)] w fun e w' => e = .returned (.tuple #[]) ∧ AR w' x gs cs a ca A n st 0 ∧ Chg [x, gs] w w' :=
  ar_reset x gs cs ca n fed a A f st hn (fun i l p hi => by rw [← hst, st0_at (fst_at hA hi)]) w h
theorem lv_nw : Ar.nw [({ data := #[111, 107] } : ByteArray), ({ data := #[111] } : ByteArray)] 2 = (0, 0) := by decide +kernel
theorem lv_f1 : Ar.fs (Ar.dn ([({ data := #[111, 107] } : ByteArray), ({ data := #[111] } : ByteArray)].map Ar.pat) (Ar.stp ([({ data := #[111, 107] } : ByteArray), ({ data := #[111] } : ByteArray)].map Ar.pat) 111 (Ar.st0 ([({ data := #[111, 107] } : ByteArray), ({ data := #[111] } : ByteArray)].map Ar.pat)))) 2 = (1, true) := by decide +kernel
theorem lv_f2 : Ar.fs (Ar.dn ([({ data := #[111, 107] } : ByteArray), ({ data := #[111] } : ByteArray)].map Ar.pat) (Ar.stp ([({ data := #[111, 107] } : ByteArray), ({ data := #[111] } : ByteArray)].map Ar.pat) 107 (Ar.stp ([({ data := #[111, 107] } : ByteArray), ({ data := #[111] } : ByteArray)].map Ar.pat) 111 (Ar.st0 ([({ data := #[111, 107] } : ByteArray), ({ data := #[111] } : ByteArray)].map Ar.pat))))) 2 = (0, true) := by decide +kernel
theorem lv_tx (w : World) : TX (w.alloc (.cells #[.string ({ data := #[111, 107] } : ByteArray), .string ({ data := #[111] } : ByteArray)] 9)) (some ⟨w.heap.size, 0, none⟩) [({ data := #[111, 107] } : ByteArray), ({ data := #[111] } : ByteArray)] := by
  intro i s hi
  have hb := Blk.newA w #[.string ({ data := #[111, 107] } : ByteArray), .string ({ data := #[111] } : ByteArray)] 9
  refine ⟨?_, w.heap.size, 0, rfl, by simp, ?_⟩
  · have : s ∈ [({ data := #[111, 107] } : ByteArray), ({ data := #[111] } : ByteArray)] := List.mem_of_getElem? hi
    simp at this
    rcases this with rfl | rfl <;> decide
  · rw [Nat.zero_add]
    refine Blk.cell hb ?_
    match i, hi with
    | 0, hi => injection hi with hi; subst hi; rfl
    | 1, hi => injection hi with hi; subst hi; rfl
    | i + 2, hi => simp at hi
theorem ar_feed3 (Ls : List (List (Bool × BitVec 256))) (x gs cs ca n fed : Nat) (a : Option Addr) (A : List (List (Bool × BitVec 256) × Nat)) (hA : A.map Prod.fst = Ls) (f st : Nat → BitVec 64) (b : Nat) (hb : b < 256) (bi : Int) (hbi : bi = b) (hst : Ar.stp Ls b f = st) (hn : n ≤ 1000) (hfed : fed ≤ 1000000) (r : Nat) (ok : Bool) (hr : Ar.fs (Ar.dn Ls st) n = (r, ok)) (ri : Int) (hri : ri = r) (fed2 : Nat) (hf2 : fed2 = fed + 1) (w : World) (h : AR w x gs cs a ca A n f fed) :
    Calls Try.prog 63 #[.pointer (some ⟨x, 0, none⟩), .int .u8 bi] w fun e w' => e = .returned (.tuple #[.int .i64 ri, .bool ok]) ∧ AR w' x gs cs a ca A n st fed2 ∧ Chg [x, gs] w w' := by
  subst hbi hri hf2
  exact ar_feed2 Ls x gs cs ca n fed a A hA f st b hb hst hn hfed r ok hr w h
theorem ar_new_lives (L : List (List (Bool × BitVec 256))) (hL : [({ data := #[111, 107] } : ByteArray), ({ data := #[111] } : ByteArray)].map Ar.pat = L) (f0 : Nat → BitVec 64) (hf0 : Ar.st0 L = f0) (w : World) (v : World) (hv : v = w.alloc (.cells #[.string ({ data := #[111, 107] } : ByteArray), .string ({ data := #[111] } : ByteArray)] 9)) :
    Calls Try.prog 65 #[.slice (some ⟨w.heap.size, 0, none⟩) 2 2] v fun r w' => ∃ x gs cs b ca A, r = .returned (.tuple #[.pointer (some ⟨x, 0, none⟩), .int .i64 0, .int .i64 0]) ∧ AR w' x gs cs b ca A 2 f0 0 ∧ A.map Prod.fst = L ∧ w.heap.size ≤ x ∧ w.heap.size ≤ gs ∧ Below w.heap.size w w' := by
  subst hv
  refine (ar_new [({ data := #[111, 107] } : ByteArray), ({ data := #[111] } : ByteArray)] 2 rfl (by omega) _ 2 (by intro s hs; simp at hs; rcases hs with rfl | rfl <;> decide) 0 0 lv_nw _ (lv_tx w)).mono fun r w' ⟨h1, h2⟩ => ?_
  rw [hL, hf0] at h2
  rcases h2 with ⟨h, _⟩ | ⟨_, x, gs, cs, b, ca, A, h3, h4, h5, h6, h7, h8⟩
  · exact absurd rfl h
  · have hb : Below w.heap.size w w' := ((Below.refl _ _).alloc (Nat.le_refl _) _).trans (h1.mono (by simp))
    rw [World.size_alloc] at h6
    exact ⟨x, gs, cs, b, ca, A, h3, h4, h5, by omega, by omega, hb⟩
theorem lv_all : ∃ (L : List (List (Bool × BitVec 256))) (f0 f1 f2 : Nat → BitVec 64), [({ data := #[111, 107] } : ByteArray), ({ data := #[111] } : ByteArray)].map Ar.pat = L ∧ Ar.st0 L = f0 ∧ Ar.stp L 111 f0 = f1 ∧ Ar.stp L 107 f1 = f2 ∧ Ar.fs (Ar.dn L f1) 2 = (1, true) ∧ Ar.fs (Ar.dn L f2) 2 = (0, true) := ⟨_, _, _, _, rfl, rfl, rfl, rfl, lv_f1, lv_f2⟩
end Go.Proofs.Ytbdjcppkfihonaa
/- Arms: Find. -/
namespace Go.Proofs.Ytbdjcppkfihonaa
open Go.ChangeShapes Go.WideShapes Go.ChangeAt Go.RowKit
set_option linter.unusedSimpArgs false
set_option linter.unusedVariables false

/-- The states behind k bytes, from the start. -/
def Ar.stk (Ls : List (List (Bool × BitVec 256))) (T : LgT) : Nat → Nat → BitVec 64
  | 0 => Ar.st0 Ls
  | k + 1 => Ar.stp Ls (T k).toNat (Ar.stk Ls T k)
/-- They say of each pattern what holds behind k bytes. -/
def Ar.ats (Ls : List (List (Bool × BitVec 256))) (T : LgT) (k : Nat) (f : Nat → BitVec 64) : Prop := ∀ i l, Ls[i]? = some l → Tb.at l l.length T k (f i)
theorem ats_zero {Ls : List (List (Bool × BitVec 256))} (h62 : ∀ l ∈ Ls, l.length ≤ 62) (T : LgT) : Ar.ats Ls T 0 (Ar.st0 Ls) := fun i l hi => by
  rw [st0_at hi]; exact start_at l l.length (h62 l (List.mem_of_getElem? hi)) T
theorem ats_step {Ls : List (List (Bool × BitVec 256))} (h62 : ∀ l ∈ Ls, l.length ≤ 62) {T : LgT} {k : Nat} {f : Nat → BitVec 64} (h : Ar.ats Ls T k f) {b : Nat} (hb : (T k).toNat = b) : Ar.ats Ls T (k + 1) (Ar.stp Ls b f) := fun i l hi => by
  unfold Ar.stp; rw [hi]
  exact seek_at (h62 l (List.mem_of_getElem? hi)) (h i l hi) hb
theorem ats_stk {Ls : List (List (Bool × BitVec 256))} (h62 : ∀ l ∈ Ls, l.length ≤ 62) (T : LgT) : ∀ k, Ar.ats Ls T k (Ar.stk Ls T k)
  | 0 => ats_zero h62 T
  | k + 1 => ats_step h62 (ats_stk h62 T k) rfl
theorem ats_done {Ls : List (List (Bool × BitVec 256))} (h62 : ∀ l ∈ Ls, l.length ≤ 62) {t : List UInt8} {k : Nat} {f : Nat → BitVec 64} (h : Ar.ats Ls (lgT t) k f) {i : Nat} {l : List (Bool × BitVec 256)} (hi : Ls[i]? = some l) : Lg.occ l t k = Ar.dn Ls f i := by
  unfold Ar.dn; rw [hi]
  exact (done_at (h62 l (List.mem_of_getElem? hi)) rfl (h i l hi)).symm
theorem infou64b : (Try.prog.info? 138).map (fun i => (i.zero, i.size, i.bytes)) = some (some (.int .u64 0), 1, 8) := by kernel_rfl
theorem ar_fresh {w : World} {x gs cs ca n fed : Nat} {a : Option Addr} {A : List (List (Bool × BitVec 256) × Nat)} {f : Nat → BitVec 64} (h : AR w x gs cs a ca A n f fed) (hn : n ≤ 1000) : AR ((w.alloc (.cells (Array.replicate n (.int .u64 0)) 138)).alloc (.cells #[.slice a n ca, .slice (some ⟨w.heap.size, 0, none⟩) n n, .int .i64 0] 136)).drew (w.heap.size + 1) w.heap.size n a ca A n (fun _ => 0) 0 ∧ Below w.heap.size w ((w.alloc (.cells (Array.replicate n (.int .u64 0)) 138)).alloc (.cells #[.slice a n ca, .slice (some ⟨w.heap.size, 0, none⟩) n n, .int .i64 0] 136)).drew := by
  obtain ⟨h1, ⟨b, hb, h2⟩, h3, h4, h5⟩ := h
  have hbl : Below w.heap.size w ((w.alloc (.cells (Array.replicate n (.int .u64 0)) 138)).alloc (.cells #[.slice a n ca, .slice (some ⟨w.heap.size, 0, none⟩) n n, .int .i64 0] 136)).drew := (((Below.refl _ _).alloc (Nat.le_refl _) _).alloc (by simp) _).drew
  have hr := Blk.newA w (Array.replicate n (.int .u64 0)) 138
  have hr2 := hr.alloc (.cells #[.slice a n ca, .slice (some ⟨w.heap.size, 0, none⟩) n n, .int .i64 0] 136)
  rw [Array.toList_replicate] at hr2
  have hul : ul (fun _ => 0) n = List.replicate n (.int .u64 0) := by
    unfold ul
    apply List.ext_getElem?
    intro j
    by_cases hj : j < n
    · simp [hj]
    · rw [List.getElem?_eq_none (by simp; omega), List.getElem?_eq_none (by simp; omega)]
  refine ⟨⟨h1, ⟨_, fun _ => rfl, ?_⟩, fun _ => ⟨[], by simp [ul_length], by omega, ?_⟩, ?_, by omega⟩, hbl⟩
  · have := Blk.newA (w.alloc (.cells (Array.replicate n (.int .u64 0)) 138)) #[.slice a n ca, .slice (some ⟨w.heap.size, 0, none⟩) n n, .int .i64 0] 136
    simpa using this.drew
  · rw [List.append_nil, hul]; exact hr2.drew
  · intro i l p hi
    obtain ⟨g, o, z1, z2, z3, z4, z5, z6, z7⟩ := h4 i l p hi
    have zp : p < w.heap.size := Blk.lt z7
    refine ⟨g, o, z1, Nat.lt_of_lt_of_le z2 hbl.size, by simp; omega, by simp; omega, z5, ?_, TB.below z7 hbl⟩
    rw [← z6]
    exact Chg.cell (l := []) (Chg.of_fresh hbl) z2 (by simp)
end Go.Proofs.Ytbdjcppkfihonaa
/- Arms: the document's New. -/
namespace Go.Proofs.Ytbdjcppkfihonaa
open Go.ChangeShapes Go.WideShapes Go.ChangeAt Go.RowKit
set_option linter.unusedSimpArgs false
set_option linter.unusedVariables false

theorem ik_apart {w : World} {g c : Nat} {vs : List Value} {T : TypeId} {a : Option Addr} {l : List (Bool × BitVec 256)} (h : Rw w g c vs T) (hv : ∀ v, vs[0]? = some v → ∃ r n c, v = .slice r n c) (hz : vs = [] → c = 0) (k : IK w a l) {w' : World} (q : Chg [g] w w') : IK w' a l := by
  refine ⟨?_, k.2⟩
  rcases k.1 with e | ⟨b, e, h1, h2⟩
  · exact Or.inl e
  · cases l with
    | nil => exact Or.inl rfl
    | cons y l =>
      obtain ⟨r, X⟩ := y
      have h0 : w.cell? ⟨b, 0, none⟩ = some (.bool r) := h2 0 (.bool r) (by simp [its, Cs.it])
      have hne : b ≠ g := fun e => by
        subst e
        cases vs with
        | nil =>
          obtain ⟨rest, z1, z2, z3⟩ := h
          rw [hz rfl] at z1
          obtain rfl : rest = [] := List.length_eq_zero_iff.1 (by simpa using z1)
          unfold World.cell? at h0
          unfold Blk at z3
          simp [z3] at h0
        | cons v vs =>
          obtain ⟨r', n', c', hv'⟩ := hv v rfl
          have := h.cell (j := 0) (v := v) rfl
          rw [this, hv'] at h0
          cases h0
      refine Or.inr ⟨b, e, Nat.lt_of_lt_of_le h1 q.size, fun i v hi => ?_⟩
      rw [← h2 i v hi]
      exact q.cell h1 (by simpa using hne)
/-- What the document's New tells. -/
def Ar.NewQ (ss : List ByteArray) (n K e : Nat) (w : World) (r : Ending) (w' : World) : Prop := Below w.heap.size w w' ∧ ((e ≠ 0 ∧ r = .returned (.tuple #[.slice none 0 0, .int .i64 K, .int .i64 e])) ∨ (e = 0 ∧ ∃ g c, r = .returned (.tuple #[.slice (some ⟨g, 0, none⟩) n c, .int .i64 0, .int .i64 0]) ∧ w.heap.size ≤ g ∧ LL w' (some ⟨g, 0, none⟩) (ss.map Ar.pat)))
/-- A row of patterns half made. -/
def LN (w w' : World) (g c k : Nat) (vs : List Value) (Ls : List (List (Bool × BitVec 256))) : Prop := Rw w' g c vs 119 ∧ vs.length = k ∧ (vs = [] → c = 0) ∧ (∀ (i : Nat) (v : Value), vs[i]? = some v → ∃ r n c, v = .slice r n c) ∧ (∀ (i : Nat) (l : List (Bool × BitVec 256)), i < k → Ls[i]? = some l → ∃ ai ci, vs[i]? = some (.slice ai l.length ci) ∧ IK w' ai l) ∧ w.heap.size ≤ g ∧ Below w.heap.size w w'
theorem LN.below {w w' v : World} {g c k : Nat} {vs : List Value} {Ls : List (List (Bool × BitVec 256))} (h : LN w w' g c k vs Ls) (q : Below w'.heap.size w' v) : LN w v g c k vs Ls := by
  obtain ⟨h1, h2, h3, h4, h5, h6, h7⟩ := h
  exact ⟨h1.chg (Chg.of_fresh (l := []) q) (by simp), h2, h3, h4, fun i l hi hl => by obtain ⟨ai, ci, z1, z2⟩ := h5 i l hi hl; exact ⟨ai, ci, z1, z2.below q⟩, h6, h7.trans (q.mono h7.size)⟩
theorem LN.app {w w' v : World} {g c k : Nat} {vs : List Value} {Ls : List (List (Bool × BitVec 256))} (h : LN w w' g c k vs Ls) {l : List (Bool × BitVec 256)} {ai : Option Addr} {ci : Nat} (hl : Ls[k]? = some l) (hk : IK w' ai l) {g' c' : Nat} (q1 : Rw v g' c' (vs ++ [.slice ai l.length ci]) 119) (q2 : g' = g ∨ w'.heap.size ≤ g') (q3 : Chg [g] w' v) : LN w v g' c' (k + 1) (vs ++ [.slice ai l.length ci]) Ls := by
  obtain ⟨h1, h2, h3, h4, h5, h6, h7⟩ := h
  have hsz := h7.size
  have hap := fun {a : Option Addr} {l : List (Bool × BitVec 256)} (z : IK w' a l) => ik_apart h1 (h4 0) h3 z q3
  refine ⟨q1, by simp [h2], fun e => by simp at e, ?_, ?_, by omega, Chg.onto h7 q3 hsz (by simp; omega)⟩
  · intro i u hi
    rw [List.getElem?_append] at hi
    split at hi
    · exact h4 i u hi
    · have hm := List.mem_of_getElem? hi
      simp at hm
      exact ⟨_, _, _, hm⟩
  · intro i l' hi hl'
    by_cases e : i = k
    · subst e
      rw [hl] at hl'
      injection hl' with hl'
      subst hl'
      exact ⟨ai, ci, by rw [List.getElem?_append_right (by omega), h2]; simp, hap hk⟩
    · obtain ⟨aj, cj, z1, z2⟩ := h5 i l' (by omega) hl'
      exact ⟨aj, cj, by rw [List.getElem?_append_left (by omega)]; exact z1, hap z2⟩
theorem LN.done {w w' : World} {g c n : Nat} {vs : List Value} {Ls : List (List (Bool × BitVec 256))} (h : LN w w' g c n vs Ls) (hn : Ls.length = n) (h60 : ∀ l ∈ Ls, l.length ≤ 62) : LL w' (some ⟨g, 0, none⟩) Ls := fun i l hi => by
  obtain ⟨h1, h2, h3, h4, h5, h6, h7⟩ := h
  have hlt : i < Ls.length := by
    rcases Nat.lt_or_ge i Ls.length with h | h
    · exact h
    · rw [List.getElem?_eq_none h] at hi; cases hi
  obtain ⟨ai, ci, z1, z2⟩ := h5 i l (by omega) hi
  have := h60 l (List.mem_of_getElem? hi)
  refine ⟨by omega, g, 0, ai, ci, rfl, h1.lt, ?_, z2⟩
  rw [Nat.zero_add]
  exact h1.cell z1
theorem infoit : (Try.prog.info? 119).map (fun i => (i.zero, i.size, i.bytes)) = some (some (.slice none 0 0), 1, 24) := by kernel_rfl
theorem one_sl (r : Option Addr) (n c : Nat) : ∀ u ∈ [Value.slice r n c], u.oneCell' = true := by intro u hu; simp at hu; subst hu; rfl
set_option maxRecDepth 20000 in
theorem rk_new_long (n : Nat) (hn8 : 8 < n) (a : Option Addr) (c : Nat) (w : World) :
    Calls Try.prog 48 #[.slice a n c] w fun r w' => r = .returned (.tuple #[.slice none 0 0, .int .i64 0, .int .i64 4]) ∧ Below w.heap.size w w' := by
  have i1 : (8 : Int) < (n : Int) := by omega
  go_enter Try.func48, Try.ntmps48
  go_wp2
  go_ret3
  exact ⟨rfl, (Below.refl _ _).alloc (Nat.le_refl _) _⟩
set_option maxRecDepth 20000 in
set_option maxHeartbeats 8000000 in
theorem rk_new (hC : ∀ (s : ByteArray) (l : List UInt8), s.size ≤ 1000000 → s.data.toList = l → ∀ (X : BitVec 256) (n e : Nat), Cs.rdC l = (X, n, e) → ∀ w, Calls Try.prog 94 #[.string s] w fun r w' => r = .returned (.tuple #[Cs.sv X, .int .i64 n, .int .i64 e]) ∧ Below w.heap.size w w')
    (ss : List ByteArray) (n : Nat) (hn : ss.length = n) (hn8 : n ≤ 8) (a : Option Addr) (c : Nat) (hs : ∀ s ∈ ss, s.size ≤ 1000000) (K e : Nat) (hr : Ar.nw ss n = (K, e)) (w : World) (hI : TX w a ss) :
    Calls Try.prog 48 #[.slice a n c] w fun r w' => Ar.NewQ ss n K e w r w' := by
  have HCd := Lib.hid hC
  have HG := Lib.hid (And.intro hI hn)
  have HS := Lib.hid (And.intro hs hr)
  have i1 : ¬ (8 : Int) < (n : Int) := by omega
  have H1 : Hid (LN w (w.alloc (.cells #[] 119)) w.heap.size 0 0 [] (ss.map Ar.pat)) := Lib.hid ⟨Rw.empty w 119, rfl, fun _ => rfl, by intro i v hi; simp at hi, by intro i l hi; omega, Nat.le_refl _, (Below.refl _ _).alloc (Nat.le_refl _) _⟩
  clear hI hn hs hr hC
  go_enter Try.func48, Try.ntmps48
  go_upto_region 2 with fail
  revert H1
  generalize w.alloc (.cells #[] 119) = V1
  intro H1
  go_wp2_with fail
  go_loopw [5, 6, 7, 8, 9] (fun v i _ _ _ wr => ∃ (k g c' : Nat) (vs : List Value), v = .slice (some ⟨g, 0, none⟩) k c' ∧ i = .int .i64 k ∧ k ≤ n ∧ Hid (∀ i s, i < k → ss[i]? = some s → Ar.ck s = 0) ∧ Hid (LN w wr g c' k vs (ss.map Ar.pat))) (fun _ i _ _ _ _ => n - (intOf i).toNat)
  case atStart => exact ⟨0, w.heap.size, 0, [], rfl, rfl, by omega, Lib.hid (fun i s hi => by omega), H1⟩
  case round =>
    clear H1
    obtain ⟨k, g, c', vs, rfl, rfl, hk, HF, HB⟩ := hrel
    have k0 : (0 : Int) ≤ (k : Int) := by omega
    by_cases hkl : k < n
    · have i2 : (k : Int) < (n : Int) := by omega
      obtain ⟨s, hsk⟩ : ∃ s, ss[k]? = some s := ⟨_, List.getElem?_eq_getElem (by rw [HG.out.2]; exact hkl)⟩
      have hs6 : s.size ≤ 1000000 := HS.out.1 s (List.mem_of_getElem? hsk)
      obtain ⟨hsm, gi, o, ha, hgi, cp⟩ := (HG.out.1.below HB.out.2.2.2.2.2.2) k s hsk
      subst ha
      obtain ⟨q, hq⟩ : ∃ q, Ar.ck s = q := ⟨_, rfl⟩
      by_cases hq0 : q = 0
      · subst hq0
        have HE : Hid (Ar.ck s = 0 ∧ (ss.map Ar.pat)[k]? = some (Ar.pat s)) := Lib.hid ⟨hq, by simp [hsk]⟩
        have HF2 : Hid (∀ i s, i < k + 1 → ss[i]? = some s → Ar.ck s = 0) := Lib.hid (fun i t hi ht => by
          by_cases e : i = k
          · rw [e, hsk] at ht; injection ht with ht; rw [← ht]; exact hq
          · exact HF.out i t (by omega) ht)
        have w1 : IntKind.i64.wrap ((k : Int) + 1) = (k : Int) + 1 := IntWalk.i64_in _ (by omega)
        clear hsk hgi hq
        go_wp2_with (first
          | (go_at_call 67; with_reducible refine (rk_good HCd.out s hs6 HE.out.1 _).mono ?_; rintro _ W1 ⟨ai, ci, rfl, h1, hb1⟩; have HN := Lib.hid (And.intro h1 (HB.out.below hb1)); clear h1 hb1)
          | (at_builtin; refine wpList_append_rw _ rfl (.tmp 33) (.tmp 35) 59 59 rfl 119 (.slice none 0 0) 24 Try.underlying59 infoit rfl g k c' vs rfl HN.out.2.2.1 (HN.out.2.1.chg ((Chg.refl [] _).alloc _) (by simp)) _ rfl 1 _ (Src.ofSlice _ Try.underlying59 ⟨_, 0, none⟩ 1 1 [.slice ai (Ar.pat s).length ci] rfl (one_new _ _ _) (one_sl _ _ _)) (by omega) (by omega) ?_; intro g4 c4 w4 r1 r2 r3; have HQ : Hid (LN w w4 g4 c4 (k + 1) (vs ++ [.slice ai (Ar.pat s).length ci]) (ss.map Ar.pat)) := Lib.hid ((HN.out.2.below ((Below.refl _ _).alloc (Nat.le_refl _) _)).app HE.out.2 (HN.out.1.below ((Below.refl _ _).alloc (Nat.le_refl _) _)) r1 r2 r3); clear r1 r2 r3 HN))
        refine ⟨?_, ?measure⟩
        case measure => simp [intOf]; omega
        first
          | exact ⟨k + 1, _, _, _, by go_num, by go_num, by omega, HF2, HQ⟩
          | ((repeat apply Exists.intro); exact ⟨⟨k + 1, _, _, _, by go_num, by go_num, by omega, HF2, HQ⟩, rfl⟩)
      · obtain ⟨rfl, rfl⟩ : k = K ∧ q = e := by
          have := nw_bad ss k q s hsk hq hq0 HF.out n hkl
          rw [HS.out.2] at this
          injection this with a b; exact ⟨a.symm, b.symm⟩
        have HE : Hid (Ar.ck s = q ∧ q ≠ 0) := Lib.hid ⟨hq, hq0⟩
        have hqI : ((q : Int) == 0) = false := by rw [beq_eq_false_iff_ne]; omega
        obtain ⟨P, hP⟩ : ∃ P, Ar.pl s = P := ⟨_, rfl⟩
        have HP := Lib.hid hP
        clear hsk hgi hq hP
        go_wp2_with (go_at_call 67; with_reducible refine (rk_check HCd.out s hs6 P q HP.out HE.out.1 _).mono ?_; rintro _ W1 ⟨v, rfl, hb1⟩; have HN := Lib.hid (HB.out.below hb1); clear hb1)
        go_ret3
        unfold Ar.NewQ
        exact ⟨HN.out.2.2.2.2.2.2, Or.inl ⟨HE.out.2, rfl⟩⟩
    · obtain rfl : k = n := by omega
      have i2 : ¬ (k : Int) < (k : Int) := by omega
      have HE : Hid (K = 0 ∧ e = 0) := Lib.hid (by
        have := nw_ok ss k (by rw [HG.out.2]; omega) HF.out
        rw [HS.out.2] at this
        injection this with a b; exact ⟨a, b⟩)
      go_wp2
      go_ret3
      unfold Ar.NewQ
      refine ⟨HB.out.2.2.2.2.2.2, Or.inr ⟨HE.out.2, _, _, rfl, HB.out.2.2.2.2.2.1, HB.out.done (by rw [List.length_map, HG.out.2]) (fun l hl => ?_)⟩⟩
      obtain ⟨s, hs, rfl⟩ := List.mem_map.1 hl
      obtain ⟨i, hi⟩ := List.mem_iff_getElem?.1 hs
      have hlt : i < ss.length := by
        rcases Nat.lt_or_ge i ss.length with h | h
        · exact h
        · rw [List.getElem?_eq_none h] at hi; cases hi
      have := pat_len (HF.out i s (by rw [← HG.out.2]; exact hlt) hi)
      omega
end Go.Proofs.Ytbdjcppkfihonaa
