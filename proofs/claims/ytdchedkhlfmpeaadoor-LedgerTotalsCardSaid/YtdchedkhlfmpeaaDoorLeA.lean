/- Several texts in one. -/
import Derived.Test.YtdchedkhlfmpeaaDoorEv18
import Derived.WalkKit
import Derived.ProofKit
import Derived.Handy
import Derived.WalkLawsBesides
import Derived.WalkSpells
import Derived.Lib.Hide
import Derived.Lib.SliceRun
import Derived.Deep.RegionLaw
import Derived.RegionTactic
import Derived.ChangeAlike
import Derived.WalkSmall
import Derived.Deep.QuietTactic
import Derived.BigQuiet
import Derived.OwnWalk
import Derived.Outline
import Derived.Deep.CutRange
import Derived.Deep.CutBlock
import Derived.LoopTactic
import Derived.Test.YtdchedkhlfmpeaaDoorCpB
/- Ledger: rows; jumped. -/
namespace Go.Proofs.YtdchedkhlfmpeaaDoor
open Go.ChangeShapes Go.WideShapes Go.ChangeAt Go.RowKit
set_option linter.unusedSimpArgs false
set_option linter.unusedVariables false

/-- One's row. -/
structure Le.R where
  (i sc fr st lo ju rd tk ss en : Int)
def Le.R.c (x : Le.R) : List Value := [.int .i64 x.i, .int .i64 x.sc, .int .i64 x.fr, .int .i64 x.st, .int .i64 x.lo, .int .i64 x.ju, .int .i64 x.rd, .int .i64 x.tk, .int .i64 x.ss, .int .i64 x.en]
theorem Le.R.c_len (x : Le.R) : x.c.length = 10 := rfl
theorem Le.R.c_one (x : Le.R) : ∀ v ∈ x.c, v.oneCell' = true := by
  intro v hv
  simp only [Le.R.c, List.mem_cons, List.not_mem_nil, or_false] at hv
  rcases hv with rfl | rfl | rfl | rfl | rfl | rfl | rfl | rfl | rfl | rfl <;> rfl
def Le.isL (x : Ev) : Bool := x.s2 == 1
def Le.isJ (x : Ev) : Bool := (x.s2 == 2 || x.s2 == 3 || x.s2 == 4 || x.s2 == 7) && x.s5 == 0
def Le.nL (S : List Ev) : Nat := S.countP Le.isL
def Le.nJ (S : List Ev) : Nat := S.countP Le.isJ
theorem Le.nL_snoc (S : List Ev) (x : Ev) : Le.nL (S ++ [x]) = if Le.isL x = true then Le.nL S + 1 else Le.nL S := by unfold Le.nL; rw [List.countP_append]; simp [List.countP_cons]; split <;> simp_all
theorem Le.nJ_snoc (S : List Ev) (x : Ev) : Le.nJ (S ++ [x]) = if Le.isJ x = true then Le.nJ S + 1 else Le.nJ S := by unfold Le.nJ; rw [List.countP_append]; simp [List.countP_cons]; split <;> simp_all
theorem Le.nL_le (S : List Ev) : Le.nL S ≤ S.length := List.countP_le_length
theorem Le.nJ_le (S : List Ev) : Le.nJ S ≤ S.length := List.countP_le_length
/-- When it ended. -/
def Le.en (T : List Ev) : Int := if Pj.ss T = 0 then 9223372036854775807 else ((Pj.stE T).getLast?.map Ev.s0).getD 0
def Le.mk (i sc fr : Int) (T : List Ev) : Le.R := ⟨i, sc, fr, (Pj.stE T).length, Le.nL (Pj.stE T), Le.nJ (Pj.stE T), (Pj.rd T).size, (Pj.tk T).size, Pj.ss T, Le.en T⟩
/-- The row of one. -/
def Le.of (i : Int) (L : List Ev) : Le.R := Le.mk i (Pj.lifeD i L).2.1 (Pj.lifeD i L).2.2.1 (Pj.lifeD i L).2.2.2.1
def Le.zero : Le.R := ⟨0, 0, 0, 0, 0, 0, 0, 0, 0, 0⟩
/-- All rows. -/
def Le.rows (L : List Ev) : List Le.R := (Ev.ids L).map (fun i => Le.of i L)
def Le.cs (X : List Le.R) : List Value := X.flatMap Le.R.c
theorem Le.cs_snoc (X : List Le.R) (x : Le.R) : Le.cs (X ++ [x]) = Le.cs X ++ x.c := by unfold Le.cs; rw [List.flatMap_append]; simp
theorem le_stE_ne {T : List Ev} (h : Pj.ss T ≠ 0) : Pj.stE T ≠ [] := by
  intro e
  apply h
  have key : ∀ (T : List Ev) (s : Int), Pj.stE T = [] → T.foldl (fun s x => if x.k = 8 then x.s5 else s) s = s := by
    intro T
    induction T with
    | nil => intro s _; rfl
    | cons x T ih =>
      intro s hx
      unfold Pj.stE at hx
      rw [List.filter_cons] at hx
      by_cases hk : x.k = 8
      · rw [if_pos (by simp [hk])] at hx; cases hx
      · rw [if_neg (by simp [hk])] at hx
        rw [List.foldl_cons, if_neg hk]
        exact ih s hx
  exact key T 0 e
set_option maxRecDepth 20000 in
set_option maxHeartbeats 16000000 in
theorem le_jumped (s0 s1 s2 s3 s4 s5 : Int) (r : Bool) (hr : ((s2 == 2 || s2 == 3 || s2 == 4 || s2 == 7) && s5 == 0) = r) (w : World) :
    Calls Tryd.prog 24 #[.agg #[.int .i64 s0, .int .i64 s1, .int .i64 s2, .int .i64 s3, .int .i64 s4, .int .i64 s5]] w fun e w' => e = .returned (.bool r) ∧ Below w.heap.size w w' := by
  have H0 : Hid (Blk (w.alloc (.cells #[.int .i64 s0, .int .i64 s1, .int .i64 s2, .int .i64 s3, .int .i64 s4, .int .i64 s5] 44)) w.heap.size [.int .i64 s0, .int .i64 s1, .int .i64 s2, .int .i64 s3, .int .i64 s4, .int .i64 s5] 44 ∧ Below w.heap.size w (w.alloc (.cells #[.int .i64 s0, .int .i64 s1, .int .i64 s2, .int .i64 s3, .int .i64 s4, .int .i64 s5] 44))) := Lib.hid ⟨Blk.newA _ _ _, (Below.refl _ _).alloc (Nat.le_refl _) _⟩
  go_enter Tryd.func24, Tryd.ntmps24
  go_upto_region 1 with fail
  revert H0
  generalize (w.alloc (.cells #[.int .i64 s0, .int .i64 s1, .int .i64 s2, .int .i64 s3, .int .i64 s4, .int .i64 s5] 44)) = W0
  intro H0
  have d2 := H0.out.1.cell (i := 2) rfl
  have d5 := H0.out.1.cell (i := 5) rfl
  by_cases h2 : s2 = 2
  · have HRR : Hid ((s5 == 0) = r) := Lib.hid (by rw [← hr, h2]; simp)
    subst h2
    clear hr
    go_wp2_with fail
    go_ret
    exact ⟨by rw [← HRR.out]; rfl, H0.out.2⟩
  have b2 : (s2 == 2) = false := by simp [h2]
  by_cases h3 : s2 = 3
  · have HRR : Hid ((s5 == 0) = r) := Lib.hid (by rw [← hr, h3]; simp)
    subst h3
    clear hr
    go_wp2_with fail
    go_ret
    exact ⟨by rw [← HRR.out]; rfl, H0.out.2⟩
  have b3 : (s2 == 3) = false := by simp [h3]
  by_cases h4 : s2 = 4
  · have HRR : Hid ((s5 == 0) = r) := Lib.hid (by rw [← hr, h4]; simp)
    subst h4
    clear hr
    go_wp2_with fail
    go_ret
    exact ⟨by rw [← HRR.out]; rfl, H0.out.2⟩
  have b4 : (s2 == 4) = false := by simp [h4]
  by_cases h7 : s2 = 7
  · have HRR : Hid ((s5 == 0) = r) := Lib.hid (by rw [← hr, h7]; simp)
    subst h7
    clear hr
    go_wp2_with fail
    go_ret
    exact ⟨by rw [← HRR.out]; rfl, H0.out.2⟩
  have b7 : (s2 == 7) = false := by simp [h7]
  have HRR : Hid (false = r) := Lib.hid (by rw [← hr, b2, b3, b4, b7]; rfl)
  clear hr h2 h3 h4 h7
  go_wp2_with fail
  go_ret
  exact ⟨by rw [← HRR.out]; rfl, H0.out.2⟩
end Go.Proofs.YtdchedkhlfmpeaaDoor
/- Ledger: Of. -/
namespace Go.Proofs.YtdchedkhlfmpeaaDoor
open Go.ChangeShapes Go.WideShapes Go.ChangeAt Go.RowKit
set_option linter.unusedSimpArgs false
set_option linter.unusedVariables false

/-- What Of works on: its row in block R, the newest of V. -/
def LO (V W : World) (R : Nat) (cs : List Value) : Prop := Blk W R cs 31 ∧ Below V.heap.size V W ∧ R = V.heap.size
theorem LO.same {V W W' : World} {R : Nat} {cs : List Value} (h : LO V W R cs) (k : Below W.heap.size W W') : LO V W' R cs :=
  ⟨h.1.chg (l := []) (Chg.of_fresh k) (by simp), h.2.1.trans (k.mono h.2.1.size), h.2.2⟩
theorem LO.set {V W : World} {R : Nat} {cs : List Value} (h : LO V W R cs) (i : Nat) (v : Value) : LO V (W.setCell ⟨R, i, none⟩ v) R (cs.set i v) := by
  obtain ⟨h3, h5, h6⟩ := h
  exact ⟨h3.set _ _, h5.trans (((Chg.refl [R] W).set (Or.inl (by simp)) i v).below h5.size (by intro x hx; simp at hx; omega)), h6⟩
theorem RE.at6 {w : World} {a : Option Addr} {M : List Ev} (h : RE w a 6 Ev.st M) {j : Nat} {x : Ev} (hj : M[j]? = some x) : ∃ g o, a = some ⟨g, o, none⟩ ∧ g < w.heap.size ∧ w.cell? ⟨g, o + j * 6, none⟩ = some (.int .i64 x.s0) ∧ w.cell? ⟨g, o + j * 6 + 1, none⟩ = some (.int .i64 x.s1) ∧ w.cell? ⟨g, o + j * 6 + 2, none⟩ = some (.int .i64 x.s2) ∧ w.cell? ⟨g, o + j * 6 + 3, none⟩ = some (.int .i64 x.s3) ∧ w.cell? ⟨g, o + j * 6 + 4, none⟩ = some (.int .i64 x.s4) ∧ w.cell? ⟨g, o + j * 6 + 5, none⟩ = some (.int .i64 x.s5) := by
  obtain ⟨g, o, e, h1, h2⟩ := h j x hj
  exact ⟨g, o, e, h1, h2 0 _ rfl, h2 1 _ rfl, h2 2 _ rfl, h2 3 _ rfl, h2 4 _ rfl, h2 5 _ rfl⟩
set_option maxRecDepth 20000 in
set_option maxHeartbeats 16000000 in
theorem le_of (a : Option Addr) (len cap : Nat) (L : List Ev) (hl : L.length = len) (hlm : len ≤ 10000) (hlc : len ≤ cap) (hsum : Ev.sum L ≤ 1000000) (id i2 sc fr : Int) (T : List Ev) (ok : Bool) (h : Pj.lifeD id L = (i2, sc, fr, T, ok)) (X : Le.R) (hX : (if ok = true then Le.mk id sc fr T else Le.zero) = X) (w : World) (HE : EL w a L) :
    Calls Tryd.prog 12 #[.slice a len cap, .int .i64 id] w fun e w' => e = .returned (.tuple #[.agg X.c.toArray, .bool ok]) ∧ Below w.heap.size w w' := by
  obtain ⟨nT, hnT⟩ : ∃ n, T.length = n := ⟨_, rfl⟩
  obtain ⟨nS, hnS⟩ : ∃ n, (Pj.stE T).length = n := ⟨_, rfl⟩
  obtain ⟨rd, hrd⟩ : ∃ x, Pj.rd T = x := ⟨_, rfl⟩
  obtain ⟨tk, htk⟩ : ∃ x, Pj.tk T = x := ⟨_, rfl⟩
  obtain ⟨eo, heo⟩ : ∃ x, Pj.eof T = x := ⟨_, rfl⟩
  obtain ⟨st, hst⟩ : ∃ x, Pj.ss T = x := ⟨_, rfl⟩
  have hns : nS ≤ 10000 := by
    have h1 := Pj.nst_le T
    have h2 := (Pj.lifeD_ok HE.ok h).2
    rw [hnS] at h1
    rw [hl] at h2
    omega
  have HT : Hid (Pj.lifeD id L = (i2, sc, fr, T, ok) ∧ T.length = nT ∧ (Pj.stE T).length = nS ∧ Pj.rd T = rd ∧ Pj.tk T = tk ∧ Pj.eof T = eo ∧ Pj.ss T = st) := Lib.hid ⟨h, hnT, hnS, hrd, htk, heo, hst⟩
  have HL := Lib.hid (And.intro hl (And.intro hX hsum))
  obtain ⟨Q, hQ⟩ : ∃ Q, w.heap.size = Q := ⟨_, rfl⟩
  have H0 : Hid (Blk (w.alloc (.cells #[.int .i64 0, .int .i64 0, .int .i64 0, .int .i64 0, .int .i64 0, .int .i64 0, .int .i64 0, .int .i64 0, .int .i64 0, .int .i64 0] 31)) Q [.int .i64 0, .int .i64 0, .int .i64 0, .int .i64 0, .int .i64 0, .int .i64 0, .int .i64 0, .int .i64 0, .int .i64 0, .int .i64 0] 31 ∧ EL (w.alloc (.cells #[.int .i64 0, .int .i64 0, .int .i64 0, .int .i64 0, .int .i64 0, .int .i64 0, .int .i64 0, .int .i64 0, .int .i64 0, .int .i64 0] 31)) a L ∧ Below w.heap.size w (w.alloc (.cells #[.int .i64 0, .int .i64 0, .int .i64 0, .int .i64 0, .int .i64 0, .int .i64 0, .int .i64 0, .int .i64 0, .int .i64 0, .int .i64 0] 31)) ∧ (w.alloc (.cells #[.int .i64 0, .int .i64 0, .int .i64 0, .int .i64 0, .int .i64 0, .int .i64 0, .int .i64 0, .int .i64 0, .int .i64 0, .int .i64 0] 31)).heap.size = Q + 1) := Lib.hid ⟨by rw [← hQ]; exact Blk.newA _ _ _, HE.below ((Below.refl _ _).alloc (Nat.le_refl _) _), (Below.refl _ _).alloc (Nat.le_refl _) _, by simp [hQ]⟩
  have HQ := Lib.hid hQ
  clear HE h hnT hnS hrd htk heo hst hl hX hsum
  go_enter Tryd.func12, Tryd.ntmps12
  go_upto_region 1 with fail
  clear hQ
  revert H0
  generalize (w.alloc (.cells #[.int .i64 0, .int .i64 0, .int .i64 0, .int .i64 0, .int .i64 0, .int .i64 0, .int .i64 0, .int .i64 0, .int .i64 0, .int .i64 0] 31)) = W0
  intro H0
  go_upto_region 2 with (go_at_call 23; (with_reducible refine (of_any a len cap L HL.out.1 (by omega) hlc HL.out.2.2 id i2 sc fr T ok HT.out.1 eo HT.out.2.2.2.2.2.1 st HT.out.2.2.2.2.2.2 rd tk HT.out.2.2.2.1 HT.out.2.2.2.2.1 nT nS HT.out.2.1 HT.out.2.2.1 _ H0.out.2.1).mono ?_); rintro r9 V3 ⟨r1, c1, r2, c2, rfl, q1, q2, bb⟩; have HJ3 : Hid (Blk V3 Q [.int .i64 0, .int .i64 0, .int .i64 0, .int .i64 0, .int .i64 0, .int .i64 0, .int .i64 0, .int .i64 0, .int .i64 0, .int .i64 0] 31 ∧ RE V3 r2 6 Ev.st (Pj.stE T) ∧ Below w.heap.size w V3 ∧ Q + 1 ≤ V3.heap.size) := Lib.hid ⟨H0.out.1.chg (l := []) (Chg.of_fresh bb) (by simp), q2, H0.out.2.2.1.trans (bb.mono H0.out.2.2.1.size), by rw [← H0.out.2.2.2]; exact bb.size⟩; clear bb H0 q1 q2)
  obtain ⟨F, hF⟩ : ∃ F, V3.heap.size = F := ⟨_, rfl⟩
  have HV : Hid (Blk (V3.alloc (.cells #[.int .i64 i2, .int .i64 sc, .int .i64 fr, .slice r1 nT c1, .slice r2 nS c2, .string rd, .string tk, .bool eo, .int .i64 st] 71)) Q [.int .i64 0, .int .i64 0, .int .i64 0, .int .i64 0, .int .i64 0, .int .i64 0, .int .i64 0, .int .i64 0, .int .i64 0, .int .i64 0] 31 ∧ Blk (V3.alloc (.cells #[.int .i64 i2, .int .i64 sc, .int .i64 fr, .slice r1 nT c1, .slice r2 nS c2, .string rd, .string tk, .bool eo, .int .i64 st] 71)) F [.int .i64 i2, .int .i64 sc, .int .i64 fr, .slice r1 nT c1, .slice r2 nS c2, .string rd, .string tk, .bool eo, .int .i64 st] 71 ∧ RE (V3.alloc (.cells #[.int .i64 i2, .int .i64 sc, .int .i64 fr, .slice r1 nT c1, .slice r2 nS c2, .string rd, .string tk, .bool eo, .int .i64 st] 71)) r2 6 Ev.st (Pj.stE T) ∧ Below w.heap.size w (V3.alloc (.cells #[.int .i64 i2, .int .i64 sc, .int .i64 fr, .slice r1 nT c1, .slice r2 nS c2, .string rd, .string tk, .bool eo, .int .i64 st] 71)) ∧ Q < F) := Lib.hid ⟨HJ3.out.1.alloc _, by rw [← hF]; exact Blk.newA _ _ _, HJ3.out.2.1.below ((Below.refl _ _).alloc (Nat.le_refl _) _), HJ3.out.2.2.1.alloc HJ3.out.2.2.1.size _, by have := HJ3.out.2.2.2; omega⟩
  clear HJ3
  revert HV
  generalize (V3.alloc (.cells #[.int .i64 i2, .int .i64 sc, .int .i64 fr, .slice r1 nT c1, .slice r2 nS c2, .string rd, .string tk, .bool eo, .int .i64 st] 71)) = V
  rw [hF]
  clear hF
  intro HV
  cases ok with
  | false =>
    have HX : Hid (Le.zero = X) := Lib.hid (by have h := HL.out.2.1; rw [if_neg (by simp)] at h; exact h)
    have q0 := HV.out.1.cell (i := 0) rfl
    have fq0 := HV.out.1.free 0
    have q1 := HV.out.1.cell (i := 1) rfl
    have fq1 := HV.out.1.free 1
    have q2 := HV.out.1.cell (i := 2) rfl
    have fq2 := HV.out.1.free 2
    have q3 := HV.out.1.cell (i := 3) rfl
    have fq3 := HV.out.1.free 3
    have q4 := HV.out.1.cell (i := 4) rfl
    have fq4 := HV.out.1.free 4
    have q5 := HV.out.1.cell (i := 5) rfl
    have fq5 := HV.out.1.free 5
    have q6 := HV.out.1.cell (i := 6) rfl
    have fq6 := HV.out.1.free 6
    have q7 := HV.out.1.cell (i := 7) rfl
    have fq7 := HV.out.1.free 7
    have q8 := HV.out.1.cell (i := 8) rfl
    have fq8 := HV.out.1.free 8
    have q9 := HV.out.1.cell (i := 9) rfl
    have fq9 := HV.out.1.free 9
    have HW9 : Hid (Blk ((((((((((V.setCell ⟨Q, 0, none⟩ (.int .i64 0)).setCell ⟨Q, 1, none⟩ (.int .i64 0)).setCell ⟨Q, 2, none⟩ (.int .i64 0)).setCell ⟨Q, 3, none⟩ (.int .i64 0)).setCell ⟨Q, 4, none⟩ (.int .i64 0)).setCell ⟨Q, 5, none⟩ (.int .i64 0)).setCell ⟨Q, 6, none⟩ (.int .i64 0)).setCell ⟨Q, 7, none⟩ (.int .i64 0)).setCell ⟨Q, 8, none⟩ (.int .i64 0)).setCell ⟨Q, 9, none⟩ (.int .i64 0)) Q [.int .i64 0, .int .i64 0, .int .i64 0, .int .i64 0, .int .i64 0, .int .i64 0, .int .i64 0, .int .i64 0, .int .i64 0, .int .i64 0] 31 ∧ Below w.heap.size w ((((((((((V.setCell ⟨Q, 0, none⟩ (.int .i64 0)).setCell ⟨Q, 1, none⟩ (.int .i64 0)).setCell ⟨Q, 2, none⟩ (.int .i64 0)).setCell ⟨Q, 3, none⟩ (.int .i64 0)).setCell ⟨Q, 4, none⟩ (.int .i64 0)).setCell ⟨Q, 5, none⟩ (.int .i64 0)).setCell ⟨Q, 6, none⟩ (.int .i64 0)).setCell ⟨Q, 7, none⟩ (.int .i64 0)).setCell ⟨Q, 8, none⟩ (.int .i64 0)).setCell ⟨Q, 9, none⟩ (.int .i64 0))) := Lib.hid ⟨(((((((((HV.out.1.set 0 (.int .i64 0)).set 1 (.int .i64 0)).set 2 (.int .i64 0)).set 3 (.int .i64 0)).set 4 (.int .i64 0)).set 5 (.int .i64 0)).set 6 (.int .i64 0)).set 7 (.int .i64 0)).set 8 (.int .i64 0)).set 9 (.int .i64 0), HV.out.2.2.2.1.trans ((((((((((((Chg.refl [Q] V).set (Or.inl (List.mem_singleton.2 rfl)) 0 (.int .i64 0)).set (Or.inl (List.mem_singleton.2 rfl)) 1 (.int .i64 0)).set (Or.inl (List.mem_singleton.2 rfl)) 2 (.int .i64 0)).set (Or.inl (List.mem_singleton.2 rfl)) 3 (.int .i64 0)).set (Or.inl (List.mem_singleton.2 rfl)) 4 (.int .i64 0)).set (Or.inl (List.mem_singleton.2 rfl)) 5 (.int .i64 0)).set (Or.inl (List.mem_singleton.2 rfl)) 6 (.int .i64 0)).set (Or.inl (List.mem_singleton.2 rfl)) 7 (.int .i64 0)).set (Or.inl (List.mem_singleton.2 rfl)) 8 (.int .i64 0)).set (Or.inl (List.mem_singleton.2 rfl)) 9 (.int .i64 0)).below HV.out.2.2.2.1.size (by intro x hx; simp at hx; rw [hx]; exact Nat.le_of_eq HQ.out))⟩
    go_wp2_with fail
    clear q0 fq0 q1 fq1 q2 fq2 q3 fq3 q4 fq4 q5 fq5 q6 fq6 q7 fq7 q8 fq8 q9 fq9
    revert HW9
    generalize ((((((((((V.setCell ⟨Q, 0, none⟩ (.int .i64 0)).setCell ⟨Q, 1, none⟩ (.int .i64 0)).setCell ⟨Q, 2, none⟩ (.int .i64 0)).setCell ⟨Q, 3, none⟩ (.int .i64 0)).setCell ⟨Q, 4, none⟩ (.int .i64 0)).setCell ⟨Q, 5, none⟩ (.int .i64 0)).setCell ⟨Q, 6, none⟩ (.int .i64 0)).setCell ⟨Q, 7, none⟩ (.int .i64 0)).setCell ⟨Q, 8, none⟩ (.int .i64 0)).setCell ⟨Q, 9, none⟩ (.int .i64 0)) = W9
    intro HW9
    have r0 := HW9.out.1.cell (i := 0) rfl
    have r1 := HW9.out.1.cell (i := 1) rfl
    have r2 := HW9.out.1.cell (i := 2) rfl
    have r3 := HW9.out.1.cell (i := 3) rfl
    have r4 := HW9.out.1.cell (i := 4) rfl
    have r5 := HW9.out.1.cell (i := 5) rfl
    have r6 := HW9.out.1.cell (i := 6) rfl
    have r7 := HW9.out.1.cell (i := 7) rfl
    have r8 := HW9.out.1.cell (i := 8) rfl
    have r9 := HW9.out.1.cell (i := 9) rfl
    (try simp only [Exit.inBlock, Exit.then])
    exact bodyPost_ret (v := .tuple #[.agg X.c.toArray, .bool false]) (by rw [← HX.out]; simp [results, Tryd.results12, go_sem, r0, r1, r2, r3, r4, r5, r6, r7, r8, r9, Le.R.c, Le.zero]) rfl ⟨rfl, HW9.out.2⟩
  | true =>
    have HX : Hid (Le.mk id sc fr T = X) := Lib.hid (by have h := HL.out.2.1; first | rw [if_pos trivial] at h | rw [if_pos rfl] at h; exact h)
    have y1 := HV.out.2.1.cell (i := 1) rfl
    have y2 := HV.out.2.1.cell (i := 2) rfl
    have y4 := HV.out.2.1.cell (i := 4) rfl
    have y5 := HV.out.2.1.cell (i := 5) rfl
    have y6 := HV.out.2.1.cell (i := 6) rfl
    have y8 := HV.out.2.1.cell (i := 8) rfl
    obtain ⟨rz, hrz⟩ : ∃ n, rd.size = n := ⟨_, rfl⟩
    obtain ⟨tz, htz⟩ : ∃ n, tk.size = n := ⟨_, rfl⟩
    have HZ := Lib.hid (And.intro hrz htz)
    go_upto_region 5 with fail
    obtain ⟨R, hR⟩ : ∃ R, V.heap.size = R := ⟨_, rfl⟩
    have HO : Hid (LO V (V.alloc (.cells #[.int .i64 id, .int .i64 sc, .int .i64 fr, .int .i64 (nS : Int), .int .i64 0, .int .i64 0, .int .i64 (rz : Int), .int .i64 (tz : Int), .int .i64 st, .int .i64 9223372036854775807] 31)) R [.int .i64 id, .int .i64 sc, .int .i64 fr, .int .i64 (nS : Int), .int .i64 0, .int .i64 0, .int .i64 (rz : Int), .int .i64 (tz : Int), .int .i64 st, .int .i64 9223372036854775807]) := Lib.hid ⟨by rw [← hR]; exact Blk.newA _ _ _, (Below.refl _ _).alloc (Nat.le_refl _) _, hR.symm⟩
    have HR := Lib.hid hR
    have z4 := (HO.out.1.cell (i := 4) rfl)
    clear y1 y2 y4 y5 y6 y8 z4
    revert HO
    generalize (V.alloc (.cells #[.int .i64 id, .int .i64 sc, .int .i64 fr, .int .i64 (nS : Int), .int .i64 0, .int .i64 0, .int .i64 (rz : Int), .int .i64 (tz : Int), .int .i64 st, .int .i64 9223372036854775807] 31)) = V5
    rw [hR]
    clear hR
    intro HO
    have HQF : Hid (Q < R ∧ F < R) := Lib.hid ⟨by rw [← HR.out]; exact HV.out.1.lt, by rw [← HR.out]; exact HV.out.2.1.lt⟩
    have y4 : V5.cell? ⟨F, 4, none⟩ = some (.slice r2 nS c2) := (HV.out.2.1.below HO.out.2.1 HV.out.2.1.lt).cell (i := 4) rfl
    go_wp2_with fail
    clear y4
    go_loopw [10, 40] (fun _ z wr => ∃ j : Nat, z = .int .i64 j ∧ j ≤ nS ∧ Hid (LO V wr R [.int .i64 id, .int .i64 sc, .int .i64 fr, .int .i64 (nS : Int), .int .i64 ((Le.nL ((Pj.stE T).take j) : Nat) : Int), .int .i64 ((Le.nJ ((Pj.stE T).take j) : Nat) : Int), .int .i64 (rz : Int), .int .i64 (tz : Int), .int .i64 st, .int .i64 9223372036854775807])) (fun _ z _ => nS - (intOf z).toNat)
    case atStart => exact ⟨0, rfl, by omega, Lib.hid (by rw [List.take_zero]; exact HO.out)⟩
    case round =>
      obtain ⟨j, rfl, hj, HB⟩ := hrel
      have j0 : (0 : Int) ≤ (j : Int) := by omega
      by_cases hjn : j < nS
      · have i1 : (j : Int) < (nS : Int) := by omega
        have w1 : IntKind.i64.wrap ((j : Int) + 1) = (j : Int) + 1 := IntWalk.i64_in _ (by omega)
        obtain ⟨⟨k, i, n, t, b, e, s0, s1, s2, s3, s4, s5⟩, es⟩ : ∃ x, (Pj.stE T)[j]? = some x := ⟨_, List.getElem?_eq_getElem (by rw [HT.out.2.2.1]; exact hjn)⟩
        obtain ⟨g2, o2, rfl, hg2, x0, x1, x2, x3, x4, x5⟩ := (HV.out.2.2.1.below HB.out.2.1).at6 es
        dsimp only at x0 x1 x2 x3 x4 x5
        obtain ⟨nl, hnl⟩ : ∃ m, Le.nL ((Pj.stE T).take j) = m := ⟨_, rfl⟩
        obtain ⟨nj, hnj⟩ : ∃ m, Le.nJ ((Pj.stE T).take j) = m := ⟨_, rfl⟩
        have hnl2 : nl ≤ 10000 := by
          have := Le.nL_le ((Pj.stE T).take j)
          rw [hnl, List.length_take, HT.out.2.2.1] at this; omega
        have hnj2 : nj ≤ 10000 := by
          have := Le.nJ_le ((Pj.stE T).take j)
          rw [hnj, List.length_take, HT.out.2.2.1] at this; omega
        rw [hnl, hnj] at HB
        have HN : Hid (Le.nL ((Pj.stE T).take (j + 1)) = (if s2 = 1 then nl + 1 else nl) ∧ Le.nJ ((Pj.stE T).take (j + 1)) = (if ((s2 == 2 || s2 == 3 || s2 == 4 || s2 == 7) && s5 == 0) = true then nj + 1 else nj)) := Lib.hid ⟨by
          rw [take_snocE es, Le.nL_snoc, hnl]
          unfold Le.isL
          by_cases h : s2 = 1 <;> simp [h], by
          rw [take_snocE es, Le.nJ_snoc, hnj]
          rfl⟩
        obtain ⟨bj, hbj⟩ : ∃ b, ((s2 == 2 || s2 == 3 || s2 == 4 || s2 == 7) && s5 == 0) = b := ⟨_, rfl⟩
        have HBJ := Lib.hid hbj
        clear es hnl hnj hbj
        have HB2 : Hid (LO V (wr.alloc (.cells #[.int .i64 s0, .int .i64 s1, .int .i64 s2, .int .i64 s3, .int .i64 s4, .int .i64 s5] 44)) R [.int .i64 id, .int .i64 sc, .int .i64 fr, .int .i64 (nS : Int), .int .i64 (nl : Int), .int .i64 (nj : Int), .int .i64 (rz : Int), .int .i64 (tz : Int), .int .i64 st, .int .i64 9223372036854775807] ∧ Blk (wr.alloc (.cells #[.int .i64 s0, .int .i64 s1, .int .i64 s2, .int .i64 s3, .int .i64 s4, .int .i64 s5] 44)) wr.heap.size [.int .i64 s0, .int .i64 s1, .int .i64 s2, .int .i64 s3, .int .i64 s4, .int .i64 s5] 44 ∧ R < wr.heap.size) := Lib.hid ⟨HB.out.same ((Below.refl _ _).alloc (Nat.le_refl _) _), Blk.newA _ _ _, HB.out.1.lt⟩
        go_upto_region 8 with fail
        clear x0 x1 x2 x3 x4 x5 hg2 HB
        revert HB2
        generalize (wr.alloc (.cells #[.int .i64 s0, .int .i64 s1, .int .i64 s2, .int .i64 s3, .int .i64 s4, .int .i64 s5] 44)) = W5
        generalize wr.heap.size = X5
        intro HB2
        have d2 := HB2.out.2.1.cell (i := 2) rfl
        by_cases hs1 : s2 = 1
        · have kb : (s2 == 1) = true := by simp [hs1]
          obtain rfl : false = bj := by rw [← HBJ.out, hs1]; rfl
          have p4 := HB2.out.1.1.cell (i := 4) rfl
          have f4 := HB2.out.1.1.free 4
          have w2 : IntKind.i64.wrap ((nl : Int) + 1) = (nl : Int) + 1 := IntWalk.i64_in _ (by omega)
          have ne1 : ¬ R = X5 := by have := HB2.out.2.2; omega
          have ne2 : ¬ X5 = R := by have := HB2.out.2.2; omega
          have HN2 : Hid (Le.nL ((Pj.stE T).take (j + 1)) = nl + 1 ∧ Le.nJ ((Pj.stE T).take (j + 1)) = nj) := Lib.hid ⟨by rw [HN.out.1, if_pos hs1], by rw [HN.out.2, HBJ.out, if_neg (by simp)]⟩
          clear hs1
          go_upto_region 10 with fail
          have HB3 : Hid (LO V (W5.setCell ⟨R, 4, none⟩ (.int .i64 ((nl : Int) + 1))) R [.int .i64 id, .int .i64 sc, .int .i64 fr, .int .i64 (nS : Int), .int .i64 ((nl : Int) + 1), .int .i64 (nj : Int), .int .i64 (rz : Int), .int .i64 (tz : Int), .int .i64 st, .int .i64 9223372036854775807] ∧ Blk (W5.setCell ⟨R, 4, none⟩ (.int .i64 ((nl : Int) + 1))) X5 [.int .i64 s0, .int .i64 s1, .int .i64 s2, .int .i64 s3, .int .i64 s4, .int .i64 s5] 44) := Lib.hid ⟨HB2.out.1.set 4 _, HB2.out.2.1.other ne2 _ _⟩
          clear p4 f4 d2 HB2
          revert HB3
          generalize (W5.setCell ⟨R, 4, none⟩ (.int .i64 ((nl : Int) + 1))) = W6
          intro HB3
          have v0 := HB3.out.2.cell (i := 0) rfl
          have v1 := HB3.out.2.cell (i := 1) rfl
          have v2 := HB3.out.2.cell (i := 2) rfl
          have v3 := HB3.out.2.cell (i := 3) rfl
          have v4 := HB3.out.2.cell (i := 4) rfl
          have v5 := HB3.out.2.cell (i := 5) rfl
          go_wp2_with (go_at_call 24; (with_reducible refine (le_jumped s0 s1 s2 s3 s4 s5 false HBJ.out _).mono ?_); rintro e1 W7 ⟨rfl, q3⟩; have HB4 := Lib.hid (HB3.out.1.same q3); clear q3)
          go_roundw
          case rel => exact ⟨j + 1, by go_num, by omega, Lib.hid (by rw [HN2.out.1, HN2.out.2]; exact HB4.out)⟩
          case measure => simp [intOf]; omega
        · have kb : (s2 == 1) = false := by simp [hs1]
          have HN3 := Lib.hid (show Le.nL ((Pj.stE T).take (j + 1)) = nl by rw [HN.out.1, if_neg hs1])
          clear hs1
          go_upto_region 10 with fail
          clear d2
          have v0 := HB2.out.2.1.cell (i := 0) rfl
          have v1 := HB2.out.2.1.cell (i := 1) rfl
          have v2 := HB2.out.2.1.cell (i := 2) rfl
          have v3 := HB2.out.2.1.cell (i := 3) rfl
          have v4 := HB2.out.2.1.cell (i := 4) rfl
          have v5 := HB2.out.2.1.cell (i := 5) rfl
          cases bj with
          | false =>
            have HN2 : Hid (Le.nJ ((Pj.stE T).take (j + 1)) = nj) := Lib.hid (by rw [HN.out.2, HBJ.out, if_neg (by simp)])
            go_wp2_with (go_at_call 24; (with_reducible refine (le_jumped s0 s1 s2 s3 s4 s5 false HBJ.out _).mono ?_); rintro e1 W7 ⟨rfl, q3⟩; have HB4 := Lib.hid (HB2.out.1.same q3); clear q3)
            go_roundw
            case rel => exact ⟨j + 1, by go_num, by omega, Lib.hid (by rw [HN3.out, HN2.out]; exact HB4.out)⟩
            case measure => simp [intOf]; omega
          | true =>
            have HN2 : Hid (Le.nJ ((Pj.stE T).take (j + 1)) = nj + 1) := Lib.hid (by rw [HN.out.2, HBJ.out, if_pos rfl])
            have w3 : IntKind.i64.wrap ((nj : Int) + 1) = (nj : Int) + 1 := IntWalk.i64_in _ (by omega)
            go_upto_region 11 with (go_at_call 24; (with_reducible refine (le_jumped s0 s1 s2 s3 s4 s5 true HBJ.out _).mono ?_); rintro e1 W7 ⟨rfl, q3⟩; have HB4 := Lib.hid (HB2.out.1.same q3); clear q3)
            have p5 := HB4.out.1.cell (i := 5) rfl
            have f5 := HB4.out.1.free 5
            go_wp2_with fail
            go_roundw
            case rel => exact ⟨j + 1, by go_num, by omega, Lib.hid (by rw [HN3.out, HN2.out]; exact HB4.out.set 5 _)⟩
            case measure => simp [intOf]; omega
      · obtain rfl : j = nS := by omega
        have i1 : ¬ (j : Int) < (j : Int) := by omega
        obtain ⟨nl, hnl⟩ : ∃ m, Le.nL (Pj.stE T) = m := ⟨_, rfl⟩
        obtain ⟨nj, hnj⟩ : ∃ m, Le.nJ (Pj.stE T) = m := ⟨_, rfl⟩
        have HF : Hid (LO V wr R [.int .i64 id, .int .i64 sc, .int .i64 fr, .int .i64 (j : Int), .int .i64 (nl : Int), .int .i64 (nj : Int), .int .i64 (rz : Int), .int .i64 (tz : Int), .int .i64 st, .int .i64 9223372036854775807]) := Lib.hid (by
          have h := HB.out
          rw [List.take_of_length_le (by rw [HT.out.2.2.1]; exact Nat.le_refl _), hnl, hnj] at h
          exact h)
        have HNN := Lib.hid (And.intro hnl hnj)
        clear hnl hnj HB
        have p8 := HF.out.1.cell (i := 8) rfl
        by_cases hs0 : st = 0
        · have sb : (st != 0) = false := by simp [hs0]
          have HXX : Hid (Le.mk id sc fr T = ⟨id, sc, fr, j, nl, nj, rz, tz, st, 9223372036854775807⟩) := Lib.hid (by
            unfold Le.mk Le.en
            rw [HT.out.2.2.2.2.2.2, if_pos hs0, HT.out.2.2.1, HNN.out.1, HNN.out.2, HT.out.2.2.2.1, HT.out.2.2.2.2.1, HZ.out.1, HZ.out.2])
          clear hs0
          go_upto_region 15 with fail
          clear p8
          have p0 := HF.out.1.cell (i := 0) rfl
          have p1 := HF.out.1.cell (i := 1) rfl
          have p2 := HF.out.1.cell (i := 2) rfl
          have p3 := HF.out.1.cell (i := 3) rfl
          have p4 := HF.out.1.cell (i := 4) rfl
          have p5 := HF.out.1.cell (i := 5) rfl
          have p6 := HF.out.1.cell (i := 6) rfl
          have p7 := HF.out.1.cell (i := 7) rfl
          have p8 := HF.out.1.cell (i := 8) rfl
          have p9 := HF.out.1.cell (i := 9) rfl
          have HQ3 : Hid (Blk wr Q [.int .i64 0, .int .i64 0, .int .i64 0, .int .i64 0, .int .i64 0, .int .i64 0, .int .i64 0, .int .i64 0, .int .i64 0, .int .i64 0] 31) := Lib.hid (HV.out.1.below HF.out.2.1 HV.out.1.lt)
          have q0 := HQ3.out.cell (i := 0) rfl
          have fq0 := HQ3.out.free 0
          have q1 := HQ3.out.cell (i := 1) rfl
          have fq1 := HQ3.out.free 1
          have q2 := HQ3.out.cell (i := 2) rfl
          have fq2 := HQ3.out.free 2
          have q3 := HQ3.out.cell (i := 3) rfl
          have fq3 := HQ3.out.free 3
          have q4 := HQ3.out.cell (i := 4) rfl
          have fq4 := HQ3.out.free 4
          have q5 := HQ3.out.cell (i := 5) rfl
          have fq5 := HQ3.out.free 5
          have q6 := HQ3.out.cell (i := 6) rfl
          have fq6 := HQ3.out.free 6
          have q7 := HQ3.out.cell (i := 7) rfl
          have fq7 := HQ3.out.free 7
          have q8 := HQ3.out.cell (i := 8) rfl
          have fq8 := HQ3.out.free 8
          have q9 := HQ3.out.cell (i := 9) rfl
          have fq9 := HQ3.out.free 9
          have nq1 : ¬ Q = R := by have := HQF.out; omega
          have nq2 : ¬ R = Q := by have := HQF.out; omega
          have HB9 : Hid (Below w.heap.size w wr) := Lib.hid (HV.out.2.2.2.1.trans (HF.out.2.1.mono HV.out.2.2.2.1.size))
          have HW9 : Hid (Blk ((((((((((wr.setCell ⟨Q, 0, none⟩ (.int .i64 id)).setCell ⟨Q, 1, none⟩ (.int .i64 sc)).setCell ⟨Q, 2, none⟩ (.int .i64 fr)).setCell ⟨Q, 3, none⟩ (.int .i64 (j : Int))).setCell ⟨Q, 4, none⟩ (.int .i64 (nl : Int))).setCell ⟨Q, 5, none⟩ (.int .i64 (nj : Int))).setCell ⟨Q, 6, none⟩ (.int .i64 (rz : Int))).setCell ⟨Q, 7, none⟩ (.int .i64 (tz : Int))).setCell ⟨Q, 8, none⟩ (.int .i64 st)).setCell ⟨Q, 9, none⟩ (.int .i64 9223372036854775807)) Q [.int .i64 id, .int .i64 sc, .int .i64 fr, .int .i64 (j : Int), .int .i64 (nl : Int), .int .i64 (nj : Int), .int .i64 (rz : Int), .int .i64 (tz : Int), .int .i64 st, .int .i64 9223372036854775807] 31 ∧ Below w.heap.size w ((((((((((wr.setCell ⟨Q, 0, none⟩ (.int .i64 id)).setCell ⟨Q, 1, none⟩ (.int .i64 sc)).setCell ⟨Q, 2, none⟩ (.int .i64 fr)).setCell ⟨Q, 3, none⟩ (.int .i64 (j : Int))).setCell ⟨Q, 4, none⟩ (.int .i64 (nl : Int))).setCell ⟨Q, 5, none⟩ (.int .i64 (nj : Int))).setCell ⟨Q, 6, none⟩ (.int .i64 (rz : Int))).setCell ⟨Q, 7, none⟩ (.int .i64 (tz : Int))).setCell ⟨Q, 8, none⟩ (.int .i64 st)).setCell ⟨Q, 9, none⟩ (.int .i64 9223372036854775807))) := Lib.hid ⟨(((((((((HQ3.out.set 0 (.int .i64 id)).set 1 (.int .i64 sc)).set 2 (.int .i64 fr)).set 3 (.int .i64 (j : Int))).set 4 (.int .i64 (nl : Int))).set 5 (.int .i64 (nj : Int))).set 6 (.int .i64 (rz : Int))).set 7 (.int .i64 (tz : Int))).set 8 (.int .i64 st)).set 9 (.int .i64 9223372036854775807), HB9.out.trans ((((((((((((Chg.refl [Q] wr).set (Or.inl (List.mem_singleton.2 rfl)) 0 (.int .i64 id)).set (Or.inl (List.mem_singleton.2 rfl)) 1 (.int .i64 sc)).set (Or.inl (List.mem_singleton.2 rfl)) 2 (.int .i64 fr)).set (Or.inl (List.mem_singleton.2 rfl)) 3 (.int .i64 (j : Int))).set (Or.inl (List.mem_singleton.2 rfl)) 4 (.int .i64 (nl : Int))).set (Or.inl (List.mem_singleton.2 rfl)) 5 (.int .i64 (nj : Int))).set (Or.inl (List.mem_singleton.2 rfl)) 6 (.int .i64 (rz : Int))).set (Or.inl (List.mem_singleton.2 rfl)) 7 (.int .i64 (tz : Int))).set (Or.inl (List.mem_singleton.2 rfl)) 8 (.int .i64 st)).set (Or.inl (List.mem_singleton.2 rfl)) 9 (.int .i64 9223372036854775807)).below HB9.out.size (by intro x hx; simp at hx; rw [hx]; exact Nat.le_of_eq HQ.out))⟩
          go_wp2_with fail
          clear p0 q0 fq0 p1 q1 fq1 p2 q2 fq2 p3 q3 fq3 p4 q4 fq4 p5 q5 fq5 p6 q6 fq6 p7 q7 fq7 p8 q8 fq8 p9 q9 fq9
          revert HW9
          generalize ((((((((((wr.setCell ⟨Q, 0, none⟩ (.int .i64 id)).setCell ⟨Q, 1, none⟩ (.int .i64 sc)).setCell ⟨Q, 2, none⟩ (.int .i64 fr)).setCell ⟨Q, 3, none⟩ (.int .i64 (j : Int))).setCell ⟨Q, 4, none⟩ (.int .i64 (nl : Int))).setCell ⟨Q, 5, none⟩ (.int .i64 (nj : Int))).setCell ⟨Q, 6, none⟩ (.int .i64 (rz : Int))).setCell ⟨Q, 7, none⟩ (.int .i64 (tz : Int))).setCell ⟨Q, 8, none⟩ (.int .i64 st)).setCell ⟨Q, 9, none⟩ (.int .i64 9223372036854775807)) = W9
          intro HW9
          have r0 := HW9.out.1.cell (i := 0) rfl
          have r1 := HW9.out.1.cell (i := 1) rfl
          have r2 := HW9.out.1.cell (i := 2) rfl
          have r3 := HW9.out.1.cell (i := 3) rfl
          have r4 := HW9.out.1.cell (i := 4) rfl
          have r5 := HW9.out.1.cell (i := 5) rfl
          have r6 := HW9.out.1.cell (i := 6) rfl
          have r7 := HW9.out.1.cell (i := 7) rfl
          have r8 := HW9.out.1.cell (i := 8) rfl
          have r9 := HW9.out.1.cell (i := 9) rfl
          (try simp only [Exit.inBlock, Exit.then])
          exact bodyPost_ret (v := .tuple #[.agg X.c.toArray, .bool true]) (by rw [← HX.out, HXX.out]; simp [results, Tryd.results12, go_sem, r0, r1, r2, r3, r4, r5, r6, r7, r8, r9, Le.R.c]) rfl ⟨rfl, HW9.out.2⟩
        · have sb : (st != 0) = true := by simp [hs0]
          have hne := le_stE_ne (T := T) (by rw [HT.out.2.2.2.2.2.2]; exact hs0)
          obtain ⟨mS, hmS⟩ : ∃ mS, j = mS + 1 := ⟨j - 1, by have := HT.out.2.2.1; have h2 := List.length_pos_iff.2 hne; omega⟩
          obtain ⟨y, hy⟩ : ∃ y, (Pj.stE T)[mS]? = some y := ⟨_, List.getElem?_eq_getElem (by have := HT.out.2.2.1; omega)⟩
          have hlast : (Pj.stE T).getLast? = some y := by
            rw [List.getLast?_eq_getElem?, HT.out.2.2.1, hmS]; exact hy
          obtain ⟨g2, o2, rfl, hg2, z0, _, _, _, _, _⟩ := (HV.out.2.2.1.below HF.out.2.1).at6 hy
          have n0 : (0 : Int) ≤ (mS : Int) := by omega
          have n3 : (mS : Int) < (j : Int) := by omega
          have n4 : mS < j := by omega
          have ws : IntKind.i64.wrap ((j : Int) - 1) = (mS : Int) := by rw [IntWalk.i64_in _ (by omega)]; omega
          have HXX : Hid (Le.mk id sc fr T = ⟨id, sc, fr, j, nl, nj, rz, tz, st, y.s0⟩) := Lib.hid (by
            unfold Le.mk Le.en
            rw [HT.out.2.2.2.2.2.2, if_neg hs0, HT.out.2.2.1, HNN.out.1, HNN.out.2, HT.out.2.2.2.1, HT.out.2.2.2.2.1, HZ.out.1, HZ.out.2, hlast]; rfl)
          obtain ⟨ys, hys⟩ : ∃ ys, y.s0 = ys := ⟨_, rfl⟩
          rw [hys] at z0 HXX
          clear hs0 hne hmS hlast hy hys
          have p3 := HF.out.1.cell (i := 3) rfl
          have p9 := HF.out.1.cell (i := 9) rfl
          have f9 := HF.out.1.free 9
          have y4 : wr.cell? ⟨F, 4, none⟩ = some (.slice (some ⟨g2, o2, none⟩) j c2) := (HV.out.2.1.below HF.out.2.1 HV.out.2.1.lt).cell (i := 4) rfl
          go_upto_region 15 with fail
          have HF2 : Hid (LO V (wr.setCell ⟨R, 9, none⟩ (.int .i64 ys)) R [.int .i64 id, .int .i64 sc, .int .i64 fr, .int .i64 (j : Int), .int .i64 (nl : Int), .int .i64 (nj : Int), .int .i64 (rz : Int), .int .i64 (tz : Int), .int .i64 st, .int .i64 ys]) := Lib.hid (HF.out.set 9 _)
          clear p3 p9 f9 y4 p8 z0 HF
          revert HF2
          generalize (wr.setCell ⟨R, 9, none⟩ (.int .i64 ys)) = wr2
          intro HF2
          have p0 := HF2.out.1.cell (i := 0) rfl
          have p1 := HF2.out.1.cell (i := 1) rfl
          have p2 := HF2.out.1.cell (i := 2) rfl
          have p3 := HF2.out.1.cell (i := 3) rfl
          have p4 := HF2.out.1.cell (i := 4) rfl
          have p5 := HF2.out.1.cell (i := 5) rfl
          have p6 := HF2.out.1.cell (i := 6) rfl
          have p7 := HF2.out.1.cell (i := 7) rfl
          have p8 := HF2.out.1.cell (i := 8) rfl
          have p9 := HF2.out.1.cell (i := 9) rfl
          have HQ3 : Hid (Blk wr2 Q [.int .i64 0, .int .i64 0, .int .i64 0, .int .i64 0, .int .i64 0, .int .i64 0, .int .i64 0, .int .i64 0, .int .i64 0, .int .i64 0] 31) := Lib.hid (HV.out.1.below HF2.out.2.1 HV.out.1.lt)
          have q0 := HQ3.out.cell (i := 0) rfl
          have fq0 := HQ3.out.free 0
          have q1 := HQ3.out.cell (i := 1) rfl
          have fq1 := HQ3.out.free 1
          have q2 := HQ3.out.cell (i := 2) rfl
          have fq2 := HQ3.out.free 2
          have q3 := HQ3.out.cell (i := 3) rfl
          have fq3 := HQ3.out.free 3
          have q4 := HQ3.out.cell (i := 4) rfl
          have fq4 := HQ3.out.free 4
          have q5 := HQ3.out.cell (i := 5) rfl
          have fq5 := HQ3.out.free 5
          have q6 := HQ3.out.cell (i := 6) rfl
          have fq6 := HQ3.out.free 6
          have q7 := HQ3.out.cell (i := 7) rfl
          have fq7 := HQ3.out.free 7
          have q8 := HQ3.out.cell (i := 8) rfl
          have fq8 := HQ3.out.free 8
          have q9 := HQ3.out.cell (i := 9) rfl
          have fq9 := HQ3.out.free 9
          have nq1 : ¬ Q = R := by have := HQF.out; omega
          have nq2 : ¬ R = Q := by have := HQF.out; omega
          have HB9 : Hid (Below w.heap.size w wr2) := Lib.hid (HV.out.2.2.2.1.trans (HF2.out.2.1.mono HV.out.2.2.2.1.size))
          have HW9 : Hid (Blk ((((((((((wr2.setCell ⟨Q, 0, none⟩ (.int .i64 id)).setCell ⟨Q, 1, none⟩ (.int .i64 sc)).setCell ⟨Q, 2, none⟩ (.int .i64 fr)).setCell ⟨Q, 3, none⟩ (.int .i64 (j : Int))).setCell ⟨Q, 4, none⟩ (.int .i64 (nl : Int))).setCell ⟨Q, 5, none⟩ (.int .i64 (nj : Int))).setCell ⟨Q, 6, none⟩ (.int .i64 (rz : Int))).setCell ⟨Q, 7, none⟩ (.int .i64 (tz : Int))).setCell ⟨Q, 8, none⟩ (.int .i64 st)).setCell ⟨Q, 9, none⟩ (.int .i64 ys)) Q [.int .i64 id, .int .i64 sc, .int .i64 fr, .int .i64 (j : Int), .int .i64 (nl : Int), .int .i64 (nj : Int), .int .i64 (rz : Int), .int .i64 (tz : Int), .int .i64 st, .int .i64 ys] 31 ∧ Below w.heap.size w ((((((((((wr2.setCell ⟨Q, 0, none⟩ (.int .i64 id)).setCell ⟨Q, 1, none⟩ (.int .i64 sc)).setCell ⟨Q, 2, none⟩ (.int .i64 fr)).setCell ⟨Q, 3, none⟩ (.int .i64 (j : Int))).setCell ⟨Q, 4, none⟩ (.int .i64 (nl : Int))).setCell ⟨Q, 5, none⟩ (.int .i64 (nj : Int))).setCell ⟨Q, 6, none⟩ (.int .i64 (rz : Int))).setCell ⟨Q, 7, none⟩ (.int .i64 (tz : Int))).setCell ⟨Q, 8, none⟩ (.int .i64 st)).setCell ⟨Q, 9, none⟩ (.int .i64 ys))) := Lib.hid ⟨(((((((((HQ3.out.set 0 (.int .i64 id)).set 1 (.int .i64 sc)).set 2 (.int .i64 fr)).set 3 (.int .i64 (j : Int))).set 4 (.int .i64 (nl : Int))).set 5 (.int .i64 (nj : Int))).set 6 (.int .i64 (rz : Int))).set 7 (.int .i64 (tz : Int))).set 8 (.int .i64 st)).set 9 (.int .i64 ys), HB9.out.trans ((((((((((((Chg.refl [Q] wr2).set (Or.inl (List.mem_singleton.2 rfl)) 0 (.int .i64 id)).set (Or.inl (List.mem_singleton.2 rfl)) 1 (.int .i64 sc)).set (Or.inl (List.mem_singleton.2 rfl)) 2 (.int .i64 fr)).set (Or.inl (List.mem_singleton.2 rfl)) 3 (.int .i64 (j : Int))).set (Or.inl (List.mem_singleton.2 rfl)) 4 (.int .i64 (nl : Int))).set (Or.inl (List.mem_singleton.2 rfl)) 5 (.int .i64 (nj : Int))).set (Or.inl (List.mem_singleton.2 rfl)) 6 (.int .i64 (rz : Int))).set (Or.inl (List.mem_singleton.2 rfl)) 7 (.int .i64 (tz : Int))).set (Or.inl (List.mem_singleton.2 rfl)) 8 (.int .i64 st)).set (Or.inl (List.mem_singleton.2 rfl)) 9 (.int .i64 ys)).below HB9.out.size (by intro x hx; simp at hx; rw [hx]; exact Nat.le_of_eq HQ.out))⟩
          go_wp2_with fail
          clear p0 q0 fq0 p1 q1 fq1 p2 q2 fq2 p3 q3 fq3 p4 q4 fq4 p5 q5 fq5 p6 q6 fq6 p7 q7 fq7 p8 q8 fq8 p9 q9 fq9
          revert HW9
          generalize ((((((((((wr2.setCell ⟨Q, 0, none⟩ (.int .i64 id)).setCell ⟨Q, 1, none⟩ (.int .i64 sc)).setCell ⟨Q, 2, none⟩ (.int .i64 fr)).setCell ⟨Q, 3, none⟩ (.int .i64 (j : Int))).setCell ⟨Q, 4, none⟩ (.int .i64 (nl : Int))).setCell ⟨Q, 5, none⟩ (.int .i64 (nj : Int))).setCell ⟨Q, 6, none⟩ (.int .i64 (rz : Int))).setCell ⟨Q, 7, none⟩ (.int .i64 (tz : Int))).setCell ⟨Q, 8, none⟩ (.int .i64 st)).setCell ⟨Q, 9, none⟩ (.int .i64 ys)) = W9
          intro HW9
          have r0 := HW9.out.1.cell (i := 0) rfl
          have r1 := HW9.out.1.cell (i := 1) rfl
          have r2 := HW9.out.1.cell (i := 2) rfl
          have r3 := HW9.out.1.cell (i := 3) rfl
          have r4 := HW9.out.1.cell (i := 4) rfl
          have r5 := HW9.out.1.cell (i := 5) rfl
          have r6 := HW9.out.1.cell (i := 6) rfl
          have r7 := HW9.out.1.cell (i := 7) rfl
          have r8 := HW9.out.1.cell (i := 8) rfl
          have r9 := HW9.out.1.cell (i := 9) rfl
          (try simp only [Exit.inBlock, Exit.then])
          exact bodyPost_ret (v := .tuple #[.agg X.c.toArray, .bool true]) (by rw [← HX.out, HXX.out]; simp [results, Tryd.results12, go_sem, r0, r1, r2, r3, r4, r5, r6, r7, r8, r9, Le.R.c]) rfl ⟨rfl, HW9.out.2⟩
end Go.Proofs.YtdchedkhlfmpeaaDoor
/- Ledger: Rows. -/
namespace Go.Proofs.YtdchedkhlfmpeaaDoor
open Go.ChangeShapes Go.WideShapes Go.ChangeAt Go.RowKit
set_option linter.unusedSimpArgs false
set_option linter.unusedVariables false

theorem Ev.ids_le (L : List Ev) : (Ev.ids L).length ≤ L.length := by
  rw [← ids_eq]
  refine Nat.le_trans (compact_len _) ?_
  rw [List.length_mergeSort]
  unfold Ev.ops
  rw [List.length_map]
  exact List.length_filter_le _ _
theorem Cp.pcs_len (P : List (Int × PV)) : (Cp.pcs P).length = P.length * 3 := by
  unfold Cp.pcs
  induction P with
  | nil => rfl
  | cons p P ih => rw [List.flatMap_cons, List.length_append, ih, List.length_cons]; show 3 + _ = _; omega
theorem Cp.pcs_at : ∀ (P : List (Int × PV)) (j : Nat) (p : Int × PV) (q : Nat) (v : Value), P[j]? = some p → (p.2.cs p.1)[q]? = some v → (Cp.pcs P)[j * 3 + q]? = some v
  | [], j, p, q, v, h, _ => by simp at h
  | x :: P, 0, p, q, v, h, hq => by
    simp at h
    subst h
    unfold Cp.pcs
    rw [List.flatMap_cons]
    have hl : q < (x.2.cs x.1).length := by
      rcases Nat.lt_or_ge q (x.2.cs x.1).length with h | h
      · exact h
      · rw [List.getElem?_eq_none h] at hq; cases hq
    rw [show 0 * 3 + q = q by omega, List.getElem?_append_left hl]; exact hq
  | x :: P, j + 1, p, q, v, h, hq => by
    simp only [List.getElem?_cons_succ] at h
    have ih := Cp.pcs_at P j p q v h hq
    unfold Cp.pcs at *
    rw [List.flatMap_cons, List.getElem?_append_right (by show 3 ≤ _; omega)]
    have : (j + 1) * 3 + q - (x.2.cs x.1).length = j * 3 + q := by show _ - 3 = _; omega
    rw [this]; exact ih
theorem Cp.part_at {w : World} {B n c : Nat} {r : Option Addr} {P : List (Int × PV)} (h : RM w B r n c 3 (Cp.pcs P) 52) (hP : P.length = n) {j : Nat} {i : Int} {v : PV} (hj : P[j]? = some (i, v)) : ∃ g, r = some ⟨g, 0, none⟩ ∧ g < w.heap.size ∧ w.cell? ⟨g, j * 3, none⟩ = some (.int .i64 i) ∧ w.cell? ⟨g, j * 3 + 1, none⟩ = some (.slice v.re v.T.length v.ce) ∧ w.cell? ⟨g, j * 3 + 2, none⟩ = some (.slice v.rr v.R.length v.cr) := by
  have hl := (List.getElem?_eq_some_iff.1 hj).1
  obtain ⟨g, rfl, _, hr⟩ := h.row (by omega)
  exact ⟨g, rfl, hr.lt, hr.cell (Cp.pcs_at P j _ 0 _ hj rfl), hr.cell (Cp.pcs_at P j _ 1 _ hj rfl), hr.cell (Cp.pcs_at P j _ 2 _ hj rfl)⟩
theorem infoRow : (Tryd.prog.info? 31).map (fun i => (i.zero, i.size, i.bytes)) = some (some (.agg #[.int .i64 0, .int .i64 0, .int .i64 0, .int .i64 0, .int .i64 0, .int .i64 0, .int .i64 0, .int .i64 0, .int .i64 0, .int .i64 0]), 10, 80) := by kernel_rfl
theorem le_life_ok {i : Int} {L : List Ev} (h : i ∈ Ev.ids L) : (Pj.lifeD i L).2.2.2.2 = true := by
  rw [(Ev.ids_srt L).2] at h
  unfold Pj.lifeD
  cases hl : Pj.life i L with
  | none => exact absurd h ((Cp.life_iff i L).1 hl)
  | some p => rfl
theorem le_of10 (a : Option Addr) (len cap : Nat) (L : List Ev) (hl : L.length = len) (hlm : len ≤ 10000) (hlc : len ≤ cap) (hsum : Ev.sum L ≤ 1000000) (id i2 sc fr : Int) (T : List Ev) (ok : Bool) (h : Pj.lifeD id L = (i2, sc, fr, T, ok)) (x0 x1 x2 x3 x4 x5 x6 x7 x8 x9 : Int) (hX : (if ok = true then Le.mk id sc fr T else Le.zero) = ⟨x0, x1, x2, x3, x4, x5, x6, x7, x8, x9⟩) (w : World) (HE : EL w a L) :
    Calls Tryd.prog 12 #[.slice a len cap, .int .i64 id] w fun e w' => e = .returned (.tuple #[.agg #[.int .i64 x0, .int .i64 x1, .int .i64 x2, .int .i64 x3, .int .i64 x4, .int .i64 x5, .int .i64 x6, .int .i64 x7, .int .i64 x8, .int .i64 x9], .bool ok]) ∧ Below w.heap.size w w' := le_of a len cap L hl hlm hlc hsum id i2 sc fr T ok h _ hX w HE
set_option maxRecDepth 20000 in
set_option maxHeartbeats 16000000 in
theorem le_rows (a : Option Addr) (len cap : Nat) (L : List Ev) (hl : L.length = len) (hlm : len ≤ 9000) (hb24 : ∀ x ∈ L, x.b.size ≤ 24) (n : Nat) (hn : (Ev.ids L).length = n) (w : World) (HE : EL w a L) :
    Calls Tryd.prog 7 #[.slice a len cap] w fun e w' => ∃ (r : Option Addr) (c : Nat), e = .returned (.slice r n c) ∧ RM w' w.heap.size r n c 10 (Le.cs (Le.rows L)) 31 ∧ Below w.heap.size w w' := by
  have HL := Lib.hid (And.intro hl (And.intro HE (And.intro hb24 hn)))
  have hnm : n ≤ 9000 := by
    have h1 := Ev.ids_le L
    rw [hn, hl] at h1
    omega
  clear hl HE hb24 hn
  go_enter Tryd.func7, Tryd.ntmps7
  go_wp2_with (go_at_call 18; (with_reducible refine (cp_parts a len cap L HL.out.1 (by omega) n HL.out.2.2.2 _ HL.out.2.1).mono ?_); rintro r7 W3 ⟨rp, cp, P, rfl, h1, h2, h3, bb⟩; have HW : Hid (RM W3 w.heap.size rp n cp 3 (Cp.pcs P) 52 ∧ P.map (·.1) = Ev.ids L ∧ (∀ p ∈ P, (p.1, p.2.T, p.2.R) ∈ (Cp.run L).S ∧ EL W3 p.2.re p.2.T ∧ p.2.T.length ≤ p.2.ce ∧ RI W3 p.2.rr p.2.R) ∧ Below w.heap.size w W3) := Lib.hid ⟨h1, h2, h3, bb⟩; clear bb h1 h2 h3)
  have HPl : Hid (P.length = n) := Lib.hid (by rw [← HL.out.2.2.2, ← HW.out.2.1, List.length_map])
  obtain ⟨B3, hB3⟩ : ∃ B3, W3.heap.size = B3 := ⟨_, rfl⟩
  go_loopw [3, 5, 6, 7, 11] (fun o3 _ _ _ z wr => ∃ (j cq : Nat) (rq : Option Addr), o3 = .slice rq j cq ∧ z = .int .i64 j ∧ j ≤ n ∧ Hid (RM wr B3 rq j cq 10 (Le.cs ((Le.rows L).take j)) 31 ∧ Below B3 W3 wr)) (fun _ _ _ _ z _ => n - (intOf z).toNat)
  case atStart => exact ⟨0, 0, none, rfl, rfl, by omega, Lib.hid ⟨by rw [List.take_zero]; exact RM.nil _ _ _ _ (by omega), Below.refl _ _⟩⟩
  case round =>
    obtain ⟨j, cq, rq, rfl, rfl, hj, HB⟩ := hrel
    have j0 : (0 : Int) ≤ (j : Int) := by omega
    by_cases hjn : j < n
    · have i1 : (j : Int) < (n : Int) := by omega
      have w1 : IntKind.i64.wrap ((j : Int) + 1) = (j : Int) + 1 := IntWalk.i64_in _ (by omega)
      obtain ⟨p, hp⟩ : ∃ p, P[j]? = some p := ⟨_, List.getElem?_eq_getElem (by rw [HPl.out]; exact hjn)⟩
      obtain ⟨ix, re, ce, T, rr, cr, R⟩ := p
      have hix : (Ev.ids L)[j]? = some ix := by rw [← HW.out.2.1, List.getElem?_map, hp]; rfl
      obtain ⟨hmem, hel, hce, _⟩ := HW.out.2.2.1 _ (List.mem_of_getElem? hp)
      dsimp only at hmem hel hce
      have hinv := (Cp.inv_run L).2.2.2.2.2 _ hmem
      dsimp only at hinv
      obtain ⟨m1, hm1⟩ : ∃ m, T.length = m := ⟨_, rfl⟩
      obtain ⟨m2, hm2⟩ : ∃ m, R.length = m := ⟨_, rfl⟩
      obtain ⟨O, hO⟩ : ∃ O, Le.cs ((Le.rows L).take j) = O := ⟨_, rfl⟩
      rw [hO] at HB
      obtain ⟨gp, rfl, hgp, e0, e1, e2⟩ := Cp.part_at (HW.out.1.chg (l := []) (Chg.of_fresh (by rw [hB3]; exact HB.out.2)) (by simp)) HPl.out hp
      dsimp only at e1 e2
      rw [hm1] at e1
      rw [hm2] at e2
      rw [hm1] at hce
      obtain ⟨⟨i2, sc, fr, TT, ok⟩, hlf⟩ : ∃ p, Pj.lifeD ix L = p := ⟨_, rfl⟩
      have hok : ok = true := by have h := le_life_ok (List.mem_of_getElem? hix); rw [hlf] at h; exact h
      subst hok
      obtain ⟨⟨x0, x1, x2, x3, x4, x5, x6, x7, x8, x9⟩, hX⟩ : ∃ X, Le.of ix L = X := ⟨_, rfl⟩
      have HV : Hid (Pj.lifeD ix T = (i2, sc, fr, TT, true) ∧ m1 ≤ ce ∧ T.length = m1 ∧ m1 ≤ 10000 ∧ Ev.sum T ≤ 1000000 ∧ EL W3 re T ∧ (if true = true then Le.mk ix sc fr TT else Le.zero) = ⟨x0, x1, x2, x3, x4, x5, x6, x7, x8, x9⟩ ∧ Le.cs ((Le.rows L).take (j + 1)) = O ++ [.int .i64 x0, .int .i64 x1, .int .i64 x2, .int .i64 x3, .int .i64 x4, .int .i64 x5, .int .i64 x6, .int .i64 x7, .int .i64 x8, .int .i64 x9]) := Lib.hid ⟨by
        have : Pj.lifeD ix T = Pj.lifeD ix L := by unfold Pj.lifeD; rw [hinv.1]
        rw [this, hlf], hce, hm1, by have := hinv.2.2.1; rw [hm1, HL.out.1] at this; omega, by
        have h1 := Ev.sum_le (L := T) (B := 24) (fun x hx => HL.out.2.2.1 x (hinv.2.2.2 x hx))
        have h2 := hinv.2.2.1
        rw [HL.out.1] at h2
        omega, hel, by
        rw [if_pos rfl, ← hX]; unfold Le.of; rw [hlf], by
        have hr : (Le.rows L)[j]? = some ⟨x0, x1, x2, x3, x4, x5, x6, x7, x8, x9⟩ := by unfold Le.rows; rw [List.getElem?_map, hix, ← hX]; rfl
        rw [take_snocE hr, Le.cs_snoc, hO]; rfl⟩
      clear hp hix hmem hel hce hinv hm1 hm2 hO hlf hX
      obtain ⟨X2, hX2⟩ : ∃ X2, wr.heap.size = X2 := ⟨_, rfl⟩
      have HJ : Hid (RM (wr.alloc (.cells #[.int .i64 ix, .slice re m1 ce, .slice rr m2 cr] 52)) B3 rq j cq 10 O 31 ∧ Below B3 W3 (wr.alloc (.cells #[.int .i64 ix, .slice re m1 ce, .slice rr m2 cr] 52)) ∧ Blk (wr.alloc (.cells #[.int .i64 ix, .slice re m1 ce, .slice rr m2 cr] 52)) X2 [.int .i64 ix, .slice re m1 ce, .slice rr m2 cr] 52 ∧ B3 ≤ X2) := Lib.hid ⟨HB.out.1.chg (l := []) ((Chg.refl [] _).alloc _) (by simp), HB.out.2.alloc (by have := HB.out.2.size; omega) _, by rw [← hX2]; exact Blk.newA _ _ _, by rw [← hX2, ← hB3]; have := HB.out.2.size; omega⟩
      go_upto_region 5 with fail
      clear e0 e1 e2 hgp HB hX2
      revert HJ
      generalize (wr.alloc (.cells #[.int .i64 ix, .slice re m1 ce, .slice rr m2 cr] 52)) = V1
      intro HJ
      have d0 := HJ.out.2.2.1.cell (i := 0) rfl
      have d1 := HJ.out.2.2.1.cell (i := 1) rfl
      go_upto_region 6 with (go_at_call 12; (with_reducible refine (le_of10 re m1 ce T HV.out.2.2.1 HV.out.2.2.2.1 HV.out.2.1 HV.out.2.2.2.2.1 ix i2 sc fr TT true HV.out.1 x0 x1 x2 x3 x4 x5 x6 x7 x8 x9 HV.out.2.2.2.2.2.2.1 _ (HV.out.2.2.2.2.2.1.below (by rw [hB3]; exact HJ.out.2.1))).mono ?_); rintro r9 V3 ⟨rfl, bb⟩; have HJ3 : Hid (RM V3 B3 rq j cq 10 O 31 ∧ Below B3 W3 V3 ∧ B3 ≤ V3.heap.size) := Lib.hid ⟨HJ.out.1.chg (l := []) (Chg.of_fresh bb) (by simp), HJ.out.2.1.trans (bb.mono (Nat.le_trans HJ.out.2.2.2 (Nat.le_of_lt HJ.out.2.2.1.lt))), Nat.le_trans (Nat.le_trans HJ.out.2.2.2 (Nat.le_of_lt HJ.out.2.2.1.lt)) bb.size⟩; clear bb HJ d0 d1)
      have HK : Hid (RM (V3.alloc (.cells #[.int .i64 x0, .int .i64 x1, .int .i64 x2, .int .i64 x3, .int .i64 x4, .int .i64 x5, .int .i64 x6, .int .i64 x7, .int .i64 x8, .int .i64 x9] 31)) B3 rq j cq 10 O 31 ∧ Below B3 W3 (V3.alloc (.cells #[.int .i64 x0, .int .i64 x1, .int .i64 x2, .int .i64 x3, .int .i64 x4, .int .i64 x5, .int .i64 x6, .int .i64 x7, .int .i64 x8, .int .i64 x9] 31)) ∧ Blk (V3.alloc (.cells #[.int .i64 x0, .int .i64 x1, .int .i64 x2, .int .i64 x3, .int .i64 x4, .int .i64 x5, .int .i64 x6, .int .i64 x7, .int .i64 x8, .int .i64 x9] 31)) V3.heap.size [.int .i64 x0, .int .i64 x1, .int .i64 x2, .int .i64 x3, .int .i64 x4, .int .i64 x5, .int .i64 x6, .int .i64 x7, .int .i64 x8, .int .i64 x9] 31 ∧ B3 ≤ V3.heap.size) := Lib.hid ⟨HJ3.out.1.chg (l := []) ((Chg.refl [] _).alloc _) (by simp), HJ3.out.2.1.alloc HJ3.out.2.2 _, Blk.newA _ _ _, HJ3.out.2.2⟩
      clear HJ3
      revert HK
      generalize (V3.alloc (.cells #[.int .i64 x0, .int .i64 x1, .int .i64 x2, .int .i64 x3, .int .i64 x4, .int .i64 x5, .int .i64 x6, .int .i64 x7, .int .i64 x8, .int .i64 x9] 31)) = V4
      generalize V3.heap.size = X3
      intro HK
      have y0 := HK.out.2.2.1.cell (i := 0) rfl
      have y1 := HK.out.2.2.1.cell (i := 1) rfl
      have y2 := HK.out.2.2.1.cell (i := 2) rfl
      have y3 := HK.out.2.2.1.cell (i := 3) rfl
      have y4 := HK.out.2.2.1.cell (i := 4) rfl
      have y5 := HK.out.2.2.1.cell (i := 5) rfl
      have y6 := HK.out.2.2.1.cell (i := 6) rfl
      have y7 := HK.out.2.2.1.cell (i := 7) rfl
      have y8 := HK.out.2.2.1.cell (i := 8) rfl
      have y9 := HK.out.2.2.1.cell (i := 9) rfl
      go_wp2_with (at_builtin; refine wpList_append_rm _ rfl (.tmp 23) (.tmp 25) 24 24 rfl 31 (.agg #[.int .i64 0, .int .i64 0, .int .i64 0, .int .i64 0, .int .i64 0, .int .i64 0, .int .i64 0, .int .i64 0, .int .i64 0, .int .i64 0]) 10 80 Tryd.underlying24 infoRow rfl B3 rq j cq O rfl (HK.out.1.chg (l := []) ((Chg.refl [] _).alloc _) (by simp)) _ rfl 1 (by omega) [.int .i64 x0, .int .i64 x1, .int .i64 x2, .int .i64 x3, .int .i64 x4, .int .i64 x5, .int .i64 x6, .int .i64 x7, .int .i64 x8, .int .i64 x9] (Src.ofSlice _ Tryd.underlying24 ⟨_, 0, none⟩ 1 1 [.int .i64 x0, .int .i64 x1, .int .i64 x2, .int .i64 x3, .int .i64 x4, .int .i64 x5, .int .i64 x6, .int .i64 x7, .int .i64 x8, .int .i64 x9] rfl (new_atE _ _ _) (Le.R.c_one ⟨x0, x1, x2, x3, x4, x5, x6, x7, x8, x9⟩)) (by omega) (by omega) ?_; intro g4 c4 w4 u1 u2 u3; have HN : Hid (RM w4 B3 (some ⟨g4, 0, none⟩) (j + 1) c4 10 (Le.cs ((Le.rows L).take (j + 1))) 31 ∧ Below B3 W3 w4) := Lib.hid ⟨by rw [HV.out.2.2.2.2.2.2.2]; exact u1, u3.onto (HK.out.2.1.alloc (by have := HK.out.2.1.size; omega) _) (by have := HK.out.2.1.size; rw [World.size_alloc]; omega) (fun y hy => (HK.out.1.lt y hy).1)⟩; clear u1 u2 u3)
      go_roundw
      case rel => exact ⟨j + 1, c4, _, rfl, by go_num, by omega, HN⟩
      case measure => simp [intOf]; omega
    · obtain rfl : j = n := by omega
      have i1 : ¬ (j : Int) < (j : Int) := by omega
      have HF : Hid (RM wr B3 rq j cq 10 (Le.cs (Le.rows L)) 31 ∧ Below B3 W3 wr) := Lib.hid (by
        have h := HB.out
        rw [List.take_of_length_le (l := Le.rows L) (by unfold Le.rows; rw [List.length_map, HL.out.2.2.2]; exact Nat.le_refl _)] at h
        exact h)
      clear HB
      go_wp2_with fail
      go_ret
      have hbel : Below w.heap.size w wr := HW.out.2.2.2.trans (HF.out.2.mono (by have := HW.out.2.2.2.size; omega))
      have hB : w.heap.size ≤ B3 := by have := HW.out.2.2.2.size; omega
      first
        | exact ⟨rq, cq, rfl, HF.out.1.base_le hB, hbel⟩
        | exact ⟨rq, ⟨cq, rfl⟩, HF.out.1.base_le hB, hbel⟩
end Go.Proofs.YtdchedkhlfmpeaaDoor
