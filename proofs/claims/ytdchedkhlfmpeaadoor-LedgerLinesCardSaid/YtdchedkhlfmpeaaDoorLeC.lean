/- Several texts in one. -/
import Derived.Test.YtdchedkhlfmpeaaDoorEv5
import Derived.Test.YtdchedkhlfmpeaaDoorShelf
import Derived.Test.YtdchedkhlfmpeaaDoorBytes
import Derived.Lib.Builder
import Derived.WalkKit
import Derived.ProofKit
import Derived.Handy
import Derived.WalkLawsBesides
import Derived.WalkSpells
import Derived.Lib.Hide
import Derived.Lib.SliceRun
import Derived.Deep.RegionLaw
import Derived.RegionTactic
import Derived.ChangeAlike
import Derived.WalkSmall
import Derived.Deep.QuietTactic
import Derived.BigQuiet
import Derived.OwnWalk
import Derived.Outline
import Derived.Deep.CutRange
import Derived.Deep.CutBlock
import Derived.LoopTactic
import Derived.Test.YtdchedkhlfmpeaaDoorLeA
import Derived.Test.YtdchedkhlfmpeaaDoorLeB
import Derived.Lib.LaidTab
import Derived.OpenShut
import Derived.ChangeArms
/- Ledger: a builder of texts. -/
namespace Go.Proofs.YtdchedkhlfmpeaaDoor
open Go.ChangeShapes Go.WideShapes Go.ChangeAt Go.RowKit
set_option linter.unusedSimpArgs false
set_option linter.unusedVariables false

/-- A builder in block bb, its text S. -/
def BD (W : World) (B bb : Nat) (p : Value) (r : Option Addr) (n c : Nat) (S : ByteArray) : Prop := Blk W bb [p, .slice r n c] 64 ∧ RM W B r n c 1 (bv S) 5 ∧ n = S.size ∧ B ≤ bb ∧ (p = .pointer none ∨ p = .pointer (some ⟨bb, 0, none⟩))
theorem BD.same {W W' : World} {B bb : Nat} {p : Value} {r : Option Addr} {n c : Nat} {S : ByteArray} (h : BD W B bb p r n c S) (k : Chg [] W W') : BD W' B bb p r n c S := ⟨h.1.chg k (by simp), h.2.1.chg k (by simp), h.2.2⟩
theorem sizeB : (Tryd.prog.info? 64).map (·.size) = some 2 := by kernel_rfl
theorem liesB : liesAt Tryd.prog Tryd.prog.depth 64 (2 / Tryd.prog.cellsOf 64) 0 64 1 = true := by kernel_rfl
set_option maxRecDepth 20000 in
set_option maxHeartbeats 16000000 in
theorem le_cc_used (b : Nat) (w : World) (h0 : w.cell? ⟨b, 0, none⟩ = some (.pointer (some ⟨b, 0, none⟩))) :
    Calls Tryd.prog 35 #[.pointer (some ⟨b, 0, none⟩)] w fun e w' => e = .returned (.tuple #[]) ∧ w' = w := by
  obtain ⟨j, hj, _⟩ := Option.map_eq_some_iff.1 sizeB
  go_enter Tryd.func35, Tryd.ntmps35
  go_wp2
  rw [Lib.run_neq_ptr_same w _ Tryd.underlying61 hj]
  go_wp2
  go_end0
  exact ⟨rfl, rfl⟩
set_option maxRecDepth 20000 in
set_option maxHeartbeats 16000000 in
theorem le_cc_fresh (b : Nat) (w : World) (h0 : w.cell? ⟨b, 0, none⟩ = some (.pointer none)) (hsh : w.shape? b = some (64, 2)) (hfz : w.frozen? ⟨b, 0, none⟩ = false) :
    Calls Tryd.prog 35 #[.pointer (some ⟨b, 0, none⟩)] w fun e w' => e = .returned (.tuple #[]) ∧ w' = w.setCell ⟨b, 0, none⟩ (.pointer (some ⟨b, 0, none⟩)) := by
  obtain ⟨j, hj, hjs⟩ := Option.map_eq_some_iff.1 sizeB
  go_enter Tryd.func35, Tryd.ntmps35
  go_wp2
  rw [Lib.run_to_unsafe w ⟨b, 0, none⟩ Tryd.underlying61 Tryd.underlying109 hj (by rw [hjs]; decide) hsh (Nat.zero_lt_succ 1)]
  simp only [Result.andThen]
  rw [Oper.upon_value]
  go_wp2
  rw [run_callFunc_extern Tryd.func56 (by kernel_rfl) (by kernel_rfl) (by kernel_rfl) (e := Extern.AbiNoEscape.same) (by kernel_rfl)]
  rw [Lib.run_noEscape]
  simp only [Result.andThen]
  rw [Oper.upon_value]
  go_wp2
  rw [Lib.run_from_unsafe w ⟨b, 0, none⟩ Tryd.underlying109 Tryd.underlying61 hj hsh liesB]
  simp only [Result.andThen]
  rw [Oper.upon_value]
  go_wp2
  go_end0
  exact ⟨rfl, rfl⟩
theorem BD.notb {W : World} {B bb : Nat} {p : Value} {r : Option Addr} {n c : Nat} {S : ByteArray} (h : BD W B bb p r n c S) : bb ∉ rvB r := rm_ty h.2.1 h.1 (by decide)
theorem le_cc {W : World} {B bb : Nat} {p : Value} {r : Option Addr} {n c : Nat} {S : ByteArray} (h : BD W B bb p r n c S) :
    Calls Tryd.prog 35 #[.pointer (some ⟨bb, 0, none⟩)] W fun e w' => e = .returned (.tuple #[]) ∧ BD w' B bb (.pointer (some ⟨bb, 0, none⟩)) r n c S ∧ Chg [bb] W w' := by
  have hb := h.1
  rcases h.2.2.2.2 with e | e
  · subst e
    refine (le_cc_fresh bb W (hb.cell (i := 0) rfl) (by unfold Blk at hb; simp [World.shape?, hb]) (hb.free 0)).mono ?_
    rintro e w' ⟨rfl, rfl⟩
    have k : Chg [bb] W (W.setCell ⟨bb, 0, none⟩ (.pointer (some ⟨bb, 0, none⟩))) := (Chg.refl [bb] W).set (Or.inl (by simp)) _ _
    exact ⟨rfl, ⟨hb.set 0 _, h.2.1.chg k (fun g hg e => by simp at e; subst e; exact h.notb hg), h.2.2.1, h.2.2.2.1, Or.inr rfl⟩, k⟩
  · subst e
    refine (le_cc_used bb W (hb.cell (i := 0) rfl)).mono ?_
    rintro e w' ⟨rfl, rfl⟩
    exact ⟨rfl, h, Chg.refl _ _⟩
theorem wpList_append_rb (w : World) {ops : Array Oper} {rest : List Oper} {o : Oper} {a : Act} {Q : Exit → Act → World → Prop}
    (hg : o.guard = none) (s x : Operand) (hop : o.op = Op.call { callee := Callee.builtin Builtin.append, args := #[s, x], argTypes := #[62, 9] })
    (base : Nat) (r : Option Addr) (m cap : Nat) (L : List Value) (hs : a.eval s = .slice r m cap) (hown : RM w base r m cap 1 L 5) (t : ByteArray) (hx : a.eval x = .string t) (h63 : m + t.size ≤ 1000000)
    (hK : ∀ r' cap' w', RM w' base r' (m + t.size) cap' 1 (L ++ bv t) 5 → (∀ g ∈ rvB r', g ∈ rvB r ∨ w.heap.size ≤ g) → Chg (rvB r) w w' → wpList Tryd.prog ops Q rest (a.put o.dst (.slice r' (m + t.size) cap')) w') :
    wpList Tryd.prog ops Q (o :: rest) a w :=
  wpList_plain hg fun K hK' => wp_append_rb w s x hop base r m cap L hs hown t hx h63 fun r' c' w' h1 h2 h3 => hK' _ _ (hK r' c' w' h1 h2 h3)
set_option maxRecDepth 20000 in
set_option maxHeartbeats 16000000 in
theorem le_wstr (B bb : Nat) (p : Value) (r : Option Addr) (n c : Nat) (S s X : ByteArray) (hX : S ++ s = X) (hsz : n + s.size ≤ 1000000) (w : World) (hBw : B ≤ w.heap.size) (h : BD w B bb p r n c S) :
    Calls Tryd.prog 21 #[.pointer (some ⟨bb, 0, none⟩), .string s] w fun e w' => ∃ (p' : Value) (r' : Option Addr) (n' c' : Nat) (v : Value), e = .returned v ∧ BD w' B bb p' r' n' c' X ∧ Chg (bb :: rvB r) w w' ∧ (∀ g ∈ rvB r', g ∈ rvB r ∨ w.heap.size ≤ g) := by
  have H0 := Lib.hid (And.intro h hX)
  clear h hX
  go_enter Tryd.func21, Tryd.ntmps21
  go_upto_region 2 with (go_at_call 35; refine (le_cc H0.out.1).mono ?_; rintro e1 W1 ⟨rfl, q1, q2⟩; have H1 := Lib.hid (And.intro q1 q2); clear q1 q2)
  have c1 := H1.out.1.1.cell (i := 1) rfl
  have f1 := H1.out.1.1.free 1
  go_wp2_with (at_builtin; refine wpList_append_rb _ rfl (.tmp 12) (.tmp 13) rfl B r n c (bv S) rfl H1.out.1.2.1 s rfl hsz ?_; intro r4 c4 w4 q1 q2 q3; have HN : Hid (RM w4 B r4 (n + s.size) c4 1 (bv S ++ bv s) 5 ∧ (∀ g ∈ rvB r4, g ∈ rvB r ∨ W1.heap.size ≤ g) ∧ Chg (rvB r) W1 w4 ∧ Blk w4 bb [.pointer (some ⟨bb, 0, none⟩), .slice r n c] 64) := Lib.hid ⟨q1, q2, q3, H1.out.1.1.chg q3 H1.out.1.notb⟩; have c1m := HN.out.2.2.2.cell (i := 1) rfl; have f1m := HN.out.2.2.2.free 1; clear q1 q2 q3)
  go_ret2
  have hnb : bb ∉ rvB r4 := rm_ty HN.out.1 HN.out.2.2.2 (by decide)
  have k : Chg [bb] w4 (w4.setCell ⟨bb, 1, none⟩ (.slice r4 (n + s.size) c4)) := (Chg.refl [bb] w4).set (Or.inl (by simp)) _ _
  refine ⟨.pointer (some ⟨bb, 0, none⟩), r4, n + s.size, c4, _, rfl, ⟨HN.out.2.2.2.set 1 _, ?_, ?_, H0.out.1.2.2.2.1, Or.inr rfl⟩, ?_, ?_⟩
  · rw [← H0.out.2, bv_append]
    exact HN.out.1.chg k (fun g hg e => by simp at e; subst e; exact hnb hg)
  · rw [← H0.out.2, ByteArray.size_append, H0.out.1.2.2.1]
  · exact ((H1.out.2.mono (by simp)).trans (HN.out.2.2.1.mono (fun x hx => List.mem_cons_of_mem _ hx)) (fun x hx => Or.inl hx)).trans (k.mono (by simp)) (fun x hx => Or.inl hx)
  · intro g hg
    rcases HN.out.2.1 g hg with h | h
    · exact Or.inl h
    · exact Or.inr (Nat.le_trans H1.out.2.size h)
theorem BD.isB {W : World} {B bb : Nat} {p : Value} {r : Option Addr} {n c : Nat} {S : ByteArray} (h : BD W B bb p r n c S) : Lib.IsBuilder 64 5 B bb (Lib.byteCells S.data.toList) W := by
  have hl : (Lib.byteCells S.data.toList).length = n := by rw [show Lib.byteCells S.data.toList = bv S from rfl, bv_length, h.2.2.1]
  have key : Lib.BuilderAt 64 5 B bb p (Lib.byteCells S.data.toList) W := by
    refine ⟨h.2.2.2.1, .slice r n c, h.1, ?_, ?_⟩
    · rw [hl]
      obtain ⟨h0, h1, ⟨h2, h3, h4⟩ | ⟨g, h2, h3, rest, h4, h5, h6⟩⟩ := h.2.1
      · subst h2 h3 h4
        exact ⟨by simpa using hl, Or.inl ⟨rfl, rfl⟩⟩
      · subst h2
        have hbl : (bv S).length = n := hl
        refine ⟨by simpa using hl, Or.inr ⟨g, c, (bv S ++ rest).toArray, rfl, h3, h6, by omega, by unfold maxLen; omega, by simp; omega, ?_⟩⟩
        rw [Nat.mul_one, ← hbl]
        show (bv S ++ rest).take (bv S).length = bv S
        rw [List.take_left]
    · intro e
      have := h.notb
      cases r with
      | none => cases e
      | some a =>
        unfold Value.ownBlock at e
        injection e with e
        exact this (by unfold rvB; simp [e])
  rcases h.2.2.2.2 with e | e
  · rw [e] at key; exact Or.inl key
  · rw [e] at key; exact Or.inr key
theorem le_bstr {W : World} {B bb : Nat} {p : Value} {r : Option Addr} {n c : Nat} {S : ByteArray} (h : BD W B bb p r n c S) (hB : B ≤ W.heap.size) :
    Calls Tryd.prog 22 #[.pointer (some ⟨bb, 0, none⟩)] W fun e w' => e = .returned (.string S) ∧ Below B W w' := by
  refine (Tryd.Builder_String_any B bb S.data.toList W h.isB hB).mono ?_
  rintro e w' ⟨rfl, b⟩
  exact ⟨by simp, b⟩
end Go.Proofs.YtdchedkhlfmpeaaDoor
/- Ledger: Table. -/
namespace Go.Proofs.YtdchedkhlfmpeaaDoor
open Go.ChangeShapes Go.WideShapes Go.ChangeAt Go.RowKit
set_option linter.unusedSimpArgs false
set_option linter.unusedVariables false

theorem Le.cs_len (R : List Le.R) : (Le.cs R).length = R.length * 10 := by
  unfold Le.cs
  induction R with
  | nil => rfl
  | cons p P ih => rw [List.flatMap_cons, List.length_append, ih, List.length_cons]; show 10 + _ = _; omega
theorem Le.cs_at : ∀ (R : List Le.R) (j : Nat) (p : Le.R) (q : Nat) (v : Value), R[j]? = some p → p.c[q]? = some v → (Le.cs R)[j * 10 + q]? = some v
  | [], j, p, q, v, h, _ => by simp at h
  | x :: P, 0, p, q, v, h, hq => by
    simp at h
    subst h
    unfold Le.cs
    rw [List.flatMap_cons]
    have hl : q < x.c.length := by
      rcases Nat.lt_or_ge q x.c.length with h | h
      · exact h
      · rw [List.getElem?_eq_none h] at hq; cases hq
    rw [show 0 * 10 + q = q by omega, List.getElem?_append_left hl]; exact hq
  | x :: P, j + 1, p, q, v, h, hq => by
    simp only [List.getElem?_cons_succ] at h
    have ih := Le.cs_at P j p q v h hq
    unfold Le.cs at *
    rw [List.flatMap_cons, List.getElem?_append_right (by show 10 ≤ _; omega)]
    have : (j + 1) * 10 + q - x.c.length = j * 10 + q := by show _ - 10 = _; omega
    rw [this]; exact ih
theorem Le.at10 {w : World} {B n c : Nat} {r : Option Addr} {R : List Le.R} (h : RM w B r n c 10 (Le.cs R) 31) (hP : R.length = n) {j : Nat} {x : Le.R} (hj : R[j]? = some x) : ∃ g, r = some ⟨g, 0, none⟩ ∧ g < w.heap.size ∧ w.cell? ⟨g, j * 10, none⟩ = some (.int .i64 x.i) ∧ w.cell? ⟨g, j * 10 + 1, none⟩ = some (.int .i64 x.sc) ∧ w.cell? ⟨g, j * 10 + 2, none⟩ = some (.int .i64 x.fr) ∧ w.cell? ⟨g, j * 10 + 3, none⟩ = some (.int .i64 x.st) ∧ w.cell? ⟨g, j * 10 + 4, none⟩ = some (.int .i64 x.lo) ∧ w.cell? ⟨g, j * 10 + 5, none⟩ = some (.int .i64 x.ju) ∧ w.cell? ⟨g, j * 10 + 6, none⟩ = some (.int .i64 x.rd) ∧ w.cell? ⟨g, j * 10 + 7, none⟩ = some (.int .i64 x.tk) ∧ w.cell? ⟨g, j * 10 + 8, none⟩ = some (.int .i64 x.ss) ∧ w.cell? ⟨g, j * 10 + 9, none⟩ = some (.int .i64 x.en) := by
  have hl := (List.getElem?_eq_some_iff.1 hj).1
  obtain ⟨g, rfl, _, hr⟩ := h.row (by omega)
  exact ⟨g, rfl, hr.lt, hr.cell (Le.cs_at R j _ 0 _ hj rfl), hr.cell (Le.cs_at R j _ 1 _ hj rfl), hr.cell (Le.cs_at R j _ 2 _ hj rfl), hr.cell (Le.cs_at R j _ 3 _ hj rfl), hr.cell (Le.cs_at R j _ 4 _ hj rfl), hr.cell (Le.cs_at R j _ 5 _ hj rfl), hr.cell (Le.cs_at R j _ 6 _ hj rfl), hr.cell (Le.cs_at R j _ 7 _ hj rfl), hr.cell (Le.cs_at R j _ 8 _ hj rfl), hr.cell (Le.cs_at R j _ 9 _ hj rfl)⟩
/-- The bounds of a row's numbers. -/
def Le.R.ok (x : Le.R) : Prop := Le.i64 x.i ∧ Le.i64 x.sc ∧ Le.i64 x.fr ∧ Le.i64 x.st ∧ Le.i64 x.lo ∧ Le.i64 x.ju ∧ Le.i64 x.rd ∧ Le.i64 x.tk ∧ Le.i64 x.en
/-- A row's line as told; all rows' lines. -/
def Le.R.l (x : Le.R) : List UInt8 := Le.line x.i x.sc x.fr x.st x.lo x.ju x.rd x.tk x.ss x.en ++ [10]
def Le.tab (R : List Le.R) : List UInt8 := R.flatMap Le.R.l
theorem Le.tab_snoc (R : List Le.R) (x : Le.R) : Le.tab (R ++ [x]) = Le.tab R ++ x.l := by unfold Le.tab; rw [List.flatMap_append]; simp
theorem Le.l_len {x : Le.R} (h : x.ok) : x.l.length ≤ 311 := by
  unfold Le.R.l Le.line
  rw [List.length_append]
  have := le_join_len [Lib.itoa x.i, Lib.itoa x.sc, Le.tt x.fr, Lib.itoa x.st, Lib.itoa x.lo, Lib.itoa x.ju, Lib.itoa x.rd, Lib.itoa x.tk, Le.wd x.ss, Le.tt x.en] (by
    obtain ⟨h0, h1, h2, h3, h4, h5, h6, h7, h8⟩ := h
    intro l hl
    simp only [List.mem_cons, List.not_mem_nil, or_false] at hl
    rcases hl with rfl | rfl | rfl | rfl | rfl | rfl | rfl | rfl | rfl | rfl
    · exact Le.itoa_len h0
    · exact Le.itoa_len h1
    · exact Le.tt_len h2
    · exact Le.itoa_len h3
    · exact Le.itoa_len h4
    · exact Le.itoa_len h5
    · exact Le.itoa_len h6
    · exact Le.itoa_len h7
    · exact Le.wd_len _
    · exact Le.tt_len h8)
  have e : ([Lib.itoa x.i, Lib.itoa x.sc, Le.tt x.fr, Lib.itoa x.st, Lib.itoa x.lo, Lib.itoa x.ju, Lib.itoa x.rd, Lib.itoa x.tk, Le.wd x.ss, Le.tt x.en] : List (List UInt8)).length = 10 := rfl
  rw [e] at this
  show _ + 1 ≤ 311
  omega
theorem Le.tab_len : ∀ (R : List Le.R), (∀ x ∈ R, x.ok) → (Le.tab R).length ≤ 311 * R.length
  | [], _ => by unfold Le.tab; simp
  | x :: R, h => by
    have h1 := Le.l_len (h x (by simp))
    have h2 := Le.tab_len R (fun y hy => h y (by simp [hy]))
    unfold Le.tab at *
    rw [List.flatMap_cons, List.length_append, List.length_cons]
    omega
theorem Le.t_app (a b : List UInt8) : Le.t a ++ Le.t b = Le.t (a ++ b) := by
  refine Le.t_of ?_
  rw [ByteArray.data_append, Array.toList_append, Le.t_list, Le.t_list]
/-- What a round of the table keeps. -/
structure LT (w W : World) (X : Nat) (p : Value) (rb : Option Addr) (nb cb : Nat) (S : ByteArray) (rq : Option Addr) (n cq : Nat) (cs : List Value) : Prop where
  bd : BD W X X p rb nb cb S
  rm : RM W X rq n cq 10 cs 31
  be : Below X w W
  le : X ≤ W.heap.size
theorem LT.below {w W W' : World} {X : Nat} {p : Value} {rb : Option Addr} {nb cb : Nat} {S : ByteArray} {rq : Option Addr} {n cq : Nat} {cs : List Value} (h : LT w W X p rb nb cb S rq n cq cs) (k : Below W.heap.size W W') : LT w W' X p rb nb cb S rq n cq cs := ⟨h.bd.same (Chg.of_fresh k), h.rm.chg (l := []) (Chg.of_fresh k) (by simp), h.be.trans (k.mono h.le), Nat.le_trans h.le k.size⟩
theorem le_line10 (x0 x1 x2 x3 x4 x5 x6 x7 x8 x9 : Int) (HXX : Le.R.ok ⟨x0, x1, x2, x3, x4, x5, x6, x7, x8, x9⟩) (X : ByteArray) (hX : Le.t (Le.line x0 x1 x2 x3 x4 x5 x6 x7 x8 x9) = X) (w : World) (htab : Lib.TabIs Tryd.prog w "internal/strconv.uint64pow10" .u64 Lib.pow10Tab) (hsi : SI w) :
    Calls Tryd.prog 15 #[.agg #[.int .i64 x0, .int .i64 x1, .int .i64 x2, .int .i64 x3, .int .i64 x4, .int .i64 x5, .int .i64 x6, .int .i64 x7, .int .i64 x8, .int .i64 x9]] w fun e w' => e = .returned (.string X) ∧ Below w.heap.size w w' := by
  subst hX
  obtain ⟨h0, h1, h2, h3, h4, h5, h6, h7, h8⟩ := HXX
  exact le_line x0 x1 x2 x3 x4 x5 x6 x7 x8 x9 h0 h1 h2 h3 h4 h5 h6 h7 h8 w htab hsi
set_option maxRecDepth 20000 in
set_option maxHeartbeats 16000000 in
theorem le_table (a : Option Addr) (len cap : Nat) (L : List Ev) (hl : L.length = len) (hlm : len ≤ 3000) (hb24 : ∀ x ∈ L, x.b.size ≤ 24) (hok : ∀ x ∈ Le.rows L, x.ok) (T : ByteArray) (hT : Le.t (Le.tab (Le.rows L)) = T) (w : World) (HE : EL w a L) (htab : Lib.TabIs Tryd.prog w "internal/strconv.uint64pow10" .u64 Lib.pow10Tab) (hsi : SI w) :
    Calls Tryd.prog 9 #[.slice a len cap] w fun e w' => e = .returned (.string T) ∧ Below w.heap.size w w' := by
  obtain ⟨n, hn⟩ : ∃ n, (Ev.ids L).length = n := ⟨_, rfl⟩
  have hrl : (Le.rows L).length = n := by unfold Le.rows; rw [List.length_map, hn]
  have hnm : n ≤ 3000 := by
    have h1 := Ev.ids_le L
    rw [hn, hl] at h1
    omega
  have htl := Le.tab_len (Le.rows L) hok
  obtain ⟨X, hX⟩ : ∃ X, w.heap.size = X := ⟨_, rfl⟩
  have k0 : Below w.heap.size w (w.alloc (.cells #[.pointer none, .slice none 0 0] 64)) := (Below.refl _ _).alloc (Nat.le_refl _) _
  have HS : Hid (BD (w.alloc (.cells #[.pointer none, .slice none 0 0] 64)) X X (.pointer none) none 0 0 { data := #[] } ∧ Below X w (w.alloc (.cells #[.pointer none, .slice none 0 0] 64)) ∧ X ≤ (w.alloc (.cells #[.pointer none, .slice none 0 0] 64)).heap.size ∧ EL (w.alloc (.cells #[.pointer none, .slice none 0 0] 64)) a L) := Lib.hid ⟨⟨by rw [← hX]; exact Blk.newA _ _ _, RM.nil _ _ _ _ (by rw [World.size_alloc]; omega), rfl, Nat.le_refl _, Or.inl rfl⟩, by rw [← hX]; exact k0, by rw [World.size_alloc]; omega, HE.below k0⟩
  have HG := Lib.hid (And.intro hsi (And.intro htab hX))
  have HL := Lib.hid (And.intro hl (And.intro hb24 (And.intro hn (And.intro hrl (And.intro hok (And.intro hT htl))))))
  clear hl HE hb24 hn hrl hok hT htl htab hsi k0
  go_enter Tryd.func9, Tryd.ntmps9
  go_upto_region 2 with fail
  revert HS
  clear hX
  generalize (w.alloc (.cells #[.pointer none, .slice none 0 0] 64)) = W1
  intro HS
  go_wp2_with (go_at_call 7; (with_reducible refine (le_rows a len cap L HL.out.1 (by omega) HL.out.2.1 n HL.out.2.2.1 _ HS.out.2.2.2).mono ?_); rintro r7 W3 ⟨rq, cq, rfl, h1, bb⟩; have HT3 : Hid (LT w W3 X (.pointer none) none 0 0 { data := #[] } rq n cq (Le.cs (Le.rows L))) := Lib.hid ⟨HS.out.1.same (Chg.of_fresh bb), h1.base_le HS.out.2.2.1, HS.out.2.1.trans (bb.mono HS.out.2.2.1), Nat.le_trans HS.out.2.2.1 bb.size⟩; clear bb h1 HS)
  go_loopw [5, 9] (fun _ z wr => ∃ (j : Nat) (p : Value) (rb : Option Addr) (nb cb : Nat), z = .int .i64 j ∧ j ≤ n ∧ Hid (LT w wr X p rb nb cb (Le.t (Le.tab ((Le.rows L).take j))) rq n cq (Le.cs (Le.rows L)))) (fun _ z _ => n - (intOf z).toNat)
  case atStart => exact ⟨0, _, _, _, _, rfl, by omega, Lib.hid (by rw [List.take_zero]; exact HT3.out)⟩
  case round =>
    obtain ⟨j, p, rb, nb, cb, rfl, hj, HB⟩ := hrel
    have j0 : (0 : Int) ≤ (j : Int) := by omega
    by_cases hjn : j < n
    · have i1 : (j : Int) < (n : Int) := by omega
      have w1 : IntKind.i64.wrap ((j : Int) + 1) = (j : Int) + 1 := IntWalk.i64_in _ (by omega)
      obtain ⟨x, hx⟩ : ∃ x, (Le.rows L)[j]? = some x := ⟨_, List.getElem?_eq_getElem (by rw [HL.out.2.2.2.1]; exact hjn)⟩
      have hxo := HL.out.2.2.2.2.1 x (List.mem_of_getElem? hx)
      obtain ⟨x0, x1, x2, x3, x4, x5, x6, x7, x8, x9⟩ := x
      obtain ⟨gq, rfl, hgq, e0, e1, e2, e3, e4, e5, e6, e7, e8, e9⟩ := Le.at10 HB.out.rm HL.out.2.2.2.1 hx
      dsimp only at e0 e1 e2 e3 e4 e5 e6 e7 e8 e9
      obtain ⟨S1, hS1⟩ : ∃ S1, Le.t (Le.tab ((Le.rows L).take j)) = S1 := ⟨_, rfl⟩
      obtain ⟨S2, hS2⟩ : ∃ S2, Le.t (Le.line x0 x1 x2 x3 x4 x5 x6 x7 x8 x9) = S2 := ⟨_, rfl⟩
      obtain ⟨S3, hS3⟩ : ∃ S3, S2 ++ { data := #[10] } = S3 := ⟨_, rfl⟩
      obtain ⟨S4, hS4⟩ : ∃ S4, Le.t (Le.tab ((Le.rows L).take (j + 1))) = S4 := ⟨_, rfl⟩
      have hS3l : S3 = Le.t (Le.R.l ⟨x0, x1, x2, x3, x4, x5, x6, x7, x8, x9⟩) := by rw [← hS3, ← hS2]; exact Le.t_app _ [10]
      have hS134 : S1 ++ S3 = S4 := by rw [← hS4, take_snocE hx, Le.tab_snoc, ← hS1, hS3l]; exact Le.t_app _ _
      have hsz : nb + S3.size ≤ 1000000 := by
        have h1 := HB.out.bd.2.2.1
        have h2 := Le.tab_len ((Le.rows L).take j) (fun y hy => HL.out.2.2.2.2.1 y (List.mem_of_mem_take hy))
        have h3 := Le.l_len hxo
        have h4 : ((Le.rows L).take j).length ≤ 3000 := by rw [List.length_take]; omega
        rw [hS3l, Le.t_size, h1, Le.t_size]
        omega
      have hs2 : S2.size + 1 ≤ 400 := by
        have h3 := Le.l_len hxo
        unfold Le.R.l at h3
        rw [List.length_append] at h3
        dsimp only at h3
        rw [← hS2, Le.t_size]
        have : ([10] : List UInt8).length = 1 := rfl
        omega
      rw [hS1] at HB
      have HV := Lib.hid (And.intro hxo (And.intro hS2 (And.intro hS3 (And.intro hS134 (And.intro hS4 hsz)))))
      have hnx : X ≤ wr.heap.size := HB.out.le
      have HJ : Hid (LT w (wr.alloc (.cells #[.int .i64 x0, .int .i64 x1, .int .i64 x2, .int .i64 x3, .int .i64 x4, .int .i64 x5, .int .i64 x6, .int .i64 x7, .int .i64 x8, .int .i64 x9] 31)) X p rb nb cb S1 (some ⟨gq, 0, none⟩) n cq (Le.cs (Le.rows L)) ∧ Blk (wr.alloc (.cells #[.int .i64 x0, .int .i64 x1, .int .i64 x2, .int .i64 x3, .int .i64 x4, .int .i64 x5, .int .i64 x6, .int .i64 x7, .int .i64 x8, .int .i64 x9] 31)) wr.heap.size [.int .i64 x0, .int .i64 x1, .int .i64 x2, .int .i64 x3, .int .i64 x4, .int .i64 x5, .int .i64 x6, .int .i64 x7, .int .i64 x8, .int .i64 x9] 31) := Lib.hid ⟨HB.out.below ((Below.refl _ _).alloc (Nat.le_refl _) _), Blk.newA _ _ _⟩
      clear hxo hx hS1 hS2 hS3 hS4 hS3l hS134 hsz hnx HB
      go_upto_region 5 with fail
      clear e0 e1 e2 e3 e4 e5 e6 e7 e8 e9 hgq
      revert HJ
      generalize (wr.alloc (.cells #[.int .i64 x0, .int .i64 x1, .int .i64 x2, .int .i64 x3, .int .i64 x4, .int .i64 x5, .int .i64 x6, .int .i64 x7, .int .i64 x8, .int .i64 x9] 31)) = V1
      generalize wr.heap.size = X3
      intro HJ
      have y0 := HJ.out.2.cell (i := 0) rfl
      have y1 := HJ.out.2.cell (i := 1) rfl
      have y2 := HJ.out.2.cell (i := 2) rfl
      have y3 := HJ.out.2.cell (i := 3) rfl
      have y4 := HJ.out.2.cell (i := 4) rfl
      have y5 := HJ.out.2.cell (i := 5) rfl
      have y6 := HJ.out.2.cell (i := 6) rfl
      have y7 := HJ.out.2.cell (i := 7) rfl
      have y8 := HJ.out.2.cell (i := 8) rfl
      have y9 := HJ.out.2.cell (i := 9) rfl
      go_wp2_with (first
        | (go_at_call 15; (with_reducible refine (le_line10 x0 x1 x2 x3 x4 x5 x6 x7 x8 x9 HV.out.1 S2 HV.out.2.1 _ (tab_below (by rw [HG.out.2.2]; exact HJ.out.1.be) HG.out.2.1) (HG.out.1.below (by rw [HG.out.2.2]; exact HJ.out.1.be))).mono ?_); rintro r9 V3 ⟨rfl, bb⟩; have HJ3 := Lib.hid (HJ.out.1.below bb); clear bb)
        | (go_at_call 21; (refine (le_wstr X X p rb nb cb S1 _ (Le.t (Le.tab ((Le.rows L).take (j + 1)))) (by rw [HV.out.2.2.2.2.1, ← HV.out.2.2.2.1, ← HV.out.2.2.1]) (by rw [HV.out.2.2.1]; exact HV.out.2.2.2.2.2) _ HJ3.out.le HJ3.out.bd).mono ?_); rintro r9 V4 ⟨p4, rb4, nb4, cb4, v4, rfl, q1, q2, q3⟩; have HJ4 : Hid (LT w V4 X p4 rb4 nb4 cb4 (Le.t (Le.tab ((Le.rows L).take (j + 1)))) (some ⟨gq, 0, none⟩) n cq (Le.cs (Le.rows L))) := Lib.hid ⟨q1, HJ3.out.rm.chg q2 (fun g hg h => by
            rcases List.mem_cons.1 h with e | e
            · subst e; exact rm_ty HJ3.out.rm HJ3.out.bd.1 (by decide) hg
            · exact rm_ne HJ3.out.rm HJ3.out.bd.2.1 (by decide) g hg e), q2.onto HJ3.out.be HJ3.out.le (fun y hy => by
            rcases List.mem_cons.1 hy with e | e
            · omega
            · exact (HJ3.out.bd.2.1.lt y e).1), Nat.le_trans HJ3.out.le q2.size⟩; clear q1 q2 q3))
      all_goals first | (show False; omega) | skip
      go_roundw
      case rel => exact ⟨j + 1, _, _, _, _, by go_num, by omega, HJ4⟩
      case measure => simp [intOf]; omega
    · obtain rfl : j = n := by omega
      have i1 : ¬ (j : Int) < (j : Int) := by omega
      have HF : Hid (LT w wr X p rb nb cb T rq j cq (Le.cs (Le.rows L))) := Lib.hid (by
        have h := HB.out
        rw [List.take_of_length_le (l := Le.rows L) (by rw [HL.out.2.2.2.1]; exact Nat.le_refl _), HL.out.2.2.2.2.2.1] at h
        exact h)
      clear HB
      go_upto_region 7 with fail
      go_wp2_with (go_at_call 22; (with_reducible refine (le_bstr HF.out.bd HF.out.le).mono ?_); rintro r9 V5 ⟨rfl, bb⟩; have HE5 : Hid (Below X w V5) := Lib.hid (HF.out.be.trans bb); clear bb)
      go_ret
      exact ⟨rfl, by rw [HG.out.2.2]; exact HE5.out⟩
end Go.Proofs.YtdchedkhlfmpeaaDoor
/- Ledger: lives of the law; the table of words. -/
namespace Go.Proofs.YtdchedkhlfmpeaaDoor
open Go.ChangeShapes Go.WideShapes Go.ChangeAt Go.RowKit
set_option linter.unusedSimpArgs false
set_option linter.unusedVariables false

def Le.L0 : List Ev := [⟨1, 0, 0, 3, ⟨#[]⟩, 0, 0, 0, 0, 0, 0, 0⟩, ⟨2, 0, 0, 0, ⟨#[]⟩, 0, 0, 0, 0, 0, 0, 0⟩, ⟨4, 0, 2, 0, ⟨#[111, 107]⟩, 0, 0, 0, 0, 0, 0, 0⟩, ⟨8, 0, 0, 0, ⟨#[]⟩, 0, 3, 0, 2, 0, 2, 0⟩, ⟨8, 0, 0, 0, ⟨#[]⟩, 0, 7, 1, 9, 0, 0, 1⟩]
theorem Le.L0_rows : Le.rows Le.L0 = [⟨0, 0, 3, 2, 0, 1, 2, 0, 1, 7⟩] := by rfl
theorem Le.L0_ok : ∀ x ∈ Le.L0, x.ok := by
  intro x hx
  simp only [Le.L0, List.mem_cons, List.not_mem_nil, or_false] at hx
  have z0 : (⟨#[]⟩ : ByteArray).size ≤ maxLen := by unfold maxLen; decide
  have z1 : (⟨#[111, 107]⟩ : ByteArray).size ≤ maxLen := by unfold maxLen; decide
  rcases hx with rfl | rfl | rfl | rfl | rfl <;> exact ⟨by first | exact z0 | exact z1, fun k z hz => by
    simp only [Ev.c, List.mem_cons, List.not_mem_nil, or_false, reduceCtorEq, false_or, Value.int.injEq] at hz
    rcases hz with ⟨rfl, rfl⟩ | ⟨rfl, rfl⟩ | ⟨rfl, rfl⟩ | ⟨rfl, rfl⟩ | ⟨rfl, rfl⟩ | ⟨rfl, rfl⟩ | ⟨rfl, rfl⟩ | ⟨rfl, rfl⟩ | ⟨rfl, rfl⟩ | ⟨rfl, rfl⟩ | ⟨rfl, rfl⟩ <;> decide⟩
theorem le_dec1 (n : Nat) (h : n < 10) : Lib.decDigits n = [UInt8.ofNat (48 + n)] := by
  rw [Lib.decDigits, dif_pos h]
theorem le_ito1 (n : Nat) (h : n < 10) : Lib.itoa (n : Int) = [UInt8.ofNat (48 + n)] := by
  unfold Lib.itoa
  rw [if_neg (by omega)]
  exact le_dec1 n h
theorem le_tt1 (n : Nat) (h : n < 10) : Le.tt (n : Int) = [UInt8.ofNat (48 + n)] := by
  unfold Le.tt
  rw [Tk.own_of _ (by omega)]
  unfold Tx.text
  rw [if_neg (by omega)]
  exact le_dec1 n h
theorem Le.L0_text : Le.t (Le.tab (Le.rows Le.L0)) = ({ data := #[48, 32, 48, 32, 51, 32, 50, 32, 48, 32, 49, 32, 50, 32, 48, 32, 100, 111, 110, 101, 32, 55, 10] } : ByteArray) := by
  rw [Le.L0_rows]
  unfold Le.tab Le.R.l Le.line
  have h0 := le_ito1 0 (by omega)
  have h1 := le_ito1 1 (by omega)
  have h2 := le_ito1 2 (by omega)
  have h3 := le_tt1 3 (by omega)
  have h7 := le_tt1 7 (by omega)
  simp only [List.flatMap_cons, List.flatMap_nil]
  rw [show Lib.itoa 0 = _ from h0, show Lib.itoa 1 = _ from h1, show Lib.itoa 2 = _ from h2, show Le.tt 3 = _ from h3, show Le.tt 7 = _ from h7]
  rfl
theorem Le.L0_rok : ∀ x ∈ Le.rows Le.L0, x.ok := by
  intro x hx
  rw [Le.L0_rows] at hx
  obtain rfl := List.mem_singleton.1 hx
  unfold Le.R.ok Le.i64
  dsimp only
  omega
theorem le_table0 (g : Nat) (cap : Nat) (W : World) (h : EL W (some ⟨g, 0, none⟩) Le.L0) (htab : Lib.TabIs Tryd.prog W "internal/strconv.uint64pow10" .u64 Lib.pow10Tab) (hsi : SI W) : Calls Tryd.prog 9 #[.slice (some ⟨g, 0, none⟩) 5 cap] W fun e w' => e = .returned (.string ({ data := #[48, 32, 48, 32, 51, 32, 50, 32, 48, 32, 49, 32, 50, 32, 48, 32, 100, 111, 110, 101, 32, 55, 10] } : ByteArray)) ∧ Below W.heap.size W w' :=
  le_table (some ⟨g, 0, none⟩) 5 cap Le.L0 rfl (by omega) (by
    intro x hx
    simp only [Le.L0, List.mem_cons, List.not_mem_nil, or_false] at hx
    rcases hx with rfl | rfl | rfl | rfl | rfl <;> decide) Le.L0_rok _ Le.L0_text W h htab hsi
set_option maxRecDepth 20000 in
set_option maxHeartbeats 16000000 in
theorem le_lives (w : World) (htab : Lib.TabIs Tryd.prog w "internal/strconv.uint64pow10" .u64 Lib.pow10Tab) (hsi : SI w) : Calls Tryd.prog 13 #[] w fun r w' => r = .returned (.bool true) ∧ Below w.heap.size w w' := by
  have k0 : Below w.heap.size w (w.alloc (.cells #[.int .i64 1, .int .i64 0, .int .i64 0, .int .i64 3, .string ⟨#[]⟩, .int .i64 0, .int .i64 0, .int .i64 0, .int .i64 0, .int .i64 0, .int .i64 0, .int .i64 0, .int .i64 2, .int .i64 0, .int .i64 0, .int .i64 0, .string ⟨#[]⟩, .int .i64 0, .int .i64 0, .int .i64 0, .int .i64 0, .int .i64 0, .int .i64 0, .int .i64 0, .int .i64 4, .int .i64 0, .int .i64 2, .int .i64 0, .string ⟨#[111, 107]⟩, .int .i64 0, .int .i64 0, .int .i64 0, .int .i64 0, .int .i64 0, .int .i64 0, .int .i64 0, .int .i64 8, .int .i64 0, .int .i64 0, .int .i64 0, .string ⟨#[]⟩, .int .i64 0, .int .i64 3, .int .i64 0, .int .i64 2, .int .i64 0, .int .i64 2, .int .i64 0, .int .i64 8, .int .i64 0, .int .i64 0, .int .i64 0, .string ⟨#[]⟩, .int .i64 0, .int .i64 7, .int .i64 1, .int .i64 9, .int .i64 0, .int .i64 0, .int .i64 1] 46)) := (Below.refl _ _).alloc (Nat.le_refl _) _
  have H0 : Hid (EL (w.alloc (.cells #[.int .i64 1, .int .i64 0, .int .i64 0, .int .i64 3, .string ⟨#[]⟩, .int .i64 0, .int .i64 0, .int .i64 0, .int .i64 0, .int .i64 0, .int .i64 0, .int .i64 0, .int .i64 2, .int .i64 0, .int .i64 0, .int .i64 0, .string ⟨#[]⟩, .int .i64 0, .int .i64 0, .int .i64 0, .int .i64 0, .int .i64 0, .int .i64 0, .int .i64 0, .int .i64 4, .int .i64 0, .int .i64 2, .int .i64 0, .string ⟨#[111, 107]⟩, .int .i64 0, .int .i64 0, .int .i64 0, .int .i64 0, .int .i64 0, .int .i64 0, .int .i64 0, .int .i64 8, .int .i64 0, .int .i64 0, .int .i64 0, .string ⟨#[]⟩, .int .i64 0, .int .i64 3, .int .i64 0, .int .i64 2, .int .i64 0, .int .i64 2, .int .i64 0, .int .i64 8, .int .i64 0, .int .i64 0, .int .i64 0, .string ⟨#[]⟩, .int .i64 0, .int .i64 7, .int .i64 1, .int .i64 9, .int .i64 0, .int .i64 0, .int .i64 1] 46)) (some ⟨w.heap.size, 0, none⟩) Le.L0 ∧ Below w.heap.size w (w.alloc (.cells #[.int .i64 1, .int .i64 0, .int .i64 0, .int .i64 3, .string ⟨#[]⟩, .int .i64 0, .int .i64 0, .int .i64 0, .int .i64 0, .int .i64 0, .int .i64 0, .int .i64 0, .int .i64 2, .int .i64 0, .int .i64 0, .int .i64 0, .string ⟨#[]⟩, .int .i64 0, .int .i64 0, .int .i64 0, .int .i64 0, .int .i64 0, .int .i64 0, .int .i64 0, .int .i64 4, .int .i64 0, .int .i64 2, .int .i64 0, .string ⟨#[111, 107]⟩, .int .i64 0, .int .i64 0, .int .i64 0, .int .i64 0, .int .i64 0, .int .i64 0, .int .i64 0, .int .i64 8, .int .i64 0, .int .i64 0, .int .i64 0, .string ⟨#[]⟩, .int .i64 0, .int .i64 3, .int .i64 0, .int .i64 2, .int .i64 0, .int .i64 2, .int .i64 0, .int .i64 8, .int .i64 0, .int .i64 0, .int .i64 0, .string ⟨#[]⟩, .int .i64 0, .int .i64 7, .int .i64 1, .int .i64 9, .int .i64 0, .int .i64 0, .int .i64 1] 46)) ∧ Lib.TabIs Tryd.prog (w.alloc (.cells #[.int .i64 1, .int .i64 0, .int .i64 0, .int .i64 3, .string ⟨#[]⟩, .int .i64 0, .int .i64 0, .int .i64 0, .int .i64 0, .int .i64 0, .int .i64 0, .int .i64 0, .int .i64 2, .int .i64 0, .int .i64 0, .int .i64 0, .string ⟨#[]⟩, .int .i64 0, .int .i64 0, .int .i64 0, .int .i64 0, .int .i64 0, .int .i64 0, .int .i64 0, .int .i64 4, .int .i64 0, .int .i64 2, .int .i64 0, .string ⟨#[111, 107]⟩, .int .i64 0, .int .i64 0, .int .i64 0, .int .i64 0, .int .i64 0, .int .i64 0, .int .i64 0, .int .i64 8, .int .i64 0, .int .i64 0, .int .i64 0, .string ⟨#[]⟩, .int .i64 0, .int .i64 3, .int .i64 0, .int .i64 2, .int .i64 0, .int .i64 2, .int .i64 0, .int .i64 8, .int .i64 0, .int .i64 0, .int .i64 0, .string ⟨#[]⟩, .int .i64 0, .int .i64 7, .int .i64 1, .int .i64 9, .int .i64 0, .int .i64 0, .int .i64 1] 46)) "internal/strconv.uint64pow10" .u64 Lib.pow10Tab ∧ SI (w.alloc (.cells #[.int .i64 1, .int .i64 0, .int .i64 0, .int .i64 3, .string ⟨#[]⟩, .int .i64 0, .int .i64 0, .int .i64 0, .int .i64 0, .int .i64 0, .int .i64 0, .int .i64 0, .int .i64 2, .int .i64 0, .int .i64 0, .int .i64 0, .string ⟨#[]⟩, .int .i64 0, .int .i64 0, .int .i64 0, .int .i64 0, .int .i64 0, .int .i64 0, .int .i64 0, .int .i64 4, .int .i64 0, .int .i64 2, .int .i64 0, .string ⟨#[111, 107]⟩, .int .i64 0, .int .i64 0, .int .i64 0, .int .i64 0, .int .i64 0, .int .i64 0, .int .i64 0, .int .i64 8, .int .i64 0, .int .i64 0, .int .i64 0, .string ⟨#[]⟩, .int .i64 0, .int .i64 3, .int .i64 0, .int .i64 2, .int .i64 0, .int .i64 2, .int .i64 0, .int .i64 8, .int .i64 0, .int .i64 0, .int .i64 0, .string ⟨#[]⟩, .int .i64 0, .int .i64 7, .int .i64 1, .int .i64 9, .int .i64 0, .int .i64 0, .int .i64 1] 46))) := Lib.hid (by
    have hb := Blk.newA w #[.int .i64 1, .int .i64 0, .int .i64 0, .int .i64 3, .string ⟨#[]⟩, .int .i64 0, .int .i64 0, .int .i64 0, .int .i64 0, .int .i64 0, .int .i64 0, .int .i64 0, .int .i64 2, .int .i64 0, .int .i64 0, .int .i64 0, .string ⟨#[]⟩, .int .i64 0, .int .i64 0, .int .i64 0, .int .i64 0, .int .i64 0, .int .i64 0, .int .i64 0, .int .i64 4, .int .i64 0, .int .i64 2, .int .i64 0, .string ⟨#[111, 107]⟩, .int .i64 0, .int .i64 0, .int .i64 0, .int .i64 0, .int .i64 0, .int .i64 0, .int .i64 0, .int .i64 8, .int .i64 0, .int .i64 0, .int .i64 0, .string ⟨#[]⟩, .int .i64 0, .int .i64 3, .int .i64 0, .int .i64 2, .int .i64 0, .int .i64 2, .int .i64 0, .int .i64 8, .int .i64 0, .int .i64 0, .int .i64 0, .string ⟨#[]⟩, .int .i64 0, .int .i64 7, .int .i64 1, .int .i64 9, .int .i64 0, .int .i64 0, .int .i64 1] 46
    refine ⟨EL.of_rn (c := 5) (T := 46) ⟨[], by simp [Le.L0, evs, Ev.c], by omega, by rw [List.append_nil]; exact hb⟩ Le.L0_ok, k0, tab_below k0 htab, hsi.below k0⟩)
  clear k0 htab hsi
  go_enter Tryd.func13, Tryd.ntmps13
  go_upto_region 2 with fail
  revert H0
  generalize (w.alloc (.cells #[.int .i64 1, .int .i64 0, .int .i64 0, .int .i64 3, .string ⟨#[]⟩, .int .i64 0, .int .i64 0, .int .i64 0, .int .i64 0, .int .i64 0, .int .i64 0, .int .i64 0, .int .i64 2, .int .i64 0, .int .i64 0, .int .i64 0, .string ⟨#[]⟩, .int .i64 0, .int .i64 0, .int .i64 0, .int .i64 0, .int .i64 0, .int .i64 0, .int .i64 0, .int .i64 4, .int .i64 0, .int .i64 2, .int .i64 0, .string ⟨#[111, 107]⟩, .int .i64 0, .int .i64 0, .int .i64 0, .int .i64 0, .int .i64 0, .int .i64 0, .int .i64 0, .int .i64 8, .int .i64 0, .int .i64 0, .int .i64 0, .string ⟨#[]⟩, .int .i64 0, .int .i64 3, .int .i64 0, .int .i64 2, .int .i64 0, .int .i64 2, .int .i64 0, .int .i64 8, .int .i64 0, .int .i64 0, .int .i64 0, .string ⟨#[]⟩, .int .i64 0, .int .i64 7, .int .i64 1, .int .i64 9, .int .i64 0, .int .i64 0, .int .i64 1] 46)) = W0
  intro H0
  go_wp2_with (go_at_call 9; (with_reducible refine (le_table0 _ 5 _ H0.out.1 H0.out.2.2.1 H0.out.2.2.2).mono ?_); rintro r5 W5 ⟨rfl, bb⟩; have H1 : Hid (Below w.heap.size w W5) := Lib.hid (H0.out.2.1.trans (bb.mono H0.out.2.1.size)); clear bb)
  go_ret
  exact ⟨rfl, H1.out⟩
/-- An array of texts that reads as these holds these. -/
theorem cells_of_strs {H : Type} {enc : TypeId × Value → H} {P : Program} {w : World} {base : Nat} {sp : Nat → Bool} {held : Bool} {fuel : Nat} {t e : TypeId} {n : Nat} {cs : List Value} {zs : List (List UInt8)} {p : List MemPlace}
    (ht : P.underlying t = some (.array n e)) (he : P.underlying e = some .string) (hce : P.cellsOf e = 1) (hct : P.cellsOf t = n)
    (h : DataW.trod enc P w base sp held fuel t cs = some (.agg (zs.map fun z => .lit (.string z)), p)) : cs = zs.map fun z => Value.string ⟨z.toArray⟩ := by
  obtain ⟨xs, m, _, hx, hlc, hxl, hel⟩ := DataW.trod_array ht h
  have hxs : xs.map (·.1) = zs.map fun z => (DataW.lit (.string z) : DataW H) := (DataW.agg.inj (Prod.mk.inj hx).1).symm
  have hzl : zs.length = n := by
    have := congrArg List.length hxs
    simp at this
    omega
  apply List.ext_getElem?
  intro i
  by_cases hi : i < n
  · have hE := hel i hi
    rw [hce, Nat.mul_one, List.getElem?_eq_getElem (by omega : i < xs.length)] at hE
    obtain ⟨s, e1, e2, _⟩ := DataW.trod_string he hE
    have h1 : cs[i]? = some (.string s) := by
      have := congrArg (·[0]?) e1
      simpa [List.getElem?_take, List.getElem?_drop] using this
    have h2 : (xs.map (·.1))[i]? = some (DataW.lit (.string s.data.toList) : DataW H) := by rw [List.getElem?_map, List.getElem?_eq_getElem (by omega : i < xs.length), e2]; rfl
    rw [hxs] at h2
    simp only [List.getElem?_map, Option.map_eq_some_iff, DataW.lit.injEq, Lit.string.injEq] at h2
    obtain ⟨z', hz', e⟩ := h2
    rw [h1, List.getElem?_map, hz', e]
    simp
  · rw [List.getElem?_eq_none (by omega), List.getElem?_eq_none (by simp; omega)]
theorem SI_of (W : World) (h : laidMet Tryd.prog [("repartee/log.statuses", (.agg (([[114, 117, 110], [100, 111, 110, 101], [102, 97, 105, 108, 101, 100], [100, 101, 97, 100, 108, 105, 110, 101], [111, 118, 101, 114, 102, 108, 111, 119], [100, 114, 97, 105, 110, 101, 100]] : List (List UInt8)).map fun z => .lit (.string z)) : DataW Unit))] W) : SI W := by
  obtain ⟨ps, ⟨g', t', cs, fuel, p, q, hg', ht', hvar, hd, _, _⟩, _⟩ := h
  obtain rfl := Option.some.inj ((show Tryd.prog.globalNamed "repartee/log.statuses" = some 0 by kernel_rfl).symm.trans hg')
  obtain rfl := Option.some.inj ((show (Tryd.prog.globals[0]?).map (·.type) = some 101 by kernel_rfl).symm.trans ht')
  have hc := cells_of_strs (n := 6) (e := 9) (by kernel_rfl) (by kernel_rfl) (by kernel_rfl) (by kernel_rfl) hd
  have h0 : ∀ i, W.cell? ⟨0, i, none⟩ = cs.toList[i]? := fun i => by rw [World.var?_cell hg' hvar i]; simp
  unfold SI
  simp only [h0, hc]
  exact ⟨rfl, rfl, rfl, rfl, rfl, rfl⟩
end Go.Proofs.YtdchedkhlfmpeaaDoor
