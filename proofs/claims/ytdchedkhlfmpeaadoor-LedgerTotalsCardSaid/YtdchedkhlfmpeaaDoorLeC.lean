/- Several texts in one. -/
import Derived.Test.YtdchedkhlfmpeaaDoorEnv
import Derived.Test.YtdchedkhlfmpeaaDoorClass
import Derived.WalkKit
import Derived.BigQuiet
import Derived.Test.YtdchedkhlfmpeaaDoorEv5
import Derived.Test.YtdchedkhlfmpeaaDoorShelf
import Derived.Test.YtdchedkhlfmpeaaDoorBytes
import Derived.Lib.Builder
import Derived.ProofKit
import Derived.Handy
import Derived.WalkLawsBesides
import Derived.WalkSpells
import Derived.Lib.Hide
import Derived.Lib.SliceRun
import Derived.Deep.RegionLaw
import Derived.RegionTactic
import Derived.ChangeAlike
import Derived.WalkSmall
import Derived.Deep.QuietTactic
import Derived.OwnWalk
import Derived.Outline
import Derived.Deep.CutRange
import Derived.Deep.CutBlock
import Derived.LoopTactic
import Derived.Test.YtdchedkhlfmpeaaDoorLeA
import Derived.Test.YtdchedkhlfmpeaaDoorLeB
import Derived.Lib.LaidTab
import Derived.OpenShut
import Derived.ChangeArms
import Derived.Test.YtdchedkhlfmpeaaDoorEv15
import Derived.Deep.RegionHeld3
import Derived.Test.YtdchedkhlfmpeaaDoorStage
/- A drawn region whose operations all read, or call what keeps the class: the values told one by one, over any frame of which some slots are known. Nothing of the program. -/
namespace Go.Proofs.YtdchedkhlfmpeaaDoor
open Go.RowKit

section
variable {P : Program}
section
variable {ops : Array Oper}
/-- When a guarded operation is wanted. -/
theorem wanted_of {o : Oper} {E : Act} {j : Nat} {want v : Bool} {d : Tmp} (hg : o.guard = some (j, want)) (hd : dstOf ops j = some d) (hv : E.eval (.tmp d) = .bool v) : Region.wanted o (yielded ops E.tmps) = (v == want) := by
  have hy : yielded ops E.tmps j = some v := by
    unfold yielded
    unfold dstOf at hd
    rw [hd]
    have h2 : E.tmps[d]? = some (.bool v) := by
      simp only [Act.eval] at hv
      cases h : E.tmps[d]? with
      | none =>
        have hn : ¬ d < E.tmps.size := Nat.not_lt.2 (Array.getElem?_eq_none_iff.1 h)
        simp only [Array.getD, hn, dif_neg, not_false_eq_true] at hv
        cases hv
      | some x =>
        obtain ⟨hl, hx⟩ := Array.getElem?_eq_some_iff.1 h
        simp [Array.getD, hl, hx] at hv
        rw [hv]
    simp [h2]
  unfold Region.wanted
  rw [hg]
  show (yielded ops E.tmps j == some want) = _
  rw [hy]
  cases v <;> cases want <;> rfl
theorem wanted_none {o : Oper} {E : Act} (hg : o.guard = none) : Region.wanted o (yielded ops E.tmps) = true := by unfold Region.wanted; rw [hg]
end
/-- Slots of a frame that are known. -/
def Knows : List (Nat × Value) → Act → Prop
  | [], _ => True
  | p :: r, a => a.eval (.tmp p.1) = p.2 ∧ Knows r a
theorem Knows.get {a : Act} : ∀ {K : List (Nat × Value)} (_ : Knows K a) (i : Nat) {d : Nat} {v : Value} (_ : K[i]? = some (d, v)), a.eval (.tmp d) = v
  | [], _, i, _, _, h => by simp at h
  | p :: r, h, 0, d, v, e => by
    simp at e; subst e; exact h.1
  | p :: r, h, i + 1, d, v, e => h.2.get i (by simpa using e)
theorem Knows.put_other {a : Act} {x : Nat} {u : Value} : ∀ {K : List (Nat × Value)} (_ : Knows K a) (_ : (K.all fun p => p.1 != x) = true), Knows K (a.put (some x) u)
  | [], _, _ => trivial
  | p :: r, h, e => by
    simp only [List.all_cons, Bool.and_eq_true, bne_iff_ne, ne_eq] at e
    exact ⟨(put_get_other a u (fun e2 => e.1 (by injection e2 with e2; exact e2.symm))).trans h.1, h.2.put_other e.2⟩
theorem put_get_same {a : Act} {x : Nat} {u : Value} (h : x < a.tmps.size) : (a.put (some x) u).eval (.tmp x) = u := by
  simp [Act.put, Act.eval, h]
theorem knows_tmp {a : Act} {d : Nat} {v : Value} (h : a.eval (.tmp d) = v) : a.tmps[d]?.getD undef = v := by
  rw [← h]; simp [Act.eval, Array.getD_eq_getD_getElem?]
/-- What is known of a slot. -/
def seekK (d : Nat) : List (Nat × Value) → Option Value
  | [] => none
  | p :: r => if p.1 == d then some p.2 else seekK d r
theorem Knows.seek {a : Act} {d : Nat} {v : Value} : ∀ {K : List (Nat × Value)} (_ : Knows K a) (_ : seekK d K = some v), a.eval (.tmp d) = v
  | [], _, h => by cases h
  | p :: r, h, e => by
    unfold seekK at e
    split at e
    · rename_i h2
      injection e with e
      rw [← e, ← eq_of_beq h2]; exact h.1
    · exact h.2.seek e
/-- Whose guard was passed over itself is not wanted. -/
theorem wanted_tup {ops : Array Oper} {o : Oper} {E : Act} {j : Nat} {want : Bool} {d : Tmp} {xs : Array Value} (hg : o.guard = some (j, want)) (hd : dstOf ops j = some d) (hv : E.eval (.tmp d) = .tuple xs) : Region.wanted o (yielded ops E.tmps) = false := by
  have hy : yielded ops E.tmps j = none := by
    unfold yielded
    unfold dstOf at hd
    rw [hd]
    simp only [Act.eval] at hv
    cases h : E.tmps[d]? with
    | none => simp [h]
    | some x =>
      obtain ⟨hl, hx⟩ := Array.getElem?_eq_some_iff.1 h
      simp [Array.getD, hl, hx] at hv
      subst hv
      simp [h]
  unfold Region.wanted
  rw [hg]
  show (yielded ops E.tmps j == some want) = _
  rw [hy]
  cases want <;> rfl
/-- A guard, by what is known. -/
def guardB (ops : Array Oper) (K : List (Nat × Value)) (o : Oper) (y : Bool) : Bool := match o.guard with
  | none => y
  | some (j, want) => match dstOf ops j with
    | none => false
    | some d => match seekK d K with
      | some (.bool v) => (v == want) == y
      | some (.tuple _) => !y
      | _ => false
theorem guardB.wanted {ops : Array Oper} {K : List (Nat × Value)} {o : Oper} {y : Bool} {a : Act} (h : guardB ops K o y = true) (hK : Knows K a) : Region.wanted o (yielded ops a.tmps) = y := by
  unfold guardB at h
  split at h
  · rename_i hg; rw [wanted_none hg, h]
  · rename_i j want hg
    split at h
    · cases h
    · rename_i d hd
      split at h
      · rename_i v hv
        rw [wanted_of hg hd (hK.seek hv)]
        exact eq_of_beq h
      · rename_i xs hv
        rw [wanted_tup hg hd (hK.seek hv)]
        simpa using h
      · cases h
def consK (o : Oper) (v : Value) (K : List (Nat × Value)) : List (Nat × Value) := match o.dst with
  | some d => (d, v) :: K
  | none => K
/-- The region's form, by looking: each operation has a slot of its own, each guard is known. -/
def formB (ops : Array Oper) (n : Nat) : List Oper → List (Option Value) → List (Nat × Value) → Bool
  | [], [], _ => true
  | o :: r, v :: vs, K => (match o.dst with
      | some d => (K.all fun p => p.1 != d) && decide (d < n)
      | none => false) && guardB ops K o v.isSome && formB ops n r vs (consK o (v.getD undef) K)
  | _, _, _ => false
/-- What is asked, operation by operation: the value told (none: passed over). -/
def stepsQ (P : Program) (C : World → Prop) : List Oper → List (Option Value) → List (Nat × Value) → Prop
  | [], [], _ => True
  | o :: r, some v :: vs, K => (∀ a w, Knows K a → C w → Oper.quietAt P o a C w v) ∧ stepsQ P C r vs (consK o v K)
  | o :: r, none :: vs, K => stepsQ P C r vs (consK o undef K)
  | _, _, _ => False
/-- All values laid. -/
def putsQ : List Oper → List (Option Value) → Act → Act
  | o :: r, v :: vs, a => putsQ r vs (a.put o.dst (v.getD undef))
  | _, _, a => a
theorem put_sz (a : Act) (x : Option Tmp) (v : Value) : (a.put x v).tmps.size = a.tmps.size := put_size a x v
theorem consK.knows {o : Oper} {K : List (Nat × Value)} {a : Act} {n : Nat} {v : Value} (hn : a.tmps.size = n) (hK : Knows K a) (h : (match o.dst with
      | some d => (K.all fun p => p.1 != d) && decide (d < n)
      | none => false) = true) : Knows (consK o v K) (a.put o.dst v) := by
  unfold consK
  cases hd : o.dst with
  | none => rw [hd] at h; cases h
  | some d =>
    rw [hd] at h
    simp only [Bool.and_eq_true, decide_eq_true_eq] at h
    exact ⟨put_get_same (by rw [hn]; exact h.2), hK.put_other h.1⟩
theorem wpQuiet_vals {ops : Array Oper} {C : World → Prop} {n : Nat} {Q : Act → Prop} : ∀ (l : List Oper) (vs : List (Option Value)) (K : List (Nat × Value)) (a : Act), a.tmps.size = n → Knows K a → formB ops n l vs K = true → stepsQ P C l vs K → Q (putsQ l vs a) → wpQuiet P ops C Q l a
  | [], [], _, a, _, _, _, _, h => wpQuiet_nil h
  | [], _ :: _, _, _, _, _, h, _, _ => by cases h
  | o :: r, [], _, _, _, _, h, _, _ => by cases h
  | o :: r, some v :: vs, K, a, hn, hK, hf, hs, h => by
    unfold formB at hf
    rw [Bool.and_eq_true, Bool.and_eq_true] at hf
    exact BigFrame.wpQuiet_want (guardB.wanted hf.1.2 hK) fun K' hK' => ⟨v, fun w hC => hs.1 a w hK hC, hK' _ (wpQuiet_vals r vs _ _ (by rw [put_sz]; exact hn) (consK.knows hn hK hf.1.1) hf.2 hs.2 h)⟩
  | o :: r, none :: vs, K, a, hn, hK, hf, hs, h => by
    unfold formB at hf
    rw [Bool.and_eq_true, Bool.and_eq_true] at hf
    exact BigFrame.wpQuiet_skip (guardB.wanted hf.1.2 hK) (wpQuiet_vals r vs _ _ (by rw [put_sz]; exact hn) (consK.knows hn hK hf.1.1) hf.2 hs h)
/-- The same, of the slots alone. -/
def putsL : List (Option Tmp) → List (Option Value) → Act → Act
  | d :: r, v :: vs, a => putsL r vs (a.put d (v.getD undef))
  | _, _, a => a
theorem putsQ_eq : ∀ (l : List Oper) (vs : List (Option Value)) (a : Act), putsQ l vs a = putsL (l.map (·.dst)) vs a
  | [], vs, a => by cases vs <;> rfl
  | o :: r, [], a => rfl
  | o :: r, v :: vs, a => putsQ_eq r vs _
/-- A drawn region of reads and of calls that keep the class. -/
theorem wp_region_vals {id : Nat} {Q : Exit → Act → World → Prop} {a : Act} {w : World} {l : List Oper} (C : World → Prop) (K : List (Nat × Value)) (vs : List (Option Value)) (n : Nat) (ds : List (Option Tmp)) (hds : l.map (·.dst) = ds) (hm : P.follows .mixedOrders = true) (hB : Region.lexB .any l.toArray = true) (hC : C w.drew) (hn : a.tmps.size = n) (hK : Knows K a) (hf : formB l.toArray n l vs K = true) (hs : stepsQ P C l vs K) (hend : ∀ w', C w' → Q .normal (putsL ds vs a) w') : (Code.region id l.toArray true).wp P Q a w :=
  wp_region_class C hm hB hC (wpQuiet_vals l vs K a hn hK hf hs fun w' hw' => by rw [putsQ_eq, hds]; exact hend w' hw')
end
end Go.Proofs.YtdchedkhlfmpeaaDoor
/- Ledger: a builder of texts. -/
namespace Go.Proofs.YtdchedkhlfmpeaaDoor
open Go.ChangeShapes Go.WideShapes Go.ChangeAt Go.RowKit
set_option linter.unusedSimpArgs false
set_option linter.unusedVariables false

/-- A builder in block bb, its text S. -/
def BD (W : World) (B bb : Nat) (p : Value) (r : Option Addr) (n c : Nat) (S : ByteArray) : Prop := Blk W bb [p, .slice r n c] 64 ∧ RM W B r n c 1 (bv S) 5 ∧ n = S.size ∧ B ≤ bb ∧ (p = .pointer none ∨ p = .pointer (some ⟨bb, 0, none⟩))
theorem BD.same {W W' : World} {B bb : Nat} {p : Value} {r : Option Addr} {n c : Nat} {S : ByteArray} (h : BD W B bb p r n c S) (k : Chg [] W W') : BD W' B bb p r n c S := ⟨h.1.chg k (by simp), h.2.1.chg k (by simp), h.2.2⟩
theorem sizeB : (Tryd.prog.info? 64).map (·.size) = some 2 := by kernel_rfl
theorem liesB : liesAt Tryd.prog Tryd.prog.depth 64 (2 / Tryd.prog.cellsOf 64) 0 64 1 = true := by kernel_rfl
set_option maxRecDepth 20000 in
set_option maxHeartbeats 16000000 in
theorem le_cc_used (b : Nat) (w : World) (h0 : w.cell? ⟨b, 0, none⟩ = some (.pointer (some ⟨b, 0, none⟩))) :
    Calls Tryd.prog 35 #[.pointer (some ⟨b, 0, none⟩)] w fun e w' => e = .returned (.tuple #[]) ∧ w' = w := by
  obtain ⟨j, hj, _⟩ := Option.map_eq_some_iff.1 sizeB
  go_enter Tryd.func35, Tryd.ntmps35
  go_wp2
  rw [Lib.run_neq_ptr_same w _ Tryd.underlying61 hj]
  go_wp2
  go_end0
  exact ⟨rfl, rfl⟩
set_option maxRecDepth 20000 in
set_option maxHeartbeats 16000000 in
theorem le_cc_fresh (b : Nat) (w : World) (h0 : w.cell? ⟨b, 0, none⟩ = some (.pointer none)) (hsh : w.shape? b = some (64, 2)) (hfz : w.frozen? ⟨b, 0, none⟩ = false) :
    Calls Tryd.prog 35 #[.pointer (some ⟨b, 0, none⟩)] w fun e w' => e = .returned (.tuple #[]) ∧ w' = w.setCell ⟨b, 0, none⟩ (.pointer (some ⟨b, 0, none⟩)) := by
  obtain ⟨j, hj, hjs⟩ := Option.map_eq_some_iff.1 sizeB
  go_enter Tryd.func35, Tryd.ntmps35
  go_wp2
  rw [Lib.run_to_unsafe w ⟨b, 0, none⟩ Tryd.underlying61 Tryd.underlying109 hj (by rw [hjs]; decide) hsh (Nat.zero_lt_succ 1)]
  simp only [Result.andThen]
  rw [Oper.upon_value]
  go_wp2
  rw [run_callFunc_extern Tryd.func56 (by kernel_rfl) (by kernel_rfl) (by kernel_rfl) (e := Extern.AbiNoEscape.same) (by kernel_rfl)]
  rw [Lib.run_noEscape]
  simp only [Result.andThen]
  rw [Oper.upon_value]
  go_wp2
  rw [Lib.run_from_unsafe w ⟨b, 0, none⟩ Tryd.underlying109 Tryd.underlying61 hj hsh liesB]
  simp only [Result.andThen]
  rw [Oper.upon_value]
  go_wp2
  go_end0
  exact ⟨rfl, rfl⟩
theorem BD.notb {W : World} {B bb : Nat} {p : Value} {r : Option Addr} {n c : Nat} {S : ByteArray} (h : BD W B bb p r n c S) : bb ∉ rvB r := rm_ty h.2.1 h.1 (by decide)
theorem le_cc {W : World} {B bb : Nat} {p : Value} {r : Option Addr} {n c : Nat} {S : ByteArray} (h : BD W B bb p r n c S) :
    Calls Tryd.prog 35 #[.pointer (some ⟨bb, 0, none⟩)] W fun e w' => e = .returned (.tuple #[]) ∧ BD w' B bb (.pointer (some ⟨bb, 0, none⟩)) r n c S ∧ Chg [bb] W w' := by
  have hb := h.1
  rcases h.2.2.2.2 with e | e
  · subst e
    refine (le_cc_fresh bb W (hb.cell (i := 0) rfl) (by unfold Blk at hb; simp [World.shape?, hb]) (hb.free 0)).mono ?_
    rintro e w' ⟨rfl, rfl⟩
    have k : Chg [bb] W (W.setCell ⟨bb, 0, none⟩ (.pointer (some ⟨bb, 0, none⟩))) := (Chg.refl [bb] W).set (Or.inl (by simp)) _ _
    exact ⟨rfl, ⟨hb.set 0 _, h.2.1.chg k (fun g hg e => by simp at e; subst e; exact h.notb hg), h.2.2.1, h.2.2.2.1, Or.inr rfl⟩, k⟩
  · subst e
    refine (le_cc_used bb W (hb.cell (i := 0) rfl)).mono ?_
    rintro e w' ⟨rfl, rfl⟩
    exact ⟨rfl, h, Chg.refl _ _⟩
theorem wpList_append_rb (w : World) {ops : Array Oper} {rest : List Oper} {o : Oper} {a : Act} {Q : Exit → Act → World → Prop}
    (hg : o.guard = none) (s x : Operand) (hop : o.op = Op.call { callee := Callee.builtin Builtin.append, args := #[s, x], argTypes := #[62, 9] })
    (base : Nat) (r : Option Addr) (m cap : Nat) (L : List Value) (hs : a.eval s = .slice r m cap) (hown : RM w base r m cap 1 L 5) (t : ByteArray) (hx : a.eval x = .string t) (h63 : m + t.size ≤ 1000000)
    (hK : ∀ r' cap' w', RM w' base r' (m + t.size) cap' 1 (L ++ bv t) 5 → (∀ g ∈ rvB r', g ∈ rvB r ∨ w.heap.size ≤ g) → Chg (rvB r) w w' → wpList Tryd.prog ops Q rest (a.put o.dst (.slice r' (m + t.size) cap')) w') :
    wpList Tryd.prog ops Q (o :: rest) a w :=
  wpList_plain hg fun K hK' => wp_append_rb w s x hop base r m cap L hs hown t hx h63 fun r' c' w' h1 h2 h3 => hK' _ _ (hK r' c' w' h1 h2 h3)
set_option maxRecDepth 20000 in
set_option maxHeartbeats 16000000 in
theorem le_wstr (B bb : Nat) (p : Value) (r : Option Addr) (n c : Nat) (S s X : ByteArray) (hX : S ++ s = X) (hsz : n + s.size ≤ 1000000) (w : World) (hBw : B ≤ w.heap.size) (h : BD w B bb p r n c S) :
    Calls Tryd.prog 21 #[.pointer (some ⟨bb, 0, none⟩), .string s] w fun e w' => ∃ (p' : Value) (r' : Option Addr) (n' c' : Nat) (v : Value), e = .returned v ∧ BD w' B bb p' r' n' c' X ∧ Chg (bb :: rvB r) w w' ∧ (∀ g ∈ rvB r', g ∈ rvB r ∨ w.heap.size ≤ g) := by
  have H0 := Lib.hid (And.intro h hX)
  clear h hX
  go_enter Tryd.func21, Tryd.ntmps21
  go_upto_region 2 with (go_at_call 35; refine (le_cc H0.out.1).mono ?_; rintro e1 W1 ⟨rfl, q1, q2⟩; have H1 := Lib.hid (And.intro q1 q2); clear q1 q2)
  have c1 := H1.out.1.1.cell (i := 1) rfl
  have f1 := H1.out.1.1.free 1
  go_wp2_with (at_builtin; refine wpList_append_rb _ rfl (.tmp 12) (.tmp 13) rfl B r n c (bv S) rfl H1.out.1.2.1 s rfl hsz ?_; intro r4 c4 w4 q1 q2 q3; have HN : Hid (RM w4 B r4 (n + s.size) c4 1 (bv S ++ bv s) 5 ∧ (∀ g ∈ rvB r4, g ∈ rvB r ∨ W1.heap.size ≤ g) ∧ Chg (rvB r) W1 w4 ∧ Blk w4 bb [.pointer (some ⟨bb, 0, none⟩), .slice r n c] 64) := Lib.hid ⟨q1, q2, q3, H1.out.1.1.chg q3 H1.out.1.notb⟩; have c1m := HN.out.2.2.2.cell (i := 1) rfl; have f1m := HN.out.2.2.2.free 1; clear q1 q2 q3)
  go_ret2
  have hnb : bb ∉ rvB r4 := rm_ty HN.out.1 HN.out.2.2.2 (by decide)
  have k : Chg [bb] w4 (w4.setCell ⟨bb, 1, none⟩ (.slice r4 (n + s.size) c4)) := (Chg.refl [bb] w4).set (Or.inl (by simp)) _ _
  refine ⟨.pointer (some ⟨bb, 0, none⟩), r4, n + s.size, c4, _, rfl, ⟨HN.out.2.2.2.set 1 _, ?_, ?_, H0.out.1.2.2.2.1, Or.inr rfl⟩, ?_, ?_⟩
  · rw [← H0.out.2, bv_append]
    exact HN.out.1.chg k (fun g hg e => by simp at e; subst e; exact hnb hg)
  · rw [← H0.out.2, ByteArray.size_append, H0.out.1.2.2.1]
  · exact ((H1.out.2.mono (by simp)).trans (HN.out.2.2.1.mono (fun x hx => List.mem_cons_of_mem _ hx)) (fun x hx => Or.inl hx)).trans (k.mono (by simp)) (fun x hx => Or.inl hx)
  · intro g hg
    rcases HN.out.2.1 g hg with h | h
    · exact Or.inl h
    · exact Or.inr (Nat.le_trans H1.out.2.size h)
theorem BD.isB {W : World} {B bb : Nat} {p : Value} {r : Option Addr} {n c : Nat} {S : ByteArray} (h : BD W B bb p r n c S) : Lib.IsBuilder 64 5 B bb (Lib.byteCells S.data.toList) W := by
  have hl : (Lib.byteCells S.data.toList).length = n := by rw [show Lib.byteCells S.data.toList = bv S from rfl, bv_length, h.2.2.1]
  have key : Lib.BuilderAt 64 5 B bb p (Lib.byteCells S.data.toList) W := by
    refine ⟨h.2.2.2.1, .slice r n c, h.1, ?_, ?_⟩
    · rw [hl]
      obtain ⟨h0, h1, ⟨h2, h3, h4⟩ | ⟨g, h2, h3, rest, h4, h5, h6⟩⟩ := h.2.1
      · subst h2 h3 h4
        exact ⟨by simpa using hl, Or.inl ⟨rfl, rfl⟩⟩
      · subst h2
        have hbl : (bv S).length = n := hl
        refine ⟨by simpa using hl, Or.inr ⟨g, c, (bv S ++ rest).toArray, rfl, h3, h6, by omega, by unfold maxLen; omega, by simp; omega, ?_⟩⟩
        rw [Nat.mul_one, ← hbl]
        show (bv S ++ rest).take (bv S).length = bv S
        rw [List.take_left]
    · intro e
      have := h.notb
      cases r with
      | none => cases e
      | some a =>
        unfold Value.ownBlock at e
        injection e with e
        exact this (by unfold rvB; simp [e])
  rcases h.2.2.2.2 with e | e
  · rw [e] at key; exact Or.inl key
  · rw [e] at key; exact Or.inr key
theorem le_bstr {W : World} {B bb : Nat} {p : Value} {r : Option Addr} {n c : Nat} {S : ByteArray} (h : BD W B bb p r n c S) (hB : B ≤ W.heap.size) :
    Calls Tryd.prog 22 #[.pointer (some ⟨bb, 0, none⟩)] W fun e w' => e = .returned (.string S) ∧ Below B W w' := by
  refine (Tryd.Builder_String_any B bb S.data.toList W h.isB hB).mono ?_
  rintro e w' ⟨rfl, b⟩
  exact ⟨by simp, b⟩
end Go.Proofs.YtdchedkhlfmpeaaDoor
/- Ledger: Table. -/
namespace Go.Proofs.YtdchedkhlfmpeaaDoor
open Go.ChangeShapes Go.WideShapes Go.ChangeAt Go.RowKit
set_option linter.unusedSimpArgs false
set_option linter.unusedVariables false

theorem Le.cs_len (R : List Le.R) : (Le.cs R).length = R.length * 10 := by
  unfold Le.cs
  induction R with
  | nil => rfl
  | cons p P ih => rw [List.flatMap_cons, List.length_append, ih, List.length_cons]; show 10 + _ = _; omega
theorem Le.cs_at : ∀ (R : List Le.R) (j : Nat) (p : Le.R) (q : Nat) (v : Value), R[j]? = some p → p.c[q]? = some v → (Le.cs R)[j * 10 + q]? = some v
  | [], j, p, q, v, h, _ => by simp at h
  | x :: P, 0, p, q, v, h, hq => by
    simp at h
    subst h
    unfold Le.cs
    rw [List.flatMap_cons]
    have hl : q < x.c.length := by
      rcases Nat.lt_or_ge q x.c.length with h | h
      · exact h
      · rw [List.getElem?_eq_none h] at hq; cases hq
    rw [show 0 * 10 + q = q by omega, List.getElem?_append_left hl]; exact hq
  | x :: P, j + 1, p, q, v, h, hq => by
    simp only [List.getElem?_cons_succ] at h
    have ih := Le.cs_at P j p q v h hq
    unfold Le.cs at *
    rw [List.flatMap_cons, List.getElem?_append_right (by show 10 ≤ _; omega)]
    have : (j + 1) * 10 + q - x.c.length = j * 10 + q := by show _ - 10 = _; omega
    rw [this]; exact ih
theorem Le.at10 {w : World} {B n c : Nat} {r : Option Addr} {R : List Le.R} (h : RM w B r n c 10 (Le.cs R) 31) (hP : R.length = n) {j : Nat} {x : Le.R} (hj : R[j]? = some x) : ∃ g, r = some ⟨g, 0, none⟩ ∧ g < w.heap.size ∧ w.cell? ⟨g, j * 10, none⟩ = some (.int .i64 x.i) ∧ w.cell? ⟨g, j * 10 + 1, none⟩ = some (.int .i64 x.sc) ∧ w.cell? ⟨g, j * 10 + 2, none⟩ = some (.int .i64 x.fr) ∧ w.cell? ⟨g, j * 10 + 3, none⟩ = some (.int .i64 x.st) ∧ w.cell? ⟨g, j * 10 + 4, none⟩ = some (.int .i64 x.lo) ∧ w.cell? ⟨g, j * 10 + 5, none⟩ = some (.int .i64 x.ju) ∧ w.cell? ⟨g, j * 10 + 6, none⟩ = some (.int .i64 x.rd) ∧ w.cell? ⟨g, j * 10 + 7, none⟩ = some (.int .i64 x.tk) ∧ w.cell? ⟨g, j * 10 + 8, none⟩ = some (.int .i64 x.ss) ∧ w.cell? ⟨g, j * 10 + 9, none⟩ = some (.int .i64 x.en) := by
  have hl := (List.getElem?_eq_some_iff.1 hj).1
  obtain ⟨g, rfl, _, hr⟩ := h.row (by omega)
  exact ⟨g, rfl, hr.lt, hr.cell (Le.cs_at R j _ 0 _ hj rfl), hr.cell (Le.cs_at R j _ 1 _ hj rfl), hr.cell (Le.cs_at R j _ 2 _ hj rfl), hr.cell (Le.cs_at R j _ 3 _ hj rfl), hr.cell (Le.cs_at R j _ 4 _ hj rfl), hr.cell (Le.cs_at R j _ 5 _ hj rfl), hr.cell (Le.cs_at R j _ 6 _ hj rfl), hr.cell (Le.cs_at R j _ 7 _ hj rfl), hr.cell (Le.cs_at R j _ 8 _ hj rfl), hr.cell (Le.cs_at R j _ 9 _ hj rfl)⟩
/-- The bounds of a row's numbers. -/
def Le.R.ok (x : Le.R) : Prop := Le.i64 x.i ∧ Le.i64 x.sc ∧ Le.i64 x.fr ∧ Le.i64 x.st ∧ Le.i64 x.lo ∧ Le.i64 x.ju ∧ Le.i64 x.rd ∧ Le.i64 x.tk ∧ Le.i64 x.en
/-- A row's line as told; all rows' lines. -/
def Le.R.l (x : Le.R) : List UInt8 := Le.line x.i x.sc x.fr x.st x.lo x.ju x.rd x.tk x.ss x.en ++ [10]
def Le.tab (R : List Le.R) : List UInt8 := R.flatMap Le.R.l
theorem Le.tab_snoc (R : List Le.R) (x : Le.R) : Le.tab (R ++ [x]) = Le.tab R ++ x.l := by unfold Le.tab; rw [List.flatMap_append]; simp
theorem Le.l_len {x : Le.R} (h : x.ok) : x.l.length ≤ 311 := by
  unfold Le.R.l Le.line
  rw [List.length_append]
  have := le_join_len [Lib.itoa x.i, Lib.itoa x.sc, Le.tt x.fr, Lib.itoa x.st, Lib.itoa x.lo, Lib.itoa x.ju, Lib.itoa x.rd, Lib.itoa x.tk, Le.wd x.ss, Le.tt x.en] (by
    obtain ⟨h0, h1, h2, h3, h4, h5, h6, h7, h8⟩ := h
    intro l hl
    simp only [List.mem_cons, List.not_mem_nil, or_false] at hl
    rcases hl with rfl | rfl | rfl | rfl | rfl | rfl | rfl | rfl | rfl | rfl
    · exact Le.itoa_len h0
    · exact Le.itoa_len h1
    · exact Le.tt_len h2
    · exact Le.itoa_len h3
    · exact Le.itoa_len h4
    · exact Le.itoa_len h5
    · exact Le.itoa_len h6
    · exact Le.itoa_len h7
    · exact Le.wd_len _
    · exact Le.tt_len h8)
  have e : ([Lib.itoa x.i, Lib.itoa x.sc, Le.tt x.fr, Lib.itoa x.st, Lib.itoa x.lo, Lib.itoa x.ju, Lib.itoa x.rd, Lib.itoa x.tk, Le.wd x.ss, Le.tt x.en] : List (List UInt8)).length = 10 := rfl
  rw [e] at this
  show _ + 1 ≤ 311
  omega
theorem Le.tab_len : ∀ (R : List Le.R), (∀ x ∈ R, x.ok) → (Le.tab R).length ≤ 311 * R.length
  | [], _ => by unfold Le.tab; simp
  | x :: R, h => by
    have h1 := Le.l_len (h x (by simp))
    have h2 := Le.tab_len R (fun y hy => h y (by simp [hy]))
    unfold Le.tab at *
    rw [List.flatMap_cons, List.length_append, List.length_cons]
    omega
theorem Le.t_app (a b : List UInt8) : Le.t a ++ Le.t b = Le.t (a ++ b) := by
  refine Le.t_of ?_
  rw [ByteArray.data_append, Array.toList_append, Le.t_list, Le.t_list]
/-- What a round of the table keeps. -/
structure LT (w W : World) (X : Nat) (p : Value) (rb : Option Addr) (nb cb : Nat) (S : ByteArray) (rq : Option Addr) (n cq : Nat) (cs : List Value) : Prop where
  bd : BD W X X p rb nb cb S
  rm : RM W X rq n cq 10 cs 31
  be : Below X w W
  le : X ≤ W.heap.size
theorem LT.below {w W W' : World} {X : Nat} {p : Value} {rb : Option Addr} {nb cb : Nat} {S : ByteArray} {rq : Option Addr} {n cq : Nat} {cs : List Value} (h : LT w W X p rb nb cb S rq n cq cs) (k : Below W.heap.size W W') : LT w W' X p rb nb cb S rq n cq cs := ⟨h.bd.same (Chg.of_fresh k), h.rm.chg (l := []) (Chg.of_fresh k) (by simp), h.be.trans (k.mono h.le), Nat.le_trans h.le k.size⟩
theorem le_line10 (x0 x1 x2 x3 x4 x5 x6 x7 x8 x9 : Int) (HXX : Le.R.ok ⟨x0, x1, x2, x3, x4, x5, x6, x7, x8, x9⟩) (X : ByteArray) (hX : Le.t (Le.line x0 x1 x2 x3 x4 x5 x6 x7 x8 x9) = X) (w : World) (htab : Lib.TabIs Tryd.prog w "internal/strconv.uint64pow10" .u64 Lib.pow10Tab) (hsi : SI w) :
    Calls Tryd.prog 15 #[.agg #[.int .i64 x0, .int .i64 x1, .int .i64 x2, .int .i64 x3, .int .i64 x4, .int .i64 x5, .int .i64 x6, .int .i64 x7, .int .i64 x8, .int .i64 x9]] w fun e w' => e = .returned (.string X) ∧ Below w.heap.size w w' := by
  subst hX
  obtain ⟨h0, h1, h2, h3, h4, h5, h6, h7, h8⟩ := HXX
  exact le_line x0 x1 x2 x3 x4 x5 x6 x7 x8 x9 h0 h1 h2 h3 h4 h5 h6 h7 h8 w htab hsi
set_option maxRecDepth 20000 in
set_option maxHeartbeats 16000000 in
theorem le_table (a : Option Addr) (len cap : Nat) (L : List Ev) (hl : L.length = len) (hlm : len ≤ 3000) (hb24 : ∀ x ∈ L, x.b.size ≤ 24) (hok : ∀ x ∈ Le.rows L, x.ok) (T : ByteArray) (hT : Le.t (Le.tab (Le.rows L)) = T) (w : World) (HE : EL w a L) (htab : Lib.TabIs Tryd.prog w "internal/strconv.uint64pow10" .u64 Lib.pow10Tab) (hsi : SI w) :
    Calls Tryd.prog 9 #[.slice a len cap] w fun e w' => e = .returned (.string T) ∧ Below w.heap.size w w' := by
  obtain ⟨n, hn⟩ : ∃ n, (Ev.ids L).length = n := ⟨_, rfl⟩
  have hrl : (Le.rows L).length = n := by unfold Le.rows; rw [List.length_map, hn]
  have hnm : n ≤ 3000 := by
    have h1 := Ev.ids_le L
    rw [hn, hl] at h1
    omega
  have htl := Le.tab_len (Le.rows L) hok
  obtain ⟨X, hX⟩ : ∃ X, w.heap.size = X := ⟨_, rfl⟩
  have k0 : Below w.heap.size w (w.alloc (.cells #[.pointer none, .slice none 0 0] 64)) := (Below.refl _ _).alloc (Nat.le_refl _) _
  have HS : Hid (BD (w.alloc (.cells #[.pointer none, .slice none 0 0] 64)) X X (.pointer none) none 0 0 { data := #[] } ∧ Below X w (w.alloc (.cells #[.pointer none, .slice none 0 0] 64)) ∧ X ≤ (w.alloc (.cells #[.pointer none, .slice none 0 0] 64)).heap.size ∧ EL (w.alloc (.cells #[.pointer none, .slice none 0 0] 64)) a L) := Lib.hid ⟨⟨by rw [← hX]; exact Blk.newA _ _ _, RM.nil _ _ _ _ (by rw [World.size_alloc]; omega), rfl, Nat.le_refl _, Or.inl rfl⟩, by rw [← hX]; exact k0, by rw [World.size_alloc]; omega, HE.below k0⟩
  have HG := Lib.hid (And.intro hsi (And.intro htab hX))
  have HL := Lib.hid (And.intro hl (And.intro hb24 (And.intro hn (And.intro hrl (And.intro hok (And.intro hT htl))))))
  clear hl HE hb24 hn hrl hok hT htl htab hsi k0
  go_enter Tryd.func9, Tryd.ntmps9
  go_upto_region 2 with fail
  revert HS
  clear hX
  generalize (w.alloc (.cells #[.pointer none, .slice none 0 0] 64)) = W1
  intro HS
  go_wp2_with (go_at_call 7; (with_reducible refine (le_rows a len cap L HL.out.1 (by omega) HL.out.2.1 n HL.out.2.2.1 _ HS.out.2.2.2).mono ?_); rintro r7 W3 ⟨rq, cq, rfl, h1, bb⟩; have HT3 : Hid (LT w W3 X (.pointer none) none 0 0 { data := #[] } rq n cq (Le.cs (Le.rows L))) := Lib.hid ⟨HS.out.1.same (Chg.of_fresh bb), h1.base_le HS.out.2.2.1, HS.out.2.1.trans (bb.mono HS.out.2.2.1), Nat.le_trans HS.out.2.2.1 bb.size⟩; clear bb h1 HS)
  go_loopw [5, 9] (fun _ z wr => ∃ (j : Nat) (p : Value) (rb : Option Addr) (nb cb : Nat), z = .int .i64 j ∧ j ≤ n ∧ Hid (LT w wr X p rb nb cb (Le.t (Le.tab ((Le.rows L).take j))) rq n cq (Le.cs (Le.rows L)))) (fun _ z _ => n - (intOf z).toNat)
  case atStart => exact ⟨0, _, _, _, _, rfl, by omega, Lib.hid (by rw [List.take_zero]; exact HT3.out)⟩
  case round =>
    obtain ⟨j, p, rb, nb, cb, rfl, hj, HB⟩ := hrel
    have j0 : (0 : Int) ≤ (j : Int) := by omega
    by_cases hjn : j < n
    · have i1 : (j : Int) < (n : Int) := by omega
      have w1 : IntKind.i64.wrap ((j : Int) + 1) = (j : Int) + 1 := IntWalk.i64_in _ (by omega)
      obtain ⟨x, hx⟩ : ∃ x, (Le.rows L)[j]? = some x := ⟨_, List.getElem?_eq_getElem (by rw [HL.out.2.2.2.1]; exact hjn)⟩
      have hxo := HL.out.2.2.2.2.1 x (List.mem_of_getElem? hx)
      obtain ⟨x0, x1, x2, x3, x4, x5, x6, x7, x8, x9⟩ := x
      obtain ⟨gq, rfl, hgq, e0, e1, e2, e3, e4, e5, e6, e7, e8, e9⟩ := Le.at10 HB.out.rm HL.out.2.2.2.1 hx
      dsimp only at e0 e1 e2 e3 e4 e5 e6 e7 e8 e9
      obtain ⟨S1, hS1⟩ : ∃ S1, Le.t (Le.tab ((Le.rows L).take j)) = S1 := ⟨_, rfl⟩
      obtain ⟨S2, hS2⟩ : ∃ S2, Le.t (Le.line x0 x1 x2 x3 x4 x5 x6 x7 x8 x9) = S2 := ⟨_, rfl⟩
      obtain ⟨S3, hS3⟩ : ∃ S3, S2 ++ { data := #[10] } = S3 := ⟨_, rfl⟩
      obtain ⟨S4, hS4⟩ : ∃ S4, Le.t (Le.tab ((Le.rows L).take (j + 1))) = S4 := ⟨_, rfl⟩
      have hS3l : S3 = Le.t (Le.R.l ⟨x0, x1, x2, x3, x4, x5, x6, x7, x8, x9⟩) := by rw [← hS3, ← hS2]; exact Le.t_app _ [10]
      have hS134 : S1 ++ S3 = S4 := by rw [← hS4, take_snocE hx, Le.tab_snoc, ← hS1, hS3l]; exact Le.t_app _ _
      have hsz : nb + S3.size ≤ 1000000 := by
        have h1 := HB.out.bd.2.2.1
        have h2 := Le.tab_len ((Le.rows L).take j) (fun y hy => HL.out.2.2.2.2.1 y (List.mem_of_mem_take hy))
        have h3 := Le.l_len hxo
        have h4 : ((Le.rows L).take j).length ≤ 3000 := by rw [List.length_take]; omega
        rw [hS3l, Le.t_size, h1, Le.t_size]
        omega
      have hs2 : S2.size + 1 ≤ 400 := by
        have h3 := Le.l_len hxo
        unfold Le.R.l at h3
        rw [List.length_append] at h3
        dsimp only at h3
        rw [← hS2, Le.t_size]
        have : ([10] : List UInt8).length = 1 := rfl
        omega
      rw [hS1] at HB
      have HV := Lib.hid (And.intro hxo (And.intro hS2 (And.intro hS3 (And.intro hS134 (And.intro hS4 hsz)))))
      have hnx : X ≤ wr.heap.size := HB.out.le
      have HJ : Hid (LT w (wr.alloc (.cells #[.int .i64 x0, .int .i64 x1, .int .i64 x2, .int .i64 x3, .int .i64 x4, .int .i64 x5, .int .i64 x6, .int .i64 x7, .int .i64 x8, .int .i64 x9] 31)) X p rb nb cb S1 (some ⟨gq, 0, none⟩) n cq (Le.cs (Le.rows L)) ∧ Blk (wr.alloc (.cells #[.int .i64 x0, .int .i64 x1, .int .i64 x2, .int .i64 x3, .int .i64 x4, .int .i64 x5, .int .i64 x6, .int .i64 x7, .int .i64 x8, .int .i64 x9] 31)) wr.heap.size [.int .i64 x0, .int .i64 x1, .int .i64 x2, .int .i64 x3, .int .i64 x4, .int .i64 x5, .int .i64 x6, .int .i64 x7, .int .i64 x8, .int .i64 x9] 31) := Lib.hid ⟨HB.out.below ((Below.refl _ _).alloc (Nat.le_refl _) _), Blk.newA _ _ _⟩
      clear hxo hx hS1 hS2 hS3 hS4 hS3l hS134 hsz hnx HB
      go_upto_region 5 with fail
      clear e0 e1 e2 e3 e4 e5 e6 e7 e8 e9 hgq
      revert HJ
      generalize (wr.alloc (.cells #[.int .i64 x0, .int .i64 x1, .int .i64 x2, .int .i64 x3, .int .i64 x4, .int .i64 x5, .int .i64 x6, .int .i64 x7, .int .i64 x8, .int .i64 x9] 31)) = V1
      generalize wr.heap.size = X3
      intro HJ
      have y0 := HJ.out.2.cell (i := 0) rfl
      have y1 := HJ.out.2.cell (i := 1) rfl
      have y2 := HJ.out.2.cell (i := 2) rfl
      have y3 := HJ.out.2.cell (i := 3) rfl
      have y4 := HJ.out.2.cell (i := 4) rfl
      have y5 := HJ.out.2.cell (i := 5) rfl
      have y6 := HJ.out.2.cell (i := 6) rfl
      have y7 := HJ.out.2.cell (i := 7) rfl
      have y8 := HJ.out.2.cell (i := 8) rfl
      have y9 := HJ.out.2.cell (i := 9) rfl
      go_wp2_with (first
        | (go_at_call 15; (with_reducible refine (le_line10 x0 x1 x2 x3 x4 x5 x6 x7 x8 x9 HV.out.1 S2 HV.out.2.1 _ (tab_below (by rw [HG.out.2.2]; exact HJ.out.1.be) HG.out.2.1) (HG.out.1.below (by rw [HG.out.2.2]; exact HJ.out.1.be))).mono ?_); rintro r9 V3 ⟨rfl, bb⟩; have HJ3 := Lib.hid (HJ.out.1.below bb); clear bb)
        | (go_at_call 21; (refine (le_wstr X X p rb nb cb S1 _ (Le.t (Le.tab ((Le.rows L).take (j + 1)))) (by rw [HV.out.2.2.2.2.1, ← HV.out.2.2.2.1, ← HV.out.2.2.1]) (by rw [HV.out.2.2.1]; exact HV.out.2.2.2.2.2) _ HJ3.out.le HJ3.out.bd).mono ?_); rintro r9 V4 ⟨p4, rb4, nb4, cb4, v4, rfl, q1, q2, q3⟩; have HJ4 : Hid (LT w V4 X p4 rb4 nb4 cb4 (Le.t (Le.tab ((Le.rows L).take (j + 1)))) (some ⟨gq, 0, none⟩) n cq (Le.cs (Le.rows L))) := Lib.hid ⟨q1, HJ3.out.rm.chg q2 (fun g hg h => by
            rcases List.mem_cons.1 h with e | e
            · subst e; exact rm_ty HJ3.out.rm HJ3.out.bd.1 (by decide) hg
            · exact rm_ne HJ3.out.rm HJ3.out.bd.2.1 (by decide) g hg e), q2.onto HJ3.out.be HJ3.out.le (fun y hy => by
            rcases List.mem_cons.1 hy with e | e
            · omega
            · exact (HJ3.out.bd.2.1.lt y e).1), Nat.le_trans HJ3.out.le q2.size⟩; clear q1 q2 q3))
      all_goals first | (show False; omega) | skip
      go_roundw
      case rel => exact ⟨j + 1, _, _, _, _, by go_num, by omega, HJ4⟩
      case measure => simp [intOf]; omega
    · obtain rfl : j = n := by omega
      have i1 : ¬ (j : Int) < (j : Int) := by omega
      have HF : Hid (LT w wr X p rb nb cb T rq j cq (Le.cs (Le.rows L))) := Lib.hid (by
        have h := HB.out
        rw [List.take_of_length_le (l := Le.rows L) (by rw [HL.out.2.2.2.1]; exact Nat.le_refl _), HL.out.2.2.2.2.2.1] at h
        exact h)
      clear HB
      go_upto_region 7 with fail
      go_wp2_with (go_at_call 22; (with_reducible refine (le_bstr HF.out.bd HF.out.le).mono ?_); rintro r9 V5 ⟨rfl, bb⟩; have HE5 : Hid (Below X w V5) := Lib.hid (HF.out.be.trans bb); clear bb)
      go_ret
      exact ⟨rfl, by rw [HG.out.2.2]; exact HE5.out⟩
end Go.Proofs.YtdchedkhlfmpeaaDoor
/- Ledger: lives of the law; the table of words. -/
namespace Go.Proofs.YtdchedkhlfmpeaaDoor
open Go.ChangeShapes Go.WideShapes Go.ChangeAt Go.RowKit
set_option linter.unusedSimpArgs false
set_option linter.unusedVariables false

def Le.L0 : List Ev := [⟨1, 0, 0, 3, ⟨#[]⟩, 0, 0, 0, 0, 0, 0, 0⟩, ⟨2, 0, 0, 0, ⟨#[]⟩, 0, 0, 0, 0, 0, 0, 0⟩, ⟨4, 0, 2, 0, ⟨#[111, 107]⟩, 0, 0, 0, 0, 0, 0, 0⟩, ⟨8, 0, 0, 0, ⟨#[]⟩, 0, 3, 0, 2, 0, 2, 0⟩, ⟨8, 0, 0, 0, ⟨#[]⟩, 0, 7, 1, 9, 0, 0, 1⟩]
theorem Le.L0_rows : Le.rows Le.L0 = [⟨0, 0, 3, 2, 0, 1, 2, 0, 1, 7⟩] := by rfl
theorem Le.L0_ok : ∀ x ∈ Le.L0, x.ok := by
  intro x hx
  simp only [Le.L0, List.mem_cons, List.not_mem_nil, or_false] at hx
  have z0 : (⟨#[]⟩ : ByteArray).size ≤ maxLen := by unfold maxLen; decide
  have z1 : (⟨#[111, 107]⟩ : ByteArray).size ≤ maxLen := by unfold maxLen; decide
  rcases hx with rfl | rfl | rfl | rfl | rfl <;> exact ⟨by first | exact z0 | exact z1, fun k z hz => by
    simp only [Ev.c, List.mem_cons, List.not_mem_nil, or_false, reduceCtorEq, false_or, Value.int.injEq] at hz
    rcases hz with ⟨rfl, rfl⟩ | ⟨rfl, rfl⟩ | ⟨rfl, rfl⟩ | ⟨rfl, rfl⟩ | ⟨rfl, rfl⟩ | ⟨rfl, rfl⟩ | ⟨rfl, rfl⟩ | ⟨rfl, rfl⟩ | ⟨rfl, rfl⟩ | ⟨rfl, rfl⟩ | ⟨rfl, rfl⟩ <;> decide⟩
theorem le_dec1 (n : Nat) (h : n < 10) : Lib.decDigits n = [UInt8.ofNat (48 + n)] := by
  rw [Lib.decDigits, dif_pos h]
theorem le_ito1 (n : Nat) (h : n < 10) : Lib.itoa (n : Int) = [UInt8.ofNat (48 + n)] := by
  unfold Lib.itoa
  rw [if_neg (by omega)]
  exact le_dec1 n h
theorem le_tt1 (n : Nat) (h : n < 10) : Le.tt (n : Int) = [UInt8.ofNat (48 + n)] := by
  unfold Le.tt
  rw [Tk.own_of _ (by omega)]
  unfold Tx.text
  rw [if_neg (by omega)]
  exact le_dec1 n h
theorem Le.L0_text : Le.t (Le.tab (Le.rows Le.L0)) = ({ data := #[48, 32, 48, 32, 51, 32, 50, 32, 48, 32, 49, 32, 50, 32, 48, 32, 100, 111, 110, 101, 32, 55, 10] } : ByteArray) := by
  rw [Le.L0_rows]
  unfold Le.tab Le.R.l Le.line
  have h0 := le_ito1 0 (by omega)
  have h1 := le_ito1 1 (by omega)
  have h2 := le_ito1 2 (by omega)
  have h3 := le_tt1 3 (by omega)
  have h7 := le_tt1 7 (by omega)
  simp only [List.flatMap_cons, List.flatMap_nil]
  rw [show Lib.itoa 0 = _ from h0, show Lib.itoa 1 = _ from h1, show Lib.itoa 2 = _ from h2, show Le.tt 3 = _ from h3, show Le.tt 7 = _ from h7]
  rfl
theorem Le.L0_rok : ∀ x ∈ Le.rows Le.L0, x.ok := by
  intro x hx
  rw [Le.L0_rows] at hx
  obtain rfl := List.mem_singleton.1 hx
  unfold Le.R.ok Le.i64
  dsimp only
  omega
theorem le_table0 (g : Nat) (cap : Nat) (W : World) (h : EL W (some ⟨g, 0, none⟩) Le.L0) (htab : Lib.TabIs Tryd.prog W "internal/strconv.uint64pow10" .u64 Lib.pow10Tab) (hsi : SI W) : Calls Tryd.prog 9 #[.slice (some ⟨g, 0, none⟩) 5 cap] W fun e w' => e = .returned (.string ({ data := #[48, 32, 48, 32, 51, 32, 50, 32, 48, 32, 49, 32, 50, 32, 48, 32, 100, 111, 110, 101, 32, 55, 10] } : ByteArray)) ∧ Below W.heap.size W w' :=
  le_table (some ⟨g, 0, none⟩) 5 cap Le.L0 rfl (by omega) (by
    intro x hx
    simp only [Le.L0, List.mem_cons, List.not_mem_nil, or_false] at hx
    rcases hx with rfl | rfl | rfl | rfl | rfl <;> decide) Le.L0_rok _ Le.L0_text W h htab hsi
set_option maxRecDepth 20000 in
set_option maxHeartbeats 16000000 in
theorem le_lives (w : World) (htab : Lib.TabIs Tryd.prog w "internal/strconv.uint64pow10" .u64 Lib.pow10Tab) (hsi : SI w) : Calls Tryd.prog 13 #[] w fun r w' => r = .returned (.bool true) ∧ Below w.heap.size w w' := by
  have k0 : Below w.heap.size w (w.alloc (.cells #[.int .i64 1, .int .i64 0, .int .i64 0, .int .i64 3, .string ⟨#[]⟩, .int .i64 0, .int .i64 0, .int .i64 0, .int .i64 0, .int .i64 0, .int .i64 0, .int .i64 0, .int .i64 2, .int .i64 0, .int .i64 0, .int .i64 0, .string ⟨#[]⟩, .int .i64 0, .int .i64 0, .int .i64 0, .int .i64 0, .int .i64 0, .int .i64 0, .int .i64 0, .int .i64 4, .int .i64 0, .int .i64 2, .int .i64 0, .string ⟨#[111, 107]⟩, .int .i64 0, .int .i64 0, .int .i64 0, .int .i64 0, .int .i64 0, .int .i64 0, .int .i64 0, .int .i64 8, .int .i64 0, .int .i64 0, .int .i64 0, .string ⟨#[]⟩, .int .i64 0, .int .i64 3, .int .i64 0, .int .i64 2, .int .i64 0, .int .i64 2, .int .i64 0, .int .i64 8, .int .i64 0, .int .i64 0, .int .i64 0, .string ⟨#[]⟩, .int .i64 0, .int .i64 7, .int .i64 1, .int .i64 9, .int .i64 0, .int .i64 0, .int .i64 1] 46)) := (Below.refl _ _).alloc (Nat.le_refl _) _
  have H0 : Hid (EL (w.alloc (.cells #[.int .i64 1, .int .i64 0, .int .i64 0, .int .i64 3, .string ⟨#[]⟩, .int .i64 0, .int .i64 0, .int .i64 0, .int .i64 0, .int .i64 0, .int .i64 0, .int .i64 0, .int .i64 2, .int .i64 0, .int .i64 0, .int .i64 0, .string ⟨#[]⟩, .int .i64 0, .int .i64 0, .int .i64 0, .int .i64 0, .int .i64 0, .int .i64 0, .int .i64 0, .int .i64 4, .int .i64 0, .int .i64 2, .int .i64 0, .string ⟨#[111, 107]⟩, .int .i64 0, .int .i64 0, .int .i64 0, .int .i64 0, .int .i64 0, .int .i64 0, .int .i64 0, .int .i64 8, .int .i64 0, .int .i64 0, .int .i64 0, .string ⟨#[]⟩, .int .i64 0, .int .i64 3, .int .i64 0, .int .i64 2, .int .i64 0, .int .i64 2, .int .i64 0, .int .i64 8, .int .i64 0, .int .i64 0, .int .i64 0, .string ⟨#[]⟩, .int .i64 0, .int .i64 7, .int .i64 1, .int .i64 9, .int .i64 0, .int .i64 0, .int .i64 1] 46)) (some ⟨w.heap.size, 0, none⟩) Le.L0 ∧ Below w.heap.size w (w.alloc (.cells #[.int .i64 1, .int .i64 0, .int .i64 0, .int .i64 3, .string ⟨#[]⟩, .int .i64 0, .int .i64 0, .int .i64 0, .int .i64 0, .int .i64 0, .int .i64 0, .int .i64 0, .int .i64 2, .int .i64 0, .int .i64 0, .int .i64 0, .string ⟨#[]⟩, .int .i64 0, .int .i64 0, .int .i64 0, .int .i64 0, .int .i64 0, .int .i64 0, .int .i64 0, .int .i64 4, .int .i64 0, .int .i64 2, .int .i64 0, .string ⟨#[111, 107]⟩, .int .i64 0, .int .i64 0, .int .i64 0, .int .i64 0, .int .i64 0, .int .i64 0, .int .i64 0, .int .i64 8, .int .i64 0, .int .i64 0, .int .i64 0, .string ⟨#[]⟩, .int .i64 0, .int .i64 3, .int .i64 0, .int .i64 2, .int .i64 0, .int .i64 2, .int .i64 0, .int .i64 8, .int .i64 0, .int .i64 0, .int .i64 0, .string ⟨#[]⟩, .int .i64 0, .int .i64 7, .int .i64 1, .int .i64 9, .int .i64 0, .int .i64 0, .int .i64 1] 46)) ∧ Lib.TabIs Tryd.prog (w.alloc (.cells #[.int .i64 1, .int .i64 0, .int .i64 0, .int .i64 3, .string ⟨#[]⟩, .int .i64 0, .int .i64 0, .int .i64 0, .int .i64 0, .int .i64 0, .int .i64 0, .int .i64 0, .int .i64 2, .int .i64 0, .int .i64 0, .int .i64 0, .string ⟨#[]⟩, .int .i64 0, .int .i64 0, .int .i64 0, .int .i64 0, .int .i64 0, .int .i64 0, .int .i64 0, .int .i64 4, .int .i64 0, .int .i64 2, .int .i64 0, .string ⟨#[111, 107]⟩, .int .i64 0, .int .i64 0, .int .i64 0, .int .i64 0, .int .i64 0, .int .i64 0, .int .i64 0, .int .i64 8, .int .i64 0, .int .i64 0, .int .i64 0, .string ⟨#[]⟩, .int .i64 0, .int .i64 3, .int .i64 0, .int .i64 2, .int .i64 0, .int .i64 2, .int .i64 0, .int .i64 8, .int .i64 0, .int .i64 0, .int .i64 0, .string ⟨#[]⟩, .int .i64 0, .int .i64 7, .int .i64 1, .int .i64 9, .int .i64 0, .int .i64 0, .int .i64 1] 46)) "internal/strconv.uint64pow10" .u64 Lib.pow10Tab ∧ SI (w.alloc (.cells #[.int .i64 1, .int .i64 0, .int .i64 0, .int .i64 3, .string ⟨#[]⟩, .int .i64 0, .int .i64 0, .int .i64 0, .int .i64 0, .int .i64 0, .int .i64 0, .int .i64 0, .int .i64 2, .int .i64 0, .int .i64 0, .int .i64 0, .string ⟨#[]⟩, .int .i64 0, .int .i64 0, .int .i64 0, .int .i64 0, .int .i64 0, .int .i64 0, .int .i64 0, .int .i64 4, .int .i64 0, .int .i64 2, .int .i64 0, .string ⟨#[111, 107]⟩, .int .i64 0, .int .i64 0, .int .i64 0, .int .i64 0, .int .i64 0, .int .i64 0, .int .i64 0, .int .i64 8, .int .i64 0, .int .i64 0, .int .i64 0, .string ⟨#[]⟩, .int .i64 0, .int .i64 3, .int .i64 0, .int .i64 2, .int .i64 0, .int .i64 2, .int .i64 0, .int .i64 8, .int .i64 0, .int .i64 0, .int .i64 0, .string ⟨#[]⟩, .int .i64 0, .int .i64 7, .int .i64 1, .int .i64 9, .int .i64 0, .int .i64 0, .int .i64 1] 46))) := Lib.hid (by
    have hb := Blk.newA w #[.int .i64 1, .int .i64 0, .int .i64 0, .int .i64 3, .string ⟨#[]⟩, .int .i64 0, .int .i64 0, .int .i64 0, .int .i64 0, .int .i64 0, .int .i64 0, .int .i64 0, .int .i64 2, .int .i64 0, .int .i64 0, .int .i64 0, .string ⟨#[]⟩, .int .i64 0, .int .i64 0, .int .i64 0, .int .i64 0, .int .i64 0, .int .i64 0, .int .i64 0, .int .i64 4, .int .i64 0, .int .i64 2, .int .i64 0, .string ⟨#[111, 107]⟩, .int .i64 0, .int .i64 0, .int .i64 0, .int .i64 0, .int .i64 0, .int .i64 0, .int .i64 0, .int .i64 8, .int .i64 0, .int .i64 0, .int .i64 0, .string ⟨#[]⟩, .int .i64 0, .int .i64 3, .int .i64 0, .int .i64 2, .int .i64 0, .int .i64 2, .int .i64 0, .int .i64 8, .int .i64 0, .int .i64 0, .int .i64 0, .string ⟨#[]⟩, .int .i64 0, .int .i64 7, .int .i64 1, .int .i64 9, .int .i64 0, .int .i64 0, .int .i64 1] 46
    refine ⟨EL.of_rn (c := 5) (T := 46) ⟨[], by simp [Le.L0, evs, Ev.c], by omega, by rw [List.append_nil]; exact hb⟩ Le.L0_ok, k0, tab_below k0 htab, hsi.below k0⟩)
  clear k0 htab hsi
  go_enter Tryd.func13, Tryd.ntmps13
  go_upto_region 2 with fail
  revert H0
  generalize (w.alloc (.cells #[.int .i64 1, .int .i64 0, .int .i64 0, .int .i64 3, .string ⟨#[]⟩, .int .i64 0, .int .i64 0, .int .i64 0, .int .i64 0, .int .i64 0, .int .i64 0, .int .i64 0, .int .i64 2, .int .i64 0, .int .i64 0, .int .i64 0, .string ⟨#[]⟩, .int .i64 0, .int .i64 0, .int .i64 0, .int .i64 0, .int .i64 0, .int .i64 0, .int .i64 0, .int .i64 4, .int .i64 0, .int .i64 2, .int .i64 0, .string ⟨#[111, 107]⟩, .int .i64 0, .int .i64 0, .int .i64 0, .int .i64 0, .int .i64 0, .int .i64 0, .int .i64 0, .int .i64 8, .int .i64 0, .int .i64 0, .int .i64 0, .string ⟨#[]⟩, .int .i64 0, .int .i64 3, .int .i64 0, .int .i64 2, .int .i64 0, .int .i64 2, .int .i64 0, .int .i64 8, .int .i64 0, .int .i64 0, .int .i64 0, .string ⟨#[]⟩, .int .i64 0, .int .i64 7, .int .i64 1, .int .i64 9, .int .i64 0, .int .i64 0, .int .i64 1] 46)) = W0
  intro H0
  go_wp2_with (go_at_call 9; (with_reducible refine (le_table0 _ 5 _ H0.out.1 H0.out.2.2.1 H0.out.2.2.2).mono ?_); rintro r5 W5 ⟨rfl, bb⟩; have H1 : Hid (Below w.heap.size w W5) := Lib.hid (H0.out.2.1.trans (bb.mono H0.out.2.1.size)); clear bb)
  go_ret
  exact ⟨rfl, H1.out⟩
/-- An array of texts that reads as these holds these. -/
theorem cells_of_strs {H : Type} {enc : TypeId × Value → H} {P : Program} {w : World} {base : Nat} {sp : Nat → Bool} {held : Bool} {fuel : Nat} {t e : TypeId} {n : Nat} {cs : List Value} {zs : List (List UInt8)} {p : List MemPlace}
    (ht : P.underlying t = some (.array n e)) (he : P.underlying e = some .string) (hce : P.cellsOf e = 1) (hct : P.cellsOf t = n)
    (h : DataW.trod enc P w base sp held fuel t cs = some (.agg (zs.map fun z => .lit (.string z)), p)) : cs = zs.map fun z => Value.string ⟨z.toArray⟩ := by
  obtain ⟨xs, m, _, hx, hlc, hxl, hel⟩ := DataW.trod_array ht h
  have hxs : xs.map (·.1) = zs.map fun z => (DataW.lit (.string z) : DataW H) := (DataW.agg.inj (Prod.mk.inj hx).1).symm
  have hzl : zs.length = n := by
    have := congrArg List.length hxs
    simp at this
    omega
  apply List.ext_getElem?
  intro i
  by_cases hi : i < n
  · have hE := hel i hi
    rw [hce, Nat.mul_one, List.getElem?_eq_getElem (by omega : i < xs.length)] at hE
    obtain ⟨s, e1, e2, _⟩ := DataW.trod_string he hE
    have h1 : cs[i]? = some (.string s) := by
      have := congrArg (·[0]?) e1
      simpa [List.getElem?_take, List.getElem?_drop] using this
    have h2 : (xs.map (·.1))[i]? = some (DataW.lit (.string s.data.toList) : DataW H) := by rw [List.getElem?_map, List.getElem?_eq_getElem (by omega : i < xs.length), e2]; rfl
    rw [hxs] at h2
    simp only [List.getElem?_map, Option.map_eq_some_iff, DataW.lit.injEq, Lit.string.injEq] at h2
    obtain ⟨z', hz', e⟩ := h2
    rw [h1, List.getElem?_map, hz', e]
    simp
  · rw [List.getElem?_eq_none (by omega), List.getElem?_eq_none (by simp; omega)]
theorem SI_of (W : World) (h : laidMet Tryd.prog [("repartee/log.statuses", (.agg (([[114, 117, 110], [100, 111, 110, 101], [102, 97, 105, 108, 101, 100], [100, 101, 97, 100, 108, 105, 110, 101], [111, 118, 101, 114, 102, 108, 111, 119], [100, 114, 97, 105, 110, 101, 100]] : List (List UInt8)).map fun z => .lit (.string z)) : DataW Unit))] W) : SI W := by
  obtain ⟨ps, ⟨g', t', cs, fuel, p, q, hg', ht', hvar, hd, _, _⟩, _⟩ := h
  obtain rfl := Option.some.inj ((show Tryd.prog.globalNamed "repartee/log.statuses" = some 0 by kernel_rfl).symm.trans hg')
  obtain rfl := Option.some.inj ((show (Tryd.prog.globals[0]?).map (·.type) = some 101 by kernel_rfl).symm.trans ht')
  have hc := cells_of_strs (n := 6) (e := 9) (by kernel_rfl) (by kernel_rfl) (by kernel_rfl) (by kernel_rfl) hd
  have h0 : ∀ i, W.cell? ⟨0, i, none⟩ = cs.toList[i]? := fun i => by rw [World.var?_cell hg' hvar i]; simp
  unfold SI
  simp only [h0, hc]
  exact ⟨rfl, rfl, rfl, rfl, rfl, rfl⟩
end Go.Proofs.YtdchedkhlfmpeaaDoor
/- Grace: the document's numbers, and where they lie. -/
namespace Go.Proofs.YtdchedkhlfmpeaaDoor
open Go.ChangeShapes Go.WideShapes Go.ChangeAt Go.RowKit
set_option linter.unusedSimpArgs false
set_option linter.unusedVariables false

set_option maxRecDepth 20000 in
set_option maxHeartbeats 16000000 in
theorem rf_ids2 (a : Option Addr) (len cap : Nat) (L : List Ev) (hl : L.length = len) (hlm : len ≤ 100000) (D0 : List Int) (hD : Ev.ids L = D0) (n0 : Nat) (hn : D0.length = n0) (w : World) (HE : EL w a L) :
    Calls Tryd.prog 19 #[.slice a len cap] w fun e w' => ∃ r c, e = .returned (.slice r n0 c) ∧ RI w' r D0 ∧ (∀ g ∈ rvB r, w.heap.size ≤ g) ∧ Below w.heap.size w w' := by
  have HL := Lib.hid (And.intro hl (And.intro HE (And.intro hD hn)))
  clear hl HE hD hn
  have H0 : Hid (RM (w.alloc (.cells #[] 3)) w.heap.size (some ⟨w.heap.size, 0, none⟩) 0 0 1 ((Ev.ids (L.take 0)).map (Value.int .i64)) 3 ∧ Below w.heap.size w (w.alloc (.cells #[] 3))) := Lib.hid (by
    have h := KR.new w w (Below.refl _ _)
    rw [List.take_zero]
    exact ⟨h.2.1, h.1⟩)
  go_enter Tryd.func19, Tryd.ntmps19
  go_upto_region 2 with fail
  revert H0
  generalize (w.alloc (.cells #[] 3)) = V
  intro H0
  go_wp2_with fail
  go_loopw [3, 4] (fun o z wr => ∃ (j nd c go : Nat), o = .slice (some ⟨go, 0, none⟩) nd c ∧ z = .int .i64 j ∧ j ≤ len ∧ nd ≤ j ∧ nd ≤ c ∧ Hid (RM wr w.heap.size (some ⟨go, 0, none⟩) nd c 1 ((Ev.ids (L.take j)).map (Value.int .i64)) 3 ∧ Below w.heap.size w wr)) (fun _ z _ => len - (intOf z).toNat)
  case atStart => exact ⟨0, 0, 0, _, rfl, rfl, by omega, by omega, by omega, H0⟩
  case round =>
    clear H0
    obtain ⟨j, nd, c, go, rfl, rfl, hj, hnj, hnc, HB⟩ := hrel
    have j0 : (0 : Int) ≤ (j : Int) := by omega
    by_cases hjl : j < len
    · have i1 : (j : Int) < (len : Int) := by omega
      have w1 : IntKind.i64.wrap ((j : Int) + 1) = (j : Int) + 1 := IntWalk.i64_in _ (by omega)
      obtain ⟨k, i, n, t, b, e, s0, s1, s2, s3, s4, s5, es⟩ : ∃ k i n t b e s0 s1 s2 s3 s4 s5, L[j]? = some ⟨k, i, n, t, b, e, s0, s1, s2, s3, s4, s5⟩ := ⟨_, _, _, _, _, _, _, _, _, _, _, _, List.getElem?_eq_getElem (by rw [HL.out.1]; exact hjl)⟩
      obtain ⟨hb, ga, o, rfl, hgw, e0, e1, e2, e3, e4, e5, e6, e7, e8, e9, e10, e11⟩ := (HL.out.2.1.below HB.out.2).get es
      obtain ⟨D, hDD⟩ : ∃ D, Ev.ids (L.take j) = D := ⟨_, rfl⟩
      have HS : Hid (Ev.ids (L.take (j + 1)) = if k = 2 then insD i D else D) := Lib.hid (by rw [take_snocE es, Ev.ids_snoc, ← hDD])
      rw [hDD] at HB
      have hDn : Hid (D.length = nd) := Lib.hid (by have := HB.out.1.1; rw [List.length_map] at this; omega)
      clear es hDD hb e2 e3 e4 e5 e6 e7 e8 e9 e10 e11
      by_cases h2 : k = 2
      · subst h2
        have HS2 : Hid (Ev.ids (L.take (j + 1)) = insD i D) := Lib.hid (by simpa using HS.out)
        go_upto_region 6 with fail
        have HE1 : Hid (wr.cell? ⟨ga, o + j * 12 + 1, none⟩ = some (.int .i64 i)) := Lib.hid e1
        clear e0 e1
        go_wp2_with fail
        obtain ⟨WO, rfl⟩ : ∃ WO, WO = wr := ⟨_, rfl⟩
        go_loopw [5] (fun z wr => ∃ p : Nat, z = .int .i64 p ∧ p ≤ nd ∧ Hid (Below WO.heap.size WO wr) ∧ Hid (∀ q v, q < p → D[q]? = some v → v < i)) (fun z _ => nd - (intOf z).toNat)
        case atStart => exact ⟨0, rfl, by omega, Lib.hid (Below.refl _ _), Lib.hid (fun q v h => by omega)⟩
        case round =>
          obtain ⟨p, rfl, hp, HY, HK⟩ := hrel
          have p0 : (0 : Int) ≤ (p : Int) := by omega
          have w2 : IntKind.i64.wrap ((p : Int) + 1) = (p : Int) + 1 := IntWalk.i64_in _ (by omega)
          have HC : Hid (∀ W, Below wr.heap.size wr W → W.cell? ⟨ga, o + j * 12 + 1, none⟩ = some (.int .i64 i) ∧ ∀ v, D[p]? = some v → W.cell? ⟨go, p, none⟩ = some (.int .i64 v)) := Lib.hid (fun W hW => by
            have hB2 : Below WO.heap.size WO W := HY.out.trans (hW.mono HY.out.size)
            refine ⟨(hB2.cell (World.block_lt_of_cell? _ _ HE1.out)).trans HE1.out, fun v hv => ?_⟩
            have h := ints_at HB.out.1 hB2 p 0 (.int .i64 v) (by rw [List.getElem?_map, List.getElem?_drop, Nat.add_zero, hv]; rfl)
            rw [Addr.add_lit, Nat.add_zero] at h
            exact h)
          by_cases hpn : p < nd
          · have pi : (p : Int) < (nd : Int) := by omega
            obtain ⟨v, hv⟩ : ∃ v, D[p]? = some v := ⟨_, List.getElem?_eq_getElem (by rw [hDn.out]; exact hpn)⟩
            have HV := Lib.hid hv
            clear hv
            by_cases hvi : v < i
            · have hvb : decide (v < i) = true := by simp [hvi]
              go_upto_region 7 with fail
              refine wp_region_class (fun w' => Below wr.heap.size wr w') (by kernel_rfl) (by kernel_rfl) (Below.refl _ _).drew ?_
              repeat (first
                | go_big_quiet_skip
                | (go_big_quiet_want
                   unfold Oper.quiet
                   apply Exists.intro
                   refine ⟨fun wq hwq => ?_, ?_⟩
                   · (
                      obtain ⟨ce, cv0⟩ := HC.out _ hwq
                      have cv := cv0 v HV.out
                      unfold Oper.quietAt
                      go_simp
                      first
                        | exact ⟨rfl, hwq⟩
                        | exact rfl
                      )
                   simp only [Act.put, List.setIfInBounds_toArray, List.set_cons_zero, List.set_cons_succ]
                   go_big_quiet_on))
              refine wpQuiet_nil ?_
              intro w4 hw4
              have HY2 := Lib.hid (HY.out.trans (hw4.mono HY.out.size))
              clear hw4
              go_wp2_with fail
              go_roundw
              case rel => exact ⟨p + 1, by go_num, by omega, HY2, Lib.hid (fun q u hq hu => by
                by_cases e : q = p
                · rw [e, HV.out] at hu; rw [← Option.some.inj hu]; exact hvi
                · exact HK.out q u (by omega) hu)⟩
              case measure => simp [intOf]; omega
            · have hvb : decide (v < i) = false := by simp; omega
              have HI := Lib.hid (insD_at HK.out (Or.inr ⟨v, HV.out, hvi⟩))
              go_upto_region 7 with fail
              refine wp_region_class (fun w' => Below wr.heap.size wr w') (by kernel_rfl) (by kernel_rfl) (Below.refl _ _).drew ?_
              repeat (first
                | go_big_quiet_skip
                | (go_big_quiet_want
                   unfold Oper.quiet
                   apply Exists.intro
                   refine ⟨fun wq hwq => ?_, ?_⟩
                   · (
                      obtain ⟨ce, cv0⟩ := HC.out _ hwq
                      have cv := cv0 v HV.out
                      unfold Oper.quietAt
                      go_simp
                      first
                        | exact ⟨rfl, hwq⟩
                        | exact rfl
                      )
                   simp only [Act.put, List.setIfInBounds_toArray, List.set_cons_zero, List.set_cons_succ]
                   go_big_quiet_on))
              refine wpQuiet_nil ?_
              intro w4 hw4
              have HY2 := Lib.hid (HY.out.trans (hw4.mono HY.out.size))
              have HC2 : Hid (∀ W, Below w4.heap.size w4 W → W.cell? ⟨ga, o + j * 12 + 1, none⟩ = some (.int .i64 i) ∧ W.cell? ⟨go, p, none⟩ = some (.int .i64 v)) := Lib.hid (fun W hW => by
                have h := HC.out W (hw4.trans (hW.mono hw4.size))
                exact ⟨h.1, h.2 v HV.out⟩)
              clear hw4
              have pne : ((p : Int) == (nd : Int)) = false := by simp; omega
              have pne2 : ¬ p = nd := by omega
              go_upto_region 9 with fail
              by_cases hve : v = i
              · have hveb : (v != i) = false := by simp [hve]
                refine wp_region_class (fun w' => Below w4.heap.size w4 w') (by kernel_rfl) (by kernel_rfl) (Below.refl _ _).drew ?_
                repeat (first
                  | go_big_quiet_skip
                  | (go_big_quiet_want
                     unfold Oper.quiet
                     apply Exists.intro
                     refine ⟨fun wq hwq => ?_, ?_⟩
                     · (
                        obtain ⟨ce, cv⟩ := HC2.out _ hwq
                        unfold Oper.quietAt
                        go_simp
                        first
                          | exact ⟨rfl, hwq⟩
                          | exact rfl
                        )
                     simp only [Act.put, List.setIfInBounds_toArray, List.set_cons_zero, List.set_cons_succ]
                     go_big_quiet_on))
                refine wpQuiet_nil ?_
                intro w5 hw5
                have HY3 := Lib.hid (HY2.out.trans (hw5.mono HY2.out.size))
                clear hw5
                go_wp2_with fail
                go_roundw
                case rel => exact ⟨j + 1, nd, c, go, rfl, by go_num, by omega, by omega, hnc, Lib.hid ⟨by
                  rw [HS2.out]
                  unfold insD
                  rw [HI.out.1, HI.out.2, List.head?_drop, HV.out, hve, if_pos rfl, List.nil_append, List.take_append_drop]
                  exact HB.out.1.chg (Chg.of_fresh (l := []) HY3.out) (by simp), HB.out.2.trans (HY3.out.mono HB.out.2.size)⟩⟩
                case measure => simp [intOf]; omega
              · have hveb : (v != i) = true := by simp [hve]
                refine wp_region_class (fun w' => Below w4.heap.size w4 w') (by kernel_rfl) (by kernel_rfl) (Below.refl _ _).drew ?_
                repeat (first
                  | go_big_quiet_skip
                  | (go_big_quiet_want
                     unfold Oper.quiet
                     apply Exists.intro
                     refine ⟨fun wq hwq => ?_, ?_⟩
                     · (
                        obtain ⟨ce, cv⟩ := HC2.out _ hwq
                        unfold Oper.quietAt
                        go_simp
                        first
                          | exact ⟨rfl, hwq⟩
                          | exact rfl
                        )
                     simp only [Act.put, List.setIfInBounds_toArray, List.set_cons_zero, List.set_cons_succ]
                     go_big_quiet_on))
                refine wpQuiet_nil ?_
                intro w5 hw5
                have HY3 := Lib.hid (HY2.out.trans (hw5.mono HY2.out.size))
                have ce := (HC2.out _ hw5).1
                have HIN : Hid (insD i D = D.take p ++ ([i] ++ D.drop p)) := Lib.hid (by
                  unfold insD
                  rw [HI.out.1, HI.out.2, List.head?_drop]
                  rw [HV.out, if_neg (by intro h; exact hve (Option.some.inj h))])
                have HA : Hid (((D.take p).map (Value.int .i64)).length = p * 1 ∧ RM w5 w.heap.size (some ⟨go, 0, none⟩) nd c 1 (D.map (Value.int .i64)) 3 ∧ ((D.drop p).map (Value.int .i64)).length = (nd - p) * 1) := Lib.hid ⟨by have := hDn.out; rw [List.length_map, List.length_take]; omega, HB.out.1.chg (Chg.of_fresh (l := []) HY3.out) (by simp), by have := hDn.out; rw [List.length_map, List.length_drop]; omega⟩
                have HB5 := Lib.hid (HB.out.2.trans (HY3.out.mono HB.out.2.size))
                clear hw5
                go_upto_region 10 with fail
                have fa1 : (p : Int) ≤ (c : Int) := by omega
                have fa2 : p ≤ c := by omega
                have fa3 : ¬ c = p := by omega
                have fa4 : (p : Int) ≤ (nd : Int) := by omega
                have fa5 : p ≤ nd := by omega
                have ced : w5.drew.cell? ⟨ga, o + j * 12 + 1, none⟩ = some (.int .i64 i) := ce
                have gal : ga < w5.heap.size := World.block_lt_of_cell? _ _ ce
                have ga1 : ¬ ga = w5.heap.size := by omega
                have ga2 : ¬ w5.heap.size = ga := by omega
                go_region_law (first
                  | ((refine step_append_rz rfl (.tmp 53) (.tmp 56) 50 50 rfl 3 (.int .i64 0) 1 8 Tryd.underlying50 infoInt rfl (by omega) w5.heap.size _ 0 0 [] rfl ((KR.new w5 w5 (Below.refl _ _)).drew).2.1 (Nat.le_refl _) _ rfl p ((D.take p).map (Value.int .i64)) (Src.ofSlice _ Tryd.underlying50 ⟨go, 0, none⟩ p _ ((D.take p).map (Value.int .i64)) HA.out.1 (ints_at0 HA.out.2.1 ((KR.new w5 w5 (Below.refl _ _)).drew).1 p) (int_one _)) (by omega) (by omega) ?_); intro g5 c5 wA q1 q0 q2 q3; rw [Nat.zero_add] at q1 q0; have HS := Lib.hid (((KR.new w5 w5 (Below.refl _ _)).drew).grow q1 q0 q3); have ceA := (HS.out.1.cell gal).trans ce; have gA : ga < wA.heap.size := Nat.lt_of_lt_of_le gal HS.out.1.size; have gA1 : ¬ ga = wA.heap.size := (by omega); have gA2 : ¬ wA.heap.size = ga := (by omega); clear q0 q1 q2 q3)
                  | ((refine step_append_rz rfl (.tmp 53) (.tmp 56) 50 50 rfl 3 (.int .i64 0) 1 8 Tryd.underlying50 infoInt rfl (by omega) w5.heap.size _ 0 0 [] rfl (((KR.new w5 w5 (Below.refl _ _)).alloc (.cells #[.int .i64 i] 3)).drew).2.1 (Nat.le_refl _) _ rfl p ((D.take p).map (Value.int .i64)) (Src.ofSlice _ Tryd.underlying50 ⟨go, 0, none⟩ p _ ((D.take p).map (Value.int .i64)) HA.out.1 (ints_at0 HA.out.2.1 (((KR.new w5 w5 (Below.refl _ _)).alloc (.cells #[.int .i64 i] 3)).drew).1 p) (int_one _)) (by omega) (by omega) ?_); intro g5 c5 wA q1 q0 q2 q3; rw [Nat.zero_add] at q1 q0; have HS := Lib.hid ((((KR.new w5 w5 (Below.refl _ _)).alloc (.cells #[.int .i64 i] 3)).drew).grow q1 q0 q3); have ceA := (HS.out.1.cell gal).trans ce; have gA : ga < wA.heap.size := Nat.lt_of_lt_of_le gal HS.out.1.size; have gA1 : ¬ ga = wA.heap.size := (by omega); have gA2 : ¬ wA.heap.size = ga := (by omega); have bI := Blk.newA (w5.alloc (.cells #[] 3)) #[.int .i64 i] 3; have hI := (bI.drew.chg q3 (by simp)).cell (i := 0) rfl; clear bI; rw [World.size_alloc] at hI; clear q0 q1 q2 q3)
                  | ((refine step_append_rz rfl (.tmp 53) (.tmp 56) 50 50 rfl 3 (.int .i64 0) 1 8 Tryd.underlying50 infoInt rfl (by omega) w5.heap.size _ 0 0 [] rfl ((KR.new2 w5 (.cells #[.int .i64 i] 3)).drew).2.1 (Nat.le_refl _) _ rfl p ((D.take p).map (Value.int .i64)) (Src.ofSlice _ Tryd.underlying50 ⟨go, 0, none⟩ p _ ((D.take p).map (Value.int .i64)) HA.out.1 (ints_at0 HA.out.2.1 ((KR.new2 w5 (.cells #[.int .i64 i] 3)).drew).1 p) (int_one _)) (by omega) (by omega) ?_); intro g5 c5 wA q1 q0 q2 q3; rw [Nat.zero_add] at q1 q0; have HS := Lib.hid (((KR.new2 w5 (.cells #[.int .i64 i] 3)).drew).grow q1 q0 q3); have ceA := (HS.out.1.cell gal).trans ce; have gA : ga < wA.heap.size := Nat.lt_of_lt_of_le gal HS.out.1.size; have gA1 : ¬ ga = wA.heap.size := (by omega); have gA2 : ¬ wA.heap.size = ga := (by omega); have bI := (Blk.newA w5 #[.int .i64 i] 3).alloc (.cells #[] 3); have hI := (bI.drew.chg q3 (by simp)).cell (i := 0) rfl; clear bI; clear q0 q1 q2 q3)
                  | (refine step_append_rz rfl (.tmp 57) (.tmp 63) 50 50 rfl 3 (.int .i64 0) 1 8 Tryd.underlying50 infoInt rfl (by omega) w5.heap.size g5 p c5 _ rfl (HS.out.alloc (.cells #[.int .i64 i] 3)).2.1 HS.out.2.2 _ rfl 1 [.int .i64 i] (Src.ofSlice _ Tryd.underlying50 ⟨_, 0, none⟩ 1 1 [.int .i64 i] rfl (new_atE _ _ _) (int_one [i])) (by omega) (by omega) ?_; intro g6 c6 wB q1 q0 q2 q3; have HT := Lib.hid ((HS.out.alloc (.cells #[.int .i64 i] 3)).grow q1 q0 q3); clear q0 q1 q2 q3)
                  | (refine step_append_rz rfl (.tmp 57) (.tmp 63) 50 50 rfl 3 (.int .i64 0) 1 8 Tryd.underlying50 infoInt rfl (by omega) w5.heap.size g5 p c5 _ rfl (HS.out).2.1 HS.out.2.2 _ rfl 1 [.int .i64 i] (Src.ofSlice _ Tryd.underlying50 ⟨_, 0, none⟩ 1 1 [.int .i64 i] rfl (one_at hI) (int_one [i])) (by omega) (by omega) ?_; intro g6 c6 wB q1 q0 q2 q3; have HT := Lib.hid ((HS.out).grow q1 q0 q3); clear q0 q1 q2 q3)
                  | (refine step_append_rz rfl (.tmp 64) (.tmp 67) 50 50 rfl 3 (.int .i64 0) 1 8 Tryd.underlying50 infoInt rfl (by omega) w5.heap.size g6 (p + 1) c6 _ rfl HT.out.2.1 HT.out.2.2 _ rfl (nd - p) ((D.drop p).map (Value.int .i64)) (Src.ofSlice _ Tryd.underlying50 ⟨go, p, none⟩ (nd - p) _ ((D.drop p).map (Value.int .i64)) HA.out.2.2 (ints_at HA.out.2.1 HT.out.1 p) (int_one _)) (by omega) (by omega) ?_; intro g7 c7 wC q1 q0 q2 q3; have HN := Lib.hid (HT.out.grow q1 q0 q3); clear q0 q1 q2 q3)
                )
                all_goals
                  go_wp2_with fail
                  go_roundw
                  case rel => exact ⟨j + 1, p + 1 + (nd - p), c7, g7, by go_num, by go_num, by omega, by omega, HN.out.2.2, Lib.hid ⟨by
                    rw [HS2.out, HIN.out]
                    have h := HN.out.2.1.base_le (B' := w.heap.size) HB5.out.size
                    simpa using h, HB5.out.trans (HN.out.1.mono HB5.out.size)⟩⟩
                  case measure => simp [intOf]; omega
          · obtain rfl : p = nd := by omega
            have pi : ¬ (p : Int) < (p : Int) := by omega
            have HI := Lib.hid (insD_at HK.out (Or.inl hDn.out.symm))
            go_upto_region 7 with fail
            refine wp_region_class (fun w' => Below wr.heap.size wr w') (by kernel_rfl) (by kernel_rfl) (Below.refl _ _).drew ?_
            repeat (first
              | go_big_quiet_skip
              | (go_big_quiet_want
                 unfold Oper.quiet
                 apply Exists.intro
                 refine ⟨fun wq hwq => ?_, ?_⟩
                 · (
                    obtain ⟨ce, cv0⟩ := HC.out _ hwq
                    clear cv0
                    unfold Oper.quietAt
                    go_simp
                    first
                      | exact ⟨rfl, hwq⟩
                      | exact rfl
                    )
                 simp only [Act.put, List.setIfInBounds_toArray, List.set_cons_zero, List.set_cons_succ]
                 go_big_quiet_on))
            refine wpQuiet_nil ?_
            intro w4 hw4
            have HY2 := Lib.hid (HY.out.trans (hw4.mono HY.out.size))
            have HC2 : Hid (∀ W, Below w4.heap.size w4 W → W.cell? ⟨ga, o + j * 12 + 1, none⟩ = some (.int .i64 i)) := Lib.hid (fun W hW => (HC.out W (hw4.trans (hW.mono hw4.size))).1)
            clear hw4
            go_upto_region 9 with fail
            refine wp_region_class (fun w' => Below w4.heap.size w4 w') (by kernel_rfl) (by kernel_rfl) (Below.refl _ _).drew ?_
            repeat (first
              | go_big_quiet_skip
              | (go_big_quiet_want
                 unfold Oper.quiet
                 apply Exists.intro
                 refine ⟨fun wq hwq => ?_, ?_⟩
                 · (
                    have ce := HC2.out _ hwq
                    unfold Oper.quietAt
                    go_simp
                    first
                      | exact ⟨rfl, hwq⟩
                      | exact rfl
                    )
                 simp only [Act.put, List.setIfInBounds_toArray, List.set_cons_zero, List.set_cons_succ]
                 go_big_quiet_on))
            refine wpQuiet_nil ?_
            intro w5 hw5
            by_cases hcp : p = c
            · have hcb : True := trivial
              subst hcp
              have HY3 := Lib.hid (HY2.out.trans (hw5.mono HY2.out.size))
              have ce := HC2.out _ hw5
              have HIN : Hid (insD i D = D.take p ++ ([i] ++ [])) := Lib.hid (by
                unfold insD
                rw [HI.out.1, HI.out.2, List.head?_drop]
                rw [List.getElem?_eq_none (by rw [hDn.out]; exact Nat.le_refl _), if_neg (by simp), List.drop_of_length_le (by rw [hDn.out]; exact Nat.le_refl _)])
              have HA : Hid (((D.take p).map (Value.int .i64)).length = p * 1 ∧ RM w5 w.heap.size (some ⟨go, 0, none⟩) p p 1 (D.map (Value.int .i64)) 3 ∧ ((D.drop p).map (Value.int .i64)).length = (p - p) * 1) := Lib.hid ⟨by have := hDn.out; rw [List.length_map, List.length_take]; omega, HB.out.1.chg (Chg.of_fresh (l := []) HY3.out) (by simp), by have := hDn.out; rw [List.length_map, List.length_drop]; omega⟩
              have HB5 := Lib.hid (HB.out.2.trans (HY3.out.mono HB.out.2.size))
              clear hw5
              go_upto_region 10 with fail
              have fa1 : (p : Int) ≤ (p : Int) := by omega
              have fa2 : p ≤ p := by omega
              have ced : w5.drew.cell? ⟨ga, o + j * 12 + 1, none⟩ = some (.int .i64 i) := ce
              have gal : ga < w5.heap.size := World.block_lt_of_cell? _ _ ce
              have ga1 : ¬ ga = w5.heap.size := by omega
              have ga2 : ¬ w5.heap.size = ga := by omega
              go_region_law (first
                | ((refine step_append_rz rfl (.tmp 53) (.tmp 56) 50 50 rfl 3 (.int .i64 0) 1 8 Tryd.underlying50 infoInt rfl (by omega) w5.heap.size _ 0 0 [] rfl ((KR.new w5 w5 (Below.refl _ _)).drew).2.1 (Nat.le_refl _) _ rfl p ((D.take p).map (Value.int .i64)) (Src.ofSlice _ Tryd.underlying50 ⟨go, 0, none⟩ p _ ((D.take p).map (Value.int .i64)) HA.out.1 (ints_at0 HA.out.2.1 ((KR.new w5 w5 (Below.refl _ _)).drew).1 p) (int_one _)) (by omega) (by omega) ?_); intro g5 c5 wA q1 q0 q2 q3; rw [Nat.zero_add] at q1 q0; have HS := Lib.hid (((KR.new w5 w5 (Below.refl _ _)).drew).grow q1 q0 q3); have ceA := (HS.out.1.cell gal).trans ce; have gA : ga < wA.heap.size := Nat.lt_of_lt_of_le gal HS.out.1.size; have gA1 : ¬ ga = wA.heap.size := (by omega); have gA2 : ¬ wA.heap.size = ga := (by omega); clear q0 q1 q2 q3)
                | ((refine step_append_rz rfl (.tmp 53) (.tmp 56) 50 50 rfl 3 (.int .i64 0) 1 8 Tryd.underlying50 infoInt rfl (by omega) w5.heap.size _ 0 0 [] rfl (((KR.new w5 w5 (Below.refl _ _)).alloc (.cells #[.int .i64 i] 3)).drew).2.1 (Nat.le_refl _) _ rfl p ((D.take p).map (Value.int .i64)) (Src.ofSlice _ Tryd.underlying50 ⟨go, 0, none⟩ p _ ((D.take p).map (Value.int .i64)) HA.out.1 (ints_at0 HA.out.2.1 (((KR.new w5 w5 (Below.refl _ _)).alloc (.cells #[.int .i64 i] 3)).drew).1 p) (int_one _)) (by omega) (by omega) ?_); intro g5 c5 wA q1 q0 q2 q3; rw [Nat.zero_add] at q1 q0; have HS := Lib.hid ((((KR.new w5 w5 (Below.refl _ _)).alloc (.cells #[.int .i64 i] 3)).drew).grow q1 q0 q3); have ceA := (HS.out.1.cell gal).trans ce; have gA : ga < wA.heap.size := Nat.lt_of_lt_of_le gal HS.out.1.size; have gA1 : ¬ ga = wA.heap.size := (by omega); have gA2 : ¬ wA.heap.size = ga := (by omega); have bI := Blk.newA (w5.alloc (.cells #[] 3)) #[.int .i64 i] 3; have hI := (bI.drew.chg q3 (by simp)).cell (i := 0) rfl; clear bI; rw [World.size_alloc] at hI; clear q0 q1 q2 q3)
                | ((refine step_append_rz rfl (.tmp 53) (.tmp 56) 50 50 rfl 3 (.int .i64 0) 1 8 Tryd.underlying50 infoInt rfl (by omega) w5.heap.size _ 0 0 [] rfl ((KR.new2 w5 (.cells #[.int .i64 i] 3)).drew).2.1 (Nat.le_refl _) _ rfl p ((D.take p).map (Value.int .i64)) (Src.ofSlice _ Tryd.underlying50 ⟨go, 0, none⟩ p _ ((D.take p).map (Value.int .i64)) HA.out.1 (ints_at0 HA.out.2.1 ((KR.new2 w5 (.cells #[.int .i64 i] 3)).drew).1 p) (int_one _)) (by omega) (by omega) ?_); intro g5 c5 wA q1 q0 q2 q3; rw [Nat.zero_add] at q1 q0; have HS := Lib.hid (((KR.new2 w5 (.cells #[.int .i64 i] 3)).drew).grow q1 q0 q3); have ceA := (HS.out.1.cell gal).trans ce; have gA : ga < wA.heap.size := Nat.lt_of_lt_of_le gal HS.out.1.size; have gA1 : ¬ ga = wA.heap.size := (by omega); have gA2 : ¬ wA.heap.size = ga := (by omega); have bI := (Blk.newA w5 #[.int .i64 i] 3).alloc (.cells #[] 3); have hI := (bI.drew.chg q3 (by simp)).cell (i := 0) rfl; clear bI; clear q0 q1 q2 q3)
                | (refine step_append_rz rfl (.tmp 57) (.tmp 63) 50 50 rfl 3 (.int .i64 0) 1 8 Tryd.underlying50 infoInt rfl (by omega) w5.heap.size g5 p c5 _ rfl (HS.out.alloc (.cells #[.int .i64 i] 3)).2.1 HS.out.2.2 _ rfl 1 [.int .i64 i] (Src.ofSlice _ Tryd.underlying50 ⟨_, 0, none⟩ 1 1 [.int .i64 i] rfl (new_atE _ _ _) (int_one [i])) (by omega) (by omega) ?_; intro g6 c6 wB q1 q0 q2 q3; have HT := Lib.hid ((HS.out.alloc (.cells #[.int .i64 i] 3)).grow q1 q0 q3); clear q0 q1 q2 q3)
                | (refine step_append_rz rfl (.tmp 57) (.tmp 63) 50 50 rfl 3 (.int .i64 0) 1 8 Tryd.underlying50 infoInt rfl (by omega) w5.heap.size g5 p c5 _ rfl (HS.out).2.1 HS.out.2.2 _ rfl 1 [.int .i64 i] (Src.ofSlice _ Tryd.underlying50 ⟨_, 0, none⟩ 1 1 [.int .i64 i] rfl (one_at hI) (int_one [i])) (by omega) (by omega) ?_; intro g6 c6 wB q1 q0 q2 q3; have HT := Lib.hid ((HS.out).grow q1 q0 q3); clear q0 q1 q2 q3)
                | (refine step_append_rz rfl (.tmp 64) (.tmp 67) 50 50 rfl 3 (.int .i64 0) 1 8 Tryd.underlying50 infoInt rfl (by omega) w5.heap.size g6 (p + 1) c6 _ rfl HT.out.2.1 HT.out.2.2 _ rfl 0 [] (Src.ofSlice _ Tryd.underlying50 ⟨go, _, none⟩ 0 _ [] rfl (fun j u h => by simp at h) (fun v h => by simp at h)) (by omega) (by omega) ?_; intro g7 c7 wC q1 q0 q2 q3; have HN := Lib.hid (HT.out.grow q1 q0 q3); clear q0 q1 q2 q3)
              )
              all_goals
                go_wp2_with fail
                go_roundw
                case rel => exact ⟨j + 1, p + 1 + 0, c7, g7, by go_num, by go_num, by omega, by omega, HN.out.2.2, Lib.hid ⟨by
                  rw [HS2.out, HIN.out]
                  have h := HN.out.2.1.base_le (B' := w.heap.size) HB5.out.size
                  simpa using h, HB5.out.trans (HN.out.1.mono HB5.out.size)⟩⟩
                case measure => simp [intOf]; omega
            · have hc1 : p < c := by omega
              have HY3 := Lib.hid (HY2.out.trans (hw5.mono HY2.out.size))
              have ce := HC2.out _ hw5
              have HIN : Hid (insD i D = D.take p ++ ([i] ++ [])) := Lib.hid (by
                unfold insD
                rw [HI.out.1, HI.out.2, List.head?_drop]
                rw [List.getElem?_eq_none (by rw [hDn.out]; exact Nat.le_refl _), if_neg (by simp), List.drop_of_length_le (by rw [hDn.out]; exact Nat.le_refl _)])
              have HA : Hid (((D.take p).map (Value.int .i64)).length = p * 1 ∧ RM w5 w.heap.size (some ⟨go, 0, none⟩) p c 1 (D.map (Value.int .i64)) 3 ∧ ((D.drop p).map (Value.int .i64)).length = (p - p) * 1) := Lib.hid ⟨by have := hDn.out; rw [List.length_map, List.length_take]; omega, HB.out.1.chg (Chg.of_fresh (l := []) HY3.out) (by simp), by have := hDn.out; rw [List.length_map, List.length_drop]; omega⟩
              have HB5 := Lib.hid (HB.out.2.trans (HY3.out.mono HB.out.2.size))
              clear hw5
              go_upto_region 10 with fail
              have fa1 : (p : Int) ≤ (c : Int) := by omega
              have fa2 : p ≤ c := by omega
              have fa3 : ¬ c = p := by omega
              have ced : w5.drew.cell? ⟨ga, o + j * 12 + 1, none⟩ = some (.int .i64 i) := ce
              have gal : ga < w5.heap.size := World.block_lt_of_cell? _ _ ce
              have ga1 : ¬ ga = w5.heap.size := by omega
              have ga2 : ¬ w5.heap.size = ga := by omega
              go_region_law (first
                | ((refine step_append_rz rfl (.tmp 53) (.tmp 56) 50 50 rfl 3 (.int .i64 0) 1 8 Tryd.underlying50 infoInt rfl (by omega) w5.heap.size _ 0 0 [] rfl ((KR.new w5 w5 (Below.refl _ _)).drew).2.1 (Nat.le_refl _) _ rfl p ((D.take p).map (Value.int .i64)) (Src.ofSlice _ Tryd.underlying50 ⟨go, 0, none⟩ p _ ((D.take p).map (Value.int .i64)) HA.out.1 (ints_at0 HA.out.2.1 ((KR.new w5 w5 (Below.refl _ _)).drew).1 p) (int_one _)) (by omega) (by omega) ?_); intro g5 c5 wA q1 q0 q2 q3; rw [Nat.zero_add] at q1 q0; have HS := Lib.hid (((KR.new w5 w5 (Below.refl _ _)).drew).grow q1 q0 q3); have ceA := (HS.out.1.cell gal).trans ce; have gA : ga < wA.heap.size := Nat.lt_of_lt_of_le gal HS.out.1.size; have gA1 : ¬ ga = wA.heap.size := (by omega); have gA2 : ¬ wA.heap.size = ga := (by omega); clear q0 q1 q2 q3)
                | ((refine step_append_rz rfl (.tmp 53) (.tmp 56) 50 50 rfl 3 (.int .i64 0) 1 8 Tryd.underlying50 infoInt rfl (by omega) w5.heap.size _ 0 0 [] rfl (((KR.new w5 w5 (Below.refl _ _)).alloc (.cells #[.int .i64 i] 3)).drew).2.1 (Nat.le_refl _) _ rfl p ((D.take p).map (Value.int .i64)) (Src.ofSlice _ Tryd.underlying50 ⟨go, 0, none⟩ p _ ((D.take p).map (Value.int .i64)) HA.out.1 (ints_at0 HA.out.2.1 (((KR.new w5 w5 (Below.refl _ _)).alloc (.cells #[.int .i64 i] 3)).drew).1 p) (int_one _)) (by omega) (by omega) ?_); intro g5 c5 wA q1 q0 q2 q3; rw [Nat.zero_add] at q1 q0; have HS := Lib.hid ((((KR.new w5 w5 (Below.refl _ _)).alloc (.cells #[.int .i64 i] 3)).drew).grow q1 q0 q3); have ceA := (HS.out.1.cell gal).trans ce; have gA : ga < wA.heap.size := Nat.lt_of_lt_of_le gal HS.out.1.size; have gA1 : ¬ ga = wA.heap.size := (by omega); have gA2 : ¬ wA.heap.size = ga := (by omega); have bI := Blk.newA (w5.alloc (.cells #[] 3)) #[.int .i64 i] 3; have hI := (bI.drew.chg q3 (by simp)).cell (i := 0) rfl; clear bI; rw [World.size_alloc] at hI; clear q0 q1 q2 q3)
                | ((refine step_append_rz rfl (.tmp 53) (.tmp 56) 50 50 rfl 3 (.int .i64 0) 1 8 Tryd.underlying50 infoInt rfl (by omega) w5.heap.size _ 0 0 [] rfl ((KR.new2 w5 (.cells #[.int .i64 i] 3)).drew).2.1 (Nat.le_refl _) _ rfl p ((D.take p).map (Value.int .i64)) (Src.ofSlice _ Tryd.underlying50 ⟨go, 0, none⟩ p _ ((D.take p).map (Value.int .i64)) HA.out.1 (ints_at0 HA.out.2.1 ((KR.new2 w5 (.cells #[.int .i64 i] 3)).drew).1 p) (int_one _)) (by omega) (by omega) ?_); intro g5 c5 wA q1 q0 q2 q3; rw [Nat.zero_add] at q1 q0; have HS := Lib.hid (((KR.new2 w5 (.cells #[.int .i64 i] 3)).drew).grow q1 q0 q3); have ceA := (HS.out.1.cell gal).trans ce; have gA : ga < wA.heap.size := Nat.lt_of_lt_of_le gal HS.out.1.size; have gA1 : ¬ ga = wA.heap.size := (by omega); have gA2 : ¬ wA.heap.size = ga := (by omega); have bI := (Blk.newA w5 #[.int .i64 i] 3).alloc (.cells #[] 3); have hI := (bI.drew.chg q3 (by simp)).cell (i := 0) rfl; clear bI; clear q0 q1 q2 q3)
                | (refine step_append_rz rfl (.tmp 57) (.tmp 63) 50 50 rfl 3 (.int .i64 0) 1 8 Tryd.underlying50 infoInt rfl (by omega) w5.heap.size g5 p c5 _ rfl (HS.out.alloc (.cells #[.int .i64 i] 3)).2.1 HS.out.2.2 _ rfl 1 [.int .i64 i] (Src.ofSlice _ Tryd.underlying50 ⟨_, 0, none⟩ 1 1 [.int .i64 i] rfl (new_atE _ _ _) (int_one [i])) (by omega) (by omega) ?_; intro g6 c6 wB q1 q0 q2 q3; have HT := Lib.hid ((HS.out.alloc (.cells #[.int .i64 i] 3)).grow q1 q0 q3); clear q0 q1 q2 q3)
                | (refine step_append_rz rfl (.tmp 57) (.tmp 63) 50 50 rfl 3 (.int .i64 0) 1 8 Tryd.underlying50 infoInt rfl (by omega) w5.heap.size g5 p c5 _ rfl (HS.out).2.1 HS.out.2.2 _ rfl 1 [.int .i64 i] (Src.ofSlice _ Tryd.underlying50 ⟨_, 0, none⟩ 1 1 [.int .i64 i] rfl (one_at hI) (int_one [i])) (by omega) (by omega) ?_; intro g6 c6 wB q1 q0 q2 q3; have HT := Lib.hid ((HS.out).grow q1 q0 q3); clear q0 q1 q2 q3)
                | (refine step_append_rz rfl (.tmp 64) (.tmp 67) 50 50 rfl 3 (.int .i64 0) 1 8 Tryd.underlying50 infoInt rfl (by omega) w5.heap.size g6 (p + 1) c6 _ rfl HT.out.2.1 HT.out.2.2 _ rfl 0 [] (Src.ofSlice _ Tryd.underlying50 ⟨go, _, none⟩ 0 _ [] rfl (fun j u h => by simp at h) (fun v h => by simp at h)) (by omega) (by omega) ?_; intro g7 c7 wC q1 q0 q2 q3; have HN := Lib.hid (HT.out.grow q1 q0 q3); clear q0 q1 q2 q3)
              )
              all_goals
                go_wp2_with fail
                go_roundw
                case rel => exact ⟨j + 1, p + 1 + 0, c7, g7, by go_num, by go_num, by omega, by omega, HN.out.2.2, Lib.hid ⟨by
                  rw [HS2.out, HIN.out]
                  have h := HN.out.2.1.base_le (B' := w.heap.size) HB5.out.size
                  simpa using h, HB5.out.trans (HN.out.1.mono HB5.out.size)⟩⟩
                case measure => simp [intOf]; omega
      · have h2b : (k != 2) = true := by simp [h2]
        go_wp2_with fail
        go_roundw
        case rel => exact ⟨j + 1, nd, c, go, rfl, by go_num, by omega, by omega, hnc, Lib.hid ⟨by rw [HS.out, if_neg h2]; exact HB.out.1, HB.out.2⟩⟩
        case measure => simp [intOf]; omega
    · obtain rfl : j = len := by omega
      have i1 : ¬ (j : Int) < (j : Int) := by omega
      have HZ : Hid (RI wr (some ⟨go, 0, none⟩) D0 ∧ nd = n0) := Lib.hid (by
        have h := HB.out.1
        rw [List.take_of_length_le (by rw [HL.out.1]; exact Nat.le_refl _), HL.out.2.2.1] at h
        have h3 : D0.length = nd := by have := h.1; rw [List.length_map] at this; omega
        exact ⟨RI.of_rm h h3, by rw [← h3]; exact HL.out.2.2.2⟩)
      obtain rfl : nd = n0 := HZ.out.2
      go_wp2_with fail
      go_ret
      first
        | exact ⟨_, c, rfl, HZ.out.1, fun g hg => (HB.out.1.lt g hg).1, HB.out.2⟩
        | exact ⟨_, ⟨c, rfl⟩, HZ.out.1, fun g hg => (HB.out.1.lt g hg).1, HB.out.2⟩
end Go.Proofs.YtdchedkhlfmpeaaDoor
/- Ledger: the document's Rows. -/
namespace Go.Proofs.YtdchedkhlfmpeaaDoor
open Go.ChangeShapes Go.WideShapes Go.ChangeAt Go.RowKit
set_option linter.unusedSimpArgs false
set_option linter.unusedVariables false

theorem RI.chg {w w' : World} {r : Option Addr} {L : List Int} (h : RI w r L) {l : List Nat} (k : Chg l w w') (hl : ∀ g ∈ rvB r, g ∉ l) : RI w' r L := fun j v hj => by
  obtain ⟨g, o, e, h1, h2⟩ := h j v hj
  subst e
  exact ⟨g, o, rfl, Nat.lt_of_lt_of_le h1 k.size, by rw [← h2]; exact Chg.cell k h1 (hl g (by rw [rvB_some]; simp))⟩
theorem RI.drew {w : World} {r : Option Addr} {L : List Int} (h : RI w r L) : RI w.drew r L := h
theorem infoRow2 : (Tryd.prog.info? 32).map (fun i => (i.zero, i.size, i.bytes)) = some (some (.agg #[.int .i64 0, .int .i64 0, .int .i64 0, .int .i64 0, .int .i64 0, .int .i64 0, .int .i64 0, .int .i64 0, .int .i64 0, .int .i64 0]), 10, 80) := by kernel_rfl
/-- The row that is written, since V. -/
def LO2 (V W : World) (R : Nat) (cs : List Value) : Prop := Blk W R cs 32 ∧ Below V.heap.size V W ∧ R = V.heap.size
theorem LO2.same {V W W' : World} {R : Nat} {cs : List Value} (h : LO2 V W R cs) (k : Below W.heap.size W W') : LO2 V W' R cs :=
  ⟨h.1.chg (l := []) (Chg.of_fresh k) (by simp), h.2.1.trans (k.mono h.2.1.size), h.2.2⟩
theorem LO2.set {V W : World} {R : Nat} {cs : List Value} (h : LO2 V W R cs) (i : Nat) (v : Value) : LO2 V (W.setCell ⟨R, i, none⟩ v) R (cs.set i v) := by
  obtain ⟨h3, h5, h6⟩ := h
  exact ⟨h3.set _ _, h5.trans (((Chg.refl [R] W).set (Or.inl (by simp)) i v).below h5.size (by intro x hx; simp at hx; omega)), h6⟩
theorem LO2.dN {V W : World} {R : Nat} {cs : List Value} (n : Nat) (h : Hid (LO2 V W R cs)) : Hid (LO2 V (W.drewN n) R cs) := Lib.hid ⟨h.out.1, ⟨h.out.2.1.os, h.out.2.1.tape, h.out.2.1.output, h.out.2.1.size, h.out.2.1.block⟩, h.out.2.2⟩
/-- The document's rows, beside the numbers that they go by. -/
def LW (w wr : World) (rq : Option Addr) (qn cq : Nat) (O : List Value) (ra : Option Addr) (D1 : List Int) : Prop := RM wr w.heap.size rq qn cq 10 O 32 ∧ RI wr ra D1 ∧ (∀ g ∈ rvB rq, g ∉ rvB ra) ∧ Below w.heap.size w wr
theorem LW.be {w wr : World} {rq : Option Addr} {qn cq : Nat} {O : List Value} {ra : Option Addr} {D1 : List Int} (h : LW w wr rq qn cq O ra D1) : Below w.heap.size w wr := h.2.2.2
theorem LW.same {w wr w' : World} {rq : Option Addr} {qn cq : Nat} {O : List Value} {ra : Option Addr} {D1 : List Int} (h : LW w wr rq qn cq O ra D1) (k : Below wr.heap.size wr w') : LW w w' rq qn cq O ra D1 :=
  ⟨h.1.chg (l := []) (Chg.of_fresh k) (by simp), h.2.1.below k, h.2.2.1, h.2.2.2.trans (k.mono h.2.2.2.size)⟩
theorem LW.grow {w wr w' : World} {rq : Option Addr} {qn cq : Nat} {O : List Value} {ra : Option Addr} {D1 : List Int} (h : LW w wr rq qn cq O ra D1) (ha : ∀ g ∈ rvB ra, g < wr.heap.size) {g' m' c' : Nat} {O' : List Value} (hr : RM w' w.heap.size (some ⟨g', 0, none⟩) m' c' 10 O' 32) (hg : g' ∈ rvB rq ∨ wr.heap.size ≤ g') (k : Chg (rvB rq) wr w') : LW w w' (some ⟨g', 0, none⟩) m' c' O' ra D1 :=
  ⟨hr, h.2.1.chg k (fun g hg2 hg3 => h.2.2.1 g hg3 hg2), by
    intro g hm hm2
    rw [rvB_some] at hm
    simp at hm
    subst hm
    rcases hg with hg | hg
    · exact h.2.2.1 _ hg hm2
    · have := ha _ hm2; omega, k.onto h.2.2.2 h.2.2.2.size (fun y hy => (h.1.lt y hy).1)⟩
set_option maxRecDepth 20000 in
set_option maxHeartbeats 16000000 in
theorem rl_rows (a : Option Addr) (len cap : Nat) (L : List Ev) (hl : L.length = len) (hlm : len ≤ 9000) (hb24 : ∀ x ∈ L, x.b.size ≤ 24) (n : Nat) (hn : (Ev.ids L).length = n) (w : World) (HE : EL w a L) :
    Calls Tryd.prog 8 #[.slice a len cap] w fun e w' => ∃ (r : Option Addr) (c : Nat), e = .returned (.slice r n c) ∧ RM w' w.heap.size r n c 10 (Le.cs (Le.rows L)) 32 ∧ Below w.heap.size w w' := by
  have hnm : n ≤ 9000 := by
    have h1 := Ev.ids_le L
    rw [hn, hl] at h1
    omega
  obtain ⟨D1, hD1⟩ : ∃ D1, Ev.ids L = D1 := ⟨_, rfl⟩
  rw [hD1] at hn
  obtain ⟨gO, hgO⟩ : ∃ g, w.heap.size = g := ⟨_, rfl⟩
  have HA : Hid (EL (w.alloc (.cells #[] 32)) a L ∧ Below w.heap.size w (w.alloc (.cells #[] 32)) ∧ RM (w.alloc (.cells #[] 32)) w.heap.size (some ⟨gO, 0, none⟩) 0 0 10 [] 32) := Lib.hid ⟨HE.below ((Below.refl _ _).alloc (Nat.le_refl _) _), (Below.refl _ _).alloc (Nat.le_refl _) _, by
    rw [← hgO]
    exact ⟨by simp, by simp, Or.inr ⟨w.heap.size, rfl, by simp, Rn.empty w 10 32⟩⟩⟩
  have HSUM : Hid (Ev.sum L ≤ 1000000) := Lib.hid (by
    have h1 := Ev.sum_le (L := L) (B := 24) hb24
    rw [hl] at h1
    omega)
  have HL := Lib.hid (And.intro hl (And.intro HE (And.intro hb24 (And.intro hD1 hn))))
  clear hl HE hb24 hD1 hn
  go_enter Tryd.func8, Tryd.ntmps8
  go_upto_region 1 with fail
  go_upto_region 2 with (go_at_call 19; (with_reducible refine (rf_ids2 a len cap L HL.out.1 (by omega) D1 HL.out.2.2.2.1 n HL.out.2.2.2.2 _ HA.out.1).mono ?_); rintro r6 W4 ⟨ra, ca, rfl, hri, hfr, bb⟩; have HW : Hid (LW w W4 (some ⟨gO, 0, none⟩) 0 0 [] ra D1) := Lib.hid ⟨HA.out.2.2.chg (l := []) (Chg.of_fresh bb) (by simp), hri, fun g hg hg2 => by have h1 := (HA.out.2.2.lt g hg).2; have h2 := hfr g hg2; omega, HA.out.2.1.trans (bb.mono HA.out.2.1.size)⟩; clear bb HA hri hfr)
  go_wp2_with fail
  go_loopw [3, 5, 6, 7, 8, 9, 10] (fun o3 z _ _ _ _ _ wr => ∃ (j cq : Nat) (rq : Option Addr), o3 = .slice rq j cq ∧ z = .int .i64 j ∧ j ≤ n ∧ Hid (LW w wr rq j cq (Le.cs ((Le.rows L).take j)) ra D1)) (fun _ z _ _ _ _ _ _ => n - (intOf z).toNat)
  case atStart => exact ⟨0, 0, _, rfl, rfl, by omega, Lib.hid (by rw [List.take_zero]; exact HW.out)⟩
  case round =>
    obtain ⟨j, cq, rq, rfl, rfl, hj, HB⟩ := hrel
    have j0 : (0 : Int) ≤ (j : Int) := by omega
    by_cases hjn : j < n
    · have i1 : (j : Int) < (n : Int) := by omega
      have w1 : IntKind.i64.wrap ((j : Int) + 1) = (j : Int) + 1 := IntWalk.i64_in _ (by omega)
      obtain ⟨ix, hix⟩ : ∃ ix, D1[j]? = some ix := ⟨_, List.getElem?_eq_getElem (by rw [HL.out.2.2.2.2]; exact hjn)⟩
      obtain ⟨gr, og, rfl, hgr, e0⟩ := HB.out.2.1 j ix hix
      obtain ⟨O, hO⟩ : ∃ O, Le.cs ((Le.rows L).take j) = O := ⟨_, rfl⟩
      rw [hO] at HB
      obtain ⟨⟨i2, sc, fr, TT, ok⟩, hlf⟩ : ∃ p, Pj.lifeD ix L = p := ⟨_, rfl⟩
      obtain ⟨nT, hnT⟩ : ∃ n, TT.length = n := ⟨_, rfl⟩
      obtain ⟨nS, hnS⟩ : ∃ n, (Pj.stE TT).length = n := ⟨_, rfl⟩
      obtain ⟨rd, hrd⟩ : ∃ x, Pj.rd TT = x := ⟨_, rfl⟩
      obtain ⟨tk, htk⟩ : ∃ x, Pj.tk TT = x := ⟨_, rfl⟩
      obtain ⟨eo, heo⟩ : ∃ x, Pj.eof TT = x := ⟨_, rfl⟩
      obtain ⟨st, hst⟩ : ∃ x, Pj.ss TT = x := ⟨_, rfl⟩
      obtain ⟨rz, hrz⟩ : ∃ n, rd.size = n := ⟨_, rfl⟩
      obtain ⟨tz, htz⟩ : ∃ n, tk.size = n := ⟨_, rfl⟩
      have hns : nS ≤ 9000 := by
        have h1 := Pj.nst_le TT
        have h2 := (Pj.lifeD_ok HL.out.2.1.ok hlf).2
        rw [hnS] at h1
        rw [HL.out.1] at h2
        omega
      have HCS : Hid (Le.cs ((Le.rows L).take (j + 1)) = O ++ (Le.mk ix sc fr TT).c) := Lib.hid (by
        have hr : (Le.rows L)[j]? = some (Le.mk ix sc fr TT) := by unfold Le.rows; rw [HL.out.2.2.2.1, List.getElem?_map, hix]; show some (Le.of ix L) = _; unfold Le.of; rw [hlf]
        rw [take_snocE hr, Le.cs_snoc, hO])
      have HT : Hid (Pj.lifeD ix L = (i2, sc, fr, TT, ok) ∧ TT.length = nT ∧ (Pj.stE TT).length = nS ∧ Pj.rd TT = rd ∧ Pj.tk TT = tk ∧ Pj.eof TT = eo ∧ Pj.ss TT = st ∧ rd.size = rz ∧ tk.size = tz) := Lib.hid ⟨hlf, hnT, hnS, hrd, htk, heo, hst, hrz, htz⟩
      have HIX := Lib.hid hix
      clear hlf hnT hnS hrd htk heo hst hix hO
      go_upto_region 6 with (go_at_call 20; (with_reducible refine (rf_any a len cap L HL.out.1 (by omega) HSUM.out ix i2 sc fr TT ok HT.out.1 eo HT.out.2.2.2.2.2.1 st HT.out.2.2.2.2.2.2.1 rd tk HT.out.2.2.2.1 HT.out.2.2.2.2.1 nT nS HT.out.2.1 HT.out.2.2.1 _ (HL.out.2.1.below HB.out.be)).mono ?_); rintro r9 V3 ⟨r1, c1, r2, c2, r3, c3, rfl, q1, q2, bb⟩; have HJ3 : Hid (LW w V3 rq j cq O (some ⟨gr, og, none⟩) D1 ∧ RE V3 r3 6 Ev.st (Pj.stE TT) ∧ gr < V3.heap.size) := Lib.hid ⟨HB.out.same bb, q2, Nat.lt_of_lt_of_le hgr bb.size⟩; clear bb HB q1 q2 hgr e0)
      have HJ : Hid (LW w (V3.alloc (.cells #[.int .i64 i2, .int .i64 sc, .int .i64 fr, .slice r1 nT c1, .slice r2 nT c2, .slice r3 nS c3, .string rd, .string tk, .bool eo, .int .i64 st] 58)) rq j cq O (some ⟨gr, og, none⟩) D1 ∧ Blk (V3.alloc (.cells #[.int .i64 i2, .int .i64 sc, .int .i64 fr, .slice r1 nT c1, .slice r2 nT c2, .slice r3 nS c3, .string rd, .string tk, .bool eo, .int .i64 st] 58)) V3.heap.size [.int .i64 i2, .int .i64 sc, .int .i64 fr, .slice r1 nT c1, .slice r2 nT c2, .slice r3 nS c3, .string rd, .string tk, .bool eo, .int .i64 st] 58 ∧ RE (V3.alloc (.cells #[.int .i64 i2, .int .i64 sc, .int .i64 fr, .slice r1 nT c1, .slice r2 nT c2, .slice r3 nS c3, .string rd, .string tk, .bool eo, .int .i64 st] 58)) r3 6 Ev.st (Pj.stE TT) ∧ gr < (V3.alloc (.cells #[.int .i64 i2, .int .i64 sc, .int .i64 fr, .slice r1 nT c1, .slice r2 nT c2, .slice r3 nS c3, .string rd, .string tk, .bool eo, .int .i64 st] 58)).heap.size) := Lib.hid ⟨HJ3.out.1.same ((Below.refl _ _).alloc (Nat.le_refl _) _), Blk.newA _ _ _, HJ3.out.2.1.below ((Below.refl _ _).alloc (Nat.le_refl _) _), by rw [World.size_alloc]; have := HJ3.out.2.2; omega⟩
      clear HJ3
      revert HJ
      generalize (V3.alloc (.cells #[.int .i64 i2, .int .i64 sc, .int .i64 fr, .slice r1 nT c1, .slice r2 nT c2, .slice r3 nS c3, .string rd, .string tk, .bool eo, .int .i64 st] 58)) = V
      generalize V3.heap.size = X3
      intro HJ
      have y1 := HJ.out.2.1.cell (i := 1) rfl
      have y2 := HJ.out.2.1.cell (i := 2) rfl
      have y5 := HJ.out.2.1.cell (i := 5) rfl
      have y6 := HJ.out.2.1.cell (i := 6) rfl
      have y7 := HJ.out.2.1.cell (i := 7) rfl
      have y9 := HJ.out.2.1.cell (i := 9) rfl
      have HGR0 : Hid (gr < V.heap.size) := Lib.hid HJ.out.2.2.2
      have e0 : V.cell? ⟨gr, og + j, none⟩ = some (.int .i64 ix) := by
        obtain ⟨g5, o5, e5, _, h5⟩ := HJ.out.1.2.1 j ix HIX.out
        injection e5 with e5
        injection e5 with e6 e7 _
        subst e6 e7
        exact h5
      have HJd : Hid (LW w V.drew rq j cq O (some ⟨gr, og, none⟩) D1 ∧ Blk V.drew X3 [.int .i64 i2, .int .i64 sc, .int .i64 fr, .slice r1 nT c1, .slice r2 nT c2, .slice r3 nS c3, .string rd, .string tk, .bool eo, .int .i64 st] 58 ∧ RE V.drew r3 6 Ev.st (Pj.stE TT) ∧ gr < V.drew.heap.size) := Lib.hid ⟨HJ.out.1.same (Below.refl _ _).drew, HJ.out.2.1.chg (l := []) (Chg.of_fresh (Below.refl _ _).drew) (by simp), HJ.out.2.2.1.below (Below.refl _ _).drew, HJ.out.2.2.2⟩
      have s0 : V.drew.cell? ⟨X3, 1, none⟩ = some (.int .i64 sc) ∧ V.drew.cell? ⟨X3, 2, none⟩ = some (.int .i64 fr) ∧ V.drew.cell? ⟨X3, 5, none⟩ = some (.slice r3 nS c3) ∧ V.drew.cell? ⟨X3, 6, none⟩ = some (.string rd) ∧ V.drew.cell? ⟨X3, 7, none⟩ = some (.string tk) ∧ V.drew.cell? ⟨X3, 9, none⟩ = some (.int .i64 st) ∧ V.drew.cell? ⟨gr, og + j, none⟩ = some (.int .i64 ix) := ⟨HJd.out.2.1.cell (i := 1) rfl, HJd.out.2.1.cell (i := 2) rfl, HJd.out.2.1.cell (i := 5) rfl, HJd.out.2.1.cell (i := 6) rfl, HJd.out.2.1.cell (i := 7) rfl, HJd.out.2.1.cell (i := 9) rfl, by
        have h := (Below.refl V.heap.size V).drew.cell (p := ⟨gr, og + j, none⟩) HGR0.out
        exact h.trans e0⟩
      have nw1 := World.new_ne V ⟨X3, 1, none⟩ y1
      have nw2 := World.new_ne V ⟨X3, 2, none⟩ y2
      have nw3 := World.new_ne V ⟨X3, 5, none⟩ y5
      have nw4 := World.new_ne V ⟨X3, 6, none⟩ y6
      have nw5 := World.new_ne V ⟨X3, 7, none⟩ y7
      have nw6 := World.new_ne V ⟨X3, 9, none⟩ y9
      have nw7 := World.new_ne V ⟨gr, og + j, none⟩ e0
      go_region_held3 (fun W => W.cell? ⟨X3, 1, none⟩ = some (.int .i64 sc) ∧ W.cell? ⟨X3, 2, none⟩ = some (.int .i64 fr) ∧ W.cell? ⟨X3, 5, none⟩ = some (.slice r3 nS c3) ∧ W.cell? ⟨X3, 6, none⟩ = some (.string rd) ∧ W.cell? ⟨X3, 7, none⟩ = some (.string tk) ∧ W.cell? ⟨X3, 9, none⟩ = some (.int .i64 st) ∧ W.cell? ⟨gr, og + j, none⟩ = some (.int .i64 ix)) (first | with_reducible exact s0 | go_keep) (fail)
      clear s0 y1 y2 y5 y6 y7 y9 e0 nw1 nw2 nw3 nw4 nw5 nw6 nw7
      clear HJd
      have HGR : Hid (gr < V.heap.size) := HGR0
      obtain ⟨R, hR⟩ : ∃ R, V.heap.size = R := ⟨_, rfl⟩
      have HO : Hid (LO2 V (V.alloc (.cells #[.int .i64 ix, .int .i64 sc, .int .i64 fr, .int .i64 (nS : Int), .int .i64 0, .int .i64 0, .int .i64 (rz : Int), .int .i64 (tz : Int), .int .i64 st, .int .i64 9223372036854775807] 32)).drew R [.int .i64 ix, .int .i64 sc, .int .i64 fr, .int .i64 (nS : Int), .int .i64 0, .int .i64 0, .int .i64 (rz : Int), .int .i64 (tz : Int), .int .i64 st, .int .i64 9223372036854775807]) := Lib.hid (LO2.same ⟨by rw [← hR]; exact Blk.newA _ _ _, (Below.refl _ _).alloc (Nat.le_refl _) _, hR.symm⟩ (Below.refl _ _).drew)
      have HR := Lib.hid hR
      go_wp2_with fail
      clear hrz htz
      revert HO
      generalize (V.alloc (.cells #[.int .i64 ix, .int .i64 sc, .int .i64 fr, .int .i64 (nS : Int), .int .i64 0, .int .i64 0, .int .i64 (rz : Int), .int .i64 (tz : Int), .int .i64 st, .int .i64 9223372036854775807] 32)).drew = V5
      try rw [hR]
      clear hR
      intro HO
      have HQF : Hid (X3 < R) := Lib.hid (by rw [← HR.out]; exact HJ.out.2.1.lt)
      go_loopw [9, 10] (fun z _ wr => ∃ k2 : Nat, z = .int .i64 k2 ∧ k2 ≤ nS ∧ Hid (LO2 V wr R [.int .i64 ix, .int .i64 sc, .int .i64 fr, .int .i64 (nS : Int), .int .i64 ((Le.nL ((Pj.stE TT).take k2) : Nat) : Int), .int .i64 ((Le.nJ ((Pj.stE TT).take k2) : Nat) : Int), .int .i64 (rz : Int), .int .i64 (tz : Int), .int .i64 st, .int .i64 9223372036854775807])) (fun z _ _ => nS - (intOf z).toNat)
      case atStart => exact ⟨0, rfl, by omega, Lib.hid (by rw [List.take_zero]; exact HO.out)⟩
      case round =>
        obtain ⟨k2, rfl, hk2, HB⟩ := hrel
        have k0 : (0 : Int) ≤ (k2 : Int) := by omega
        have y5 := (HJ.out.2.1.below HB.out.2.1 HJ.out.2.1.lt).cell (i := 5) rfl
        by_cases hkn : k2 < nS
        · have i2 : (k2 : Int) < (nS : Int) := by omega
          have w2 : IntKind.i64.wrap ((k2 : Int) + 1) = (k2 : Int) + 1 := IntWalk.i64_in _ (by omega)
          obtain ⟨⟨k, i, n, t, b, e, s0, s1, s2, s3, s4, s5⟩, es⟩ : ∃ x, (Pj.stE TT)[k2]? = some x := ⟨_, List.getElem?_eq_getElem (by rw [HT.out.2.2.1]; exact hkn)⟩
          obtain ⟨g2, o2, rfl, hg2, x0, x1, x2, x3, x4, x5⟩ := (HJ.out.2.2.1.below HB.out.2.1).at6 es
          dsimp only at x0 x1 x2 x3 x4 x5
          obtain ⟨nl, hnl⟩ : ∃ m, Le.nL ((Pj.stE TT).take k2) = m := ⟨_, rfl⟩
          obtain ⟨nj, hnj⟩ : ∃ m, Le.nJ ((Pj.stE TT).take k2) = m := ⟨_, rfl⟩
          have hnl2 : nl ≤ 10000 := by
            have := Le.nL_le ((Pj.stE TT).take k2)
            rw [hnl, List.length_take, HT.out.2.2.1] at this; omega
          have hnj2 : nj ≤ 10000 := by
            have := Le.nJ_le ((Pj.stE TT).take k2)
            rw [hnj, List.length_take, HT.out.2.2.1] at this; omega
          rw [hnl, hnj] at HB
          have HN : Hid (Le.nL ((Pj.stE TT).take (k2 + 1)) = (if s2 = 1 then nl + 1 else nl) ∧ Le.nJ ((Pj.stE TT).take (k2 + 1)) = (if ((s2 == 2 || s2 == 3 || s2 == 4 || s2 == 7) && s5 == 0) = true then nj + 1 else nj)) := Lib.hid ⟨by
            rw [take_snocE es, Le.nL_snoc, hnl]
            unfold Le.isL
            by_cases h : s2 = 1 <;> simp [h], by
            rw [take_snocE es, Le.nJ_snoc, hnj]
            rfl⟩
          clear es hnl hnj x0 x1 x3 x4
          by_cases hs1 : s2 = 1
          · have kb : (s2 == 1) = true := by simp [hs1]
            have p4 := HB.out.1.cell (i := 4) rfl
            have f4 := HB.out.1.free 4
            have w4 : IntKind.i64.wrap ((nl : Int) + 1) = (nl : Int) + 1 := IntWalk.i64_in _ (by omega)
            have HN3 : Hid (Le.nL ((Pj.stE TT).take (k2 + 1)) = nl + 1) := Lib.hid (by rw [HN.out.1, if_pos hs1])
            have hgV : g2 < V.heap.size := by
              obtain ⟨g3, o3, e3, h3, _⟩ := HJ.out.2.2.1 0 _ (List.getElem?_eq_getElem (by rw [HT.out.2.2.1]; omega))
              injection e3 with e3
              injection e3 with e3 _ _
              omega
            go_upto_region 13 with fail
            have HB5 : Hid (LO2 V (wr.setCell ⟨R, 4, none⟩ (.int .i64 ((nl : Int) + 1))) R [.int .i64 ix, .int .i64 sc, .int .i64 fr, .int .i64 (nS : Int), .int .i64 ((nl : Int) + 1), .int .i64 (nj : Int), .int .i64 (rz : Int), .int .i64 (tz : Int), .int .i64 st, .int .i64 9223372036854775807]) := Lib.hid (HB.out.set 4 _)
            have HB6 : Hid ((wr.setCell ⟨R, 4, none⟩ (.int .i64 ((nl : Int) + 1))).cell? ⟨g2, o2 + k2 * 6 + 5, none⟩ = some (.int .i64 s5) ∧ (wr.setCell ⟨R, 4, none⟩ (.int .i64 ((nl : Int) + 1))).cell? ⟨X3, 5, none⟩ = some (.slice (some ⟨g2, o2, none⟩) nS c3)) := Lib.hid ⟨(HB5.out.2.1.cell hgV).trans ((HB.out.2.1.cell hgV).symm.trans x5), (HJ.out.2.1.below HB5.out.2.1 HJ.out.2.1.lt).cell (i := 5) rfl⟩
            clear p4 f4 x2 x5 y5 HB
            revert HB5 HB6
            generalize (wr.setCell ⟨R, 4, none⟩ (.int .i64 ((nl : Int) + 1))) = W6
            intro HB5 HB6
            have x5 := HB6.out.1
            have y5 := HB6.out.2
            have b2 : (s2 == 2) = false := by simp [hs1]
            have b3 : (s2 == 3) = false := by simp [hs1]
            have b4 : (s2 == 4) = false := by simp [hs1]
            have b7 : (s2 == 7) = false := by simp [hs1]
            clear hs1
            by_cases h5 : s5 = 0
            · have b5 : (s5 == 0) = true := by simp [h5]
              clear h5
              have HN2 : Hid (Le.nJ ((Pj.stE TT).take (k2 + 1)) = nj) := Lib.hid (by rw [HN.out.2]; exact if_neg (by simp [b2, b3, b4, b7, b5]))
              go_wp2_with fail
              go_roundw
              case rel => exact ⟨k2 + 1, by go_num, by omega, Lib.hid (by rw [HN3.out, HN2.out]; exact HB5.out)⟩
              case measure => simp [intOf]; omega
            · have b5 : (s5 == 0) = false := by simp [h5]
              clear h5
              have HN2 : Hid (Le.nJ ((Pj.stE TT).take (k2 + 1)) = nj) := Lib.hid (by rw [HN.out.2]; exact if_neg (by simp [b5]))
              go_wp2_with fail
              go_roundw
              case rel => exact ⟨k2 + 1, by go_num, by omega, Lib.hid (by rw [HN3.out, HN2.out]; exact HB5.out)⟩
              case measure => simp [intOf]; omega
          · have kb : (s2 == 1) = false := by simp [hs1]
            have HN3 : Hid (Le.nL ((Pj.stE TT).take (k2 + 1)) = nl) := Lib.hid (by rw [HN.out.1, if_neg hs1])
            have HB5 := HB
            clear HB
            go_upto_region 13 with fail
            clear hs1
            by_cases h5 : s5 = 0
            · have b5 : (s5 == 0) = true := by simp [h5]
              clear h5
              by_cases h2 : s2 = 2
              · have b2 : (s2 == 2) = true := by simp [h2]
                clear h2
                have HN2 : Hid (Le.nJ ((Pj.stE TT).take (k2 + 1)) = nj + 1) := Lib.hid (by rw [HN.out.2]; exact if_pos (by simp [b2, b5]))
                have w3 : IntKind.i64.wrap ((nj : Int) + 1) = (nj : Int) + 1 := IntWalk.i64_in _ (by omega)
                go_upto_region 14 with fail
                have p5 := HB5.out.1.cell (i := 5) rfl
                have f5 := HB5.out.1.free 5
                go_wp2_with fail
                go_roundw
                case rel => exact ⟨k2 + 1, by go_num, by omega, Lib.hid (by rw [HN3.out, HN2.out]; exact HB5.out.set 5 _)⟩
                case measure => simp [intOf]; omega
              have b2 : (s2 == 2) = false := by simp [h2]
              clear h2
              by_cases h3 : s2 = 3
              · have b3 : (s2 == 3) = true := by simp [h3]
                clear h3
                have HN2 : Hid (Le.nJ ((Pj.stE TT).take (k2 + 1)) = nj + 1) := Lib.hid (by rw [HN.out.2]; exact if_pos (by simp [b2, b3, b5]))
                have w3 : IntKind.i64.wrap ((nj : Int) + 1) = (nj : Int) + 1 := IntWalk.i64_in _ (by omega)
                go_upto_region 14 with fail
                have p5 := HB5.out.1.cell (i := 5) rfl
                have f5 := HB5.out.1.free 5
                go_wp2_with fail
                go_roundw
                case rel => exact ⟨k2 + 1, by go_num, by omega, Lib.hid (by rw [HN3.out, HN2.out]; exact HB5.out.set 5 _)⟩
                case measure => simp [intOf]; omega
              have b3 : (s2 == 3) = false := by simp [h3]
              clear h3
              by_cases h4 : s2 = 4
              · have b4 : (s2 == 4) = true := by simp [h4]
                clear h4
                have HN2 : Hid (Le.nJ ((Pj.stE TT).take (k2 + 1)) = nj + 1) := Lib.hid (by rw [HN.out.2]; exact if_pos (by simp [b2, b3, b4, b5]))
                have w3 : IntKind.i64.wrap ((nj : Int) + 1) = (nj : Int) + 1 := IntWalk.i64_in _ (by omega)
                go_upto_region 14 with fail
                have p5 := HB5.out.1.cell (i := 5) rfl
                have f5 := HB5.out.1.free 5
                go_wp2_with fail
                go_roundw
                case rel => exact ⟨k2 + 1, by go_num, by omega, Lib.hid (by rw [HN3.out, HN2.out]; exact HB5.out.set 5 _)⟩
                case measure => simp [intOf]; omega
              have b4 : (s2 == 4) = false := by simp [h4]
              clear h4
              by_cases h7 : s2 = 7
              · have b7 : (s2 == 7) = true := by simp [h7]
                clear h7
                have HN2 : Hid (Le.nJ ((Pj.stE TT).take (k2 + 1)) = nj + 1) := Lib.hid (by rw [HN.out.2]; exact if_pos (by simp [b2, b3, b4, b7, b5]))
                have w3 : IntKind.i64.wrap ((nj : Int) + 1) = (nj : Int) + 1 := IntWalk.i64_in _ (by omega)
                go_upto_region 14 with fail
                have p5 := HB5.out.1.cell (i := 5) rfl
                have f5 := HB5.out.1.free 5
                go_wp2_with fail
                go_roundw
                case rel => exact ⟨k2 + 1, by go_num, by omega, Lib.hid (by rw [HN3.out, HN2.out]; exact HB5.out.set 5 _)⟩
                case measure => simp [intOf]; omega
              have b7 : (s2 == 7) = false := by simp [h7]
              clear h7
              have HN2 : Hid (Le.nJ ((Pj.stE TT).take (k2 + 1)) = nj) := Lib.hid (by rw [HN.out.2]; exact if_neg (by simp [b2, b3, b4, b7, b5]))
              go_wp2_with fail
              go_roundw
              case rel => exact ⟨k2 + 1, by go_num, by omega, Lib.hid (by rw [HN3.out, HN2.out]; exact HB5.out)⟩
              case measure => simp [intOf]; omega
            · have b5 : (s5 == 0) = false := by simp [h5]
              clear h5
              have HN2 : Hid (Le.nJ ((Pj.stE TT).take (k2 + 1)) = nj) := Lib.hid (by rw [HN.out.2]; exact if_neg (by simp [b5]))
              go_wp2_with fail
              go_roundw
              case rel => exact ⟨k2 + 1, by go_num, by omega, Lib.hid (by rw [HN3.out, HN2.out]; exact HB5.out)⟩
              case measure => simp [intOf]; omega
        · obtain rfl : k2 = nS := by omega
          have i2 : ¬ (k2 : Int) < (k2 : Int) := by omega
          obtain ⟨nl, hnl⟩ : ∃ m, Le.nL (Pj.stE TT) = m := ⟨_, rfl⟩
          obtain ⟨nj, hnj⟩ : ∃ m, Le.nJ (Pj.stE TT) = m := ⟨_, rfl⟩
          have HF : Hid (LO2 V wr R [.int .i64 ix, .int .i64 sc, .int .i64 fr, .int .i64 (k2 : Int), .int .i64 (nl : Int), .int .i64 (nj : Int), .int .i64 (rz : Int), .int .i64 (tz : Int), .int .i64 st, .int .i64 9223372036854775807]) := Lib.hid (by
            have h := HB.out
            rw [List.take_of_length_le (by rw [HT.out.2.2.1]; exact Nat.le_refl _), hnl, hnj] at h
            exact h)
          have HNN := Lib.hid (And.intro hnl hnj)
          have y9 := (HJ.out.2.1.below HB.out.2.1 HJ.out.2.1.lt).cell (i := 9) rfl
          have HWL : Hid (LW w wr rq j cq O (some ⟨gr, og, none⟩) D1 ∧ gr < wr.heap.size) := Lib.hid ⟨HJ.out.1.same HF.out.2.1, Nat.lt_of_lt_of_le HGR.out HF.out.2.1.size⟩
          clear hnl hnj HB
          by_cases hs0 : st = 0
          · have sb : (st != 0) = false := by simp [hs0]
            have HXX : Hid (Le.mk ix sc fr TT = ⟨ix, sc, fr, k2, nl, nj, rz, tz, st, 9223372036854775807⟩) := Lib.hid (by
              unfold Le.mk Le.en
              rw [HT.out.2.2.2.2.2.2.1, if_pos hs0, HT.out.2.2.1, HNN.out.1, HNN.out.2, HT.out.2.2.2.1, HT.out.2.2.2.2.1, HT.out.2.2.2.2.2.2.2.1, HT.out.2.2.2.2.2.2.2.2])
            clear hs0
            have HE : Hid (Blk wr R [.int .i64 ix, .int .i64 sc, .int .i64 fr, .int .i64 (k2 : Int), .int .i64 (nl : Int), .int .i64 (nj : Int), .int .i64 (rz : Int), .int .i64 (tz : Int), .int .i64 st, .int .i64 9223372036854775807] 32 ∧ LW w wr rq j cq O (some ⟨gr, og, none⟩) D1 ∧ gr < wr.heap.size) := Lib.hid ⟨HF.out.1, HWL.out⟩
            go_upto_region 17 with fail
            clear y5 y9
            have y0 := HE.out.1.cell (i := 0) rfl
            have y1 := HE.out.1.cell (i := 1) rfl
            have y2 := HE.out.1.cell (i := 2) rfl
            have y3 := HE.out.1.cell (i := 3) rfl
            have y4 := HE.out.1.cell (i := 4) rfl
            have y5 := HE.out.1.cell (i := 5) rfl
            have y6 := HE.out.1.cell (i := 6) rfl
            have y7 := HE.out.1.cell (i := 7) rfl
            have y8 := HE.out.1.cell (i := 8) rfl
            have yv := HE.out.1.cell (i := 9) rfl
            go_wp2_with (at_builtin; refine wpList_append_rm _ rfl (.tmp 108) (.tmp 110) 26 26 rfl 32 (.agg #[.int .i64 0, .int .i64 0, .int .i64 0, .int .i64 0, .int .i64 0, .int .i64 0, .int .i64 0, .int .i64 0, .int .i64 0, .int .i64 0]) 10 80 Tryd.underlying26 infoRow2 rfl w.heap.size rq j cq O rfl (HE.out.2.1.same ((Below.refl _ _).alloc (Nat.le_refl _) _)).1 _ rfl 1 (by omega) [.int .i64 ix, .int .i64 sc, .int .i64 fr, .int .i64 (k2 : Int), .int .i64 (nl : Int), .int .i64 (nj : Int), .int .i64 (rz : Int), .int .i64 (tz : Int), .int .i64 st, .int .i64 9223372036854775807] (Src.ofSlice _ Tryd.underlying26 ⟨_, 0, none⟩ 1 1 [.int .i64 ix, .int .i64 sc, .int .i64 fr, .int .i64 (k2 : Int), .int .i64 (nl : Int), .int .i64 (nj : Int), .int .i64 (rz : Int), .int .i64 (tz : Int), .int .i64 st, .int .i64 9223372036854775807] rfl (new_atE _ _ _) (Le.R.c_one ⟨ix, sc, fr, k2, nl, nj, rz, tz, st, 9223372036854775807⟩)) (by omega) (by omega) ?_; intro g4 c4 w4 u1 u2 u3; have HN9 := Lib.hid ((HE.out.2.1.same ((Below.refl _ _).alloc (Nat.le_refl _) _)).grow (by intro g hg; rw [rvB_some] at hg; simp at hg; subst hg; rw [World.size_alloc]; have := HE.out.2.2; omega) u1 u2 u3); clear u1 u2 u3)
            go_roundw
            case rel => exact ⟨j + 1, c4, _, rfl, by go_num, by omega, Lib.hid (by rw [HCS.out, HXX.out]; exact HN9.out)⟩
            case measure => simp [intOf]; omega
          · have sb : (st != 0) = true := by simp [hs0]
            have hne := le_stE_ne (T := TT) (by rw [HT.out.2.2.2.2.2.2.1]; exact hs0)
            obtain ⟨mS, hmS⟩ : ∃ mS, k2 = mS + 1 := ⟨k2 - 1, by have := HT.out.2.2.1; have h2 := List.length_pos_iff.2 hne; omega⟩
            obtain ⟨y, hy⟩ : ∃ y, (Pj.stE TT)[mS]? = some y := ⟨_, List.getElem?_eq_getElem (by have := HT.out.2.2.1; omega)⟩
            have hlast : (Pj.stE TT).getLast? = some y := by
              rw [List.getLast?_eq_getElem?, HT.out.2.2.1, hmS]; exact hy
            obtain ⟨g2, o2, rfl, hg2, hcy⟩ := (HJ.out.2.2.1.below HF.out.2.1) mS y hy
            have z0 := hcy 0 (.int .i64 y.s0) rfl
            rw [Nat.add_zero] at z0
            have n0 : (0 : Int) ≤ (mS : Int) := by omega
            have n3 : (mS : Int) < (k2 : Int) := by omega
            have n4 : mS < k2 := by omega
            have ws : IntKind.i64.wrap ((k2 : Int) - 1) = (mS : Int) := by rw [IntWalk.i64_in _ (by omega)]; omega
            obtain ⟨ys, hys⟩ : ∃ ys, y.s0 = ys := ⟨_, rfl⟩
            rw [hys] at z0
            have HXX : Hid (Le.mk ix sc fr TT = ⟨ix, sc, fr, k2, nl, nj, rz, tz, st, ys⟩) := Lib.hid (by
              unfold Le.mk Le.en
              rw [HT.out.2.2.2.2.2.2.1, if_neg hs0, HT.out.2.2.1, HNN.out.1, HNN.out.2, HT.out.2.2.2.1, HT.out.2.2.2.2.1, HT.out.2.2.2.2.2.2.2.1, HT.out.2.2.2.2.2.2.2.2, hlast]
              simp [hys])
            clear hs0 hne hmS hlast hy hcy hys
            have p9 := HF.out.1.cell (i := 9) rfl
            have f9 := HF.out.1.free 9
            go_upto_region 17 with fail
            have HE : Hid (Blk (wr.setCell ⟨R, 9, none⟩ (.int .i64 ys)) R [.int .i64 ix, .int .i64 sc, .int .i64 fr, .int .i64 (k2 : Int), .int .i64 (nl : Int), .int .i64 (nj : Int), .int .i64 (rz : Int), .int .i64 (tz : Int), .int .i64 st, .int .i64 ys] 32 ∧ LW w (wr.setCell ⟨R, 9, none⟩ (.int .i64 ys)) rq j cq O (some ⟨gr, og, none⟩) D1 ∧ gr < (wr.setCell ⟨R, 9, none⟩ (.int .i64 ys)).heap.size) := Lib.hid (by
              have h := HF.out.set 9 (.int .i64 ys)
              exact ⟨h.1, HJ.out.1.same h.2.1, Nat.lt_of_lt_of_le HGR.out h.2.1.size⟩)
            clear y5 y9 p9 f9 z0 hg2
            revert HE
            generalize (wr.setCell ⟨R, 9, none⟩ (.int .i64 ys)) = W8
            intro HE
            have y0 := HE.out.1.cell (i := 0) rfl
            have y1 := HE.out.1.cell (i := 1) rfl
            have y2 := HE.out.1.cell (i := 2) rfl
            have y3 := HE.out.1.cell (i := 3) rfl
            have y4 := HE.out.1.cell (i := 4) rfl
            have y5 := HE.out.1.cell (i := 5) rfl
            have y6 := HE.out.1.cell (i := 6) rfl
            have y7 := HE.out.1.cell (i := 7) rfl
            have y8 := HE.out.1.cell (i := 8) rfl
            have yv := HE.out.1.cell (i := 9) rfl
            go_wp2_with (at_builtin; refine wpList_append_rm _ rfl (.tmp 108) (.tmp 110) 26 26 rfl 32 (.agg #[.int .i64 0, .int .i64 0, .int .i64 0, .int .i64 0, .int .i64 0, .int .i64 0, .int .i64 0, .int .i64 0, .int .i64 0, .int .i64 0]) 10 80 Tryd.underlying26 infoRow2 rfl w.heap.size rq j cq O rfl (HE.out.2.1.same ((Below.refl _ _).alloc (Nat.le_refl _) _)).1 _ rfl 1 (by omega) [.int .i64 ix, .int .i64 sc, .int .i64 fr, .int .i64 (k2 : Int), .int .i64 (nl : Int), .int .i64 (nj : Int), .int .i64 (rz : Int), .int .i64 (tz : Int), .int .i64 st, .int .i64 ys] (Src.ofSlice _ Tryd.underlying26 ⟨_, 0, none⟩ 1 1 [.int .i64 ix, .int .i64 sc, .int .i64 fr, .int .i64 (k2 : Int), .int .i64 (nl : Int), .int .i64 (nj : Int), .int .i64 (rz : Int), .int .i64 (tz : Int), .int .i64 st, .int .i64 ys] rfl (new_atE _ _ _) (Le.R.c_one ⟨ix, sc, fr, k2, nl, nj, rz, tz, st, ys⟩)) (by omega) (by omega) ?_; intro g4 c4 w4 u1 u2 u3; have HN9 := Lib.hid ((HE.out.2.1.same ((Below.refl _ _).alloc (Nat.le_refl _) _)).grow (by intro g hg; rw [rvB_some] at hg; simp at hg; subst hg; rw [World.size_alloc]; have := HE.out.2.2; omega) u1 u2 u3); clear u1 u2 u3)
            go_roundw
            case rel => exact ⟨j + 1, c4, _, rfl, by go_num, by omega, Lib.hid (by rw [HCS.out, HXX.out]; exact HN9.out)⟩
            case measure => simp [intOf]; omega
    · obtain rfl : j = n := by omega
      have i1 : ¬ (j : Int) < (j : Int) := by omega
      have HF : Hid (LW w wr rq j cq (Le.cs (Le.rows L)) ra D1) := Lib.hid (by
        have h := HB.out
        rw [List.take_of_length_le (l := Le.rows L) (by unfold Le.rows; rw [List.length_map, HL.out.2.2.2.1, HL.out.2.2.2.2]; exact Nat.le_refl _)] at h
        exact h)
      clear HB
      go_wp2_with fail
      go_ret
      first
        | exact ⟨rq, cq, rfl, HF.out.1, HF.out.be⟩
        | exact ⟨rq, ⟨cq, rfl⟩, HF.out.1, HF.out.be⟩
        | (refine ⟨rq, cq, rfl, ?_, ?_⟩
           · first | exact HF.out.1 | (rw [← hgO]; exact HF.out.1)
           · first | exact HF.out.be | (rw [← hgO]; exact HF.out.be))
end Go.Proofs.YtdchedkhlfmpeaaDoor
/- Ledger: the document's Table; same. -/
namespace Go.Proofs.YtdchedkhlfmpeaaDoor
open Go.ChangeShapes Go.WideShapes Go.ChangeAt Go.RowKit
set_option linter.unusedSimpArgs false
set_option linter.unusedVariables false

theorem Le.at10r {w : World} {B n c : Nat} {r : Option Addr} {R : List Le.R} (h : RM w B r n c 10 (Le.cs R) 32) (hP : R.length = n) {j : Nat} {x : Le.R} (hj : R[j]? = some x) : ∃ g, r = some ⟨g, 0, none⟩ ∧ g < w.heap.size ∧ w.cell? ⟨g, j * 10, none⟩ = some (.int .i64 x.i) ∧ w.cell? ⟨g, j * 10 + 1, none⟩ = some (.int .i64 x.sc) ∧ w.cell? ⟨g, j * 10 + 2, none⟩ = some (.int .i64 x.fr) ∧ w.cell? ⟨g, j * 10 + 3, none⟩ = some (.int .i64 x.st) ∧ w.cell? ⟨g, j * 10 + 4, none⟩ = some (.int .i64 x.lo) ∧ w.cell? ⟨g, j * 10 + 5, none⟩ = some (.int .i64 x.ju) ∧ w.cell? ⟨g, j * 10 + 6, none⟩ = some (.int .i64 x.rd) ∧ w.cell? ⟨g, j * 10 + 7, none⟩ = some (.int .i64 x.tk) ∧ w.cell? ⟨g, j * 10 + 8, none⟩ = some (.int .i64 x.ss) ∧ w.cell? ⟨g, j * 10 + 9, none⟩ = some (.int .i64 x.en) := by
  have hl := (List.getElem?_eq_some_iff.1 hj).1
  obtain ⟨g, rfl, _, hr⟩ := h.row (by omega)
  exact ⟨g, rfl, hr.lt, hr.cell (Le.cs_at R j _ 0 _ hj rfl), hr.cell (Le.cs_at R j _ 1 _ hj rfl), hr.cell (Le.cs_at R j _ 2 _ hj rfl), hr.cell (Le.cs_at R j _ 3 _ hj rfl), hr.cell (Le.cs_at R j _ 4 _ hj rfl), hr.cell (Le.cs_at R j _ 5 _ hj rfl), hr.cell (Le.cs_at R j _ 6 _ hj rfl), hr.cell (Le.cs_at R j _ 7 _ hj rfl), hr.cell (Le.cs_at R j _ 8 _ hj rfl), hr.cell (Le.cs_at R j _ 9 _ hj rfl)⟩
theorem rl_line10t (x0 x1 x2 x3 x4 x5 x6 x7 x8 x9 : Int) (HXX : Le.R.ok ⟨x0, x1, x2, x3, x4, x5, x6, x7, x8, x9⟩) (X : ByteArray) (hX : Le.t (Le.line x0 x1 x2 x3 x4 x5 x6 x7 x8 x9) = X) (w : World) :
    Calls Tryd.prog 16 #[.agg #[.int .i64 x0, .int .i64 x1, .int .i64 x2, .int .i64 x3, .int .i64 x4, .int .i64 x5, .int .i64 x6, .int .i64 x7, .int .i64 x8, .int .i64 x9]] w fun e w' => e = .returned (.string X) ∧ Below w.heap.size w w' := by
  subst hX
  obtain ⟨h0, h1, h2, h3, h4, h5, h6, h7, h8⟩ := HXX
  exact rl_line x0 x1 x2 x3 x4 x5 x6 x7 x8 x9 h0 h1 h2 h3 h4 h5 h6 h7 h8 w
set_option maxRecDepth 20000 in
set_option maxHeartbeats 16000000 in
theorem rl_table (a : Option Addr) (len cap : Nat) (L : List Ev) (hl : L.length = len) (hlm : len ≤ 3000) (hb24 : ∀ x ∈ L, x.b.size ≤ 24) (hok : ∀ x ∈ Le.rows L, x.ok) (T : ByteArray) (hT : Le.t (Le.tab (Le.rows L)) = T) (w : World) (HE : EL w a L) :
    Calls Tryd.prog 10 #[.slice a len cap] w fun e w' => e = .returned (.string T) ∧ Below w.heap.size w w' := by
  obtain ⟨n, hn⟩ : ∃ n, (Ev.ids L).length = n := ⟨_, rfl⟩
  have hrl : (Le.rows L).length = n := by unfold Le.rows; rw [List.length_map, hn]
  have hnm : n ≤ 3000 := by
    have h1 := Ev.ids_le L
    rw [hn, hl] at h1
    omega
  have HL := Lib.hid (And.intro hl (And.intro hb24 (And.intro hn (And.intro hrl (And.intro hok (And.intro hT HE))))))
  clear hl HE hb24 hn hrl hok hT
  go_enter Tryd.func10, Tryd.ntmps10
  go_wp2_with (go_at_call 8; (with_reducible refine (rl_rows a len cap L HL.out.1 (by omega) HL.out.2.1 n HL.out.2.2.1 _ HL.out.2.2.2.2.2.2).mono ?_); rintro r7 W3 ⟨rq, cq, rfl, h1, bb⟩; have HW : Hid (RM W3 w.heap.size rq n cq 10 (Le.cs (Le.rows L)) 32 ∧ Below w.heap.size w W3) := Lib.hid ⟨h1, bb⟩; clear bb h1)
  go_loopw [3, 5] (fun o z wr => ∃ j : Nat, o = .string (Le.t (Le.tab ((Le.rows L).take j))) ∧ z = .int .i64 j ∧ j ≤ n ∧ Hid (RM wr w.heap.size rq n cq 10 (Le.cs (Le.rows L)) 32 ∧ Below w.heap.size w wr)) (fun _ z _ => n - (intOf z).toNat)
  case atStart => exact ⟨0, rfl, rfl, by omega, HW⟩
  case round =>
    obtain ⟨j, rfl, rfl, hj, HB⟩ := hrel
    have j0 : (0 : Int) ≤ (j : Int) := by omega
    by_cases hjn : j < n
    · have i1 : (j : Int) < (n : Int) := by omega
      have w1 : IntKind.i64.wrap ((j : Int) + 1) = (j : Int) + 1 := IntWalk.i64_in _ (by omega)
      obtain ⟨x, hx⟩ : ∃ x, (Le.rows L)[j]? = some x := ⟨_, List.getElem?_eq_getElem (by rw [HL.out.2.2.2.1]; exact hjn)⟩
      have hxo := HL.out.2.2.2.2.1 x (List.mem_of_getElem? hx)
      obtain ⟨x0, x1, x2, x3, x4, x5, x6, x7, x8, x9⟩ := x
      obtain ⟨gq, rfl, hgq, e0, e1, e2, e3, e4, e5, e6, e7, e8, e9⟩ := Le.at10r HB.out.1 HL.out.2.2.2.1 hx
      dsimp only at e0 e1 e2 e3 e4 e5 e6 e7 e8 e9
      obtain ⟨S1, hS1⟩ : ∃ S1, Le.t (Le.tab ((Le.rows L).take j)) = S1 := ⟨_, rfl⟩
      obtain ⟨S2, hS2⟩ : ∃ S2, Le.t (Le.line x0 x1 x2 x3 x4 x5 x6 x7 x8 x9) = S2 := ⟨_, rfl⟩
      obtain ⟨S3, hS3⟩ : ∃ S3, S1 ++ S2 = S3 := ⟨_, rfl⟩
      obtain ⟨S4, hS4⟩ : ∃ S4, S3 ++ ({ data := #[10] } : ByteArray) = S4 := ⟨_, rfl⟩
      have HS4 : Hid (S4 = Le.t (Le.tab ((Le.rows L).take (j + 1)))) := Lib.hid (by
        rw [take_snocE hx, Le.tab_snoc, ← hS4, ← hS3, ← hS1, ← hS2]
        refine Eq.trans ?_ (Le.t_app _ _)
        unfold Le.R.l
        dsimp only
        rw [← Le.t_app (Le.line x0 x1 x2 x3 x4 x5 x6 x7 x8 x9) [10], ByteArray.append_assoc]
        rfl)
      have hz1 : S1.size ≤ 933000 := by
        have h2 := Le.tab_len ((Le.rows L).take j) (fun y hy => HL.out.2.2.2.2.1 y (List.mem_of_mem_take hy))
        have h4 : ((Le.rows L).take j).length ≤ 3000 := by rw [List.length_take]; omega
        rw [← hS1, Le.t_size]
        omega
      have hz2 : S2.size ≤ 400 := by
        have h3 := Le.l_len hxo
        unfold Le.R.l at h3
        rw [List.length_append] at h3
        dsimp only at h3
        rw [← hS2, Le.t_size]
        omega
      have hz3 : S3.size ≤ 940000 := by rw [← hS3, ByteArray.size_append]; omega
      have cc1 : ¬ (9223372036854775807 < S1.size + S2.size) := by omega
      have cc2 : ¬ (9223372036854775807 < S3.size + 1) := by omega
      have HV := Lib.hid (And.intro hxo hS2)
      clear hxo hx hS2 hz1 hz2 hz3
      go_wp2_with (go_at_call 16; (with_reducible refine (rl_line10t x0 x1 x2 x3 x4 x5 x6 x7 x8 x9 HV.out.1 S2 HV.out.2 _).mono ?_); rintro r9 V3 ⟨rfl, bb⟩; have HJ3 : Hid (RM V3 w.heap.size (some ⟨gq, 0, none⟩) n cq 10 (Le.cs (Le.rows L)) 32 ∧ Below w.heap.size w V3) := Lib.hid ⟨HB.out.1.chg (l := []) (Chg.of_fresh bb) (by simp), HB.out.2.trans (bb.mono HB.out.2.size)⟩; clear bb)
      go_roundw
      case rel => exact ⟨j + 1, by rw [← HS4.out], by go_num, by omega, HJ3⟩
      case measure => simp [intOf]; omega
    · obtain rfl : j = n := by omega
      have i1 : ¬ (j : Int) < (j : Int) := by omega
      have HF : Hid (Le.t (Le.tab ((Le.rows L).take j)) = T) := Lib.hid (by
        rw [List.take_of_length_le (l := Le.rows L) (by rw [HL.out.2.2.2.1]; exact Nat.le_refl _), HL.out.2.2.2.2.2.1])
      go_wp2_with fail
      go_ret
      exact ⟨by rw [← HF.out]; rfl, HB.out.2⟩
set_option maxRecDepth 20000 in
set_option maxHeartbeats 16000000 in
theorem le_same (x0 x1 x2 x3 x4 x5 x6 x7 x8 x9 : Int) (w : World) : Calls Tryd.prog 11 #[.agg #[.int .i64 x0, .int .i64 x1, .int .i64 x2, .int .i64 x3, .int .i64 x4, .int .i64 x5, .int .i64 x6, .int .i64 x7, .int .i64 x8, .int .i64 x9], .agg #[.int .i64 x0, .int .i64 x1, .int .i64 x2, .int .i64 x3, .int .i64 x4, .int .i64 x5, .int .i64 x6, .int .i64 x7, .int .i64 x8, .int .i64 x9]] w fun e w' => e = .returned (.bool true) ∧ Below w.heap.size w w' := by
  have HB : Hid (Below w.heap.size w ((w.alloc (.cells #[.int .i64 x0, .int .i64 x1, .int .i64 x2, .int .i64 x3, .int .i64 x4, .int .i64 x5, .int .i64 x6, .int .i64 x7, .int .i64 x8, .int .i64 x9] 31)).alloc (.cells #[.int .i64 x0, .int .i64 x1, .int .i64 x2, .int .i64 x3, .int .i64 x4, .int .i64 x5, .int .i64 x6, .int .i64 x7, .int .i64 x8, .int .i64 x9] 32))) := Lib.hid (((Below.refl _ _).alloc (Nat.le_refl _) _).alloc (by rw [World.size_alloc]; omega) _)
  go_enter Tryd.func11, Tryd.ntmps11
  go_wp2_with fail
  go_ret
  exact ⟨rfl, HB.out⟩
end Go.Proofs.YtdchedkhlfmpeaaDoor
/- Ledger: the bounds of all rows' numbers. -/
namespace Go.Proofs.YtdchedkhlfmpeaaDoor
open Go.ChangeShapes Go.WideShapes Go.ChangeAt Go.RowKit
set_option linter.unusedSimpArgs false
set_option linter.unusedVariables false

theorem Ev.i64 {x : Ev} (h : x.ok) {v : Int} (hv : Value.int .i64 v ∈ x.c) : Le.i64 v := by
  have := bounds_i64 (h.2 .i64 v hv)
  unfold Le.i64
  omega
theorem clock_i64 : ∀ (L : List Ev) (c : Int), Le.i64 c → (∀ x ∈ L, x.ok) → Le.i64 (L.foldl (fun c x => if x.k = 1 then x.t else c) c)
  | [], c, hc, _ => hc
  | x :: L, c, hc, h => by
    rw [List.foldl_cons]
    refine clock_i64 L _ ?_ (fun y hy => h y (by simp [hy]))
    split
    · exact Ev.i64 (h x (by simp)) (by simp [Ev.c])
    · exact hc
theorem Le.en_i64 {T : List Ev} (h : ∀ y ∈ T, y.ok) : Le.i64 (Le.en T) := by
  unfold Le.en
  split
  · unfold Le.i64; omega
  · cases hl : (Pj.stE T).getLast? with
    | none => show Le.i64 0; unfold Le.i64; omega
    | some y =>
      have hm : y ∈ Pj.stE T := List.mem_of_getLast? hl
      have hm2 : y ∈ T := by unfold Pj.stE at hm; exact (List.mem_filter.1 hm).1
      show Le.i64 y.s0
      exact Ev.i64 (h y hm2) (by simp [Ev.c])
theorem Le.rows_ok {L : List Ev} (hL : ∀ x ∈ L, x.ok) (hlen : L.length ≤ 100000) (hs : Ev.sum L ≤ 1000000) : ∀ x ∈ Le.rows L, x.ok := by
  intro x hx
  unfold Le.rows at hx
  obtain ⟨i, hi, rfl⟩ := List.mem_map.1 hx
  have hk := le_life_ok hi
  unfold Le.of
  unfold Pj.lifeD at hk ⊢
  cases hl : Pj.life i L with
  | none => rw [hl] at hk; cases hk
  | some p =>
    obtain ⟨sc, fr, T⟩ := p
    obtain ⟨j, x, _, hxj, _, h1, h2, h3, h4⟩ := Pj.life_some hl
    have hxo := hL x (List.mem_of_getElem? hxj)
    have t := Pj.told_le i (L.drop j)
    rw [h4] at t
    have hT : ∀ y ∈ T, y.ok := by rw [← h4]; exact Pj.told_ok (fun y hy => hL y (List.mem_of_mem_drop hy))
    have hsum : Ev.sum (L.drop j) ≤ Ev.sum L := by
      have h := Ev.sum_append (L.take j) (L.drop j)
      rw [List.take_append_drop] at h
      omega
    have hl2 : (L.drop j).length ≤ L.length := by rw [List.length_drop]; omega
    have n1 := Pj.nst_le T
    have n2 := Le.nL_le (Pj.stE T)
    have n3 := Le.nJ_le (Pj.stE T)
    obtain ⟨t1, t2, t3⟩ := t
    show Le.R.ok (Le.mk i sc fr T)
    unfold Le.R.ok Le.mk
    dsimp only
    refine ⟨by rw [← h1]; exact Ev.i64 hxo (by simp [Ev.c]), by rw [← h2]; exact Ev.i64 hxo (by simp [Ev.c]), by rw [← h3]; exact clock_i64 _ 0 (by unfold Le.i64; omega) (fun y hy => hL y (List.mem_of_mem_take hy)), ?_, ?_, ?_, ?_, ?_, Le.en_i64 hT⟩
    all_goals
      unfold Le.i64
      omega
end Go.Proofs.YtdchedkhlfmpeaaDoor
/- Ledger: Total. -/
namespace Go.Proofs.YtdchedkhlfmpeaaDoor
open Go.ChangeShapes Go.WideShapes Go.ChangeAt Go.RowKit
set_option linter.unusedSimpArgs false
set_option linter.unusedVariables false

/-- The rows together, one more. -/
def Le.tstep (j : Nat) (T x : Le.R) : Le.R := ⟨T.i, T.sc, min T.fr x.fr, wrap64 (T.st + x.st), wrap64 (T.lo + x.lo), wrap64 (T.ju + x.ju), wrap64 (T.rd + x.rd), wrap64 (T.tk + x.tk), if x.ss = 0 then wrap64 (T.ss + 1) else T.ss, max (if j = 0 then x.en else T.en) x.en⟩
/-- The first rows together. -/
def Le.tot (R : List Le.R) : Nat → Le.R
  | 0 => ⟨R.length, 0, 9223372036854775807, 0, 0, 0, 0, 0, 0, 0⟩
  | j + 1 => Le.tstep j (Le.tot R j) (R[j]?.getD Le.zero)
theorem Le.tot_succ {R : List Le.R} {j : Nat} {x0 x1 x2 x3 x4 x5 x6 x7 x8 x9 t0 t1 t2 t3 t4 t5 t6 t7 t8 t9 : Int} (hx : R[j]? = some ⟨x0, x1, x2, x3, x4, x5, x6, x7, x8, x9⟩) (ht : Le.tot R j = ⟨t0, t1, t2, t3, t4, t5, t6, t7, t8, t9⟩) : Le.tot R (j + 1) = ⟨t0, t1, min t2 x2, wrap64 (t3 + x3), wrap64 (t4 + x4), wrap64 (t5 + x5), wrap64 (t6 + x6), wrap64 (t7 + x7), if x8 = 0 then wrap64 (t8 + 1) else t8, max (if j = 0 then x9 else t9) x9⟩ := by
  show Le.tstep j (Le.tot R j) (R[j]?.getD Le.zero) = _
  rw [hx, ht]; rfl
set_option maxRecDepth 20000 in
set_option maxHeartbeats 16000000 in
theorem le_total (a : Option Addr) (len cap : Nat) (L : List Ev) (hl : L.length = len) (hlm : len ≤ 9000) (hb24 : ∀ x ∈ L, x.b.size ≤ 24) (n : Nat) (hn : (Ev.ids L).length = n) (u0 u1 u2 u3 u4 u5 u6 u7 u8 u9 : Int) (hT : Le.tot (Le.rows L) n = ⟨u0, u1, u2, u3, u4, u5, u6, u7, u8, u9⟩) (w : World) (HE : EL w a L) :
    Calls Tryd.prog 14 #[.slice a len cap] w fun e w' => e = .returned (.agg #[.int .i64 u0, .int .i64 u1, .int .i64 u2, .int .i64 u3, .int .i64 u4, .int .i64 u5, .int .i64 u6, .int .i64 u7, .int .i64 u8, .int .i64 u9]) ∧ Below w.heap.size w w' := by
  have hnm : n ≤ 9000 := by
    have h1 := Ev.ids_le L
    rw [hn, hl] at h1
    omega
  have HXR : Hid (Le.tot (Le.rows L) n = ⟨u0, u1, u2, u3, u4, u5, u6, u7, u8, u9⟩) := Lib.hid hT
  have HL : Hid (L.length = len ∧ (∀ x ∈ L, x.b.size ≤ 24) ∧ (Ev.ids L).length = n ∧ (Le.rows L).length = n) := Lib.hid ⟨hl, hb24, hn, by unfold Le.rows; rw [List.length_map, hn]⟩
  obtain ⟨Q, hQ⟩ : ∃ Q, w.heap.size = Q := ⟨_, rfl⟩
  have H0 : Hid (Blk (w.alloc (.cells #[.int .i64 0, .int .i64 0, .int .i64 0, .int .i64 0, .int .i64 0, .int .i64 0, .int .i64 0, .int .i64 0, .int .i64 0, .int .i64 0] 31)) Q [.int .i64 0, .int .i64 0, .int .i64 0, .int .i64 0, .int .i64 0, .int .i64 0, .int .i64 0, .int .i64 0, .int .i64 0, .int .i64 0] 31 ∧ EL (w.alloc (.cells #[.int .i64 0, .int .i64 0, .int .i64 0, .int .i64 0, .int .i64 0, .int .i64 0, .int .i64 0, .int .i64 0, .int .i64 0, .int .i64 0] 31)) a L ∧ Below w.heap.size w (w.alloc (.cells #[.int .i64 0, .int .i64 0, .int .i64 0, .int .i64 0, .int .i64 0, .int .i64 0, .int .i64 0, .int .i64 0, .int .i64 0, .int .i64 0] 31)) ∧ (w.alloc (.cells #[.int .i64 0, .int .i64 0, .int .i64 0, .int .i64 0, .int .i64 0, .int .i64 0, .int .i64 0, .int .i64 0, .int .i64 0, .int .i64 0] 31)).heap.size = Q + 1) := Lib.hid ⟨by rw [← hQ]; exact Blk.newA _ _ _, HE.below ((Below.refl _ _).alloc (Nat.le_refl _) _), (Below.refl _ _).alloc (Nat.le_refl _) _, by simp [hQ]⟩
  have HQ := Lib.hid hQ
  clear HE hl hb24 hn hT
  go_enter Tryd.func14, Tryd.ntmps14
  go_upto_region 1 with fail
  clear hQ
  revert H0
  generalize (w.alloc (.cells #[.int .i64 0, .int .i64 0, .int .i64 0, .int .i64 0, .int .i64 0, .int .i64 0, .int .i64 0, .int .i64 0, .int .i64 0, .int .i64 0] 31)) = W0
  intro H0
  go_upto_region 2 with (go_at_call 7; (with_reducible refine (le_rows a len cap L HL.out.1 (by omega) HL.out.2.1 n HL.out.2.2.1 _ H0.out.2.1).mono ?_); rintro r9 V ⟨rq, cq, rfl, q2, bb⟩; have HV : Hid (Blk V Q [.int .i64 0, .int .i64 0, .int .i64 0, .int .i64 0, .int .i64 0, .int .i64 0, .int .i64 0, .int .i64 0, .int .i64 0, .int .i64 0] 31 ∧ RM V W0.heap.size rq n cq 10 (Le.cs (Le.rows L)) 31 ∧ Below w.heap.size w V) := Lib.hid ⟨H0.out.1.chg (l := []) (Chg.of_fresh bb) (by simp), q2, H0.out.2.2.1.trans (bb.mono H0.out.2.2.1.size)⟩; clear bb H0 q2)
  obtain ⟨R, hR⟩ : ∃ R, V.heap.size = R := ⟨_, rfl⟩
  have HO : Hid (LO V (V.alloc (.cells #[.int .i64 (n : Int), .int .i64 0, .int .i64 9223372036854775807, .int .i64 0, .int .i64 0, .int .i64 0, .int .i64 0, .int .i64 0, .int .i64 0, .int .i64 0] 31)) R [.int .i64 (n : Int), .int .i64 0, .int .i64 9223372036854775807, .int .i64 0, .int .i64 0, .int .i64 0, .int .i64 0, .int .i64 0, .int .i64 0, .int .i64 0]) := Lib.hid ⟨by rw [← hR]; exact Blk.newA _ _ _, (Below.refl _ _).alloc (Nat.le_refl _) _, hR.symm⟩
  have HQF : Hid (Q < R) := Lib.hid (by rw [← hR]; exact HV.out.1.lt)
  go_upto_region 3 with fail
  revert HO
  generalize (V.alloc (.cells #[.int .i64 (n : Int), .int .i64 0, .int .i64 9223372036854775807, .int .i64 0, .int .i64 0, .int .i64 0, .int .i64 0, .int .i64 0, .int .i64 0, .int .i64 0] 31)) = V5
  try rw [hR]
  clear hR
  intro HO
  go_wp2_with fail
  go_loopw [5, 6, 14] (fun _ _ z wr => ∃ (j : Nat) (t0 t1 t2 t3 t4 t5 t6 t7 t8 t9 : Int), z = .int .i64 j ∧ j ≤ n ∧ Hid (LO V wr R [.int .i64 t0, .int .i64 t1, .int .i64 t2, .int .i64 t3, .int .i64 t4, .int .i64 t5, .int .i64 t6, .int .i64 t7, .int .i64 t8, .int .i64 t9] ∧ Le.tot (Le.rows L) j = ⟨t0, t1, t2, t3, t4, t5, t6, t7, t8, t9⟩)) (fun _ _ z _ => n - (intOf z).toNat)
  case atStart => exact ⟨0, _, _, _, _, _, _, _, _, _, _, rfl, by omega, Lib.hid ⟨HO.out, by unfold Le.tot; rw [HL.out.2.2.2]⟩⟩
  case round =>
    obtain ⟨j, t0, t1, t2, t3, t4, t5, t6, t7, t8, t9, rfl, hj, HB⟩ := hrel
    have j0 : (0 : Int) ≤ (j : Int) := by omega
    by_cases hjn : j < n
    · have i1 : (j : Int) < (n : Int) := by omega
      have w1 : IntKind.i64.wrap ((j : Int) + 1) = (j : Int) + 1 := IntWalk.i64_in _ (by omega)
      obtain ⟨⟨x0, x1, x2, x3, x4, x5, x6, x7, x8, x9⟩, hx⟩ : ∃ x, (Le.rows L)[j]? = some x := ⟨_, List.getElem?_eq_getElem (by rw [HL.out.2.2.2]; exact hjn)⟩
      have HN := Lib.hid (Le.tot_succ hx HB.out.2)
      obtain ⟨gq, rfl, hgq, e0, e1, e2, e3, e4, e5, e6, e7, e8, e9⟩ := Le.at10 (HV.out.2.1.chg (l := []) (Chg.of_fresh HB.out.1.2.1) (by simp)) HL.out.2.2.2 hx
      dsimp only at e0 e1 e2 e3 e4 e5 e6 e7 e8 e9
      have HB2 : Hid (LO V (wr.alloc (.cells #[.int .i64 x0, .int .i64 x1, .int .i64 x2, .int .i64 x3, .int .i64 x4, .int .i64 x5, .int .i64 x6, .int .i64 x7, .int .i64 x8, .int .i64 x9] 31)) R [.int .i64 t0, .int .i64 t1, .int .i64 t2, .int .i64 t3, .int .i64 t4, .int .i64 t5, .int .i64 t6, .int .i64 t7, .int .i64 t8, .int .i64 t9] ∧ Blk (wr.alloc (.cells #[.int .i64 x0, .int .i64 x1, .int .i64 x2, .int .i64 x3, .int .i64 x4, .int .i64 x5, .int .i64 x6, .int .i64 x7, .int .i64 x8, .int .i64 x9] 31)) wr.heap.size [.int .i64 x0, .int .i64 x1, .int .i64 x2, .int .i64 x3, .int .i64 x4, .int .i64 x5, .int .i64 x6, .int .i64 x7, .int .i64 x8, .int .i64 x9] 31) := Lib.hid ⟨HB.out.1.same ((Below.refl _ _).alloc (Nat.le_refl _) _), Blk.newA _ _ _⟩
      have hRX : R < wr.heap.size := HB.out.1.1.lt
      clear hx
      go_upto_region 6 with fail
      clear e0 e1 e2 e3 e4 e5 e6 e7 e8 e9 hgq HB
      revert HB2 hRX
      generalize (wr.alloc (.cells #[.int .i64 x0, .int .i64 x1, .int .i64 x2, .int .i64 x3, .int .i64 x4, .int .i64 x5, .int .i64 x6, .int .i64 x7, .int .i64 x8, .int .i64 x9] 31)) = W5
      generalize wr.heap.size = X5
      intro HB2 hRX
      have ne1 : ¬ R = X5 := by omega
      have ne2 : ¬ X5 = R := by omega
      by_cases hjz : j = 0
      · have dz : ((j : Int) == 0) = true := by simp [hjz]
        go_upto_region 7 with fail
        clear dz
        have px := HB2.out.1.1.cell (i := 9) rfl
        have fx := HB2.out.1.1.free 9
        have dx := HB2.out.2.cell (i := 9) rfl
        go_upto_region 8 with fail
        have HN1 : Hid (LO V (W5.setCell ⟨R, 9, none⟩ (.int .i64 x9)) R [.int .i64 t0, .int .i64 t1, .int .i64 t2, .int .i64 t3, .int .i64 t4, .int .i64 t5, .int .i64 t6, .int .i64 t7, .int .i64 t8, .int .i64 x9] ∧ Blk (W5.setCell ⟨R, 9, none⟩ (.int .i64 x9)) X5 [.int .i64 x0, .int .i64 x1, .int .i64 x2, .int .i64 x3, .int .i64 x4, .int .i64 x5, .int .i64 x6, .int .i64 x7, .int .i64 x8, .int .i64 x9] 31) := Lib.hid ⟨HB2.out.1.set 9 _, HB2.out.2.other ne2 _ _⟩
        clear px fx dx HB2
        revert HN1
        generalize (W5.setCell ⟨R, 9, none⟩ (.int .i64 x9)) = Wn1
        intro HN1
        have px := HN1.out.1.1.cell (i := 2) rfl
        have fx := HN1.out.1.1.free 2
        have dx := HN1.out.2.cell (i := 2) rfl
        go_upto_region 9 with fail
        have HN2 : Hid (LO V (Wn1.setCell ⟨R, 2, none⟩ (.int .i64 (min t2 x2))) R [.int .i64 t0, .int .i64 t1, .int .i64 (min t2 x2), .int .i64 t3, .int .i64 t4, .int .i64 t5, .int .i64 t6, .int .i64 t7, .int .i64 t8, .int .i64 x9] ∧ Blk (Wn1.setCell ⟨R, 2, none⟩ (.int .i64 (min t2 x2))) X5 [.int .i64 x0, .int .i64 x1, .int .i64 x2, .int .i64 x3, .int .i64 x4, .int .i64 x5, .int .i64 x6, .int .i64 x7, .int .i64 x8, .int .i64 x9] 31) := Lib.hid ⟨HN1.out.1.set 2 _, HN1.out.2.other ne2 _ _⟩
        clear px fx dx HN1
        revert HN2
        generalize (Wn1.setCell ⟨R, 2, none⟩ (.int .i64 (min t2 x2))) = Wn2
        intro HN2
        have px := HN2.out.1.1.cell (i := 3) rfl
        have fx := HN2.out.1.1.free 3
        have dx := HN2.out.2.cell (i := 3) rfl
        go_upto_region 10 with fail
        have HN3 : Hid (LO V (Wn2.setCell ⟨R, 3, none⟩ (.int .i64 (wrap64 (t3 + x3)))) R [.int .i64 t0, .int .i64 t1, .int .i64 (min t2 x2), .int .i64 (wrap64 (t3 + x3)), .int .i64 t4, .int .i64 t5, .int .i64 t6, .int .i64 t7, .int .i64 t8, .int .i64 x9] ∧ Blk (Wn2.setCell ⟨R, 3, none⟩ (.int .i64 (wrap64 (t3 + x3)))) X5 [.int .i64 x0, .int .i64 x1, .int .i64 x2, .int .i64 x3, .int .i64 x4, .int .i64 x5, .int .i64 x6, .int .i64 x7, .int .i64 x8, .int .i64 x9] 31) := Lib.hid ⟨HN2.out.1.set 3 _, HN2.out.2.other ne2 _ _⟩
        clear px fx dx HN2
        revert HN3
        generalize (Wn2.setCell ⟨R, 3, none⟩ (.int .i64 (wrap64 (t3 + x3)))) = Wn3
        intro HN3
        have px := HN3.out.1.1.cell (i := 4) rfl
        have fx := HN3.out.1.1.free 4
        have dx := HN3.out.2.cell (i := 4) rfl
        go_upto_region 11 with fail
        have HN4 : Hid (LO V (Wn3.setCell ⟨R, 4, none⟩ (.int .i64 (wrap64 (t4 + x4)))) R [.int .i64 t0, .int .i64 t1, .int .i64 (min t2 x2), .int .i64 (wrap64 (t3 + x3)), .int .i64 (wrap64 (t4 + x4)), .int .i64 t5, .int .i64 t6, .int .i64 t7, .int .i64 t8, .int .i64 x9] ∧ Blk (Wn3.setCell ⟨R, 4, none⟩ (.int .i64 (wrap64 (t4 + x4)))) X5 [.int .i64 x0, .int .i64 x1, .int .i64 x2, .int .i64 x3, .int .i64 x4, .int .i64 x5, .int .i64 x6, .int .i64 x7, .int .i64 x8, .int .i64 x9] 31) := Lib.hid ⟨HN3.out.1.set 4 _, HN3.out.2.other ne2 _ _⟩
        clear px fx dx HN3
        revert HN4
        generalize (Wn3.setCell ⟨R, 4, none⟩ (.int .i64 (wrap64 (t4 + x4)))) = Wn4
        intro HN4
        have px := HN4.out.1.1.cell (i := 5) rfl
        have fx := HN4.out.1.1.free 5
        have dx := HN4.out.2.cell (i := 5) rfl
        go_upto_region 12 with fail
        have HN5 : Hid (LO V (Wn4.setCell ⟨R, 5, none⟩ (.int .i64 (wrap64 (t5 + x5)))) R [.int .i64 t0, .int .i64 t1, .int .i64 (min t2 x2), .int .i64 (wrap64 (t3 + x3)), .int .i64 (wrap64 (t4 + x4)), .int .i64 (wrap64 (t5 + x5)), .int .i64 t6, .int .i64 t7, .int .i64 t8, .int .i64 x9] ∧ Blk (Wn4.setCell ⟨R, 5, none⟩ (.int .i64 (wrap64 (t5 + x5)))) X5 [.int .i64 x0, .int .i64 x1, .int .i64 x2, .int .i64 x3, .int .i64 x4, .int .i64 x5, .int .i64 x6, .int .i64 x7, .int .i64 x8, .int .i64 x9] 31) := Lib.hid ⟨HN4.out.1.set 5 _, HN4.out.2.other ne2 _ _⟩
        clear px fx dx HN4
        revert HN5
        generalize (Wn4.setCell ⟨R, 5, none⟩ (.int .i64 (wrap64 (t5 + x5)))) = Wn5
        intro HN5
        have px := HN5.out.1.1.cell (i := 6) rfl
        have fx := HN5.out.1.1.free 6
        have dx := HN5.out.2.cell (i := 6) rfl
        go_upto_region 13 with fail
        have HN6 : Hid (LO V (Wn5.setCell ⟨R, 6, none⟩ (.int .i64 (wrap64 (t6 + x6)))) R [.int .i64 t0, .int .i64 t1, .int .i64 (min t2 x2), .int .i64 (wrap64 (t3 + x3)), .int .i64 (wrap64 (t4 + x4)), .int .i64 (wrap64 (t5 + x5)), .int .i64 (wrap64 (t6 + x6)), .int .i64 t7, .int .i64 t8, .int .i64 x9] ∧ Blk (Wn5.setCell ⟨R, 6, none⟩ (.int .i64 (wrap64 (t6 + x6)))) X5 [.int .i64 x0, .int .i64 x1, .int .i64 x2, .int .i64 x3, .int .i64 x4, .int .i64 x5, .int .i64 x6, .int .i64 x7, .int .i64 x8, .int .i64 x9] 31) := Lib.hid ⟨HN5.out.1.set 6 _, HN5.out.2.other ne2 _ _⟩
        clear px fx dx HN5
        revert HN6
        generalize (Wn5.setCell ⟨R, 6, none⟩ (.int .i64 (wrap64 (t6 + x6)))) = Wn6
        intro HN6
        have px := HN6.out.1.1.cell (i := 7) rfl
        have fx := HN6.out.1.1.free 7
        have dx := HN6.out.2.cell (i := 7) rfl
        go_upto_region 14 with fail
        have HN7 : Hid (LO V (Wn6.setCell ⟨R, 7, none⟩ (.int .i64 (wrap64 (t7 + x7)))) R [.int .i64 t0, .int .i64 t1, .int .i64 (min t2 x2), .int .i64 (wrap64 (t3 + x3)), .int .i64 (wrap64 (t4 + x4)), .int .i64 (wrap64 (t5 + x5)), .int .i64 (wrap64 (t6 + x6)), .int .i64 (wrap64 (t7 + x7)), .int .i64 t8, .int .i64 x9] ∧ Blk (Wn6.setCell ⟨R, 7, none⟩ (.int .i64 (wrap64 (t7 + x7)))) X5 [.int .i64 x0, .int .i64 x1, .int .i64 x2, .int .i64 x3, .int .i64 x4, .int .i64 x5, .int .i64 x6, .int .i64 x7, .int .i64 x8, .int .i64 x9] 31) := Lib.hid ⟨HN6.out.1.set 7 _, HN6.out.2.other ne2 _ _⟩
        clear px fx dx HN6
        revert HN7
        generalize (Wn6.setCell ⟨R, 7, none⟩ (.int .i64 (wrap64 (t7 + x7)))) = Wn7
        intro HN7
        have d8 := HN7.out.2.cell (i := 8) rfl
        by_cases h8 : x8 = 0
        · have b8 : (x8 == 0) = true := by simp [h8]
          go_upto_region 15 with fail
          clear b8 d8
          have px := HN7.out.1.1.cell (i := 8) rfl
          have fx := HN7.out.1.1.free 8
          go_upto_region 16 with fail
          have HN8 : Hid (LO V (Wn7.setCell ⟨R, 8, none⟩ (.int .i64 (wrap64 (t8 + 1)))) R [.int .i64 t0, .int .i64 t1, .int .i64 (min t2 x2), .int .i64 (wrap64 (t3 + x3)), .int .i64 (wrap64 (t4 + x4)), .int .i64 (wrap64 (t5 + x5)), .int .i64 (wrap64 (t6 + x6)), .int .i64 (wrap64 (t7 + x7)), .int .i64 (wrap64 (t8 + 1)), .int .i64 x9] ∧ Blk (Wn7.setCell ⟨R, 8, none⟩ (.int .i64 (wrap64 (t8 + 1)))) X5 [.int .i64 x0, .int .i64 x1, .int .i64 x2, .int .i64 x3, .int .i64 x4, .int .i64 x5, .int .i64 x6, .int .i64 x7, .int .i64 x8, .int .i64 x9] 31) := Lib.hid ⟨HN7.out.1.set 8 _, HN7.out.2.other ne2 _ _⟩
          clear px fx HN7
          revert HN8
          generalize (Wn7.setCell ⟨R, 8, none⟩ (.int .i64 (wrap64 (t8 + 1)))) = Wn8
          intro HN8
          have px := HN8.out.1.1.cell (i := 9) rfl
          have fx := HN8.out.1.1.free 9
          have dx := HN8.out.2.cell (i := 9) rfl
          go_upto_region 17 with fail
          have HN9 : Hid (LO V (Wn8.setCell ⟨R, 9, none⟩ (.int .i64 x9)) R [.int .i64 t0, .int .i64 t1, .int .i64 (min t2 x2), .int .i64 (wrap64 (t3 + x3)), .int .i64 (wrap64 (t4 + x4)), .int .i64 (wrap64 (t5 + x5)), .int .i64 (wrap64 (t6 + x6)), .int .i64 (wrap64 (t7 + x7)), .int .i64 (wrap64 (t8 + 1)), .int .i64 x9] ∧ Blk (Wn8.setCell ⟨R, 9, none⟩ (.int .i64 x9)) X5 [.int .i64 x0, .int .i64 x1, .int .i64 x2, .int .i64 x3, .int .i64 x4, .int .i64 x5, .int .i64 x6, .int .i64 x7, .int .i64 x8, .int .i64 x9] 31) := Lib.hid ⟨HN8.out.1.set 9 _, HN8.out.2.other ne2 _ _⟩
          clear px fx dx HN8
          revert HN9
          generalize (Wn8.setCell ⟨R, 9, none⟩ (.int .i64 x9)) = Wn9
          intro HN9
          go_wp2_with fail
          go_roundw
          case rel => exact ⟨j + 1, _, _, _, _, _, _, _, _, _, _, by go_num, by omega, Lib.hid ⟨HN9.out.1, by rw [HN.out, if_pos hjz, if_pos h8, Int.max_self]⟩⟩
          case measure => simp [intOf]; omega
        · have b8 : (x8 == 0) = false := by simp [h8]
          go_upto_region 16 with fail
          clear b8 d8
          have px := HN7.out.1.1.cell (i := 9) rfl
          have fx := HN7.out.1.1.free 9
          have dx := HN7.out.2.cell (i := 9) rfl
          go_upto_region 17 with fail
          have HN10 : Hid (LO V (Wn7.setCell ⟨R, 9, none⟩ (.int .i64 x9)) R [.int .i64 t0, .int .i64 t1, .int .i64 (min t2 x2), .int .i64 (wrap64 (t3 + x3)), .int .i64 (wrap64 (t4 + x4)), .int .i64 (wrap64 (t5 + x5)), .int .i64 (wrap64 (t6 + x6)), .int .i64 (wrap64 (t7 + x7)), .int .i64 t8, .int .i64 x9] ∧ Blk (Wn7.setCell ⟨R, 9, none⟩ (.int .i64 x9)) X5 [.int .i64 x0, .int .i64 x1, .int .i64 x2, .int .i64 x3, .int .i64 x4, .int .i64 x5, .int .i64 x6, .int .i64 x7, .int .i64 x8, .int .i64 x9] 31) := Lib.hid ⟨HN7.out.1.set 9 _, HN7.out.2.other ne2 _ _⟩
          clear px fx dx HN7
          revert HN10
          generalize (Wn7.setCell ⟨R, 9, none⟩ (.int .i64 x9)) = Wn10
          intro HN10
          go_wp2_with fail
          go_roundw
          case rel => exact ⟨j + 1, _, _, _, _, _, _, _, _, _, _, by go_num, by omega, Lib.hid ⟨HN10.out.1, by rw [HN.out, if_pos hjz, if_neg h8, Int.max_self]⟩⟩
          case measure => simp [intOf]; omega
      · have dz : ((j : Int) == 0) = false := by simp; omega
        go_upto_region 8 with fail
        clear dz
        have px := HB2.out.1.1.cell (i := 2) rfl
        have fx := HB2.out.1.1.free 2
        have dx := HB2.out.2.cell (i := 2) rfl
        go_upto_region 9 with fail
        have HN11 : Hid (LO V (W5.setCell ⟨R, 2, none⟩ (.int .i64 (min t2 x2))) R [.int .i64 t0, .int .i64 t1, .int .i64 (min t2 x2), .int .i64 t3, .int .i64 t4, .int .i64 t5, .int .i64 t6, .int .i64 t7, .int .i64 t8, .int .i64 t9] ∧ Blk (W5.setCell ⟨R, 2, none⟩ (.int .i64 (min t2 x2))) X5 [.int .i64 x0, .int .i64 x1, .int .i64 x2, .int .i64 x3, .int .i64 x4, .int .i64 x5, .int .i64 x6, .int .i64 x7, .int .i64 x8, .int .i64 x9] 31) := Lib.hid ⟨HB2.out.1.set 2 _, HB2.out.2.other ne2 _ _⟩
        clear px fx dx HB2
        revert HN11
        generalize (W5.setCell ⟨R, 2, none⟩ (.int .i64 (min t2 x2))) = Wn11
        intro HN11
        have px := HN11.out.1.1.cell (i := 3) rfl
        have fx := HN11.out.1.1.free 3
        have dx := HN11.out.2.cell (i := 3) rfl
        go_upto_region 10 with fail
        have HN12 : Hid (LO V (Wn11.setCell ⟨R, 3, none⟩ (.int .i64 (wrap64 (t3 + x3)))) R [.int .i64 t0, .int .i64 t1, .int .i64 (min t2 x2), .int .i64 (wrap64 (t3 + x3)), .int .i64 t4, .int .i64 t5, .int .i64 t6, .int .i64 t7, .int .i64 t8, .int .i64 t9] ∧ Blk (Wn11.setCell ⟨R, 3, none⟩ (.int .i64 (wrap64 (t3 + x3)))) X5 [.int .i64 x0, .int .i64 x1, .int .i64 x2, .int .i64 x3, .int .i64 x4, .int .i64 x5, .int .i64 x6, .int .i64 x7, .int .i64 x8, .int .i64 x9] 31) := Lib.hid ⟨HN11.out.1.set 3 _, HN11.out.2.other ne2 _ _⟩
        clear px fx dx HN11
        revert HN12
        generalize (Wn11.setCell ⟨R, 3, none⟩ (.int .i64 (wrap64 (t3 + x3)))) = Wn12
        intro HN12
        have px := HN12.out.1.1.cell (i := 4) rfl
        have fx := HN12.out.1.1.free 4
        have dx := HN12.out.2.cell (i := 4) rfl
        go_upto_region 11 with fail
        have HN13 : Hid (LO V (Wn12.setCell ⟨R, 4, none⟩ (.int .i64 (wrap64 (t4 + x4)))) R [.int .i64 t0, .int .i64 t1, .int .i64 (min t2 x2), .int .i64 (wrap64 (t3 + x3)), .int .i64 (wrap64 (t4 + x4)), .int .i64 t5, .int .i64 t6, .int .i64 t7, .int .i64 t8, .int .i64 t9] ∧ Blk (Wn12.setCell ⟨R, 4, none⟩ (.int .i64 (wrap64 (t4 + x4)))) X5 [.int .i64 x0, .int .i64 x1, .int .i64 x2, .int .i64 x3, .int .i64 x4, .int .i64 x5, .int .i64 x6, .int .i64 x7, .int .i64 x8, .int .i64 x9] 31) := Lib.hid ⟨HN12.out.1.set 4 _, HN12.out.2.other ne2 _ _⟩
        clear px fx dx HN12
        revert HN13
        generalize (Wn12.setCell ⟨R, 4, none⟩ (.int .i64 (wrap64 (t4 + x4)))) = Wn13
        intro HN13
        have px := HN13.out.1.1.cell (i := 5) rfl
        have fx := HN13.out.1.1.free 5
        have dx := HN13.out.2.cell (i := 5) rfl
        go_upto_region 12 with fail
        have HN14 : Hid (LO V (Wn13.setCell ⟨R, 5, none⟩ (.int .i64 (wrap64 (t5 + x5)))) R [.int .i64 t0, .int .i64 t1, .int .i64 (min t2 x2), .int .i64 (wrap64 (t3 + x3)), .int .i64 (wrap64 (t4 + x4)), .int .i64 (wrap64 (t5 + x5)), .int .i64 t6, .int .i64 t7, .int .i64 t8, .int .i64 t9] ∧ Blk (Wn13.setCell ⟨R, 5, none⟩ (.int .i64 (wrap64 (t5 + x5)))) X5 [.int .i64 x0, .int .i64 x1, .int .i64 x2, .int .i64 x3, .int .i64 x4, .int .i64 x5, .int .i64 x6, .int .i64 x7, .int .i64 x8, .int .i64 x9] 31) := Lib.hid ⟨HN13.out.1.set 5 _, HN13.out.2.other ne2 _ _⟩
        clear px fx dx HN13
        revert HN14
        generalize (Wn13.setCell ⟨R, 5, none⟩ (.int .i64 (wrap64 (t5 + x5)))) = Wn14
        intro HN14
        have px := HN14.out.1.1.cell (i := 6) rfl
        have fx := HN14.out.1.1.free 6
        have dx := HN14.out.2.cell (i := 6) rfl
        go_upto_region 13 with fail
        have HN15 : Hid (LO V (Wn14.setCell ⟨R, 6, none⟩ (.int .i64 (wrap64 (t6 + x6)))) R [.int .i64 t0, .int .i64 t1, .int .i64 (min t2 x2), .int .i64 (wrap64 (t3 + x3)), .int .i64 (wrap64 (t4 + x4)), .int .i64 (wrap64 (t5 + x5)), .int .i64 (wrap64 (t6 + x6)), .int .i64 t7, .int .i64 t8, .int .i64 t9] ∧ Blk (Wn14.setCell ⟨R, 6, none⟩ (.int .i64 (wrap64 (t6 + x6)))) X5 [.int .i64 x0, .int .i64 x1, .int .i64 x2, .int .i64 x3, .int .i64 x4, .int .i64 x5, .int .i64 x6, .int .i64 x7, .int .i64 x8, .int .i64 x9] 31) := Lib.hid ⟨HN14.out.1.set 6 _, HN14.out.2.other ne2 _ _⟩
        clear px fx dx HN14
        revert HN15
        generalize (Wn14.setCell ⟨R, 6, none⟩ (.int .i64 (wrap64 (t6 + x6)))) = Wn15
        intro HN15
        have px := HN15.out.1.1.cell (i := 7) rfl
        have fx := HN15.out.1.1.free 7
        have dx := HN15.out.2.cell (i := 7) rfl
        go_upto_region 14 with fail
        have HN16 : Hid (LO V (Wn15.setCell ⟨R, 7, none⟩ (.int .i64 (wrap64 (t7 + x7)))) R [.int .i64 t0, .int .i64 t1, .int .i64 (min t2 x2), .int .i64 (wrap64 (t3 + x3)), .int .i64 (wrap64 (t4 + x4)), .int .i64 (wrap64 (t5 + x5)), .int .i64 (wrap64 (t6 + x6)), .int .i64 (wrap64 (t7 + x7)), .int .i64 t8, .int .i64 t9] ∧ Blk (Wn15.setCell ⟨R, 7, none⟩ (.int .i64 (wrap64 (t7 + x7)))) X5 [.int .i64 x0, .int .i64 x1, .int .i64 x2, .int .i64 x3, .int .i64 x4, .int .i64 x5, .int .i64 x6, .int .i64 x7, .int .i64 x8, .int .i64 x9] 31) := Lib.hid ⟨HN15.out.1.set 7 _, HN15.out.2.other ne2 _ _⟩
        clear px fx dx HN15
        revert HN16
        generalize (Wn15.setCell ⟨R, 7, none⟩ (.int .i64 (wrap64 (t7 + x7)))) = Wn16
        intro HN16
        have d8 := HN16.out.2.cell (i := 8) rfl
        by_cases h8 : x8 = 0
        · have b8 : (x8 == 0) = true := by simp [h8]
          go_upto_region 15 with fail
          clear b8 d8
          have px := HN16.out.1.1.cell (i := 8) rfl
          have fx := HN16.out.1.1.free 8
          go_upto_region 16 with fail
          have HN17 : Hid (LO V (Wn16.setCell ⟨R, 8, none⟩ (.int .i64 (wrap64 (t8 + 1)))) R [.int .i64 t0, .int .i64 t1, .int .i64 (min t2 x2), .int .i64 (wrap64 (t3 + x3)), .int .i64 (wrap64 (t4 + x4)), .int .i64 (wrap64 (t5 + x5)), .int .i64 (wrap64 (t6 + x6)), .int .i64 (wrap64 (t7 + x7)), .int .i64 (wrap64 (t8 + 1)), .int .i64 t9] ∧ Blk (Wn16.setCell ⟨R, 8, none⟩ (.int .i64 (wrap64 (t8 + 1)))) X5 [.int .i64 x0, .int .i64 x1, .int .i64 x2, .int .i64 x3, .int .i64 x4, .int .i64 x5, .int .i64 x6, .int .i64 x7, .int .i64 x8, .int .i64 x9] 31) := Lib.hid ⟨HN16.out.1.set 8 _, HN16.out.2.other ne2 _ _⟩
          clear px fx HN16
          revert HN17
          generalize (Wn16.setCell ⟨R, 8, none⟩ (.int .i64 (wrap64 (t8 + 1)))) = Wn17
          intro HN17
          have px := HN17.out.1.1.cell (i := 9) rfl
          have fx := HN17.out.1.1.free 9
          have dx := HN17.out.2.cell (i := 9) rfl
          go_upto_region 17 with fail
          have HN18 : Hid (LO V (Wn17.setCell ⟨R, 9, none⟩ (.int .i64 (max t9 x9))) R [.int .i64 t0, .int .i64 t1, .int .i64 (min t2 x2), .int .i64 (wrap64 (t3 + x3)), .int .i64 (wrap64 (t4 + x4)), .int .i64 (wrap64 (t5 + x5)), .int .i64 (wrap64 (t6 + x6)), .int .i64 (wrap64 (t7 + x7)), .int .i64 (wrap64 (t8 + 1)), .int .i64 (max t9 x9)] ∧ Blk (Wn17.setCell ⟨R, 9, none⟩ (.int .i64 (max t9 x9))) X5 [.int .i64 x0, .int .i64 x1, .int .i64 x2, .int .i64 x3, .int .i64 x4, .int .i64 x5, .int .i64 x6, .int .i64 x7, .int .i64 x8, .int .i64 x9] 31) := Lib.hid ⟨HN17.out.1.set 9 _, HN17.out.2.other ne2 _ _⟩
          clear px fx dx HN17
          revert HN18
          generalize (Wn17.setCell ⟨R, 9, none⟩ (.int .i64 (max t9 x9))) = Wn18
          intro HN18
          go_wp2_with fail
          go_roundw
          case rel => exact ⟨j + 1, _, _, _, _, _, _, _, _, _, _, by go_num, by omega, Lib.hid ⟨HN18.out.1, by rw [HN.out, if_neg hjz, if_pos h8]⟩⟩
          case measure => simp [intOf]; omega
        · have b8 : (x8 == 0) = false := by simp [h8]
          go_upto_region 16 with fail
          clear b8 d8
          have px := HN16.out.1.1.cell (i := 9) rfl
          have fx := HN16.out.1.1.free 9
          have dx := HN16.out.2.cell (i := 9) rfl
          go_upto_region 17 with fail
          have HN19 : Hid (LO V (Wn16.setCell ⟨R, 9, none⟩ (.int .i64 (max t9 x9))) R [.int .i64 t0, .int .i64 t1, .int .i64 (min t2 x2), .int .i64 (wrap64 (t3 + x3)), .int .i64 (wrap64 (t4 + x4)), .int .i64 (wrap64 (t5 + x5)), .int .i64 (wrap64 (t6 + x6)), .int .i64 (wrap64 (t7 + x7)), .int .i64 t8, .int .i64 (max t9 x9)] ∧ Blk (Wn16.setCell ⟨R, 9, none⟩ (.int .i64 (max t9 x9))) X5 [.int .i64 x0, .int .i64 x1, .int .i64 x2, .int .i64 x3, .int .i64 x4, .int .i64 x5, .int .i64 x6, .int .i64 x7, .int .i64 x8, .int .i64 x9] 31) := Lib.hid ⟨HN16.out.1.set 9 _, HN16.out.2.other ne2 _ _⟩
          clear px fx dx HN16
          revert HN19
          generalize (Wn16.setCell ⟨R, 9, none⟩ (.int .i64 (max t9 x9))) = Wn19
          intro HN19
          go_wp2_with fail
          go_roundw
          case rel => exact ⟨j + 1, _, _, _, _, _, _, _, _, _, _, by go_num, by omega, Lib.hid ⟨HN19.out.1, by rw [HN.out, if_neg hjz, if_neg h8]⟩⟩
          case measure => simp [intOf]; omega
    · obtain rfl : j = n := by omega
      have i1 : ¬ (j : Int) < (j : Int) := by omega
      have hxe := HB.out.2.symm.trans HXR.out
      simp only [Le.R.mk.injEq] at hxe
      obtain ⟨rfl, rfl, rfl, rfl, rfl, rfl, rfl, rfl, rfl, rfl⟩ := hxe
      have p0 := HB.out.1.1.cell (i := 0) rfl
      have p1 := HB.out.1.1.cell (i := 1) rfl
      have p2 := HB.out.1.1.cell (i := 2) rfl
      have p3 := HB.out.1.1.cell (i := 3) rfl
      have p4 := HB.out.1.1.cell (i := 4) rfl
      have p5 := HB.out.1.1.cell (i := 5) rfl
      have p6 := HB.out.1.1.cell (i := 6) rfl
      have p7 := HB.out.1.1.cell (i := 7) rfl
      have p8 := HB.out.1.1.cell (i := 8) rfl
      have p9 := HB.out.1.1.cell (i := 9) rfl
      have HQ3 : Hid (Blk wr Q [.int .i64 0, .int .i64 0, .int .i64 0, .int .i64 0, .int .i64 0, .int .i64 0, .int .i64 0, .int .i64 0, .int .i64 0, .int .i64 0] 31) := Lib.hid (HV.out.1.below HB.out.1.2.1 HV.out.1.lt)
      have q0 := HQ3.out.cell (i := 0) rfl
      have fq0 := HQ3.out.free 0
      have q1 := HQ3.out.cell (i := 1) rfl
      have fq1 := HQ3.out.free 1
      have q2 := HQ3.out.cell (i := 2) rfl
      have fq2 := HQ3.out.free 2
      have q3 := HQ3.out.cell (i := 3) rfl
      have fq3 := HQ3.out.free 3
      have q4 := HQ3.out.cell (i := 4) rfl
      have fq4 := HQ3.out.free 4
      have q5 := HQ3.out.cell (i := 5) rfl
      have fq5 := HQ3.out.free 5
      have q6 := HQ3.out.cell (i := 6) rfl
      have fq6 := HQ3.out.free 6
      have q7 := HQ3.out.cell (i := 7) rfl
      have fq7 := HQ3.out.free 7
      have q8 := HQ3.out.cell (i := 8) rfl
      have fq8 := HQ3.out.free 8
      have q9 := HQ3.out.cell (i := 9) rfl
      have fq9 := HQ3.out.free 9
      have nq1 : ¬ Q = R := by have := HQF.out; omega
      have nq2 : ¬ R = Q := by have := HQF.out; omega
      have HB9 : Hid (Below w.heap.size w wr) := Lib.hid (HV.out.2.2.trans (HB.out.1.2.1.mono HV.out.2.2.size))
      have HW9 : Hid (Blk ((((((((((wr.setCell ⟨Q, 0, none⟩ (.int .i64 t0)).setCell ⟨Q, 1, none⟩ (.int .i64 t1)).setCell ⟨Q, 2, none⟩ (.int .i64 t2)).setCell ⟨Q, 3, none⟩ (.int .i64 t3)).setCell ⟨Q, 4, none⟩ (.int .i64 t4)).setCell ⟨Q, 5, none⟩ (.int .i64 t5)).setCell ⟨Q, 6, none⟩ (.int .i64 t6)).setCell ⟨Q, 7, none⟩ (.int .i64 t7)).setCell ⟨Q, 8, none⟩ (.int .i64 t8)).setCell ⟨Q, 9, none⟩ (.int .i64 t9)) Q [.int .i64 t0, .int .i64 t1, .int .i64 t2, .int .i64 t3, .int .i64 t4, .int .i64 t5, .int .i64 t6, .int .i64 t7, .int .i64 t8, .int .i64 t9] 31 ∧ Below w.heap.size w ((((((((((wr.setCell ⟨Q, 0, none⟩ (.int .i64 t0)).setCell ⟨Q, 1, none⟩ (.int .i64 t1)).setCell ⟨Q, 2, none⟩ (.int .i64 t2)).setCell ⟨Q, 3, none⟩ (.int .i64 t3)).setCell ⟨Q, 4, none⟩ (.int .i64 t4)).setCell ⟨Q, 5, none⟩ (.int .i64 t5)).setCell ⟨Q, 6, none⟩ (.int .i64 t6)).setCell ⟨Q, 7, none⟩ (.int .i64 t7)).setCell ⟨Q, 8, none⟩ (.int .i64 t8)).setCell ⟨Q, 9, none⟩ (.int .i64 t9))) := Lib.hid ⟨(((((((((HQ3.out.set 0 (.int .i64 t0)).set 1 (.int .i64 t1)).set 2 (.int .i64 t2)).set 3 (.int .i64 t3)).set 4 (.int .i64 t4)).set 5 (.int .i64 t5)).set 6 (.int .i64 t6)).set 7 (.int .i64 t7)).set 8 (.int .i64 t8)).set 9 (.int .i64 t9), HB9.out.trans ((((((((((((Chg.refl [Q] wr).set (Or.inl (List.mem_singleton.2 rfl)) 0 (.int .i64 t0)).set (Or.inl (List.mem_singleton.2 rfl)) 1 (.int .i64 t1)).set (Or.inl (List.mem_singleton.2 rfl)) 2 (.int .i64 t2)).set (Or.inl (List.mem_singleton.2 rfl)) 3 (.int .i64 t3)).set (Or.inl (List.mem_singleton.2 rfl)) 4 (.int .i64 t4)).set (Or.inl (List.mem_singleton.2 rfl)) 5 (.int .i64 t5)).set (Or.inl (List.mem_singleton.2 rfl)) 6 (.int .i64 t6)).set (Or.inl (List.mem_singleton.2 rfl)) 7 (.int .i64 t7)).set (Or.inl (List.mem_singleton.2 rfl)) 8 (.int .i64 t8)).set (Or.inl (List.mem_singleton.2 rfl)) 9 (.int .i64 t9)).below HB9.out.size (by intro x hx; simp at hx; rw [hx]; exact Nat.le_of_eq HQ.out))⟩
      go_wp2_with fail
      clear p0 q0 fq0 p1 q1 fq1 p2 q2 fq2 p3 q3 fq3 p4 q4 fq4 p5 q5 fq5 p6 q6 fq6 p7 q7 fq7 p8 q8 fq8 p9 q9 fq9
      revert HW9
      generalize ((((((((((wr.setCell ⟨Q, 0, none⟩ (.int .i64 t0)).setCell ⟨Q, 1, none⟩ (.int .i64 t1)).setCell ⟨Q, 2, none⟩ (.int .i64 t2)).setCell ⟨Q, 3, none⟩ (.int .i64 t3)).setCell ⟨Q, 4, none⟩ (.int .i64 t4)).setCell ⟨Q, 5, none⟩ (.int .i64 t5)).setCell ⟨Q, 6, none⟩ (.int .i64 t6)).setCell ⟨Q, 7, none⟩ (.int .i64 t7)).setCell ⟨Q, 8, none⟩ (.int .i64 t8)).setCell ⟨Q, 9, none⟩ (.int .i64 t9)) = W9
      intro HW9
      have r0 := HW9.out.1.cell (i := 0) rfl
      have r1 := HW9.out.1.cell (i := 1) rfl
      have r2 := HW9.out.1.cell (i := 2) rfl
      have r3 := HW9.out.1.cell (i := 3) rfl
      have r4 := HW9.out.1.cell (i := 4) rfl
      have r5 := HW9.out.1.cell (i := 5) rfl
      have r6 := HW9.out.1.cell (i := 6) rfl
      have r7 := HW9.out.1.cell (i := 7) rfl
      have r8 := HW9.out.1.cell (i := 8) rfl
      have r9 := HW9.out.1.cell (i := 9) rfl
      (try simp only [Exit.inBlock, Exit.then])
      exact bodyPost_ret (v := .agg #[.int .i64 t0, .int .i64 t1, .int .i64 t2, .int .i64 t3, .int .i64 t4, .int .i64 t5, .int .i64 t6, .int .i64 t7, .int .i64 t8, .int .i64 t9]) (by simp [results, Tryd.results14, go_sem, r0, r1, r2, r3, r4, r5, r6, r7, r8, r9]) rfl ⟨rfl, HW9.out.2⟩
end Go.Proofs.YtdchedkhlfmpeaaDoor
/- Ledger: the last region of the law on rows, both ways. -/
namespace Go.Proofs.YtdchedkhlfmpeaaDoor
open Go.ChangeShapes Go.WideShapes Go.ChangeAt Go.RowKit
set_option linter.unusedSimpArgs false
set_option linter.unusedVariables false

/-- A region of the law LedgerRows. -/
def findL (n : Nat) : Code → Option Code
  | .region i ops b => if i = n then some (.region i ops b) else none
  | .seq a b => match findL n a with
    | some x => some x
    | none => findL n b
  | .cond _ a b => match findL n a with
    | some x => some x
    | none => findL n b
  | .block _ c => findL n c
  | .loop c => findL n c
  | .scope c => findL n c
  | _ => none
noncomputable def regL (n : Nat) : Code := ((Tryd.f3).body.bind (findL n)).getD .skip
set_option maxRecDepth 20000 in
set_option maxHeartbeats 16000000 in
theorem lr_regT (wr W : World) (X9 : Nat) (g4 c4 n q : Nat) (y0 y1 y2 y3 y4 y5 y6 y7 y8 y9 : Int) (hq : q < n) (hn6 : n ≤ 1000000)
    (HF : Hid (∀ wq, Below wr.heap.size wr wq → wq.cell? ⟨X9, 0, none⟩ = some (.int .i64 y0) ∧ wq.cell? ⟨X9, 1, none⟩ = some (.int .i64 y1) ∧ wq.cell? ⟨X9, 2, none⟩ = some (.int .i64 y2) ∧ wq.cell? ⟨X9, 3, none⟩ = some (.int .i64 y3) ∧ wq.cell? ⟨X9, 4, none⟩ = some (.int .i64 y4) ∧ wq.cell? ⟨X9, 5, none⟩ = some (.int .i64 y5) ∧ wq.cell? ⟨X9, 6, none⟩ = some (.int .i64 y6) ∧ wq.cell? ⟨X9, 7, none⟩ = some (.int .i64 y7) ∧ wq.cell? ⟨X9, 8, none⟩ = some (.int .i64 y8) ∧ wq.cell? ⟨X9, 9, none⟩ = some (.int .i64 y9) ∧ wq.cell? ⟨g4, q * 10, none⟩ = some (.int .i64 y0) ∧ wq.cell? ⟨g4, q * 10 + 1, none⟩ = some (.int .i64 y1) ∧ wq.cell? ⟨g4, q * 10 + 2, none⟩ = some (.int .i64 y2) ∧ wq.cell? ⟨g4, q * 10 + 3, none⟩ = some (.int .i64 y3) ∧ wq.cell? ⟨g4, q * 10 + 4, none⟩ = some (.int .i64 y4) ∧ wq.cell? ⟨g4, q * 10 + 5, none⟩ = some (.int .i64 y5) ∧ wq.cell? ⟨g4, q * 10 + 6, none⟩ = some (.int .i64 y6) ∧ wq.cell? ⟨g4, q * 10 + 7, none⟩ = some (.int .i64 y7) ∧ wq.cell? ⟨g4, q * 10 + 8, none⟩ = some (.int .i64 y8) ∧ wq.cell? ⟨g4, q * 10 + 9, none⟩ = some (.int .i64 y9)))
    (HLV : Hid (∀ wq, Below wr.heap.size wr wq → Calls Tryd.prog 13 #[] wq fun e w' => e = .returned (.bool true) ∧ Below wq.heap.size wq w'))
    (hW : Below wr.heap.size wr W) (Q : Exit → Act → World → Prop) (a : Act) (hn : a.tmps.size = 89) (hK : Knows [(6, .slice (some ⟨g4, 0, none⟩) n c4), (7, .int .i64 (q : Int)), (9, .pointer (some ⟨X9, 0, none⟩)), (10, .bool true)] a)
    (hend : ∀ w', Below wr.heap.size wr w' → Q .normal (putsL [some 62, some 63, some 64, some 65, some 66, some 67, some 68, some 69, some 70, some 71, some 72, some 73, some 74, some 75, some 76, some 77, some 78, some 79, some 80, some 81, some 82, some 83, some 84, some 85, some 86, some 87, some 88, some 4] [some (.bool true), some (.int .i64 (q : Int)), some (.bool true), some (.bool true), some (.bool true), some (.bool true), some (.bool true), some (.agg #[.int .i64 y0, .int .i64 y1, .int .i64 y2, .int .i64 y3, .int .i64 y4, .int .i64 y5, .int .i64 y6, .int .i64 y7, .int .i64 y8, .int .i64 y9]), some (.slice (some ⟨g4, 0, none⟩) n c4), some (.int .i64 (q : Int)), some (.pointer (some ⟨g4, q * 10, none⟩)), some (.agg #[.int .i64 y0, .int .i64 y1, .int .i64 y2, .int .i64 y3, .int .i64 y4, .int .i64 y5, .int .i64 y6, .int .i64 y7, .int .i64 y8, .int .i64 y9]), some (.bool true), some (.bool true), some (.bool true), none, none, none, none, none, none, none, some (.bool true), some (.bool true), some (.bool true), some (.bool true), some (.bool true), some (.bool true)] a) w') : Code.wp Tryd.prog (regL 14) Q a W := by
  conv => arg 2; whnf
  have q0 : (0 : Int) ≤ (q : Int) := by omega
  have q1 : (q : Int) < (n : Int) := by omega
  refine wp_region_vals (fun w' => Below wr.heap.size wr w') _ _ _ _ ?_ ?_ ?_ hW.drew hn hK ?_ ?_ hend
  · kernel_rfl
  · kernel_rfl
  · kernel_rfl
  · kernel_rfl
  refine ⟨fun a w hK hw => ?_, ?_⟩
  · have x10 := hK.get 3 rfl
    have m10 := knows_tmp x10
    unfold Oper.quietAt
    simp only [execOp, x10]
    go_simp
    all_goals first | exact ⟨rfl, rfl⟩ | exact rfl | (intro h; exfalso; omega)
  refine ⟨fun a w hK hw => ?_, ?_⟩
  · have x7 := hK.get 2 rfl
    have m7 := knows_tmp x7
    unfold Oper.quietAt
    simp only [execOp, x7]
    go_simp
    all_goals first | exact ⟨rfl, rfl⟩ | exact rfl | (intro h; exfalso; omega)
  refine ⟨fun a w hK hw => ?_, ?_⟩
  · have x63 := hK.get 0 rfl
    have m63 := knows_tmp x63
    unfold Oper.quietAt
    simp only [execOp, x63]
    go_simp
    all_goals first | exact ⟨rfl, rfl⟩ | exact rfl | (intro h; exfalso; omega)
  refine ⟨fun a w hK hw => ?_, ?_⟩
  · have x62 := hK.get 2 rfl
    have m62 := knows_tmp x62
    have x64 := hK.get 0 rfl
    have m64 := knows_tmp x64
    unfold Oper.quietAt
    simp only [execOp, x62, x64]
    go_simp
    all_goals first | exact ⟨rfl, rfl⟩ | exact rfl | (intro h; exfalso; omega)
  refine ⟨fun a w hK hw => ?_, ?_⟩
  · have x65 := hK.get 0 rfl
    have m65 := knows_tmp x65
    unfold Oper.quietAt
    simp only [execOp, x65]
    go_simp
    all_goals first | exact ⟨rfl, rfl⟩ | exact rfl | (intro h; exfalso; omega)
  refine ⟨fun a w hK hw => ?_, ?_⟩
  · have x10 := hK.get 8 rfl
    have m10 := knows_tmp x10
    unfold Oper.quietAt
    simp only [execOp, x10]
    go_simp
    all_goals first | exact ⟨rfl, rfl⟩ | exact rfl | (intro h; exfalso; omega)
  refine ⟨fun a w hK hw => ?_, ?_⟩
  · have x67 := hK.get 0 rfl
    have m67 := knows_tmp x67
    unfold Oper.quietAt
    simp only [execOp, x67]
    go_simp
    all_goals first | exact ⟨rfl, rfl⟩ | exact rfl | (intro h; exfalso; omega)
  refine ⟨fun a w hK hw => ?_, ?_⟩
  · have x9 := hK.get 9 rfl
    have m9 := knows_tmp x9
    obtain ⟨z0, z1, z2, z3, z4, z5, z6, z7, z8, z9, z10, z11, z12, z13, z14, z15, z16, z17, z18, z19⟩ := HF.out w hw
    unfold Oper.quietAt
    simp only [execOp, x9]
    go_simp
    all_goals first | exact ⟨rfl, rfl⟩ | exact rfl | (intro h; exfalso; omega)
  refine ⟨fun a w hK hw => ?_, ?_⟩
  · have x6 := hK.get 8 rfl
    have m6 := knows_tmp x6
    unfold Oper.quietAt
    simp only [execOp, x6]
    go_simp
    all_goals first | exact ⟨rfl, rfl⟩ | exact rfl | (intro h; exfalso; omega)
  refine ⟨fun a w hK hw => ?_, ?_⟩
  · have x7 := hK.get 10 rfl
    have m7 := knows_tmp x7
    unfold Oper.quietAt
    simp only [execOp, x7]
    go_simp
    all_goals first | exact ⟨rfl, rfl⟩ | exact rfl | (intro h; exfalso; omega)
  refine ⟨fun a w hK hw => ?_, ?_⟩
  · have x70 := hK.get 1 rfl
    have m70 := knows_tmp x70
    have x71 := hK.get 0 rfl
    have m71 := knows_tmp x71
    unfold Oper.quietAt
    simp only [execOp, x70, x71]
    go_simp
    all_goals first | exact ⟨rfl, rfl⟩ | exact rfl | (intro h; exfalso; omega)
  refine ⟨fun a w hK hw => ?_, ?_⟩
  · have x72 := hK.get 0 rfl
    have m72 := knows_tmp x72
    obtain ⟨z0, z1, z2, z3, z4, z5, z6, z7, z8, z9, z10, z11, z12, z13, z14, z15, z16, z17, z18, z19⟩ := HF.out w hw
    unfold Oper.quietAt
    simp only [execOp, x72]
    go_simp
    all_goals first | exact ⟨rfl, rfl⟩ | exact rfl | (intro h; exfalso; omega)
  refine ⟨fun a w hK hw => ?_, ?_⟩
  · have x69 := hK.get 4 rfl
    have m69 := knows_tmp x69
    have x73 := hK.get 0 rfl
    have m73 := knows_tmp x73
    unfold Oper.quietAt
    simp only [execOp, x69, x73]
    go_simp
    (go_at_call 11; exact (le_same y0 y1 y2 y3 y4 y5 y6 y7 y8 y9 _).mono (fun e w3 ⟨he, hb⟩ => ⟨he, hw.trans (hb.mono hw.size)⟩))
  refine ⟨fun a w hK hw => ?_, ?_⟩
  · have x68 := hK.get 6 rfl
    have m68 := knows_tmp x68
    have x74 := hK.get 0 rfl
    have m74 := knows_tmp x74
    unfold Oper.quietAt
    simp only [execOp, x68, x74]
    go_simp
    all_goals first | exact ⟨rfl, rfl⟩ | exact rfl | (intro h; exfalso; omega)
  refine ⟨fun a w hK hw => ?_, ?_⟩
  · have x75 := hK.get 0 rfl
    have m75 := knows_tmp x75
    unfold Oper.quietAt
    simp only [execOp, x75]
    go_simp
    all_goals first | exact ⟨rfl, rfl⟩ | exact rfl | (intro h; exfalso; omega)
  refine ⟨fun a w hK hw => ?_, ?_⟩
  · have x76 := hK.get 7 rfl
    have m76 := knows_tmp x76
    have x83 := hK.get 0 rfl
    have m83 := knows_tmp x83
    unfold Oper.quietAt
    simp only [execOp, x76, x83]
    go_simp
    all_goals first | exact ⟨rfl, rfl⟩ | exact rfl | (intro h; exfalso; omega)
  refine ⟨fun a w hK hw => ?_, ?_⟩
  · have x66 := hK.get 18 rfl
    have m66 := knows_tmp x66
    have x84 := hK.get 0 rfl
    have m84 := knows_tmp x84
    unfold Oper.quietAt
    simp only [execOp, x66, x84]
    go_simp
    all_goals first | exact ⟨rfl, rfl⟩ | exact rfl | (intro h; exfalso; omega)
  refine ⟨fun a w hK hw => ?_, ?_⟩
  · have x85 := hK.get 0 rfl
    have m85 := knows_tmp x85
    unfold Oper.quietAt
    simp only [execOp, x85]
    go_simp
    all_goals first | exact ⟨rfl, rfl⟩ | exact rfl | (intro h; exfalso; omega)
  refine ⟨fun a w hK hw => ?_, ?_⟩
  · unfold Oper.quietAt
    simp only [execOp]
    go_simp
    (go_at_call 13; exact (HLV.out w hw).mono (fun e w3 ⟨he, hb⟩ => ⟨he, hw.trans (hb.mono hw.size)⟩))
  refine ⟨fun a w hK hw => ?_, ?_⟩
  · have x86 := hK.get 1 rfl
    have m86 := knows_tmp x86
    have x87 := hK.get 0 rfl
    have m87 := knows_tmp x87
    unfold Oper.quietAt
    simp only [execOp, x86, x87]
    go_simp
    all_goals first | exact ⟨rfl, rfl⟩ | exact rfl | (intro h; exfalso; omega)
  refine ⟨fun a w hK hw => ?_, ?_⟩
  · have x88 := hK.get 0 rfl
    have m88 := knows_tmp x88
    unfold Oper.quietAt
    simp only [execOp, x88]
    go_simp
    all_goals first | exact ⟨rfl, rfl⟩ | exact rfl | (intro h; exfalso; omega)
  exact trivial
set_option maxRecDepth 20000 in
set_option maxHeartbeats 16000000 in
theorem lr_regF (wr W : World) (X9 : Nat)
    (HF : Hid (∀ wq, Below wr.heap.size wr wq → wq.cell? ⟨X9, 0, none⟩ = some (.int .i64 0) ∧ wq.cell? ⟨X9, 1, none⟩ = some (.int .i64 0) ∧ wq.cell? ⟨X9, 2, none⟩ = some (.int .i64 0) ∧ wq.cell? ⟨X9, 3, none⟩ = some (.int .i64 0) ∧ wq.cell? ⟨X9, 4, none⟩ = some (.int .i64 0) ∧ wq.cell? ⟨X9, 5, none⟩ = some (.int .i64 0) ∧ wq.cell? ⟨X9, 6, none⟩ = some (.int .i64 0) ∧ wq.cell? ⟨X9, 7, none⟩ = some (.int .i64 0) ∧ wq.cell? ⟨X9, 8, none⟩ = some (.int .i64 0) ∧ wq.cell? ⟨X9, 9, none⟩ = some (.int .i64 0)))
    (HLV : Hid (∀ wq, Below wr.heap.size wr wq → Calls Tryd.prog 13 #[] wq fun e w' => e = .returned (.bool true) ∧ Below wq.heap.size wq w'))
    (hW : Below wr.heap.size wr W) (Q : Exit → Act → World → Prop) (a : Act) (hn : a.tmps.size = 89) (hK : Knows [(7, .int .i64 (-1)), (9, .pointer (some ⟨X9, 0, none⟩)), (10, .bool false)] a)
    (hend : ∀ w', Below wr.heap.size wr w' → Q .normal (putsL [some 62, some 63, some 64, some 65, some 66, some 67, some 68, some 69, some 70, some 71, some 72, some 73, some 74, some 75, some 76, some 77, some 78, some 79, some 80, some 81, some 82, some 83, some 84, some 85, some 86, some 87, some 88, some 4] [some (.bool false), some (.int .i64 (-1)), some (.bool false), some (.bool true), some (.bool true), some (.bool false), some (.bool false), none, none, none, none, none, none, some (.bool false), some (.bool false), some (.bool false), some (.bool true), some (.bool true), some (.agg #[.int .i64 0, .int .i64 0, .int .i64 0, .int .i64 0, .int .i64 0, .int .i64 0, .int .i64 0, .int .i64 0, .int .i64 0, .int .i64 0]), some (.agg #[.int .i64 0, .int .i64 0, .int .i64 0, .int .i64 0, .int .i64 0, .int .i64 0, .int .i64 0, .int .i64 0, .int .i64 0, .int .i64 0]), some (.bool true), some (.bool true), some (.bool true), some (.bool true), some (.bool true), some (.bool true), some (.bool true), some (.bool true)] a) w') : Code.wp Tryd.prog (regL 14) Q a W := by
  conv => arg 2; whnf
  refine wp_region_vals (fun w' => Below wr.heap.size wr w') _ _ _ _ ?_ ?_ ?_ hW.drew hn hK ?_ ?_ hend
  · kernel_rfl
  · kernel_rfl
  · kernel_rfl
  · kernel_rfl
  refine ⟨fun a w hK hw => ?_, ?_⟩
  · have x10 := hK.get 2 rfl
    have m10 := knows_tmp x10
    unfold Oper.quietAt
    simp only [execOp, x10]
    go_simp
    all_goals first | exact ⟨rfl, rfl⟩ | exact rfl | (intro h; exfalso; omega)
  refine ⟨fun a w hK hw => ?_, ?_⟩
  · have x7 := hK.get 1 rfl
    have m7 := knows_tmp x7
    unfold Oper.quietAt
    simp only [execOp, x7]
    go_simp
    all_goals first | exact ⟨rfl, rfl⟩ | exact rfl | (intro h; exfalso; omega)
  refine ⟨fun a w hK hw => ?_, ?_⟩
  · have x63 := hK.get 0 rfl
    have m63 := knows_tmp x63
    unfold Oper.quietAt
    simp only [execOp, x63]
    go_simp
    all_goals first | exact ⟨rfl, rfl⟩ | exact rfl | (intro h; exfalso; omega)
  refine ⟨fun a w hK hw => ?_, ?_⟩
  · have x62 := hK.get 2 rfl
    have m62 := knows_tmp x62
    have x64 := hK.get 0 rfl
    have m64 := knows_tmp x64
    unfold Oper.quietAt
    simp only [execOp, x62, x64]
    go_simp
    all_goals first | exact ⟨rfl, rfl⟩ | exact rfl | (intro h; exfalso; omega)
  refine ⟨fun a w hK hw => ?_, ?_⟩
  · have x65 := hK.get 0 rfl
    have m65 := knows_tmp x65
    unfold Oper.quietAt
    simp only [execOp, x65]
    go_simp
    all_goals first | exact ⟨rfl, rfl⟩ | exact rfl | (intro h; exfalso; omega)
  refine ⟨fun a w hK hw => ?_, ?_⟩
  · have x10 := hK.get 7 rfl
    have m10 := knows_tmp x10
    unfold Oper.quietAt
    simp only [execOp, x10]
    go_simp
    all_goals first | exact ⟨rfl, rfl⟩ | exact rfl | (intro h; exfalso; omega)
  refine ⟨fun a w hK hw => ?_, ?_⟩
  · have x67 := hK.get 0 rfl
    have m67 := knows_tmp x67
    unfold Oper.quietAt
    simp only [execOp, x67]
    go_simp
    all_goals first | exact ⟨rfl, rfl⟩ | exact rfl | (intro h; exfalso; omega)
  refine ⟨fun a w hK hw => ?_, ?_⟩
  · have x68 := hK.get 6 rfl
    have m68 := knows_tmp x68
    have x74 := hK.get 0 rfl
    have m74 := knows_tmp x74
    unfold Oper.quietAt
    simp only [execOp, x68, x74]
    go_simp
    all_goals first | exact ⟨rfl, rfl⟩ | exact rfl | (intro h; exfalso; omega)
  refine ⟨fun a w hK hw => ?_, ?_⟩
  · have x75 := hK.get 0 rfl
    have m75 := knows_tmp x75
    unfold Oper.quietAt
    simp only [execOp, x75]
    go_simp
    all_goals first | exact ⟨rfl, rfl⟩ | exact rfl | (intro h; exfalso; omega)
  refine ⟨fun a w hK hw => ?_, ?_⟩
  · have x10 := hK.get 17 rfl
    have m10 := knows_tmp x10
    unfold Oper.quietAt
    simp only [execOp, x10]
    go_simp
    all_goals first | exact ⟨rfl, rfl⟩ | exact rfl | (intro h; exfalso; omega)
  refine ⟨fun a w hK hw => ?_, ?_⟩
  · have x77 := hK.get 0 rfl
    have m77 := knows_tmp x77
    unfold Oper.quietAt
    simp only [execOp, x77]
    go_simp
    all_goals first | exact ⟨rfl, rfl⟩ | exact rfl | (intro h; exfalso; omega)
  refine ⟨fun a w hK hw => ?_, ?_⟩
  · have x78 := hK.get 0 rfl
    have m78 := knows_tmp x78
    unfold Oper.quietAt
    simp only [execOp, x78]
    go_simp
    all_goals first | exact ⟨rfl, rfl⟩ | exact rfl | (intro h; exfalso; omega)
  refine ⟨fun a w hK hw => ?_, ?_⟩
  · have x9 := hK.get 19 rfl
    have m9 := knows_tmp x9
    obtain ⟨z0, z1, z2, z3, z4, z5, z6, z7, z8, z9⟩ := HF.out w hw
    unfold Oper.quietAt
    simp only [execOp, x9]
    go_simp
    all_goals first | exact ⟨rfl, rfl⟩ | exact rfl | (intro h; exfalso; omega)
  refine ⟨fun a w hK hw => ?_, ?_⟩
  · unfold Oper.quietAt
    simp only [execOp]
    go_simp
    all_goals first | exact ⟨rfl, rfl⟩ | exact rfl | (intro h; exfalso; omega)
  refine ⟨fun a w hK hw => ?_, ?_⟩
  · have x80 := hK.get 1 rfl
    have m80 := knows_tmp x80
    have x81 := hK.get 0 rfl
    have m81 := knows_tmp x81
    unfold Oper.quietAt
    simp only [execOp, x80, x81]
    go_simp
    all_goals first | exact ⟨rfl, rfl⟩ | exact rfl | (intro h; exfalso; omega)
  refine ⟨fun a w hK hw => ?_, ?_⟩
  · have x79 := hK.get 3 rfl
    have m79 := knows_tmp x79
    have x82 := hK.get 0 rfl
    have m82 := knows_tmp x82
    unfold Oper.quietAt
    simp only [execOp, x79, x82]
    go_simp
    all_goals first | exact ⟨rfl, rfl⟩ | exact rfl | (intro h; exfalso; omega)
  refine ⟨fun a w hK hw => ?_, ?_⟩
  · have x76 := hK.get 7 rfl
    have m76 := knows_tmp x76
    have x83 := hK.get 0 rfl
    have m83 := knows_tmp x83
    unfold Oper.quietAt
    simp only [execOp, x76, x83]
    go_simp
    all_goals first | exact ⟨rfl, rfl⟩ | exact rfl | (intro h; exfalso; omega)
  refine ⟨fun a w hK hw => ?_, ?_⟩
  · have x66 := hK.get 18 rfl
    have m66 := knows_tmp x66
    have x84 := hK.get 0 rfl
    have m84 := knows_tmp x84
    unfold Oper.quietAt
    simp only [execOp, x66, x84]
    go_simp
    all_goals first | exact ⟨rfl, rfl⟩ | exact rfl | (intro h; exfalso; omega)
  refine ⟨fun a w hK hw => ?_, ?_⟩
  · have x85 := hK.get 0 rfl
    have m85 := knows_tmp x85
    unfold Oper.quietAt
    simp only [execOp, x85]
    go_simp
    all_goals first | exact ⟨rfl, rfl⟩ | exact rfl | (intro h; exfalso; omega)
  refine ⟨fun a w hK hw => ?_, ?_⟩
  · unfold Oper.quietAt
    simp only [execOp]
    go_simp
    (go_at_call 13; exact (HLV.out w hw).mono (fun e w3 ⟨he, hb⟩ => ⟨he, hw.trans (hb.mono hw.size)⟩))
  refine ⟨fun a w hK hw => ?_, ?_⟩
  · have x86 := hK.get 1 rfl
    have m86 := knows_tmp x86
    have x87 := hK.get 0 rfl
    have m87 := knows_tmp x87
    unfold Oper.quietAt
    simp only [execOp, x86, x87]
    go_simp
    all_goals first | exact ⟨rfl, rfl⟩ | exact rfl | (intro h; exfalso; omega)
  refine ⟨fun a w hK hw => ?_, ?_⟩
  · have x88 := hK.get 0 rfl
    have m88 := knows_tmp x88
    unfold Oper.quietAt
    simp only [execOp, x88]
    go_simp
    all_goals first | exact ⟨rfl, rfl⟩ | exact rfl | (intro h; exfalso; omega)
  exact trivial
end Go.Proofs.YtdchedkhlfmpeaaDoor
/- Ledger: regions of the law on totals. -/
namespace Go.Proofs.YtdchedkhlfmpeaaDoor
open Go.ChangeShapes Go.WideShapes Go.ChangeAt Go.RowKit
set_option linter.unusedSimpArgs false
set_option linter.unusedVariables false

theorem not_yet {ops : Array Oper} {L : Nat → Bool} (hc : ClosedL ops L) (j i : Nat) (hj : (match ops[j]? with | some o => o.after.any (fun e => Region.binds .any e && e.on == i) | none => false) = true) (h : L i = false) : L j = false := by
  cases ho : ops[j]? with
  | none => rw [ho] at hj; cases hj
  | some o =>
    rw [ho] at hj
    simp only [Array.any_eq_true', Bool.and_eq_true, beq_iff_eq] at hj
    obtain ⟨e, he, hb, rfl⟩ := hj
    cases hl : L j with
    | false => rfl
    | true => rw [hc j o ho hl e he hb] at h; cases h
/-- A region of the law LedgerTotals. -/
def findX (n : Nat) : Code → Option Code
  | .region i ops b => if i = n then some (.region i ops b) else none
  | .seq a b => match findX n a with
    | some x => some x
    | none => findX n b
  | .cond _ a b => match findX n a with
    | some x => some x
    | none => findX n b
  | .block _ c => findX n c
  | .loop c => findX n c
  | .scope c => findX n c
  | _ => none
noncomputable def regX (n : Nat) : Code := ((Tryd.f4).body.bind (findX n)).getD .skip
def CS14 (t0 t1 t2 t3 t4 t5 t6 t7 t8 t9 x6 x7 : Int) (b6 b7 : Bool) : List Value := [.int .i64 t0, .int .i64 t1, .int .i64 t2, .int .i64 t3, .int .i64 t4, .int .i64 t5, .int .i64 (bif b6 then IntKind.i64.wrap (t6 + x6) else t6), .int .i64 (bif b7 then IntKind.i64.wrap (t7 + x7) else t7), .int .i64 t8, .int .i64 t9]
/-- What region 14 keeps: the row so far, nothing else changed. -/
def TS14 (W0 : World) (X5 : Nat) (t0 t1 t2 t3 t4 t5 t6 t7 t8 t9 x6 x7 : Int) (L : Nat → Bool) (w' : World) : Prop := Blk w' X5 (CS14 t0 t1 t2 t3 t4 t5 t6 t7 t8 t9 x6 x7 (L 17) (L 19)) 32 ∧ Chg [X5] W0 w'
theorem TS14.other {W0 : World} {X5 : Nat} {t0 t1 t2 t3 t4 t5 t6 t7 t8 t9 x6 x7 : Int} {L : Nat → Bool} {w' : World} {i : Nat} (h : TS14 W0 X5 t0 t1 t2 t3 t4 t5 t6 t7 t8 t9 x6 x7 L w') (h6 : 17 ≠ i) (h7 : 19 ≠ i) : TS14 W0 X5 t0 t1 t2 t3 t4 t5 t6 t7 t8 t9 x6 x7 (doneL L i) w' := by
  unfold TS14 at h ⊢
  rw [doneL_other L h6, doneL_other L h7]
  exact h
theorem TS14.get6 {W0 : World} {X5 : Nat} {t0 t1 t2 t3 t4 t5 t6 t7 t8 t9 x6 x7 : Int} {L : Nat → Bool} {w' : World} (h : TS14 W0 X5 t0 t1 t2 t3 t4 t5 t6 t7 t8 t9 x6 x7 L w') (hb : L 17 = false) : w'.cell? ⟨X5, 6, none⟩ = some (.int .i64 t6) := by
  unfold TS14 at h
  rw [hb] at h
  exact h.1.cell (i := 6) rfl
theorem TS14.put6 {W0 : World} {X5 : Nat} {t0 t1 t2 t3 t4 t5 t6 t7 t8 t9 x6 x7 : Int} {L : Nat → Bool} {w' : World} (h : TS14 W0 X5 t0 t1 t2 t3 t4 t5 t6 t7 t8 t9 x6 x7 L w') : TS14 W0 X5 t0 t1 t2 t3 t4 t5 t6 t7 t8 t9 x6 x7 (doneL L 17) (w'.setCell ⟨X5, 6, none⟩ (.int .i64 (IntKind.i64.wrap (t6 + x6)))) := by
  unfold TS14 at h ⊢
  rw [doneL_same, doneL_other L (show 19 ≠ 17 by decide)]
  exact ⟨h.1.set 6 (.int .i64 (IntKind.i64.wrap (t6 + x6))), h.2.set (Or.inl (List.mem_singleton.2 rfl)) 6 _⟩
theorem TS14.get7 {W0 : World} {X5 : Nat} {t0 t1 t2 t3 t4 t5 t6 t7 t8 t9 x6 x7 : Int} {L : Nat → Bool} {w' : World} (h : TS14 W0 X5 t0 t1 t2 t3 t4 t5 t6 t7 t8 t9 x6 x7 L w') (hb : L 19 = false) : w'.cell? ⟨X5, 7, none⟩ = some (.int .i64 t7) := by
  unfold TS14 at h
  rw [hb] at h
  exact h.1.cell (i := 7) rfl
theorem TS14.put7 {W0 : World} {X5 : Nat} {t0 t1 t2 t3 t4 t5 t6 t7 t8 t9 x6 x7 : Int} {L : Nat → Bool} {w' : World} (h : TS14 W0 X5 t0 t1 t2 t3 t4 t5 t6 t7 t8 t9 x6 x7 L w') : TS14 W0 X5 t0 t1 t2 t3 t4 t5 t6 t7 t8 t9 x6 x7 (doneL L 19) (w'.setCell ⟨X5, 7, none⟩ (.int .i64 (IntKind.i64.wrap (t7 + x7)))) := by
  unfold TS14 at h ⊢
  rw [doneL_same, doneL_other L (show 17 ≠ 19 by decide)]
  exact ⟨h.1.set 7 (.int .i64 (IntKind.i64.wrap (t7 + x7))), h.2.set (Or.inl (List.mem_singleton.2 rfl)) 7 _⟩
set_option maxRecDepth 20000 in
set_option maxHeartbeats 16000000 in
theorem lt_reg14 (W : World) (X5 g4 c4 n j : Nat) (t0 t1 t2 t3 t4 t5 t6 t7 t8 t9 x6 x7 : Int) (u0 u1 u2 u3 u7 u8 u9 u10 u11 u12 u13 u14 u15 u16 u17 u18 u19 u20 u21 u22 u23 u24 u25 u26 u27 u28 u29 u30 u31 u32 u33 u34 u35 u36 u37 u38 u39 u40 u41 u42 u43 u44 u45 u46 u47 u48 u49 u50 u51 u52 u53 u54 u55 u56 u57 u58 u59 u60 u61 u62 u63 u64 u65 u66 u67 u68 u69 u70 u71 u72 u73 u74 u75 u76 u77 u78 u79 u80 u81 u82 u83 u84 u85 u86 u87 u88 u89 u90 u91 u92 u93 u94 u95 u96 u97 u98 u99 u100 u101 u102 u103 u104 u105 u106 u107 u108 u109 u110 u111 u112 u113 u114 u115 : Value) (hj : j < n) (hn6 : n ≤ 1000000) (ne1 : ¬ g4 = X5) (hlt : g4 < W.heap.size) (hx : Blk W X5 [.int .i64 t0, .int .i64 t1, .int .i64 t2, .int .i64 t3, .int .i64 t4, .int .i64 t5, .int .i64 t6, .int .i64 t7, .int .i64 t8, .int .i64 t9] 32) (e6 : W.cell? ⟨g4, j * 10 + 6, none⟩ = some (.int .i64 x6)) (e7 : W.cell? ⟨g4, j * 10 + 7, none⟩ = some (.int .i64 x7))
    (Q : Exit → Act → World → Prop) (hend : ∀ w', Blk w' X5 [.int .i64 t0, .int .i64 t1, .int .i64 t2, .int .i64 t3, .int .i64 t4, .int .i64 t5, .int .i64 (IntKind.i64.wrap (t6 + x6)), .int .i64 (IntKind.i64.wrap (t7 + x7)), .int .i64 t8, .int .i64 t9] 32 → Chg [X5] W w' → Q .normal { tmps := #[u0, u1, u2, u3, .slice (some ⟨g4, 0, none⟩) n c4, .pointer (some ⟨X5, 0, none⟩), .int .i64 (j : Int), u7, u8, u9, u10, u11, u12, u13, u14, u15, u16, u17, u18, u19, u20, u21, u22, u23, u24, u25, u26, u27, u28, u29, u30, u31, u32, u33, u34, u35, u36, u37, u38, u39, u40, u41, u42, u43, u44, u45, u46, u47, u48, u49, u50, u51, u52, u53, u54, u55, u56, u57, u58, u59, u60, u61, u62, u63, u64, u65, u66, u67, u68, u69, u70, u71, u72, u73, u74, u75, u76, u77, u78, u79, u80, u81, u82, u83, u84, u85, u86, u87, u88, u89, u90, u91, .pointer (some ⟨X5, 6, none⟩), .int .i64 t6, .slice (some ⟨g4, 0, none⟩) n c4, .int .i64 (j : Int), .pointer (some ⟨g4, j * 10, none⟩), .pointer (some ⟨g4, j * 10 + 6, none⟩), .int .i64 x6, .int .i64 (IntKind.i64.wrap (t6 + x6)), .pointer (some ⟨X5, 7, none⟩), .int .i64 t7, .slice (some ⟨g4, 0, none⟩) n c4, .int .i64 (j : Int), .pointer (some ⟨g4, j * 10, none⟩), .pointer (some ⟨g4, j * 10 + 7, none⟩), .int .i64 x7, .int .i64 (IntKind.i64.wrap (t7 + x7)), .pointer (some ⟨X5, 6, none⟩), .pointer (some ⟨X5, 7, none⟩), u110, u111, u112, u113, u114, u115], defers := [] } w') : Code.wp Tryd.prog (regX 14) Q { tmps := #[u0, u1, u2, u3, .slice (some ⟨g4, 0, none⟩) n c4, .pointer (some ⟨X5, 0, none⟩), .int .i64 (j : Int), u7, u8, u9, u10, u11, u12, u13, u14, u15, u16, u17, u18, u19, u20, u21, u22, u23, u24, u25, u26, u27, u28, u29, u30, u31, u32, u33, u34, u35, u36, u37, u38, u39, u40, u41, u42, u43, u44, u45, u46, u47, u48, u49, u50, u51, u52, u53, u54, u55, u56, u57, u58, u59, u60, u61, u62, u63, u64, u65, u66, u67, u68, u69, u70, u71, u72, u73, u74, u75, u76, u77, u78, u79, u80, u81, u82, u83, u84, u85, u86, u87, u88, u89, u90, u91, u92, u93, u94, u95, u96, u97, u98, u99, u100, u101, u102, u103, u104, u105, u106, u107, u108, u109, u110, u111, u112, u113, u114, u115], defers := [] } W := by
  have j0 : (0 : Int) ≤ (j : Int) := by omega
  have i1 : (j : Int) < (n : Int) := by omega
  have HX : Hid (TS14 W X5 t0 t1 t2 t3 t4 t5 t6 t7 t8 t9 x6 x7 (fun _ => false) W.drew) := Lib.hid ⟨hx, (Chg.refl [X5] W).drew⟩
  conv => arg 2; whnf
  clear hj hn6 hx
  refine wp_region_stages (TS14 W X5 t0 t1 t2 t3 t4 t5 t6 t7 t8 t9 x6 x7) (by kernel_rfl) (by kernel_rfl) (by kernel_rfl) HX.out ?_
  clear HX
  refine wpSt_step (fun K hK => ?_)
  rw [if_pos (by simp [Region.wanted])]
  apply Exists.intro
  refine ⟨fun L wq hcl hL0 hpr hC => ?_, ?_⟩
  · go_simp
    exact upSt_value rfl (hC.other (by decide) (by decide))
  simp only [Act.put, List.setIfInBounds_toArray, List.set_cons_zero, List.set_cons_succ]
  refine hK _ ?_
  clear hK K
  refine wpSt_step (fun K hK => ?_)
  rw [if_pos (by simp [Region.wanted])]
  apply Exists.intro
  refine ⟨fun L wq hcl hL0 hpr hC => ?_, ?_⟩
  · have d := hC.get6 (not_yet hcl 17 7 (by kernel_rfl) (not_yet hcl 7 1 (by kernel_rfl) hL0))
    go_simp
    exact upSt_value rfl (hC.other (by decide) (by decide))
  simp only [Act.put, List.setIfInBounds_toArray, List.set_cons_zero, List.set_cons_succ]
  refine hK _ ?_
  clear hK K
  refine wpSt_step (fun K hK => ?_)
  rw [if_pos (by simp [Region.wanted])]
  apply Exists.intro
  refine ⟨fun L wq hcl hL0 hpr hC => ?_, ?_⟩
  · go_simp
    exact upSt_value rfl (hC.other (by decide) (by decide))
  simp only [Act.put, List.setIfInBounds_toArray, List.set_cons_zero, List.set_cons_succ]
  refine hK _ ?_
  clear hK K
  refine wpSt_step (fun K hK => ?_)
  rw [if_pos (by simp [Region.wanted])]
  apply Exists.intro
  refine ⟨fun L wq hcl hL0 hpr hC => ?_, ?_⟩
  · go_simp
    exact upSt_value rfl (hC.other (by decide) (by decide))
  simp only [Act.put, List.setIfInBounds_toArray, List.set_cons_zero, List.set_cons_succ]
  refine hK _ ?_
  clear hK K
  refine wpSt_step (fun K hK => ?_)
  rw [if_pos (by simp [Region.wanted])]
  apply Exists.intro
  refine ⟨fun L wq hcl hL0 hpr hC => ?_, ?_⟩
  · go_simp
    exact upSt_value rfl (hC.other (by decide) (by decide))
  simp only [Act.put, List.setIfInBounds_toArray, List.set_cons_zero, List.set_cons_succ]
  refine hK _ ?_
  clear hK K
  refine wpSt_step (fun K hK => ?_)
  rw [if_pos (by simp [Region.wanted])]
  apply Exists.intro
  refine ⟨fun L wq hcl hL0 hpr hC => ?_, ?_⟩
  · go_simp
    exact upSt_value rfl (hC.other (by decide) (by decide))
  simp only [Act.put, List.setIfInBounds_toArray, List.set_cons_zero, List.set_cons_succ]
  refine hK _ ?_
  clear hK K
  refine wpSt_step (fun K hK => ?_)
  rw [if_pos (by simp [Region.wanted])]
  apply Exists.intro
  refine ⟨fun L wq hcl hL0 hpr hC => ?_, ?_⟩
  · have d := (hC.2.cell hlt (by simp; exact ne1)).trans e6
    go_simp
    exact upSt_value rfl (hC.other (by decide) (by decide))
  simp only [Act.put, List.setIfInBounds_toArray, List.set_cons_zero, List.set_cons_succ]
  refine hK _ ?_
  clear hK K
  refine wpSt_step (fun K hK => ?_)
  rw [if_pos (by simp [Region.wanted])]
  apply Exists.intro
  refine ⟨fun L wq hcl hL0 hpr hC => ?_, ?_⟩
  · go_simp
    exact upSt_value rfl (hC.other (by decide) (by decide))
  simp only [Act.put, List.setIfInBounds_toArray, List.set_cons_zero, List.set_cons_succ]
  refine hK _ ?_
  clear hK K
  refine wpSt_step (fun K hK => ?_)
  rw [if_pos (by simp [Region.wanted])]
  apply Exists.intro
  refine ⟨fun L wq hcl hL0 hpr hC => ?_, ?_⟩
  · go_simp
    exact upSt_value rfl (hC.other (by decide) (by decide))
  simp only [Act.put, List.setIfInBounds_toArray, List.set_cons_zero, List.set_cons_succ]
  refine hK _ ?_
  clear hK K
  refine wpSt_step (fun K hK => ?_)
  rw [if_pos (by simp [Region.wanted])]
  apply Exists.intro
  refine ⟨fun L wq hcl hL0 hpr hC => ?_, ?_⟩
  · have d := hC.get7 (not_yet hcl 19 15 (by kernel_rfl) (not_yet hcl 15 9 (by kernel_rfl) hL0))
    go_simp
    exact upSt_value rfl (hC.other (by decide) (by decide))
  simp only [Act.put, List.setIfInBounds_toArray, List.set_cons_zero, List.set_cons_succ]
  refine hK _ ?_
  clear hK K
  refine wpSt_step (fun K hK => ?_)
  rw [if_pos (by simp [Region.wanted])]
  apply Exists.intro
  refine ⟨fun L wq hcl hL0 hpr hC => ?_, ?_⟩
  · go_simp
    exact upSt_value rfl (hC.other (by decide) (by decide))
  simp only [Act.put, List.setIfInBounds_toArray, List.set_cons_zero, List.set_cons_succ]
  refine hK _ ?_
  clear hK K
  refine wpSt_step (fun K hK => ?_)
  rw [if_pos (by simp [Region.wanted])]
  apply Exists.intro
  refine ⟨fun L wq hcl hL0 hpr hC => ?_, ?_⟩
  · go_simp
    exact upSt_value rfl (hC.other (by decide) (by decide))
  simp only [Act.put, List.setIfInBounds_toArray, List.set_cons_zero, List.set_cons_succ]
  refine hK _ ?_
  clear hK K
  refine wpSt_step (fun K hK => ?_)
  rw [if_pos (by simp [Region.wanted])]
  apply Exists.intro
  refine ⟨fun L wq hcl hL0 hpr hC => ?_, ?_⟩
  · go_simp
    exact upSt_value rfl (hC.other (by decide) (by decide))
  simp only [Act.put, List.setIfInBounds_toArray, List.set_cons_zero, List.set_cons_succ]
  refine hK _ ?_
  clear hK K
  refine wpSt_step (fun K hK => ?_)
  rw [if_pos (by simp [Region.wanted])]
  apply Exists.intro
  refine ⟨fun L wq hcl hL0 hpr hC => ?_, ?_⟩
  · go_simp
    exact upSt_value rfl (hC.other (by decide) (by decide))
  simp only [Act.put, List.setIfInBounds_toArray, List.set_cons_zero, List.set_cons_succ]
  refine hK _ ?_
  clear hK K
  refine wpSt_step (fun K hK => ?_)
  rw [if_pos (by simp [Region.wanted])]
  apply Exists.intro
  refine ⟨fun L wq hcl hL0 hpr hC => ?_, ?_⟩
  · have d := (hC.2.cell hlt (by simp; exact ne1)).trans e7
    go_simp
    exact upSt_value rfl (hC.other (by decide) (by decide))
  simp only [Act.put, List.setIfInBounds_toArray, List.set_cons_zero, List.set_cons_succ]
  refine hK _ ?_
  clear hK K
  refine wpSt_step (fun K hK => ?_)
  rw [if_pos (by simp [Region.wanted])]
  apply Exists.intro
  refine ⟨fun L wq hcl hL0 hpr hC => ?_, ?_⟩
  · go_simp
    exact upSt_value rfl (hC.other (by decide) (by decide))
  simp only [Act.put, List.setIfInBounds_toArray, List.set_cons_zero, List.set_cons_succ]
  refine hK _ ?_
  clear hK K
  refine wpSt_step (fun K hK => ?_)
  rw [if_pos (by simp [Region.wanted])]
  apply Exists.intro
  refine ⟨fun L wq hcl hL0 hpr hC => ?_, ?_⟩
  · go_simp
    exact upSt_value rfl (hC.other (by decide) (by decide))
  simp only [Act.put, List.setIfInBounds_toArray, List.set_cons_zero, List.set_cons_succ]
  refine hK _ ?_
  clear hK K
  refine wpSt_step (fun K hK => ?_)
  rw [if_pos (by simp [Region.wanted])]
  apply Exists.intro
  refine ⟨fun L wq hcl hL0 hpr hC => ?_, ?_⟩
  · have p := hC.get6 hL0
    have f := hC.1.free 6
    go_simp
    exact upSt_skip hC.put6
  simp only [Act.put, List.setIfInBounds_toArray, List.set_cons_zero, List.set_cons_succ]
  refine hK _ ?_
  clear hK K
  refine wpSt_step (fun K hK => ?_)
  rw [if_pos (by simp [Region.wanted])]
  apply Exists.intro
  refine ⟨fun L wq hcl hL0 hpr hC => ?_, ?_⟩
  · go_simp
    exact upSt_value rfl (hC.other (by decide) (by decide))
  simp only [Act.put, List.setIfInBounds_toArray, List.set_cons_zero, List.set_cons_succ]
  refine hK _ ?_
  clear hK K
  refine wpSt_step (fun K hK => ?_)
  rw [if_pos (by simp [Region.wanted])]
  apply Exists.intro
  refine ⟨fun L wq hcl hL0 hpr hC => ?_, ?_⟩
  · have p := hC.get7 hL0
    have f := hC.1.free 7
    go_simp
    exact upSt_skip hC.put7
  simp only [Act.put, List.setIfInBounds_toArray, List.set_cons_zero, List.set_cons_succ]
  refine hK _ ?_
  clear hK K
  refine wpSt_nil ?_
  intro w7 hw7
  exact hend w7 hw7.1 hw7.2
def CS13 (t0 t1 t2 t3 t4 t5 t6 t7 t8 t9 x3 x4 x5 : Int) (b3 b4 b5 : Bool) : List Value := [.int .i64 t0, .int .i64 t1, .int .i64 t2, .int .i64 (bif b3 then IntKind.i64.wrap (t3 + x3) else t3), .int .i64 (bif b4 then IntKind.i64.wrap (t4 + x4) else t4), .int .i64 (bif b5 then IntKind.i64.wrap (t5 + x5) else t5), .int .i64 t6, .int .i64 t7, .int .i64 t8, .int .i64 t9]
/-- What region 13 keeps: the row so far, nothing else changed. -/
def TS13 (W0 : World) (X5 : Nat) (t0 t1 t2 t3 t4 t5 t6 t7 t8 t9 x3 x4 x5 : Int) (L : Nat → Bool) (w' : World) : Prop := Blk w' X5 (CS13 t0 t1 t2 t3 t4 t5 t6 t7 t8 t9 x3 x4 x5 (L 25) (L 27) (L 29)) 32 ∧ Chg [X5] W0 w'
theorem TS13.other {W0 : World} {X5 : Nat} {t0 t1 t2 t3 t4 t5 t6 t7 t8 t9 x3 x4 x5 : Int} {L : Nat → Bool} {w' : World} {i : Nat} (h : TS13 W0 X5 t0 t1 t2 t3 t4 t5 t6 t7 t8 t9 x3 x4 x5 L w') (h3 : 25 ≠ i) (h4 : 27 ≠ i) (h5 : 29 ≠ i) : TS13 W0 X5 t0 t1 t2 t3 t4 t5 t6 t7 t8 t9 x3 x4 x5 (doneL L i) w' := by
  unfold TS13 at h ⊢
  rw [doneL_other L h3, doneL_other L h4, doneL_other L h5]
  exact h
theorem TS13.get3 {W0 : World} {X5 : Nat} {t0 t1 t2 t3 t4 t5 t6 t7 t8 t9 x3 x4 x5 : Int} {L : Nat → Bool} {w' : World} (h : TS13 W0 X5 t0 t1 t2 t3 t4 t5 t6 t7 t8 t9 x3 x4 x5 L w') (hb : L 25 = false) : w'.cell? ⟨X5, 3, none⟩ = some (.int .i64 t3) := by
  unfold TS13 at h
  rw [hb] at h
  exact h.1.cell (i := 3) rfl
theorem TS13.put3 {W0 : World} {X5 : Nat} {t0 t1 t2 t3 t4 t5 t6 t7 t8 t9 x3 x4 x5 : Int} {L : Nat → Bool} {w' : World} (h : TS13 W0 X5 t0 t1 t2 t3 t4 t5 t6 t7 t8 t9 x3 x4 x5 L w') : TS13 W0 X5 t0 t1 t2 t3 t4 t5 t6 t7 t8 t9 x3 x4 x5 (doneL L 25) (w'.setCell ⟨X5, 3, none⟩ (.int .i64 (IntKind.i64.wrap (t3 + x3)))) := by
  unfold TS13 at h ⊢
  rw [doneL_same, doneL_other L (show 27 ≠ 25 by decide), doneL_other L (show 29 ≠ 25 by decide)]
  exact ⟨h.1.set 3 (.int .i64 (IntKind.i64.wrap (t3 + x3))), h.2.set (Or.inl (List.mem_singleton.2 rfl)) 3 _⟩
theorem TS13.get4 {W0 : World} {X5 : Nat} {t0 t1 t2 t3 t4 t5 t6 t7 t8 t9 x3 x4 x5 : Int} {L : Nat → Bool} {w' : World} (h : TS13 W0 X5 t0 t1 t2 t3 t4 t5 t6 t7 t8 t9 x3 x4 x5 L w') (hb : L 27 = false) : w'.cell? ⟨X5, 4, none⟩ = some (.int .i64 t4) := by
  unfold TS13 at h
  rw [hb] at h
  exact h.1.cell (i := 4) rfl
theorem TS13.put4 {W0 : World} {X5 : Nat} {t0 t1 t2 t3 t4 t5 t6 t7 t8 t9 x3 x4 x5 : Int} {L : Nat → Bool} {w' : World} (h : TS13 W0 X5 t0 t1 t2 t3 t4 t5 t6 t7 t8 t9 x3 x4 x5 L w') : TS13 W0 X5 t0 t1 t2 t3 t4 t5 t6 t7 t8 t9 x3 x4 x5 (doneL L 27) (w'.setCell ⟨X5, 4, none⟩ (.int .i64 (IntKind.i64.wrap (t4 + x4)))) := by
  unfold TS13 at h ⊢
  rw [doneL_same, doneL_other L (show 25 ≠ 27 by decide), doneL_other L (show 29 ≠ 27 by decide)]
  exact ⟨h.1.set 4 (.int .i64 (IntKind.i64.wrap (t4 + x4))), h.2.set (Or.inl (List.mem_singleton.2 rfl)) 4 _⟩
theorem TS13.get5 {W0 : World} {X5 : Nat} {t0 t1 t2 t3 t4 t5 t6 t7 t8 t9 x3 x4 x5 : Int} {L : Nat → Bool} {w' : World} (h : TS13 W0 X5 t0 t1 t2 t3 t4 t5 t6 t7 t8 t9 x3 x4 x5 L w') (hb : L 29 = false) : w'.cell? ⟨X5, 5, none⟩ = some (.int .i64 t5) := by
  unfold TS13 at h
  rw [hb] at h
  exact h.1.cell (i := 5) rfl
theorem TS13.put5 {W0 : World} {X5 : Nat} {t0 t1 t2 t3 t4 t5 t6 t7 t8 t9 x3 x4 x5 : Int} {L : Nat → Bool} {w' : World} (h : TS13 W0 X5 t0 t1 t2 t3 t4 t5 t6 t7 t8 t9 x3 x4 x5 L w') : TS13 W0 X5 t0 t1 t2 t3 t4 t5 t6 t7 t8 t9 x3 x4 x5 (doneL L 29) (w'.setCell ⟨X5, 5, none⟩ (.int .i64 (IntKind.i64.wrap (t5 + x5)))) := by
  unfold TS13 at h ⊢
  rw [doneL_same, doneL_other L (show 25 ≠ 29 by decide), doneL_other L (show 27 ≠ 29 by decide)]
  exact ⟨h.1.set 5 (.int .i64 (IntKind.i64.wrap (t5 + x5))), h.2.set (Or.inl (List.mem_singleton.2 rfl)) 5 _⟩
set_option maxRecDepth 20000 in
set_option maxHeartbeats 16000000 in
theorem lt_reg13 (W : World) (X5 g4 c4 n j : Nat) (t0 t1 t2 t3 t4 t5 t6 t7 t8 t9 x3 x4 x5 : Int) (u0 u1 u2 u3 u7 u8 u9 u10 u11 u12 u13 u14 u15 u16 u17 u18 u19 u20 u21 u22 u23 u24 u25 u26 u27 u28 u29 u30 u31 u32 u33 u34 u35 u36 u37 u38 u39 u40 u41 u42 u43 u44 u45 u46 u47 u48 u49 u50 u51 u52 u53 u54 u55 u56 u57 u58 u59 u60 u61 u62 u63 u64 u65 u66 u67 u68 u69 u70 u71 u72 u73 u74 u75 u76 u77 u78 u79 u80 u81 u82 u83 u84 u85 u86 u87 u88 u89 u90 u91 u92 u93 u94 u95 u96 u97 u98 u99 u100 u101 u102 u103 u104 u105 u106 u107 u108 u109 u110 u111 u112 u113 u114 u115 : Value) (hj : j < n) (hn6 : n ≤ 1000000) (ne1 : ¬ g4 = X5) (hlt : g4 < W.heap.size) (hx : Blk W X5 [.int .i64 t0, .int .i64 t1, .int .i64 t2, .int .i64 t3, .int .i64 t4, .int .i64 t5, .int .i64 t6, .int .i64 t7, .int .i64 t8, .int .i64 t9] 32) (e3 : W.cell? ⟨g4, j * 10 + 3, none⟩ = some (.int .i64 x3)) (e4 : W.cell? ⟨g4, j * 10 + 4, none⟩ = some (.int .i64 x4)) (e5 : W.cell? ⟨g4, j * 10 + 5, none⟩ = some (.int .i64 x5))
    (Q : Exit → Act → World → Prop) (hend : ∀ w', Blk w' X5 [.int .i64 t0, .int .i64 t1, .int .i64 t2, .int .i64 (IntKind.i64.wrap (t3 + x3)), .int .i64 (IntKind.i64.wrap (t4 + x4)), .int .i64 (IntKind.i64.wrap (t5 + x5)), .int .i64 t6, .int .i64 t7, .int .i64 t8, .int .i64 t9] 32 → Chg [X5] W w' → Q .normal { tmps := #[u0, u1, u2, u3, .slice (some ⟨g4, 0, none⟩) n c4, .pointer (some ⟨X5, 0, none⟩), .int .i64 (j : Int), u7, u8, u9, u10, u11, u12, u13, u14, u15, u16, u17, u18, u19, u20, u21, u22, u23, u24, u25, u26, u27, u28, u29, u30, u31, u32, u33, u34, u35, u36, u37, u38, u39, u40, u41, u42, u43, u44, u45, u46, u47, u48, u49, u50, u51, u52, u53, u54, u55, u56, u57, u58, u59, u60, u61, u62, u63, u64, .pointer (some ⟨X5, 3, none⟩), .int .i64 t3, .slice (some ⟨g4, 0, none⟩) n c4, .int .i64 (j : Int), .pointer (some ⟨g4, j * 10, none⟩), .pointer (some ⟨g4, j * 10 + 3, none⟩), .int .i64 x3, .int .i64 (IntKind.i64.wrap (t3 + x3)), .pointer (some ⟨X5, 4, none⟩), .int .i64 t4, .slice (some ⟨g4, 0, none⟩) n c4, .int .i64 (j : Int), .pointer (some ⟨g4, j * 10, none⟩), .pointer (some ⟨g4, j * 10 + 4, none⟩), .int .i64 x4, .int .i64 (IntKind.i64.wrap (t4 + x4)), .pointer (some ⟨X5, 5, none⟩), .int .i64 t5, .slice (some ⟨g4, 0, none⟩) n c4, .int .i64 (j : Int), .pointer (some ⟨g4, j * 10, none⟩), .pointer (some ⟨g4, j * 10 + 5, none⟩), .int .i64 x5, .int .i64 (IntKind.i64.wrap (t5 + x5)), .pointer (some ⟨X5, 3, none⟩), .pointer (some ⟨X5, 4, none⟩), .pointer (some ⟨X5, 5, none⟩), u92, u93, u94, u95, u96, u97, u98, u99, u100, u101, u102, u103, u104, u105, u106, u107, u108, u109, u110, u111, u112, u113, u114, u115], defers := [] } w') : Code.wp Tryd.prog (regX 13) Q { tmps := #[u0, u1, u2, u3, .slice (some ⟨g4, 0, none⟩) n c4, .pointer (some ⟨X5, 0, none⟩), .int .i64 (j : Int), u7, u8, u9, u10, u11, u12, u13, u14, u15, u16, u17, u18, u19, u20, u21, u22, u23, u24, u25, u26, u27, u28, u29, u30, u31, u32, u33, u34, u35, u36, u37, u38, u39, u40, u41, u42, u43, u44, u45, u46, u47, u48, u49, u50, u51, u52, u53, u54, u55, u56, u57, u58, u59, u60, u61, u62, u63, u64, u65, u66, u67, u68, u69, u70, u71, u72, u73, u74, u75, u76, u77, u78, u79, u80, u81, u82, u83, u84, u85, u86, u87, u88, u89, u90, u91, u92, u93, u94, u95, u96, u97, u98, u99, u100, u101, u102, u103, u104, u105, u106, u107, u108, u109, u110, u111, u112, u113, u114, u115], defers := [] } W := by
  have j0 : (0 : Int) ≤ (j : Int) := by omega
  have i1 : (j : Int) < (n : Int) := by omega
  have HX : Hid (TS13 W X5 t0 t1 t2 t3 t4 t5 t6 t7 t8 t9 x3 x4 x5 (fun _ => false) W.drew) := Lib.hid ⟨hx, (Chg.refl [X5] W).drew⟩
  conv => arg 2; whnf
  clear hj hn6 hx
  refine wp_region_stages (TS13 W X5 t0 t1 t2 t3 t4 t5 t6 t7 t8 t9 x3 x4 x5) (by kernel_rfl) (by kernel_rfl) (by kernel_rfl) HX.out ?_
  clear HX
  refine wpSt_step (fun K hK => ?_)
  rw [if_pos (by simp [Region.wanted])]
  apply Exists.intro
  refine ⟨fun L wq hcl hL0 hpr hC => ?_, ?_⟩
  · go_simp
    exact upSt_value rfl (hC.other (by decide) (by decide) (by decide))
  simp only [Act.put, List.setIfInBounds_toArray, List.set_cons_zero, List.set_cons_succ]
  refine hK _ ?_
  clear hK K
  refine wpSt_step (fun K hK => ?_)
  rw [if_pos (by simp [Region.wanted])]
  apply Exists.intro
  refine ⟨fun L wq hcl hL0 hpr hC => ?_, ?_⟩
  · have d := hC.get3 (not_yet hcl 25 7 (by kernel_rfl) (not_yet hcl 7 1 (by kernel_rfl) hL0))
    go_simp
    exact upSt_value rfl (hC.other (by decide) (by decide) (by decide))
  simp only [Act.put, List.setIfInBounds_toArray, List.set_cons_zero, List.set_cons_succ]
  refine hK _ ?_
  clear hK K
  refine wpSt_step (fun K hK => ?_)
  rw [if_pos (by simp [Region.wanted])]
  apply Exists.intro
  refine ⟨fun L wq hcl hL0 hpr hC => ?_, ?_⟩
  · go_simp
    exact upSt_value rfl (hC.other (by decide) (by decide) (by decide))
  simp only [Act.put, List.setIfInBounds_toArray, List.set_cons_zero, List.set_cons_succ]
  refine hK _ ?_
  clear hK K
  refine wpSt_step (fun K hK => ?_)
  rw [if_pos (by simp [Region.wanted])]
  apply Exists.intro
  refine ⟨fun L wq hcl hL0 hpr hC => ?_, ?_⟩
  · go_simp
    exact upSt_value rfl (hC.other (by decide) (by decide) (by decide))
  simp only [Act.put, List.setIfInBounds_toArray, List.set_cons_zero, List.set_cons_succ]
  refine hK _ ?_
  clear hK K
  refine wpSt_step (fun K hK => ?_)
  rw [if_pos (by simp [Region.wanted])]
  apply Exists.intro
  refine ⟨fun L wq hcl hL0 hpr hC => ?_, ?_⟩
  · go_simp
    exact upSt_value rfl (hC.other (by decide) (by decide) (by decide))
  simp only [Act.put, List.setIfInBounds_toArray, List.set_cons_zero, List.set_cons_succ]
  refine hK _ ?_
  clear hK K
  refine wpSt_step (fun K hK => ?_)
  rw [if_pos (by simp [Region.wanted])]
  apply Exists.intro
  refine ⟨fun L wq hcl hL0 hpr hC => ?_, ?_⟩
  · go_simp
    exact upSt_value rfl (hC.other (by decide) (by decide) (by decide))
  simp only [Act.put, List.setIfInBounds_toArray, List.set_cons_zero, List.set_cons_succ]
  refine hK _ ?_
  clear hK K
  refine wpSt_step (fun K hK => ?_)
  rw [if_pos (by simp [Region.wanted])]
  apply Exists.intro
  refine ⟨fun L wq hcl hL0 hpr hC => ?_, ?_⟩
  · have d := (hC.2.cell hlt (by simp; exact ne1)).trans e3
    go_simp
    exact upSt_value rfl (hC.other (by decide) (by decide) (by decide))
  simp only [Act.put, List.setIfInBounds_toArray, List.set_cons_zero, List.set_cons_succ]
  refine hK _ ?_
  clear hK K
  refine wpSt_step (fun K hK => ?_)
  rw [if_pos (by simp [Region.wanted])]
  apply Exists.intro
  refine ⟨fun L wq hcl hL0 hpr hC => ?_, ?_⟩
  · go_simp
    exact upSt_value rfl (hC.other (by decide) (by decide) (by decide))
  simp only [Act.put, List.setIfInBounds_toArray, List.set_cons_zero, List.set_cons_succ]
  refine hK _ ?_
  clear hK K
  refine wpSt_step (fun K hK => ?_)
  rw [if_pos (by simp [Region.wanted])]
  apply Exists.intro
  refine ⟨fun L wq hcl hL0 hpr hC => ?_, ?_⟩
  · go_simp
    exact upSt_value rfl (hC.other (by decide) (by decide) (by decide))
  simp only [Act.put, List.setIfInBounds_toArray, List.set_cons_zero, List.set_cons_succ]
  refine hK _ ?_
  clear hK K
  refine wpSt_step (fun K hK => ?_)
  rw [if_pos (by simp [Region.wanted])]
  apply Exists.intro
  refine ⟨fun L wq hcl hL0 hpr hC => ?_, ?_⟩
  · have d := hC.get4 (not_yet hcl 27 15 (by kernel_rfl) (not_yet hcl 15 9 (by kernel_rfl) hL0))
    go_simp
    exact upSt_value rfl (hC.other (by decide) (by decide) (by decide))
  simp only [Act.put, List.setIfInBounds_toArray, List.set_cons_zero, List.set_cons_succ]
  refine hK _ ?_
  clear hK K
  refine wpSt_step (fun K hK => ?_)
  rw [if_pos (by simp [Region.wanted])]
  apply Exists.intro
  refine ⟨fun L wq hcl hL0 hpr hC => ?_, ?_⟩
  · go_simp
    exact upSt_value rfl (hC.other (by decide) (by decide) (by decide))
  simp only [Act.put, List.setIfInBounds_toArray, List.set_cons_zero, List.set_cons_succ]
  refine hK _ ?_
  clear hK K
  refine wpSt_step (fun K hK => ?_)
  rw [if_pos (by simp [Region.wanted])]
  apply Exists.intro
  refine ⟨fun L wq hcl hL0 hpr hC => ?_, ?_⟩
  · go_simp
    exact upSt_value rfl (hC.other (by decide) (by decide) (by decide))
  simp only [Act.put, List.setIfInBounds_toArray, List.set_cons_zero, List.set_cons_succ]
  refine hK _ ?_
  clear hK K
  refine wpSt_step (fun K hK => ?_)
  rw [if_pos (by simp [Region.wanted])]
  apply Exists.intro
  refine ⟨fun L wq hcl hL0 hpr hC => ?_, ?_⟩
  · go_simp
    exact upSt_value rfl (hC.other (by decide) (by decide) (by decide))
  simp only [Act.put, List.setIfInBounds_toArray, List.set_cons_zero, List.set_cons_succ]
  refine hK _ ?_
  clear hK K
  refine wpSt_step (fun K hK => ?_)
  rw [if_pos (by simp [Region.wanted])]
  apply Exists.intro
  refine ⟨fun L wq hcl hL0 hpr hC => ?_, ?_⟩
  · go_simp
    exact upSt_value rfl (hC.other (by decide) (by decide) (by decide))
  simp only [Act.put, List.setIfInBounds_toArray, List.set_cons_zero, List.set_cons_succ]
  refine hK _ ?_
  clear hK K
  refine wpSt_step (fun K hK => ?_)
  rw [if_pos (by simp [Region.wanted])]
  apply Exists.intro
  refine ⟨fun L wq hcl hL0 hpr hC => ?_, ?_⟩
  · have d := (hC.2.cell hlt (by simp; exact ne1)).trans e4
    go_simp
    exact upSt_value rfl (hC.other (by decide) (by decide) (by decide))
  simp only [Act.put, List.setIfInBounds_toArray, List.set_cons_zero, List.set_cons_succ]
  refine hK _ ?_
  clear hK K
  refine wpSt_step (fun K hK => ?_)
  rw [if_pos (by simp [Region.wanted])]
  apply Exists.intro
  refine ⟨fun L wq hcl hL0 hpr hC => ?_, ?_⟩
  · go_simp
    exact upSt_value rfl (hC.other (by decide) (by decide) (by decide))
  simp only [Act.put, List.setIfInBounds_toArray, List.set_cons_zero, List.set_cons_succ]
  refine hK _ ?_
  clear hK K
  refine wpSt_step (fun K hK => ?_)
  rw [if_pos (by simp [Region.wanted])]
  apply Exists.intro
  refine ⟨fun L wq hcl hL0 hpr hC => ?_, ?_⟩
  · go_simp
    exact upSt_value rfl (hC.other (by decide) (by decide) (by decide))
  simp only [Act.put, List.setIfInBounds_toArray, List.set_cons_zero, List.set_cons_succ]
  refine hK _ ?_
  clear hK K
  refine wpSt_step (fun K hK => ?_)
  rw [if_pos (by simp [Region.wanted])]
  apply Exists.intro
  refine ⟨fun L wq hcl hL0 hpr hC => ?_, ?_⟩
  · have d := hC.get5 (not_yet hcl 29 23 (by kernel_rfl) (not_yet hcl 23 17 (by kernel_rfl) hL0))
    go_simp
    exact upSt_value rfl (hC.other (by decide) (by decide) (by decide))
  simp only [Act.put, List.setIfInBounds_toArray, List.set_cons_zero, List.set_cons_succ]
  refine hK _ ?_
  clear hK K
  refine wpSt_step (fun K hK => ?_)
  rw [if_pos (by simp [Region.wanted])]
  apply Exists.intro
  refine ⟨fun L wq hcl hL0 hpr hC => ?_, ?_⟩
  · go_simp
    exact upSt_value rfl (hC.other (by decide) (by decide) (by decide))
  simp only [Act.put, List.setIfInBounds_toArray, List.set_cons_zero, List.set_cons_succ]
  refine hK _ ?_
  clear hK K
  refine wpSt_step (fun K hK => ?_)
  rw [if_pos (by simp [Region.wanted])]
  apply Exists.intro
  refine ⟨fun L wq hcl hL0 hpr hC => ?_, ?_⟩
  · go_simp
    exact upSt_value rfl (hC.other (by decide) (by decide) (by decide))
  simp only [Act.put, List.setIfInBounds_toArray, List.set_cons_zero, List.set_cons_succ]
  refine hK _ ?_
  clear hK K
  refine wpSt_step (fun K hK => ?_)
  rw [if_pos (by simp [Region.wanted])]
  apply Exists.intro
  refine ⟨fun L wq hcl hL0 hpr hC => ?_, ?_⟩
  · go_simp
    exact upSt_value rfl (hC.other (by decide) (by decide) (by decide))
  simp only [Act.put, List.setIfInBounds_toArray, List.set_cons_zero, List.set_cons_succ]
  refine hK _ ?_
  clear hK K
  refine wpSt_step (fun K hK => ?_)
  rw [if_pos (by simp [Region.wanted])]
  apply Exists.intro
  refine ⟨fun L wq hcl hL0 hpr hC => ?_, ?_⟩
  · go_simp
    exact upSt_value rfl (hC.other (by decide) (by decide) (by decide))
  simp only [Act.put, List.setIfInBounds_toArray, List.set_cons_zero, List.set_cons_succ]
  refine hK _ ?_
  clear hK K
  refine wpSt_step (fun K hK => ?_)
  rw [if_pos (by simp [Region.wanted])]
  apply Exists.intro
  refine ⟨fun L wq hcl hL0 hpr hC => ?_, ?_⟩
  · have d := (hC.2.cell hlt (by simp; exact ne1)).trans e5
    go_simp
    exact upSt_value rfl (hC.other (by decide) (by decide) (by decide))
  simp only [Act.put, List.setIfInBounds_toArray, List.set_cons_zero, List.set_cons_succ]
  refine hK _ ?_
  clear hK K
  refine wpSt_step (fun K hK => ?_)
  rw [if_pos (by simp [Region.wanted])]
  apply Exists.intro
  refine ⟨fun L wq hcl hL0 hpr hC => ?_, ?_⟩
  · go_simp
    exact upSt_value rfl (hC.other (by decide) (by decide) (by decide))
  simp only [Act.put, List.setIfInBounds_toArray, List.set_cons_zero, List.set_cons_succ]
  refine hK _ ?_
  clear hK K
  refine wpSt_step (fun K hK => ?_)
  rw [if_pos (by simp [Region.wanted])]
  apply Exists.intro
  refine ⟨fun L wq hcl hL0 hpr hC => ?_, ?_⟩
  · go_simp
    exact upSt_value rfl (hC.other (by decide) (by decide) (by decide))
  simp only [Act.put, List.setIfInBounds_toArray, List.set_cons_zero, List.set_cons_succ]
  refine hK _ ?_
  clear hK K
  refine wpSt_step (fun K hK => ?_)
  rw [if_pos (by simp [Region.wanted])]
  apply Exists.intro
  refine ⟨fun L wq hcl hL0 hpr hC => ?_, ?_⟩
  · have p := hC.get3 hL0
    have f := hC.1.free 3
    go_simp
    exact upSt_skip hC.put3
  simp only [Act.put, List.setIfInBounds_toArray, List.set_cons_zero, List.set_cons_succ]
  refine hK _ ?_
  clear hK K
  refine wpSt_step (fun K hK => ?_)
  rw [if_pos (by simp [Region.wanted])]
  apply Exists.intro
  refine ⟨fun L wq hcl hL0 hpr hC => ?_, ?_⟩
  · go_simp
    exact upSt_value rfl (hC.other (by decide) (by decide) (by decide))
  simp only [Act.put, List.setIfInBounds_toArray, List.set_cons_zero, List.set_cons_succ]
  refine hK _ ?_
  clear hK K
  refine wpSt_step (fun K hK => ?_)
  rw [if_pos (by simp [Region.wanted])]
  apply Exists.intro
  refine ⟨fun L wq hcl hL0 hpr hC => ?_, ?_⟩
  · have p := hC.get4 hL0
    have f := hC.1.free 4
    go_simp
    exact upSt_skip hC.put4
  simp only [Act.put, List.setIfInBounds_toArray, List.set_cons_zero, List.set_cons_succ]
  refine hK _ ?_
  clear hK K
  refine wpSt_step (fun K hK => ?_)
  rw [if_pos (by simp [Region.wanted])]
  apply Exists.intro
  refine ⟨fun L wq hcl hL0 hpr hC => ?_, ?_⟩
  · go_simp
    exact upSt_value rfl (hC.other (by decide) (by decide) (by decide))
  simp only [Act.put, List.setIfInBounds_toArray, List.set_cons_zero, List.set_cons_succ]
  refine hK _ ?_
  clear hK K
  refine wpSt_step (fun K hK => ?_)
  rw [if_pos (by simp [Region.wanted])]
  apply Exists.intro
  refine ⟨fun L wq hcl hL0 hpr hC => ?_, ?_⟩
  · have p := hC.get5 hL0
    have f := hC.1.free 5
    go_simp
    exact upSt_skip hC.put5
  simp only [Act.put, List.setIfInBounds_toArray, List.set_cons_zero, List.set_cons_succ]
  refine hK _ ?_
  clear hK K
  refine wpSt_nil ?_
  intro w7 hw7
  exact hend w7 hw7.1 hw7.2
end Go.Proofs.YtdchedkhlfmpeaaDoor
