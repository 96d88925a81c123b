/- A region whose order is open and whose operations write: walked once, in the text's order, in a class of worlds told by which operations have come up. Nothing of the program. -/
import Derived.Test.YtdchedkhlfmpeaaDoorRows
import Derived.WalkKit
import Derived.BigQuiet
import Derived.Deep.QuietTactic
namespace Go.Proofs.YtdchedkhlfmpeaaDoor
open Go.RowKit

section
variable {P : Program} {ops : Array Oper} {C : (Nat → Bool) → World → Prop}

/-- Operation k has come up, too. -/
def doneL (L : Nat → Bool) (k : Nat) : Nat → Bool := fun j => if j = k then true else L j
theorem doneL_same (L : Nat → Bool) (k : Nat) : doneL L k k = true := by simp [doneL]
theorem doneL_other (L : Nat → Bool) {k j : Nat} (h : j ≠ k) : doneL L k j = L j := by simp [doneL, h]
/-- Whoever has come up came behind those that he waits for. -/
def ClosedL (ops : Array Oper) (L : Nat → Bool) : Prop := ∀ (j : Nat) o, ops[j]? = some o → L j = true → ∀ e ∈ o.after, Region.binds .any e = true → L e.on = true
def PredIn (o : Oper) (L : Nat → Bool) : Prop := ∀ e ∈ o.after, Region.binds .any e = true → L e.on = true
/-- What is asked of an operation's run: the one value, and a world of the next class. -/
def upSt (P : Program) (D : World → Prop) (v : Value) : Result Next → Prop
  | .ok (.value u) w' => u = v ∧ D w'
  | .ok .skip w' => v = undef ∧ D w'
  | .ok (.enter f args) w' => Calls P f args w' (fun e w'' => e = .returned v ∧ D w'')
  | _ => False
def stepSt (P : Program) (ops : Array Oper) (C : (Nat → Bool) → World → Prop) (k : Nat) (o : Oper) (a : Act) (v : Value) : Prop :=
  ∀ L w, ClosedL ops L → L k = false → PredIn o L → C L w → upSt P (C (doneL L k)) v ((execOp a.eval o).run P w)
def skipSt (ops : Array Oper) (C : (Nat → Bool) → World → Prop) (k : Nat) (o : Oper) : Prop := ∀ L w, ClosedL ops L → L k = false → PredIn o L → C L w → C (doneL L k) w
/-- The walk in the text's order. -/
def wpSt (P : Program) (ops : Array Oper) (C : (Nat → Bool) → World → Prop) (Q : Act → Prop) : Nat → List Oper → Act → Prop
  | _, [], a => Q a
  | k, o :: rest, a => if Region.wanted o (yielded ops a.tmps) then ∃ v, stepSt P ops C k o a v ∧ wpSt P ops C Q (k + 1) rest (a.put o.dst v) else skipSt ops C k o ∧ wpSt P ops C Q (k + 1) rest (a.put o.dst undef)
def sOp (P : Program) (ops : Array Oper) (C : (Nat → Bool) → World → Prop) (i : Nat) (K : Act → Prop) (a : Act) : Prop :=
  match ops[i]? with
  | none => K a
  | some o => if Region.wanted o (yielded ops a.tmps) then ∃ v, stepSt P ops C i o a v ∧ K (a.put o.dst v) else skipSt ops C i o ∧ K (a.put o.dst undef)
theorem sOp_mono {i : Nat} {a : Act} {K K' : Act → Prop} (h : ∀ a, K a → K' a) (hh : sOp P ops C i K a) : sOp P ops C i K' a := by
  unfold sOp at *
  split
  · exact h _ (by simpa [*] using hh)
  · rename_i o ho
    simp only [ho] at hh
    split
    · rename_i hw; simp only [hw, if_true] at hh; exact ⟨hh.choose, hh.choose_spec.1, h _ hh.choose_spec.2⟩
    · rename_i hw; simp only [hw] at hh; exact ⟨hh.1, h _ hh.2⟩
def wpAnyT (P : Program) (ops : Array Oper) (C : (Nat → Bool) → World → Prop) (Q : Act → Prop) : Nat → Array Bool → Act → Prop
  | 0, listed, a => Region.ready .any ops listed = [] ∧ Q a
  | fuel + 1, listed, a =>
    (Region.ready .any ops listed = [] → Q a) ∧
    ∀ i ∈ Region.ready .any ops listed, sOp P ops C i (wpAnyT P ops C Q fuel (listed.setIfInBounds i true)) a
/-- Which have come up. -/
def lOf (listed : Array Bool) : Nat → Bool := fun j => listed.getD j false
theorem lOf_set {listed : Array Bool} {i : Nat} (h : listed.getD i true = false) : lOf (listed.setIfInBounds i true) = doneL (lOf listed) i := by
  have hlt : i < listed.size := by
    rcases Nat.lt_or_ge i listed.size with h' | h'
    · exact h'
    · simp [Array.getElem?_eq_none h'] at h
  funext j
  unfold lOf doneL
  by_cases e : j = i
  · subst e; simp [hlt]
  · rw [if_neg e, getD_set_ne false (Ne.symm e)]
theorem lOf_false {listed : Array Bool} {i : Nat} (h : listed.getD i true = false) : lOf listed i = false := by
  unfold lOf
  have hlt : i < listed.size := by
    rcases Nat.lt_or_ge i listed.size with h' | h'
    · exact h'
    · simp [Array.getElem?_eq_none h'] at h
  simpa [hlt] using h
theorem ClosedL.step {listed : Array Bool} {i : Nat} (hc : ClosedL ops (lOf listed)) (hr : i ∈ Region.ready .any ops listed) : ClosedL ops (lOf (listed.setIfInBounds i true)) := by
  obtain ⟨h0, o, ho, hall⟩ := mem_ready.1 hr
  intro j oj hj hL e he hb
  unfold lOf at *
  by_cases e1 : j = i
  · subst e1
    rw [ho] at hj
    cases hj
    exact getD_set_true (hall e he hb)
  · rw [getD_set_ne false (Ne.symm e1)] at hL
    exact getD_set_true (hc j oj hj hL e he hb)
theorem wpOp_of_sOp {i : Nat} {a : Act} {K : Act → Prop} {K' : Act → World → Prop} {Q' : Exit → Act → World → Prop} {w : World} {listed : Array Bool} (hr : i ∈ Region.ready .any ops listed) (hcl : ClosedL ops (lOf listed)) (hC : C (lOf listed) w)
    (h : ∀ a w', C (lOf (listed.setIfInBounds i true)) w' → K a → K' a w') (hh : sOp P ops C i K a) : wpOp P ops Q' i K' a w := by
  obtain ⟨h0, o, ho, hall⟩ := mem_ready.1 hr
  unfold sOp at hh
  unfold wpOp
  simp only [ho] at hh ⊢
  rw [lOf_set h0] at h
  have hp : PredIn o (lOf listed) := hall
  split
  · rename_i hw
    simp only [hw, if_true] at hh
    obtain ⟨v, h1, h2⟩ := hh
    have h3 := h1 _ w hcl (lOf_false h0) hp hC
    refine .inl ?_
    unfold Oper.wp
    generalize (execOp a.eval o).run P w = r at *
    cases r with
    | ok n w' =>
      cases n <;> simp only [upSt] at h3 <;> simp only [Oper.upon]
      case value u =>
        obtain ⟨e1, e2⟩ := h3
        subst e1
        exact h _ _ e2 h2
      case skip =>
        obtain ⟨e1, e2⟩ := h3
        subst e1
        exact h _ _ e2 h2
      case enter f args => exact Calls.mono h3 fun e w'' ⟨he, hw''⟩ => by subst he; exact h _ _ hw'' h2
    | halt x w' => simp only [upSt] at h3
  · rename_i hw
    simp only [hw] at hh
    exact h _ _ (hh.1 _ w hcl (lOf_false h0) hp hC) hh.2
theorem wpAny_of_st {Q : Act → Prop} {Q' : Exit → Act → World → Prop} (hQ : ∀ a w listed, listed.size = ops.size → Region.ready .any ops listed = [] → C (lOf listed) w → Q a → Q' .normal a w) : ∀ (fuel : Nat) (listed : Array Bool) (a : Act) (w : World), listed.size = ops.size → ClosedL ops (lOf listed) → C (lOf listed) w →
    wpAnyT P ops C Q fuel listed a → wpAny P .any ops Q' fuel listed a w
  | 0, _, _, _, hs, _, hw, h => ⟨h.1, hQ _ _ _ hs h.1 hw h.2⟩
  | fuel + 1, listed, _, _, hs, hc, hw, h => ⟨fun h0 => hQ _ _ _ hs h0 hw (h.1 h0), fun i hi => wpOp_of_sOp hi hc hw (fun a' w' hw' => wpAny_of_st hQ fuel _ a' w' (by simpa using hs) (hc.step hi) hw') (h.2 i hi)⟩
def YieldsT (P : Program) (ops : Array Oper) (C : (Nat → Bool) → World → Prop) (i : Nat) (o : Oper) (v : Value) (a : Act) : Prop :=
  (Region.wanted o (yielded ops a.tmps) = true ∧ stepSt P ops C i o a v) ∨ (Region.wanted o (yielded ops a.tmps) = false ∧ skipSt ops C i o ∧ v = undef)
theorem YieldsT.sOp {i : Nat} {o : Oper} {v : Value} {a : Act} (hi : ops[i]? = some o) (hy : YieldsT P ops C i o v a) {K : Act → Prop} (h : K (a.put o.dst v)) : sOp P ops C i K a := by
  unfold Go.Proofs.YtdchedkhlfmpeaaDoor.sOp
  simp only [hi]
  rcases hy with ⟨hw, hv⟩ | ⟨hw, hs, rfl⟩
  · simp only [hw, if_true]; exact ⟨v, hv, h⟩
  · simp only [hw, Bool.false_eq_true, if_false]; exact ⟨hs, h⟩
theorem YieldsT.of_same {i : Nat} {o : Oper} {v : Value} {a a' : Act} (hy : YieldsT P ops C i o v a) (he : execOp a'.eval o = execOp a.eval o)
    (hw : Region.wanted o (yielded ops a'.tmps) = Region.wanted o (yielded ops a.tmps)) : YieldsT P ops C i o v a' := by
  unfold YieldsT stepSt at *
  rw [he, hw]
  exact hy
theorem yieldsT_of_sOp {i : Nat} {o : Oper} {a : Act} {K : Act → Prop} (hi : ops[i]? = some o) (h : sOp P ops C i K a) : ∃ v, YieldsT P ops C i o v a ∧ K (a.put o.dst v) := by
  unfold sOp at h
  simp only [hi] at h
  by_cases hw : Region.wanted o (yielded ops a.tmps) = true
  · simp only [hw, if_true] at h
    obtain ⟨v, h1, h2⟩ := h
    exact ⟨v, .inl ⟨hw, h1⟩, h2⟩
  · simp only [hw] at h
    exact ⟨undef, .inr ⟨by simpa using hw, h.1, rfl⟩, h.2⟩
theorem sOp_put {i j : Nat} {oi oj : Oper} {v : Value} (hj : ops[j]? = some oj) (hap : oi.apart ops oj = true)
    (hsi : ∀ cs b, oi.op ≠ .select cs b) (hsj : ∀ cs b, oj.op ≠ .select cs b) {K : Act → Prop} {a : Act}
    (hy : YieldsT P ops C i oi v a) (h : sOp P ops C j K (a.put oi.dst v)) :
    sOp P ops C j (fun a' => YieldsT P ops C i oi v a' ∧ K (a'.put oi.dst v)) a := by
  obtain ⟨h1, h2, h3⟩ := Oper.apart_spec hap
  have keep : ∀ (a : Act), YieldsT P ops C i oi v a → ∀ u, YieldsT P ops C i oi v (a.put oj.dst u) := fun a hy u =>
    hy.of_same (execOp_put oi hsi a oj.dst u h3) (wanted_put oi a oj.dst u h3)
  unfold sOp at *
  simp only [hj] at *
  rw [wanted_put oj a oi.dst v h1] at h
  split
  · rename_i hw
    simp only [hw, if_true] at h
    obtain ⟨u, hu, hn⟩ := h
    refine ⟨u, fun L w a1 a2 a3 a4 => ?_, keep a hy u, by rw [← Act.put_comm a v u h2]; exact hn⟩
    have := hu L w a1 a2 a3 a4
    rwa [execOp_put oj hsj a oi.dst v h1] at this
  · rename_i hw
    simp only [hw] at h
    exact ⟨h.1, keep a hy _, by rw [← Act.put_comm a v undef h2]; exact h.2⟩
theorem wpAnyT_first {Q : Act → Prop} {i : Nat} {oi : Oper} {v : Value} (hi : ops[i]? = some oi) (hsel : ∀ (j : Nat) (o : Oper) cs b, ops[j]? = some o → o.op ≠ .select cs b) :
    ∀ (fuel : Nat) (listed : Array Bool) (a : Act),
      (∀ j oj, ops[j]? = some oj → j ≠ i → listed.getD j true = false → (∀ e ∈ oj.after, Region.binds .any e = true → e.on ≠ i) → oi.apart ops oj = true) →
      i ∈ Region.ready .any ops listed → YieldsT P ops C i oi v a →
      wpAnyT P ops C Q fuel (listed.setIfInBounds i true) (a.put oi.dst v) → wpAnyT P ops C Q (fuel + 1) listed a := by
  intro fuel
  induction fuel with
  | zero =>
    intro listed a _ hr hy H
    refine ⟨fun h => (by rw [h] at hr; cases hr), fun j hj => ?_⟩
    by_cases hji : j = i
    · subst hji; exact hy.sOp hi H
    · have := ready_mono hj hji
      rw [H.1] at this
      cases this
  | succ fuel ih =>
    intro listed a hfree hr hy H
    refine ⟨fun h => (by rw [h] at hr; cases hr), fun j hj => ?_⟩
    by_cases hji : j = i
    · subst hji; exact hy.sOp hi H
    · have h1 := H.2 j (ready_mono hj hji)
      obtain ⟨hjun, oj, hoj, hall⟩ := mem_ready.1 hj
      have hnot : ∀ e ∈ oj.after, Region.binds .any e = true → e.on ≠ i := fun e he hb heq => by
        have h1 := hall e he hb
        have h0 := (mem_ready.1 hr).1
        rw [heq] at h1
        rcases Nat.lt_or_ge i listed.size with h' | h'
        · simp [h'] at h0 h1; rw [h0] at h1; cases h1
        · simp [Array.getElem?_eq_none h'] at h1
      have h2 := sOp_put hoj (hfree j oj hoj hji hjun hnot) (fun cs b => hsel i oi cs b hi) (fun cs b => hsel j oj cs b hoj) hy h1
      have hfree' : ∀ k ok, ops[k]? = some ok → k ≠ i → (listed.setIfInBounds j true).getD k true = false →
          (∀ e ∈ ok.after, Region.binds .any e = true → e.on ≠ i) → oi.apart ops ok = true := fun k ok hk hki hun hno => by
        refine hfree k ok hk hki ?_ hno
        by_cases hjk : j = k
        · subst hjk; exact hjun
        · rw [getD_set_ne true hjk] at hun; exact hun
      refine sOp_mono (fun a' h3 => ih (listed.setIfInBounds j true) a' hfree' (ready_mono hr (Ne.symm hji)) h3.1 ?_) h2
      rw [Array.setIfInBounds_comm _ _ hji]
      exact h3.2
theorem wpAnyT_lex {Q : Act → Prop} (hs : Region.noSelect ops = true) : ∀ (l : List Oper) (k : Nat) (listed : Array Bool) (a : Act), (∀ j, l[j]? = ops[k + j]?) →
    Region.lexFrom .any ops l.length k listed = true → wpSt P ops C Q k l a → wpAnyT P ops C Q l.length listed a
  | [], _, _, _, _, hB, h => ⟨by simpa [Region.lexFrom] using hB, h⟩
  | o :: l, k, listed, a, hl, hB, h => by
    have h0 : ops[k]? = some o := by simpa using (hl 0).symm
    simp only [List.length_cons, Region.lexFrom, Bool.and_eq_true] at hB
    obtain ⟨⟨hr, hf⟩, hB'⟩ := hB
    have hst : sOp P ops C k (wpSt P ops C Q (k + 1) l) a := by unfold sOp; simp only [h0]; exact h
    obtain ⟨v, hy, hK⟩ := yieldsT_of_sOp h0 hst
    exact wpAnyT_first h0 (Region.noSelect_spec hs) l.length listed a (Region.free_spec h0 hf) (by simpa using hr) hy
      (wpAnyT_lex hs l (k + 1) _ _ (fun j => by have := hl (j + 1); simpa [Nat.add_assoc, Nat.add_comm 1 j] using this) hB' hK)
/-- Each waits for those ahead of it alone. -/
def backB (ops : Array Oper) : Bool := (List.range ops.size).all fun k => match ops[k]? with
  | some o => o.after.all fun e => !Region.binds .any e || decide (e.on < k)
  | none => true
theorem all_listed (hb : backB ops = true) {listed : Array Bool} (hs : listed.size = ops.size) (hr : Region.ready .any ops listed = []) : lOf listed = fun j => decide (j < ops.size) := by
  have key : ∀ n k, k < n → k < ops.size → lOf listed k = true := by
    intro n
    induction n with
    | zero => intro k h; omega
    | succ n ih =>
      intro k h hk
      have hlt : k < listed.size := by omega
      cases hl : lOf listed k with
      | true => rfl
      | false =>
        exfalso
        have hmem : k ∈ Region.ready .any ops listed := by
          rw [mem_ready]
          refine ⟨by unfold lOf at hl; simpa [hlt] using hl, ops[k], Array.getElem?_eq_getElem hk, fun e he hbn => ?_⟩
          unfold backB at hb
          rw [List.all_eq_true] at hb
          have h1 := hb k (List.mem_range.2 hk)
          rw [Array.getElem?_eq_getElem hk] at h1
          simp only [Array.all_eq_true_iff_forall_mem] at h1
          have h2 := h1 e he
          simp only [hbn, Bool.not_true, Bool.false_or, decide_eq_true_eq] at h2
          exact ih e.on (by omega) (by omega)
        rw [hr] at hmem
        cases hmem
  funext j
  by_cases h : j < ops.size
  · rw [key (j + 1) j (by omega) h]; simp [h]
  · unfold lOf; simp [h, hs]
/-- One walk in the text's order serves every order. -/
theorem wp_region_stages {id : Nat} {Q : Exit → Act → World → Prop} {a : Act} {w : World} {l : List Oper} (C : (Nat → Bool) → World → Prop) (hm : P.follows .mixedOrders = true) (hB : Region.lexB .any l.toArray = true) (hb : backB l.toArray = true) (hC : C (fun _ => false) w.drew)
    (h : wpSt P l.toArray C (fun a' => ∀ w', C (fun j => decide (j < l.length)) w' → Q .normal a' w') 0 l a) : (Code.region id l.toArray true).wp P Q a w := by
  simp only [Region.lexB, Bool.and_eq_true] at hB
  have e0 : lOf (Array.replicate l.toArray.size false) = fun _ => false := by
    funext j; unfold lOf; simp [Array.getD]
  refine wp_region_any hm (wpAny_of_st (C := C) (Q := fun a' => ∀ w', C (fun j => decide (j < l.length)) w' → Q .normal a' w') (fun a w' listed hs hr hw' h => h w' ?_) _ _ _ _ (by simp) ?_ ?_ ?_)
  · rw [all_listed hb hs hr] at hw'
    simpa using hw'
  · rw [e0]; intro j o _ hL; cases hL
  · rw [e0]; exact hC
  · have := wpAnyT_lex (P := P) (C := C) (ops := l.toArray) hB.1 l 0 (Array.replicate l.toArray.size false) a (by simp) (by simpa using hB.2) h
    simpa using this
theorem upSt_value {D : World → Prop} {u v : Value} {w' : World} (h : u = v) (hd : D w') : upSt P D v (.ok (.value u) w') := ⟨h, hd⟩
theorem upSt_skip {D : World → Prop} {w' : World} (hd : D w') : upSt P D undef (.ok .skip w') := ⟨rfl, hd⟩
theorem upSt_enter {D : World → Prop} {v : Value} {w' : World} {f : FuncId} {args : Array Value} (h : Calls P f args w' (fun e w'' => e = .returned v ∧ D w'')) : upSt P D v (.ok (.enter f args) w') := h
theorem wpSt_nil {Q : Act → Prop} {a : Act} {k : Nat} (h : Q a) : wpSt P ops C Q k [] a := h
/-- One operation at a time, what follows behind a variable. -/
theorem wpSt_step {Q : Act → Prop} {a : Act} {o : Oper} {rest : List Oper} {k : Nat}
    (h : ∀ K : Act → Prop, (∀ a, wpSt P ops C Q (k + 1) rest a → K a) → if Region.wanted o (yielded ops a.tmps) then ∃ v, stepSt P ops C k o a v ∧ K (a.put o.dst v) else skipSt ops C k o ∧ K (a.put o.dst undef)) : wpSt P ops C Q k (o :: rest) a :=
  h _ (fun _ h => h)
end
end Go.Proofs.YtdchedkhlfmpeaaDoor
