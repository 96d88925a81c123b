/- Several texts in one. -/
import Derived.Test.YtfhhkmjjifbfeaaGreatDoorRows
import Derived.WalkKit
import Derived.BigQuiet
import Derived.Deep.QuietTactic
import Derived.Test.YtfhhkmjjifbfeaaGreatDoorLoB
import Derived.Test.YtfhhkmjjifbfeaaGreatDoorClass
import Derived.Deep.RegionHeld3
import Derived.BigRegion
import Derived.ProofKit
import Derived.Handy
import Derived.WalkLawsBesides
import Derived.WalkSpells
import Derived.Lib.Hide
import Derived.Lib.SliceRun
import Derived.Deep.RegionLaw
import Derived.RegionTactic
import Derived.ChangeAlike
import Derived.WalkSmall
import Derived.OwnWalk
import Derived.Outline
import Derived.Deep.CutRange
import Derived.Deep.CutBlock
import Derived.LoopTactic
/- A region whose order is open and whose operations write: walked once, in the text's order, in a class of worlds told by which operations have come up. Nothing of the program. -/
namespace Go.Proofs.YtfhhkmjjifbfeaaGreatDoor
open Go.RowKit

section
variable {P : Program} {ops : Array Oper} {C : (Nat → Bool) → World → Prop}

/-- Operation k has come up, too. -/
def doneL (L : Nat → Bool) (k : Nat) : Nat → Bool := fun j => if j = k then true else L j
theorem doneL_same (L : Nat → Bool) (k : Nat) : doneL L k k = true := by simp [doneL]
theorem doneL_other (L : Nat → Bool) {k j : Nat} (h : j ≠ k) : doneL L k j = L j := by simp [doneL, h]
/-- Whoever has come up came behind those that he waits for. -/
def ClosedL (ops : Array Oper) (L : Nat → Bool) : Prop := ∀ (j : Nat) o, ops[j]? = some o → L j = true → ∀ e ∈ o.after, Region.binds .any e = true → L e.on = true
def PredIn (o : Oper) (L : Nat → Bool) : Prop := ∀ e ∈ o.after, Region.binds .any e = true → L e.on = true
/-- What is asked of an operation's run: the one value, and a world of the next class. -/
def upSt (P : Program) (D : World → Prop) (v : Value) : Result Next → Prop
  | .ok (.value u) w' => u = v ∧ D w'
  | .ok .skip w' => v = undef ∧ D w'
  | .ok (.enter f args) w' => Calls P f args w' (fun e w'' => e = .returned v ∧ D w'')
  | _ => False
def stepSt (P : Program) (ops : Array Oper) (C : (Nat → Bool) → World → Prop) (k : Nat) (o : Oper) (a : Act) (v : Value) : Prop :=
  ∀ L w, ClosedL ops L → L k = false → PredIn o L → C L w → upSt P (C (doneL L k)) v ((execOp a.eval o).run P w)
def skipSt (ops : Array Oper) (C : (Nat → Bool) → World → Prop) (k : Nat) (o : Oper) : Prop := ∀ L w, ClosedL ops L → L k = false → PredIn o L → C L w → C (doneL L k) w
/-- The walk in the text's order. -/
def wpSt (P : Program) (ops : Array Oper) (C : (Nat → Bool) → World → Prop) (Q : Act → Prop) : Nat → List Oper → Act → Prop
  | _, [], a => Q a
  | k, o :: rest, a => if Region.wanted o (yielded ops a.tmps) then ∃ v, stepSt P ops C k o a v ∧ wpSt P ops C Q (k + 1) rest (a.put o.dst v) else skipSt ops C k o ∧ wpSt P ops C Q (k + 1) rest (a.put o.dst undef)
def sOp (P : Program) (ops : Array Oper) (C : (Nat → Bool) → World → Prop) (i : Nat) (K : Act → Prop) (a : Act) : Prop :=
  match ops[i]? with
  | none => K a
  | some o => if Region.wanted o (yielded ops a.tmps) then ∃ v, stepSt P ops C i o a v ∧ K (a.put o.dst v) else skipSt ops C i o ∧ K (a.put o.dst undef)
theorem sOp_mono {i : Nat} {a : Act} {K K' : Act → Prop} (h : ∀ a, K a → K' a) (hh : sOp P ops C i K a) : sOp P ops C i K' a := by
  unfold sOp at *
  split
  · exact h _ (by simpa [*] using hh)
  · rename_i o ho
    simp only [ho] at hh
    split
    · rename_i hw; simp only [hw, if_true] at hh; exact ⟨hh.choose, hh.choose_spec.1, h _ hh.choose_spec.2⟩
    · rename_i hw; simp only [hw] at hh; exact ⟨hh.1, h _ hh.2⟩
def wpAnyT (P : Program) (ops : Array Oper) (C : (Nat → Bool) → World → Prop) (Q : Act → Prop) : Nat → Array Bool → Act → Prop
  | 0, listed, a => Region.ready .any ops listed = [] ∧ Q a
  | fuel + 1, listed, a =>
    (Region.ready .any ops listed = [] → Q a) ∧
    ∀ i ∈ Region.ready .any ops listed, sOp P ops C i (wpAnyT P ops C Q fuel (listed.setIfInBounds i true)) a
/-- Which have come up. -/
def lOf (listed : Array Bool) : Nat → Bool := fun j => listed.getD j false
theorem lOf_set {listed : Array Bool} {i : Nat} (h : listed.getD i true = false) : lOf (listed.setIfInBounds i true) = doneL (lOf listed) i := by
  have hlt : i < listed.size := by
    rcases Nat.lt_or_ge i listed.size with h' | h'
    · exact h'
    · simp [Array.getElem?_eq_none h'] at h
  funext j
  unfold lOf doneL
  by_cases e : j = i
  · subst e; simp [hlt]
  · rw [if_neg e, getD_set_ne false (Ne.symm e)]
theorem lOf_false {listed : Array Bool} {i : Nat} (h : listed.getD i true = false) : lOf listed i = false := by
  unfold lOf
  have hlt : i < listed.size := by
    rcases Nat.lt_or_ge i listed.size with h' | h'
    · exact h'
    · simp [Array.getElem?_eq_none h'] at h
  simpa [hlt] using h
theorem ClosedL.step {listed : Array Bool} {i : Nat} (hc : ClosedL ops (lOf listed)) (hr : i ∈ Region.ready .any ops listed) : ClosedL ops (lOf (listed.setIfInBounds i true)) := by
  obtain ⟨h0, o, ho, hall⟩ := mem_ready.1 hr
  intro j oj hj hL e he hb
  unfold lOf at *
  by_cases e1 : j = i
  · subst e1
    rw [ho] at hj
    cases hj
    exact getD_set_true (hall e he hb)
  · rw [getD_set_ne false (Ne.symm e1)] at hL
    exact getD_set_true (hc j oj hj hL e he hb)
theorem wpOp_of_sOp {i : Nat} {a : Act} {K : Act → Prop} {K' : Act → World → Prop} {Q' : Exit → Act → World → Prop} {w : World} {listed : Array Bool} (hr : i ∈ Region.ready .any ops listed) (hcl : ClosedL ops (lOf listed)) (hC : C (lOf listed) w)
    (h : ∀ a w', C (lOf (listed.setIfInBounds i true)) w' → K a → K' a w') (hh : sOp P ops C i K a) : wpOp P ops Q' i K' a w := by
  obtain ⟨h0, o, ho, hall⟩ := mem_ready.1 hr
  unfold sOp at hh
  unfold wpOp
  simp only [ho] at hh ⊢
  rw [lOf_set h0] at h
  have hp : PredIn o (lOf listed) := hall
  split
  · rename_i hw
    simp only [hw, if_true] at hh
    obtain ⟨v, h1, h2⟩ := hh
    have h3 := h1 _ w hcl (lOf_false h0) hp hC
    refine .inl ?_
    unfold Oper.wp
    generalize (execOp a.eval o).run P w = r at *
    cases r with
    | ok n w' =>
      cases n <;> simp only [upSt] at h3 <;> simp only [Oper.upon]
      case value u =>
        obtain ⟨e1, e2⟩ := h3
        subst e1
        exact h _ _ e2 h2
      case skip =>
        obtain ⟨e1, e2⟩ := h3
        subst e1
        exact h _ _ e2 h2
      case enter f args => exact Calls.mono h3 fun e w'' ⟨he, hw''⟩ => by subst he; exact h _ _ hw'' h2
    | halt x w' => simp only [upSt] at h3
  · rename_i hw
    simp only [hw] at hh
    exact h _ _ (hh.1 _ w hcl (lOf_false h0) hp hC) hh.2
theorem wpAny_of_st {Q : Act → Prop} {Q' : Exit → Act → World → Prop} (hQ : ∀ a w listed, listed.size = ops.size → Region.ready .any ops listed = [] → C (lOf listed) w → Q a → Q' .normal a w) : ∀ (fuel : Nat) (listed : Array Bool) (a : Act) (w : World), listed.size = ops.size → ClosedL ops (lOf listed) → C (lOf listed) w →
    wpAnyT P ops C Q fuel listed a → wpAny P .any ops Q' fuel listed a w
  | 0, _, _, _, hs, _, hw, h => ⟨h.1, hQ _ _ _ hs h.1 hw h.2⟩
  | fuel + 1, listed, _, _, hs, hc, hw, h => ⟨fun h0 => hQ _ _ _ hs h0 hw (h.1 h0), fun i hi => wpOp_of_sOp hi hc hw (fun a' w' hw' => wpAny_of_st hQ fuel _ a' w' (by simpa using hs) (hc.step hi) hw') (h.2 i hi)⟩
def YieldsT (P : Program) (ops : Array Oper) (C : (Nat → Bool) → World → Prop) (i : Nat) (o : Oper) (v : Value) (a : Act) : Prop :=
  (Region.wanted o (yielded ops a.tmps) = true ∧ stepSt P ops C i o a v) ∨ (Region.wanted o (yielded ops a.tmps) = false ∧ skipSt ops C i o ∧ v = undef)
theorem YieldsT.sOp {i : Nat} {o : Oper} {v : Value} {a : Act} (hi : ops[i]? = some o) (hy : YieldsT P ops C i o v a) {K : Act → Prop} (h : K (a.put o.dst v)) : sOp P ops C i K a := by
  unfold Go.Proofs.YtfhhkmjjifbfeaaGreatDoor.sOp
  simp only [hi]
  rcases hy with ⟨hw, hv⟩ | ⟨hw, hs, rfl⟩
  · simp only [hw, if_true]; exact ⟨v, hv, h⟩
  · simp only [hw, Bool.false_eq_true, if_false]; exact ⟨hs, h⟩
theorem YieldsT.of_same {i : Nat} {o : Oper} {v : Value} {a a' : Act} (hy : YieldsT P ops C i o v a) (he : execOp a'.eval o = execOp a.eval o)
    (hw : Region.wanted o (yielded ops a'.tmps) = Region.wanted o (yielded ops a.tmps)) : YieldsT P ops C i o v a' := by
  unfold YieldsT stepSt at *
  rw [he, hw]
  exact hy
theorem yieldsT_of_sOp {i : Nat} {o : Oper} {a : Act} {K : Act → Prop} (hi : ops[i]? = some o) (h : sOp P ops C i K a) : ∃ v, YieldsT P ops C i o v a ∧ K (a.put o.dst v) := by
  unfold sOp at h
  simp only [hi] at h
  by_cases hw : Region.wanted o (yielded ops a.tmps) = true
  · simp only [hw, if_true] at h
    obtain ⟨v, h1, h2⟩ := h
    exact ⟨v, .inl ⟨hw, h1⟩, h2⟩
  · simp only [hw] at h
    exact ⟨undef, .inr ⟨by simpa using hw, h.1, rfl⟩, h.2⟩
theorem sOp_put {i j : Nat} {oi oj : Oper} {v : Value} (hj : ops[j]? = some oj) (hap : oi.apart ops oj = true)
    (hsi : ∀ cs b, oi.op ≠ .select cs b) (hsj : ∀ cs b, oj.op ≠ .select cs b) {K : Act → Prop} {a : Act}
    (hy : YieldsT P ops C i oi v a) (h : sOp P ops C j K (a.put oi.dst v)) :
    sOp P ops C j (fun a' => YieldsT P ops C i oi v a' ∧ K (a'.put oi.dst v)) a := by
  obtain ⟨h1, h2, h3⟩ := Oper.apart_spec hap
  have keep : ∀ (a : Act), YieldsT P ops C i oi v a → ∀ u, YieldsT P ops C i oi v (a.put oj.dst u) := fun a hy u =>
    hy.of_same (execOp_put oi hsi a oj.dst u h3) (wanted_put oi a oj.dst u h3)
  unfold sOp at *
  simp only [hj] at *
  rw [wanted_put oj a oi.dst v h1] at h
  split
  · rename_i hw
    simp only [hw, if_true] at h
    obtain ⟨u, hu, hn⟩ := h
    refine ⟨u, fun L w a1 a2 a3 a4 => ?_, keep a hy u, by rw [← Act.put_comm a v u h2]; exact hn⟩
    have := hu L w a1 a2 a3 a4
    rwa [execOp_put oj hsj a oi.dst v h1] at this
  · rename_i hw
    simp only [hw] at h
    exact ⟨h.1, keep a hy _, by rw [← Act.put_comm a v undef h2]; exact h.2⟩
theorem wpAnyT_first {Q : Act → Prop} {i : Nat} {oi : Oper} {v : Value} (hi : ops[i]? = some oi) (hsel : ∀ (j : Nat) (o : Oper) cs b, ops[j]? = some o → o.op ≠ .select cs b) :
    ∀ (fuel : Nat) (listed : Array Bool) (a : Act),
      (∀ j oj, ops[j]? = some oj → j ≠ i → listed.getD j true = false → (∀ e ∈ oj.after, Region.binds .any e = true → e.on ≠ i) → oi.apart ops oj = true) →
      i ∈ Region.ready .any ops listed → YieldsT P ops C i oi v a →
      wpAnyT P ops C Q fuel (listed.setIfInBounds i true) (a.put oi.dst v) → wpAnyT P ops C Q (fuel + 1) listed a := by
  intro fuel
  induction fuel with
  | zero =>
    intro listed a _ hr hy H
    refine ⟨fun h => (by rw [h] at hr; cases hr), fun j hj => ?_⟩
    by_cases hji : j = i
    · subst hji; exact hy.sOp hi H
    · have := ready_mono hj hji
      rw [H.1] at this
      cases this
  | succ fuel ih =>
    intro listed a hfree hr hy H
    refine ⟨fun h => (by rw [h] at hr; cases hr), fun j hj => ?_⟩
    by_cases hji : j = i
    · subst hji; exact hy.sOp hi H
    · have h1 := H.2 j (ready_mono hj hji)
      obtain ⟨hjun, oj, hoj, hall⟩ := mem_ready.1 hj
      have hnot : ∀ e ∈ oj.after, Region.binds .any e = true → e.on ≠ i := fun e he hb heq => by
        have h1 := hall e he hb
        have h0 := (mem_ready.1 hr).1
        rw [heq] at h1
        rcases Nat.lt_or_ge i listed.size with h' | h'
        · simp [h'] at h0 h1; rw [h0] at h1; cases h1
        · simp [Array.getElem?_eq_none h'] at h1
      have h2 := sOp_put hoj (hfree j oj hoj hji hjun hnot) (fun cs b => hsel i oi cs b hi) (fun cs b => hsel j oj cs b hoj) hy h1
      have hfree' : ∀ k ok, ops[k]? = some ok → k ≠ i → (listed.setIfInBounds j true).getD k true = false →
          (∀ e ∈ ok.after, Region.binds .any e = true → e.on ≠ i) → oi.apart ops ok = true := fun k ok hk hki hun hno => by
        refine hfree k ok hk hki ?_ hno
        by_cases hjk : j = k
        · subst hjk; exact hjun
        · rw [getD_set_ne true hjk] at hun; exact hun
      refine sOp_mono (fun a' h3 => ih (listed.setIfInBounds j true) a' hfree' (ready_mono hr (Ne.symm hji)) h3.1 ?_) h2
      rw [Array.setIfInBounds_comm _ _ hji]
      exact h3.2
theorem wpAnyT_lex {Q : Act → Prop} (hs : Region.noSelect ops = true) : ∀ (l : List Oper) (k : Nat) (listed : Array Bool) (a : Act), (∀ j, l[j]? = ops[k + j]?) →
    Region.lexFrom .any ops l.length k listed = true → wpSt P ops C Q k l a → wpAnyT P ops C Q l.length listed a
  | [], _, _, _, _, hB, h => ⟨by simpa [Region.lexFrom] using hB, h⟩
  | o :: l, k, listed, a, hl, hB, h => by
    have h0 : ops[k]? = some o := by simpa using (hl 0).symm
    simp only [List.length_cons, Region.lexFrom, Bool.and_eq_true] at hB
    obtain ⟨⟨hr, hf⟩, hB'⟩ := hB
    have hst : sOp P ops C k (wpSt P ops C Q (k + 1) l) a := by unfold sOp; simp only [h0]; exact h
    obtain ⟨v, hy, hK⟩ := yieldsT_of_sOp h0 hst
    exact wpAnyT_first h0 (Region.noSelect_spec hs) l.length listed a (Region.free_spec h0 hf) (by simpa using hr) hy
      (wpAnyT_lex hs l (k + 1) _ _ (fun j => by have := hl (j + 1); simpa [Nat.add_assoc, Nat.add_comm 1 j] using this) hB' hK)
/-- Each waits for those ahead of it alone. -/
def backB (ops : Array Oper) : Bool := (List.range ops.size).all fun k => match ops[k]? with
  | some o => o.after.all fun e => !Region.binds .any e || decide (e.on < k)
  | none => true
theorem all_listed (hb : backB ops = true) {listed : Array Bool} (hs : listed.size = ops.size) (hr : Region.ready .any ops listed = []) : lOf listed = fun j => decide (j < ops.size) := by
  have key : ∀ n k, k < n → k < ops.size → lOf listed k = true := by
    intro n
    induction n with
    | zero => intro k h; omega
    | succ n ih =>
      intro k h hk
      have hlt : k < listed.size := by omega
      cases hl : lOf listed k with
      | true => rfl
      | false =>
        exfalso
        have hmem : k ∈ Region.ready .any ops listed := by
          rw [mem_ready]
          refine ⟨by unfold lOf at hl; simpa [hlt] using hl, ops[k], Array.getElem?_eq_getElem hk, fun e he hbn => ?_⟩
          unfold backB at hb
          rw [List.all_eq_true] at hb
          have h1 := hb k (List.mem_range.2 hk)
          rw [Array.getElem?_eq_getElem hk] at h1
          simp only [Array.all_eq_true_iff_forall_mem] at h1
          have h2 := h1 e he
          simp only [hbn, Bool.not_true, Bool.false_or, decide_eq_true_eq] at h2
          exact ih e.on (by omega) (by omega)
        rw [hr] at hmem
        cases hmem
  funext j
  by_cases h : j < ops.size
  · rw [key (j + 1) j (by omega) h]; simp [h]
  · unfold lOf; simp [h, hs]
/-- One walk in the text's order serves every order. -/
theorem wp_region_stages {id : Nat} {Q : Exit → Act → World → Prop} {a : Act} {w : World} {l : List Oper} (C : (Nat → Bool) → World → Prop) (hm : P.follows .mixedOrders = true) (hB : Region.lexB .any l.toArray = true) (hb : backB l.toArray = true) (hC : C (fun _ => false) w.drew)
    (h : wpSt P l.toArray C (fun a' => ∀ w', C (fun j => decide (j < l.length)) w' → Q .normal a' w') 0 l a) : (Code.region id l.toArray true).wp P Q a w := by
  simp only [Region.lexB, Bool.and_eq_true] at hB
  have e0 : lOf (Array.replicate l.toArray.size false) = fun _ => false := by
    funext j; unfold lOf; simp [Array.getD]
  refine wp_region_any hm (wpAny_of_st (C := C) (Q := fun a' => ∀ w', C (fun j => decide (j < l.length)) w' → Q .normal a' w') (fun a w' listed hs hr hw' h => h w' ?_) _ _ _ _ (by simp) ?_ ?_ ?_)
  · rw [all_listed hb hs hr] at hw'
    simpa using hw'
  · rw [e0]; intro j o _ hL; cases hL
  · rw [e0]; exact hC
  · have := wpAnyT_lex (P := P) (C := C) (ops := l.toArray) hB.1 l 0 (Array.replicate l.toArray.size false) a (by simp) (by simpa using hB.2) h
    simpa using this
theorem upSt_value {D : World → Prop} {u v : Value} {w' : World} (h : u = v) (hd : D w') : upSt P D v (.ok (.value u) w') := ⟨h, hd⟩
theorem upSt_skip {D : World → Prop} {w' : World} (hd : D w') : upSt P D undef (.ok .skip w') := ⟨rfl, hd⟩
theorem upSt_enter {D : World → Prop} {v : Value} {w' : World} {f : FuncId} {args : Array Value} (h : Calls P f args w' (fun e w'' => e = .returned v ∧ D w'')) : upSt P D v (.ok (.enter f args) w') := h
theorem wpSt_nil {Q : Act → Prop} {a : Act} {k : Nat} (h : Q a) : wpSt P ops C Q k [] a := h
/-- One operation at a time, what follows behind a variable. -/
theorem wpSt_step {Q : Act → Prop} {a : Act} {o : Oper} {rest : List Oper} {k : Nat}
    (h : ∀ K : Act → Prop, (∀ a, wpSt P ops C Q (k + 1) rest a → K a) → if Region.wanted o (yielded ops a.tmps) then ∃ v, stepSt P ops C k o a v ∧ K (a.put o.dst v) else skipSt ops C k o ∧ K (a.put o.dst undef)) : wpSt P ops C Q k (o :: rest) a :=
  h _ (fun _ h => h)
end
end Go.Proofs.YtfhhkmjjifbfeaaGreatDoor
/- A region whose order is open, whatever its operations do: what holds of it by which operations have come up, with their values, is kept by each of them. No order is named, none is walked. Nothing of the program. -/
namespace Go.Proofs.YtfhhkmjjifbfeaaGreatDoor
open Go.RowKit

section
variable {P : Program} {ops : Array Oper}

/-- One more value. -/
def upd (env : Nat → Value) (k : Nat) (v : Value) : Nat → Value := fun j => if j = k then v else env j
theorem upd_same (env : Nat → Value) (k : Nat) (v : Value) : upd env k v k = v := by simp [upd]
theorem upd_other (env : Nat → Value) {k j : Nat} (v : Value) (h : j ≠ k) : upd env k v j = env j := by simp [upd, h]
def dstOf (ops : Array Oper) (k : Nat) : Option Tmp := (ops[k]?).bind (·.dst)
/-- The slots, with the values of those that have come up. -/
def actE (ops : Array Oper) (env : Nat → Value) (L : Nat → Bool) : List Nat → Act → Act
  | [], a => a
  | k :: r, a => actE ops env L r (if L k = true then a.put (dstOf ops k) (env k) else a)
theorem actE_congr {env env' : Nat → Value} {L L' : Nat → Bool} : ∀ (r : List Nat) (a : Act), (∀ j ∈ r, env j = env' j ∧ L j = L' j) → actE ops env L r a = actE ops env' L' r a
  | [], a, _ => rfl
  | k :: r, a, h => by
    obtain ⟨h1, h2⟩ := h k (by simp)
    simp only [actE, h1, h2]
    exact actE_congr r _ fun j hj => h j (by simp [hj])
theorem actE_put {env : Nat → Value} {L : Nat → Bool} (x : Option Tmp) (u : Value) : ∀ (r : List Nat) (a : Act), (∀ j ∈ r, ∀ d, x = some d → dstOf ops j ≠ some d) → actE ops env L r (a.put x u) = (actE ops env L r a).put x u
  | [], a, _ => rfl
  | k :: r, a, h => by
    simp only [actE]
    by_cases hL : L k = true
    · rw [if_pos hL, if_pos hL, Act.put_comm a u (env k) (h k (by simp))]
      exact actE_put x u r _ fun j hj => h j (by simp [hj])
    · rw [if_neg hL, if_neg hL]
      exact actE_put x u r _ fun j hj => h j (by simp [hj])
theorem actE_done {env : Nat → Value} {L : Nat → Bool} {k : Nat} (u : Value) (hL : L k = false) : ∀ (r : List Nat) (a : Act), r.Nodup → (∀ i ∈ r, ∀ j ∈ r, i ≠ j → ∀ d, dstOf ops i = some d → dstOf ops j ≠ some d) → k ∈ r →
    actE ops (upd env k u) (doneL L k) r a = (actE ops env L r a).put (dstOf ops k) u
  | [], a, _, _, h => by cases h
  | j :: r, a, hn, hd, h => by
    have hn' := List.nodup_cons.1 hn
    by_cases e : j = k
    · subst e
      simp only [actE, doneL_same, upd_same, if_true, hL, Bool.false_eq_true, if_false]
      rw [actE_congr (env' := env) (L' := L) r _ (fun i hi => by
        have hne : i ≠ j := fun e => hn'.1 (e ▸ hi)
        exact ⟨upd_other env u hne, doneL_other L hne⟩)]
      exact actE_put _ _ r a fun i hi d hx => hd j (by simp) i (by simp [hi]) (fun e => hn'.1 (e ▸ hi)) d hx
    · have hk : k ∈ r := by
        rcases List.mem_cons.1 h with e2 | e2
        · exact absurd e2.symm e
        · exact e2
      simp only [actE, doneL_other L e, upd_other env u e]
      exact actE_done u hL r _ hn'.2 (fun i hi j hj => hd i (by simp [hi]) j (by simp [hj])) hk
theorem put_size (a : Act) (x : Option Tmp) (v : Value) : (a.put x v).tmps.size = a.tmps.size := by
  cases x <;> simp [Act.put]
theorem actE_size {env : Nat → Value} {L : Nat → Bool} : ∀ (r : List Nat) (a : Act), (actE ops env L r a).tmps.size = a.tmps.size
  | [], a => rfl
  | k :: r, a => by
    simp only [actE]
    rw [actE_size r]
    split
    · exact put_size _ _ _
    · rfl
theorem put_get_other (a : Act) {x : Option Tmp} {d : Nat} (v : Value) (h : x ≠ some d) : (a.put x v).eval (.tmp d) = a.eval (.tmp d) := by
  cases x with
  | none => rfl
  | some e =>
    have hne : e ≠ d := fun e2 => h (by rw [e2])
    simp [Act.put, Act.eval, Array.getD_eq_getD_getElem?, Array.getElem?_setIfInBounds_ne hne]
theorem actE_out {env : Nat → Value} {L : Nat → Bool} {d : Nat} : ∀ (r : List Nat) (a : Act), (∀ j ∈ r, dstOf ops j ≠ some d) → (actE ops env L r a).eval (.tmp d) = a.eval (.tmp d)
  | [], a, _ => rfl
  | k :: r, a, h => by
    simp only [actE]
    rw [actE_out r _ fun j hj => h j (by simp [hj])]
    split
    · exact put_get_other _ _ (h k (by simp))
    · rfl
theorem actE_got {env : Nat → Value} {L : Nat → Bool} {d k : Nat} (hL : L k = true) (hk : dstOf ops k = some d) : ∀ (r : List Nat) (a : Act), r.Nodup → (∀ i ∈ r, ∀ j ∈ r, i ≠ j → ∀ d, dstOf ops i = some d → dstOf ops j ≠ some d) → k ∈ r → d < a.tmps.size →
    (actE ops env L r a).eval (.tmp d) = env k
  | [], a, _, _, h, _ => by cases h
  | j :: r, a, hn, hd, h, hs => by
    have hn' := List.nodup_cons.1 hn
    by_cases e : j = k
    · subst e
      simp only [actE, hL, if_true]
      rw [actE_out r _ fun i hi => hd j (by simp) i (by simp [hi]) (fun e => hn'.1 (e ▸ hi)) d hk, hk]
      simp [Act.put, Act.eval, hs]
    · have hk' : k ∈ r := by
        rcases List.mem_cons.1 h with e2 | e2
        · exact absurd e2.symm e
        · exact e2
      simp only [actE]
      refine actE_got hL hk r _ hn'.2 (fun i hi j hj => hd i (by simp [hi]) j (by simp [hj])) hk' ?_
      split
      · rw [put_size]; exact hs
      · exact hs
/-- No two operations write one slot. -/
def dstB (ops : Array Oper) : Bool := (List.range ops.size).all fun i => (List.range ops.size).all fun j => i == j || (match dstOf ops i, dstOf ops j with | some d, some e => d != e | _, _ => true)
theorem dstB_spec (h : dstB ops = true) : ∀ i ∈ List.range ops.size, ∀ j ∈ List.range ops.size, i ≠ j → ∀ d, dstOf ops i = some d → dstOf ops j ≠ some d := by
  intro i hi j hj hne d h1 h2
  unfold dstB at h
  rw [List.all_eq_true] at h
  have h3 := h i hi
  rw [List.all_eq_true] at h3
  have h4 := h3 j hj
  rw [h1, h2] at h4
  simp at h4
  exact hne h4
/-- No operation writes that slot. -/
def outB (ops : Array Oper) (d : Nat) : Bool := (List.range ops.size).all fun j => dstOf ops j != some d
theorem outB_spec {d : Nat} (h : outB ops d = true) : ∀ j ∈ List.range ops.size, dstOf ops j ≠ some d := by
  intro j hj
  unfold outB at h
  rw [List.all_eq_true] at h
  have := h j hj
  simpa using this
theorem countP_one {α : Type} {p q : α → Bool} {i : α} : ∀ (l : List α), l.Nodup → i ∈ l → p i = true → q i = false → (∀ j ∈ l, j ≠ i → q j = p j) → l.countP q + 1 = l.countP p
  | [], _, h, _, _, _ => by cases h
  | x :: r, hn, h, h1, h2, h3 => by
    have hn' := List.nodup_cons.1 hn
    by_cases e : x = i
    · subst e
      rw [List.countP_cons_of_pos h1, List.countP_cons_of_neg (by simp [h2])]
      congr 1
      refine List.countP_congr fun j hj => ?_
      rw [h3 j (by simp [hj]) (fun e => hn'.1 (e ▸ hj))]
    · have hi : i ∈ r := by
        rcases List.mem_cons.1 h with e2 | e2
        · exact absurd e2.symm e
        · exact e2
      have ih := countP_one r hn'.2 hi h1 h2 fun j hj => h3 j (by simp [hj])
      have hx := h3 x (by simp) e
      rw [List.countP_cons, List.countP_cons, hx]
      omega
/-- How many have not come up. -/
def left (ops : Array Oper) (L : Nat → Bool) : Nat := (List.range ops.size).countP fun j => !L j
theorem left_done {L : Nat → Bool} {i : Nat} (hi : i < ops.size) (hL : L i = false) : left ops (doneL L i) + 1 = left ops L :=
  countP_one (i := i) _ List.nodup_range (List.mem_range.2 hi) (by simp [hL]) (by simp [doneL_same]) fun j _ hne => by rw [doneL_other L hne]
theorem wpAny_env {Q : Exit → Act → World → Prop} {base : Act} (C : (Nat → Value) → (Nat → Bool) → World → Prop) (hb : backB ops = true) (hd : dstB ops = true) (hg : (ops.all fun o => o.guard.isNone) = true)
    (hstep : ∀ i o, ops[i]? = some o → ∀ E env L w, ClosedL ops L → L i = false → PredIn o L → (∀ j d, L j = true → dstOf ops j = some d → d < base.tmps.size → E.eval (.tmp d) = env j) → (∀ d, outB ops d = true → E.eval (.tmp d) = base.eval (.tmp d)) →
      C env L w → Oper.wp P o E w (fun a' w' => ∃ u, a' = E.put o.dst u ∧ C (upd env i u) (doneL L i) w') Q)
    (hend : ∀ env w, C env (fun j => decide (j < ops.size)) w → Q .normal (actE ops env (fun j => decide (j < ops.size)) (List.range ops.size) base) w) :
    ∀ (fuel : Nat) (listed : Array Bool) (env : Nat → Value) (w : World), listed.size = ops.size → ClosedL ops (lOf listed) → left ops (lOf listed) ≤ fuel → C env (lOf listed) w →
      wpAny P .any ops Q fuel listed (actE ops env (lOf listed) (List.range ops.size) base) w := by
  have fin : ∀ (listed : Array Bool) (env : Nat → Value) (w : World), listed.size = ops.size → Region.ready .any ops listed = [] → C env (lOf listed) w → Q .normal (actE ops env (lOf listed) (List.range ops.size) base) w := by
    intro listed env w hs hr hC
    have e := all_listed hb hs hr
    rw [e] at hC ⊢
    exact hend env w hC
  intro fuel
  induction fuel with
  | zero =>
    intro listed env w hs hc hl hC
    have hr : Region.ready .any ops listed = [] := by
      cases hr : Region.ready .any ops listed with
      | nil => rfl
      | cons i rs =>
        exfalso
        have hi : i ∈ Region.ready .any ops listed := by rw [hr]; simp
        obtain ⟨h0, o, ho, _⟩ := mem_ready.1 hi
        have h1 : 0 < left ops (lOf listed) := List.countP_pos_iff.2 ⟨i, List.mem_range.2 (Array.getElem?_eq_some_iff.1 ho).1, by rw [lOf_false h0]; rfl⟩
        omega
    exact ⟨hr, fin listed env w hs hr hC⟩
  | succ fuel ih =>
    intro listed env w hs hc hl hC
    refine ⟨fun hr => fin listed env w hs hr hC, fun i hi => ?_⟩
    obtain ⟨h0, o, ho, hall⟩ := mem_ready.1 hi
    have hlt : i < ops.size := (Array.getElem?_eq_some_iff.1 ho).1
    have hLf := lOf_false h0
    have hnd := dstB_spec hd
    have hguard : o.guard = none := by
      rw [Array.all_eq_true_iff_forall_mem] at hg
      have := hg o (Array.mem_of_getElem? ho)
      simpa using this
    have hst := hstep i o ho (actE ops env (lOf listed) (List.range ops.size) base) env (lOf listed) w hc hLf hall
      (fun j d hj hdj hds => by
        have hjs : j < ops.size := by
          rcases Nat.lt_or_ge j ops.size with h | h
          · exact h
          · simp [dstOf, Array.getElem?_eq_none h] at hdj
        exact actE_got hj hdj _ _ List.nodup_range hnd (List.mem_range.2 hjs) hds)
      (fun d hdd => actE_out _ _ (outB_spec hdd)) hC
    unfold wpOp
    simp only [ho]
    have hw : Region.wanted o (yielded ops (actE ops env (lOf listed) (List.range ops.size) base).tmps) = true := by simp [Region.wanted, hguard]
    rw [if_pos hw]
    refine .inl (Oper.wp_mono (fun a' w' h => ?_) hst)
    obtain ⟨u, rfl, hC'⟩ := h
    have hdst : o.dst = dstOf ops i := by simp [dstOf, ho]
    rw [hdst, ← actE_done u hLf _ _ List.nodup_range hnd (List.mem_range.2 hlt), ← lOf_set h0]
    refine ih _ _ _ (by simpa using hs) (hc.step hi) ?_ (by rw [lOf_set h0]; exact hC')
    rw [lOf_set h0]
    have := left_done (ops := ops) hlt hLf
    omega
theorem wp_val {o : Oper} {a : Act} {w w' : World} {K : Act → World → Prop} {Q : Exit → Act → World → Prop} {v : Value} (h : (execOp a.eval o).run P w = .ok (.value v) w') (hK : K (a.put o.dst v) w') : Oper.wp P o a w K Q := by
  unfold Oper.wp; rw [h]; exact hK
theorem wp_skp {o : Oper} {a : Act} {w w' : World} {K : Act → World → Prop} {Q : Exit → Act → World → Prop} (h : (execOp a.eval o).run P w = .ok .skip w') (hK : K (a.put o.dst undef) w') : Oper.wp P o a w K Q := by
  unfold Oper.wp; rw [h]; exact hK
theorem envG {G : Nat → Value → Prop} {env : Nat → Value} {L : Nat → Bool} (h : ∀ j, L j = true → G j (env j)) {i : Nat} {u : Value} (hu : G i u) : ∀ j, doneL L i j = true → G j (upd env i u j) := by
  intro j hj
  by_cases e : j = i
  · subst e; rw [upd_same]; exact hu
  · rw [doneL_other L e] at hj; rw [upd_other env u e]; exact h j hj
/-- What is asked of one operation. -/
def oblE (P : Program) (ops : Array Oper) (base : Act) (C : (Nat → Value) → (Nat → Bool) → World → Prop) (Q : Exit → Act → World → Prop) (k : Nat) (o : Oper) : Prop :=
  ∀ E env L w, ClosedL ops L → L k = false → PredIn o L → (∀ j d, L j = true → dstOf ops j = some d → d < base.tmps.size → E.eval (.tmp d) = env j) → (∀ d, outB ops d = true → E.eval (.tmp d) = base.eval (.tmp d)) →
    C env L w → Oper.wp P o E w (fun a' w' => ∃ u, a' = E.put o.dst u ∧ C (upd env k u) (doneL L k) w') Q
def stepsE (P : Program) (ops : Array Oper) (base : Act) (C : (Nat → Value) → (Nat → Bool) → World → Prop) (Q : Exit → Act → World → Prop) : Nat → List Oper → Prop
  | _, [] => True
  | k, o :: r => oblE P ops base C Q k o ∧ stepsE P ops base C Q (k + 1) r
theorem stepsE_at {base : Act} {C : (Nat → Value) → (Nat → Bool) → World → Prop} {Q : Exit → Act → World → Prop} : ∀ (l : List Oper) (k : Nat), stepsE P ops base C Q k l → ∀ i o, l[i]? = some o → oblE P ops base C Q (k + i) o
  | [], _, _, i, o, h => by simp at h
  | x :: r, k, hs, 0, o, h => by
    simp at h; subst h; exact hs.1
  | x :: r, k, hs, i + 1, o, h => by
    have := stepsE_at r (k + 1) hs.2 i o (by simpa using h)
    rwa [Nat.add_assoc, Nat.add_comm 1 i] at this
/-- All have come up. -/
def putsE (env : Nat → Value) : Nat → List Oper → Act → Act
  | _, [], a => a
  | k, o :: r, a => putsE env (k + 1) r (a.put o.dst (env k))
theorem actE_all {env : Nat → Value} {l : List Oper} : ∀ (r : List Oper) (k : Nat) (a : Act), (∀ i, r[i]? = l[k + i]?) → actE l.toArray env (fun j => decide (j < l.toArray.size)) (List.range' k r.length) a = putsE env k r a
  | [], k, a, _ => rfl
  | o :: r, k, a, h => by
    have h0 : l[k]? = some o := by simpa using (h 0).symm
    have hlt : k < l.length := (List.getElem?_eq_some_iff.1 h0).1
    simp only [List.length_cons, List.range'_succ, actE, putsE]
    rw [if_pos (by simpa using hlt)]
    have hd : dstOf l.toArray k = o.dst := by simp [dstOf, h0]
    rw [hd]
    exact actE_all r (k + 1) _ fun i => by have := h (i + 1); simpa [Nat.add_assoc, Nat.add_comm 1 i] using this
/-- What is kept by each operation, whenever it comes up, holds behind the region. -/
theorem wp_region_env {id : Nat} {Q : Exit → Act → World → Prop} {base : Act} {w : World} {l : List Oper} (C : (Nat → Value) → (Nat → Bool) → World → Prop) (env0 : Nat → Value) (hm : P.follows .mixedOrders = true) (hb : backB l.toArray = true) (hd : dstB l.toArray = true) (hg : (l.toArray.all fun o => o.guard.isNone) = true)
    (h0 : C env0 (fun _ => false) w.drew)
    (hstep : stepsE P l.toArray base C Q 0 l)
    (hend : ∀ env w, C env (fun j => decide (j < l.toArray.size)) w → Q .normal (putsE env 0 l base) w) : (Code.region id l.toArray true).wp P Q base w := by
  have e0 : lOf (Array.replicate l.toArray.size false) = fun _ => false := by
    funext j; unfold lOf; simp [Array.getD]
  have hbase : ∀ (r : List Nat) (a : Act), actE l.toArray env0 (fun _ => false) r a = a := by
    intro r
    induction r with
    | nil => intro a; rfl
    | cons k r ih => intro a; simp only [actE, Bool.false_eq_true, if_false]; exact ih a
  refine wp_region_any hm ?_
  have h := wpAny_env (P := P) (ops := l.toArray) (Q := Q) (base := base) C hb hd hg (fun i o ho => by have := stepsE_at l 0 hstep i o (by simpa using ho); rw [Nat.zero_add] at this; exact this) (fun env w h => by have e := actE_all (env := env) (l := l) l 0 base (fun i => by rw [Nat.zero_add]); rw [List.size_toArray, List.range_eq_range', show (fun j => decide (j < l.length)) = (fun j => decide (j < l.toArray.size)) from rfl, e]; exact hend env w h) l.toArray.size (Array.replicate l.toArray.size false) env0 w.drew (by simp) (by rw [e0]; intro j o _ hL; cases hL) (by
    unfold left
    have := List.countP_le_length (p := fun j => !lOf (Array.replicate l.toArray.size false) j) (l := List.range l.toArray.size)
    rw [List.length_range] at this
    exact this) (by rw [e0]; exact h0)
  rw [e0, hbase] at h
  exact h
end
end Go.Proofs.YtfhhkmjjifbfeaaGreatDoor
/- Log: the first region of the document's Print. -/
namespace Go.Proofs.YtfhhkmjjifbfeaaGreatDoor
open Go.ChangeShapes Go.WideShapes Go.ChangeAt Go.RowKit
set_option linter.unusedSimpArgs false
set_option linter.unusedVariables false

theorem Lo.apl (a b : ByteArray) : (a ++ b).data.toList = a.data.toList ++ b.data.toList := by rw [ByteArray.data_append, Array.toList_append]
/-- A number behind a blank. -/
theorem Lo.sp_num {n : Int} {N : ByteArray} (h : Le.num n = N) : N.data.toList = Lib.itoa n := by rw [← h]; unfold Le.num; exact Le.t_list _
theorem Lo.num_sz {n : Int} {N : ByteArray} (h : Le.num n = N) (hn : Lo.i64 n) : N.size ≤ 30 := by
  have h1 := Lo.sp_num h
  have h2 := Lo.itoa_len hn
  have h3 : N.data.toList.length = N.size := rfl
  rw [h1] at h3
  omega
/-- The values of the first region of Print. -/
def GP (X : Nat) (i n : Int) (c6 : Value) (NA NB : ByteArray) : Nat → Value → Prop
  | 0, v => v = .pointer (some ⟨X, 1, none⟩)
  | 1, v => v = .int .i64 i
  | 2, v => v = .string NA
  | 3, v => v = .string (({ data := #[32] } : ByteArray) ++ NA)
  | 4, v => v = .pointer (some ⟨X, 2, none⟩)
  | 5, v => v = .int .i64 n
  | 6, v => v = .string NB
  | 7, v => v = .string (({ data := #[32] } : ByteArray) ++ NB)
  | 8, v => v = .pointer (some ⟨X, 6, none⟩)
  | 9, v => v = c6
  | 11, v => v = .string (({ data := #[32] } : ByteArray) ++ NA)
  | 12, v => v = .string (({ data := #[32] } : ByteArray) ++ NB)
  | _, _ => True
/-- The block that it makes. -/
def RP (w0 w : World) (X : Nat) (l10 l13 : Bool) (v10 : Value) (zs cs : List Value) (T : TypeId) : Prop := l10 = true → ∃ Y, v10 = .pointer (some ⟨Y, 0, none⟩) ∧ w0.heap.size ≤ Y ∧ Y ≠ X ∧ Blk w Y (if l13 = true then cs else zs) T
theorem RP.below {w0 w w' : World} {X : Nat} {l10 l13 : Bool} {v10 : Value} {zs cs : List Value} {T : TypeId} (h : RP w0 w X l10 l13 v10 zs cs T) (k : Below w.heap.size w w') : RP w0 w' X l10 l13 v10 zs cs T := fun e => by
  obtain ⟨Y, h1, h2, h3, h4⟩ := h e
  exact ⟨Y, h1, h2, h3, h4.chg (l := []) (Chg.of_fresh k) (by simp)⟩
end Go.Proofs.YtfhhkmjjifbfeaaGreatDoor
