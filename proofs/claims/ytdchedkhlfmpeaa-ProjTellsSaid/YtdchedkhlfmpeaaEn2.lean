/- A region whose order is open, whatever its operations do, guards and all. Nothing of the program. -/
import Derived.Test.YtdchedkhlfmpeaaEnv
namespace Go.Proofs.Ytdchedkhlfmpeaa
open Go.RowKit

section
variable {P : Program} {ops : Array Oper}

theorem wpAny_env2 {Q : Exit → Act → World → Prop} {base : Act} (C : (Nat → Value) → (Nat → Bool) → World → Prop) (hb : backB ops = true) (hd : dstB ops = true)
    (hstep : ∀ i o, ops[i]? = some o → ∀ E env L w, ClosedL ops L → L i = false → PredIn o L → (∀ j d, L j = true → dstOf ops j = some d → d < base.tmps.size → E.eval (.tmp d) = env j) → (∀ d, outB ops d = true → E.eval (.tmp d) = base.eval (.tmp d)) →
      C env L w → (Region.wanted o (yielded ops E.tmps) = true → Oper.wp P o E w (fun a' w' => ∃ u, a' = E.put o.dst u ∧ C (upd env i u) (doneL L i) w') Q) ∧ (Region.wanted o (yielded ops E.tmps) = false → C (upd env i undef) (doneL L i) w))
    (hend : ∀ env w, C env (fun j => decide (j < ops.size)) w → Q .normal (actE ops env (fun j => decide (j < ops.size)) (List.range ops.size) base) w) :
    ∀ (fuel : Nat) (listed : Array Bool) (env : Nat → Value) (w : World), listed.size = ops.size → ClosedL ops (lOf listed) → left ops (lOf listed) ≤ fuel → C env (lOf listed) w →
      wpAny P .any ops Q fuel listed (actE ops env (lOf listed) (List.range ops.size) base) w := by
  have fin : ∀ (listed : Array Bool) (env : Nat → Value) (w : World), listed.size = ops.size → Region.ready .any ops listed = [] → C env (lOf listed) w → Q .normal (actE ops env (lOf listed) (List.range ops.size) base) w := by
    intro listed env w hs hr hC
    have e := all_listed hb hs hr
    rw [e] at hC ⊢
    exact hend env w hC
  intro fuel
  induction fuel with
  | zero =>
    intro listed env w hs hc hl hC
    have hr : Region.ready .any ops listed = [] := by
      cases hr : Region.ready .any ops listed with
      | nil => rfl
      | cons i rs =>
        exfalso
        have hi : i ∈ Region.ready .any ops listed := by rw [hr]; simp
        obtain ⟨h0, o, ho, _⟩ := mem_ready.1 hi
        have h1 : 0 < left ops (lOf listed) := List.countP_pos_iff.2 ⟨i, List.mem_range.2 (Array.getElem?_eq_some_iff.1 ho).1, by rw [lOf_false h0]; rfl⟩
        omega
    exact ⟨hr, fin listed env w hs hr hC⟩
  | succ fuel ih =>
    intro listed env w hs hc hl hC
    refine ⟨fun hr => fin listed env w hs hr hC, fun i hi => ?_⟩
    obtain ⟨h0, o, ho, hall⟩ := mem_ready.1 hi
    have hlt : i < ops.size := (Array.getElem?_eq_some_iff.1 ho).1
    have hLf := lOf_false h0
    have hnd := dstB_spec hd
    have hst := hstep i o ho (actE ops env (lOf listed) (List.range ops.size) base) env (lOf listed) w hc hLf hall
      (fun j d hj hdj hds => by
        have hjs : j < ops.size := by
          rcases Nat.lt_or_ge j ops.size with h | h
          · exact h
          · simp [dstOf, Array.getElem?_eq_none h] at hdj
        exact actE_got hj hdj _ _ List.nodup_range hnd (List.mem_range.2 hjs) hds)
      (fun d hdd => actE_out _ _ (outB_spec hdd)) hC
    unfold wpOp
    simp only [ho]
    have hdst : o.dst = dstOf ops i := by simp [dstOf, ho]
    have hgo : ∀ u w', C (upd env i u) (doneL (lOf listed) i) w' → wpAny P .any ops Q fuel (listed.setIfInBounds i true) ((actE ops env (lOf listed) (List.range ops.size) base).put o.dst u) w' := by
      intro u w' hC'
      rw [hdst, ← actE_done u hLf _ _ List.nodup_range hnd (List.mem_range.2 hlt), ← lOf_set h0]
      refine ih _ _ _ (by simpa using hs) (hc.step hi) ?_ (by rw [lOf_set h0]; exact hC')
      rw [lOf_set h0]
      have := left_done (ops := ops) hlt hLf
      omega
    cases hw : Region.wanted o (yielded ops (actE ops env (lOf listed) (List.range ops.size) base).tmps) with
    | true =>
      rw [if_pos rfl]
      refine .inl (Oper.wp_mono (fun a' w' h => ?_) (hst.1 hw))
      obtain ⟨u, rfl, hC'⟩ := h
      exact hgo u w' hC'
    | false =>
      rw [if_neg (by simp)]
      exact hgo undef w (hst.2 hw)
/-- When a guarded operation is wanted. -/
theorem wanted_of {o : Oper} {E : Act} {j : Nat} {want v : Bool} {d : Tmp} (hg : o.guard = some (j, want)) (hd : dstOf ops j = some d) (hv : E.eval (.tmp d) = .bool v) : Region.wanted o (yielded ops E.tmps) = (v == want) := by
  have hy : yielded ops E.tmps j = some v := by
    unfold yielded
    unfold dstOf at hd
    rw [hd]
    have h2 : E.tmps[d]? = some (.bool v) := by
      simp only [Act.eval] at hv
      cases h : E.tmps[d]? with
      | none =>
        have hn : ¬ d < E.tmps.size := Nat.not_lt.2 (Array.getElem?_eq_none_iff.1 h)
        simp only [Array.getD, hn, dif_neg, not_false_eq_true] at hv
        cases hv
      | some x =>
        obtain ⟨hl, hx⟩ := Array.getElem?_eq_some_iff.1 h
        simp [Array.getD, hl, hx] at hv
        rw [hv]
    simp [h2]
  unfold Region.wanted
  rw [hg]
  show (yielded ops E.tmps j == some want) = _
  rw [hy]
  cases v <;> cases want <;> rfl
theorem wanted_none {o : Oper} {E : Act} (hg : o.guard = none) : Region.wanted o (yielded ops E.tmps) = true := by unfold Region.wanted; rw [hg]
/-- What is asked of one operation. -/
def oblG (P : Program) (ops : Array Oper) (base : Act) (C : (Nat → Value) → (Nat → Bool) → World → Prop) (Q : Exit → Act → World → Prop) (k : Nat) (o : Oper) : Prop :=
  ∀ E env L w, ClosedL ops L → L k = false → PredIn o L → (∀ j d, L j = true → dstOf ops j = some d → d < base.tmps.size → E.eval (.tmp d) = env j) → (∀ d, outB ops d = true → E.eval (.tmp d) = base.eval (.tmp d)) →
    C env L w → (Region.wanted o (yielded ops E.tmps) = true → Oper.wp P o E w (fun a' w' => ∃ u, a' = E.put o.dst u ∧ C (upd env k u) (doneL L k) w') Q) ∧ (Region.wanted o (yielded ops E.tmps) = false → C (upd env k undef) (doneL L k) w)
def stepsG (P : Program) (ops : Array Oper) (base : Act) (C : (Nat → Value) → (Nat → Bool) → World → Prop) (Q : Exit → Act → World → Prop) : Nat → List Oper → Prop
  | _, [] => True
  | k, o :: r => oblG P ops base C Q k o ∧ stepsG P ops base C Q (k + 1) r
theorem stepsG_at {base : Act} {C : (Nat → Value) → (Nat → Bool) → World → Prop} {Q : Exit → Act → World → Prop} : ∀ (l : List Oper) (k : Nat), stepsG P ops base C Q k l → ∀ i o, l[i]? = some o → oblG P ops base C Q (k + i) o
  | [], _, _, i, o, h => by simp at h
  | x :: r, k, hs, 0, o, h => by
    simp at h; subst h; exact hs.1
  | x :: r, k, hs, i + 1, o, h => by
    have := stepsG_at r (k + 1) hs.2 i o (by simpa using h)
    rwa [Nat.add_assoc, Nat.add_comm 1 i] at this
/-- What is kept by each operation, whenever it comes up, holds behind the region. -/
theorem wp_region_env2 {id : Nat} {Q : Exit → Act → World → Prop} {base : Act} {w : World} {l : List Oper} (C : (Nat → Value) → (Nat → Bool) → World → Prop) (env0 : Nat → Value) (hm : P.follows .mixedOrders = true) (hb : backB l.toArray = true) (hd : dstB l.toArray = true)
    (h0 : C env0 (fun _ => false) w.drew)
    (hstep : stepsG P l.toArray base C Q 0 l)
    (hend : ∀ env w, C env (fun j => decide (j < l.toArray.size)) w → Q .normal (putsE env 0 l base) w) : (Code.region id l.toArray true).wp P Q base w := by
  have e0 : lOf (Array.replicate l.toArray.size false) = fun _ => false := by
    funext j; unfold lOf; simp [Array.getD]
  have hbase : ∀ (r : List Nat) (a : Act), actE l.toArray env0 (fun _ => false) r a = a := by
    intro r
    induction r with
    | nil => intro a; rfl
    | cons k r ih => intro a; simp only [actE, Bool.false_eq_true, if_false]; exact ih a
  refine wp_region_any hm ?_
  have h := wpAny_env2 (P := P) (ops := l.toArray) (Q := Q) (base := base) C hb hd (fun i o ho => by have := stepsG_at l 0 hstep i o (by simpa using ho); rw [Nat.zero_add] at this; exact this) (fun env w h => by have e := actE_all (env := env) (l := l) l 0 base (fun i => by rw [Nat.zero_add]); rw [List.size_toArray, List.range_eq_range', show (fun j => decide (j < l.length)) = (fun j => decide (j < l.toArray.size)) from rfl, e]; exact hend env w h) l.toArray.size (Array.replicate l.toArray.size false) env0 w.drew (by simp) (by rw [e0]; intro j o _ hL; cases hL) (by
    unfold left
    have := List.countP_le_length (p := fun j => !lOf (Array.replicate l.toArray.size false) j) (l := List.range l.toArray.size)
    rw [List.length_range] at this
    exact this) (by rw [e0]; exact h0)
  rw [e0, hbase] at h
  exact h
end
end Go.Proofs.Ytdchedkhlfmpeaa
