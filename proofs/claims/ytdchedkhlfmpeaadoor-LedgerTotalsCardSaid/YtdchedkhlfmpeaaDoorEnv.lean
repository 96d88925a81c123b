/- A region whose order is open, whatever its operations do: what holds of it by which operations have come up, with their values, is kept by each of them. No order is named, none is walked. Nothing of the program. -/
import Derived.Test.YtdchedkhlfmpeaaDoorStage
namespace Go.Proofs.YtdchedkhlfmpeaaDoor
open Go.RowKit

section
variable {P : Program} {ops : Array Oper}

/-- One more value. -/
def upd (env : Nat → Value) (k : Nat) (v : Value) : Nat → Value := fun j => if j = k then v else env j
theorem upd_same (env : Nat → Value) (k : Nat) (v : Value) : upd env k v k = v := by simp [upd]
theorem upd_other (env : Nat → Value) {k j : Nat} (v : Value) (h : j ≠ k) : upd env k v j = env j := by simp [upd, h]
def dstOf (ops : Array Oper) (k : Nat) : Option Tmp := (ops[k]?).bind (·.dst)
/-- The slots, with the values of those that have come up. -/
def actE (ops : Array Oper) (env : Nat → Value) (L : Nat → Bool) : List Nat → Act → Act
  | [], a => a
  | k :: r, a => actE ops env L r (if L k = true then a.put (dstOf ops k) (env k) else a)
theorem actE_congr {env env' : Nat → Value} {L L' : Nat → Bool} : ∀ (r : List Nat) (a : Act), (∀ j ∈ r, env j = env' j ∧ L j = L' j) → actE ops env L r a = actE ops env' L' r a
  | [], a, _ => rfl
  | k :: r, a, h => by
    obtain ⟨h1, h2⟩ := h k (by simp)
    simp only [actE, h1, h2]
    exact actE_congr r _ fun j hj => h j (by simp [hj])
theorem actE_put {env : Nat → Value} {L : Nat → Bool} (x : Option Tmp) (u : Value) : ∀ (r : List Nat) (a : Act), (∀ j ∈ r, ∀ d, x = some d → dstOf ops j ≠ some d) → actE ops env L r (a.put x u) = (actE ops env L r a).put x u
  | [], a, _ => rfl
  | k :: r, a, h => by
    simp only [actE]
    by_cases hL : L k = true
    · rw [if_pos hL, if_pos hL, Act.put_comm a u (env k) (h k (by simp))]
      exact actE_put x u r _ fun j hj => h j (by simp [hj])
    · rw [if_neg hL, if_neg hL]
      exact actE_put x u r _ fun j hj => h j (by simp [hj])
theorem actE_done {env : Nat → Value} {L : Nat → Bool} {k : Nat} (u : Value) (hL : L k = false) : ∀ (r : List Nat) (a : Act), r.Nodup → (∀ i ∈ r, ∀ j ∈ r, i ≠ j → ∀ d, dstOf ops i = some d → dstOf ops j ≠ some d) → k ∈ r →
    actE ops (upd env k u) (doneL L k) r a = (actE ops env L r a).put (dstOf ops k) u
  | [], a, _, _, h => by cases h
  | j :: r, a, hn, hd, h => by
    have hn' := List.nodup_cons.1 hn
    by_cases e : j = k
    · subst e
      simp only [actE, doneL_same, upd_same, if_true, hL, Bool.false_eq_true, if_false]
      rw [actE_congr (env' := env) (L' := L) r _ (fun i hi => by
        have hne : i ≠ j := fun e => hn'.1 (e ▸ hi)
        exact ⟨upd_other env u hne, doneL_other L hne⟩)]
      exact actE_put _ _ r a fun i hi d hx => hd j (by simp) i (by simp [hi]) (fun e => hn'.1 (e ▸ hi)) d hx
    · have hk : k ∈ r := by
        rcases List.mem_cons.1 h with e2 | e2
        · exact absurd e2.symm e
        · exact e2
      simp only [actE, doneL_other L e, upd_other env u e]
      exact actE_done u hL r _ hn'.2 (fun i hi j hj => hd i (by simp [hi]) j (by simp [hj])) hk
theorem put_size (a : Act) (x : Option Tmp) (v : Value) : (a.put x v).tmps.size = a.tmps.size := by
  cases x <;> simp [Act.put]
theorem actE_size {env : Nat → Value} {L : Nat → Bool} : ∀ (r : List Nat) (a : Act), (actE ops env L r a).tmps.size = a.tmps.size
  | [], a => rfl
  | k :: r, a => by
    simp only [actE]
    rw [actE_size r]
    split
    · exact put_size _ _ _
    · rfl
theorem put_get_other (a : Act) {x : Option Tmp} {d : Nat} (v : Value) (h : x ≠ some d) : (a.put x v).eval (.tmp d) = a.eval (.tmp d) := by
  cases x with
  | none => rfl
  | some e =>
    have hne : e ≠ d := fun e2 => h (by rw [e2])
    simp [Act.put, Act.eval, Array.getD_eq_getD_getElem?, Array.getElem?_setIfInBounds_ne hne]
theorem actE_out {env : Nat → Value} {L : Nat → Bool} {d : Nat} : ∀ (r : List Nat) (a : Act), (∀ j ∈ r, dstOf ops j ≠ some d) → (actE ops env L r a).eval (.tmp d) = a.eval (.tmp d)
  | [], a, _ => rfl
  | k :: r, a, h => by
    simp only [actE]
    rw [actE_out r _ fun j hj => h j (by simp [hj])]
    split
    · exact put_get_other _ _ (h k (by simp))
    · rfl
theorem actE_got {env : Nat → Value} {L : Nat → Bool} {d k : Nat} (hL : L k = true) (hk : dstOf ops k = some d) : ∀ (r : List Nat) (a : Act), r.Nodup → (∀ i ∈ r, ∀ j ∈ r, i ≠ j → ∀ d, dstOf ops i = some d → dstOf ops j ≠ some d) → k ∈ r → d < a.tmps.size →
    (actE ops env L r a).eval (.tmp d) = env k
  | [], a, _, _, h, _ => by cases h
  | j :: r, a, hn, hd, h, hs => by
    have hn' := List.nodup_cons.1 hn
    by_cases e : j = k
    · subst e
      simp only [actE, hL, if_true]
      rw [actE_out r _ fun i hi => hd j (by simp) i (by simp [hi]) (fun e => hn'.1 (e ▸ hi)) d hk, hk]
      simp [Act.put, Act.eval, hs]
    · have hk' : k ∈ r := by
        rcases List.mem_cons.1 h with e2 | e2
        · exact absurd e2.symm e
        · exact e2
      simp only [actE]
      refine actE_got hL hk r _ hn'.2 (fun i hi j hj => hd i (by simp [hi]) j (by simp [hj])) hk' ?_
      split
      · rw [put_size]; exact hs
      · exact hs
/-- No two operations write one slot. -/
def dstB (ops : Array Oper) : Bool := (List.range ops.size).all fun i => (List.range ops.size).all fun j => i == j || (match dstOf ops i, dstOf ops j with | some d, some e => d != e | _, _ => true)
theorem dstB_spec (h : dstB ops = true) : ∀ i ∈ List.range ops.size, ∀ j ∈ List.range ops.size, i ≠ j → ∀ d, dstOf ops i = some d → dstOf ops j ≠ some d := by
  intro i hi j hj hne d h1 h2
  unfold dstB at h
  rw [List.all_eq_true] at h
  have h3 := h i hi
  rw [List.all_eq_true] at h3
  have h4 := h3 j hj
  rw [h1, h2] at h4
  simp at h4
  exact hne h4
/-- No operation writes that slot. -/
def outB (ops : Array Oper) (d : Nat) : Bool := (List.range ops.size).all fun j => dstOf ops j != some d
theorem outB_spec {d : Nat} (h : outB ops d = true) : ∀ j ∈ List.range ops.size, dstOf ops j ≠ some d := by
  intro j hj
  unfold outB at h
  rw [List.all_eq_true] at h
  have := h j hj
  simpa using this
theorem countP_one {α : Type} {p q : α → Bool} {i : α} : ∀ (l : List α), l.Nodup → i ∈ l → p i = true → q i = false → (∀ j ∈ l, j ≠ i → q j = p j) → l.countP q + 1 = l.countP p
  | [], _, h, _, _, _ => by cases h
  | x :: r, hn, h, h1, h2, h3 => by
    have hn' := List.nodup_cons.1 hn
    by_cases e : x = i
    · subst e
      rw [List.countP_cons_of_pos h1, List.countP_cons_of_neg (by simp [h2])]
      congr 1
      refine List.countP_congr fun j hj => ?_
      rw [h3 j (by simp [hj]) (fun e => hn'.1 (e ▸ hj))]
    · have hi : i ∈ r := by
        rcases List.mem_cons.1 h with e2 | e2
        · exact absurd e2.symm e
        · exact e2
      have ih := countP_one r hn'.2 hi h1 h2 fun j hj => h3 j (by simp [hj])
      have hx := h3 x (by simp) e
      rw [List.countP_cons, List.countP_cons, hx]
      omega
/-- How many have not come up. -/
def left (ops : Array Oper) (L : Nat → Bool) : Nat := (List.range ops.size).countP fun j => !L j
theorem left_done {L : Nat → Bool} {i : Nat} (hi : i < ops.size) (hL : L i = false) : left ops (doneL L i) + 1 = left ops L :=
  countP_one (i := i) _ List.nodup_range (List.mem_range.2 hi) (by simp [hL]) (by simp [doneL_same]) fun j _ hne => by rw [doneL_other L hne]
theorem wpAny_env {Q : Exit → Act → World → Prop} {base : Act} (C : (Nat → Value) → (Nat → Bool) → World → Prop) (hb : backB ops = true) (hd : dstB ops = true) (hg : (ops.all fun o => o.guard.isNone) = true)
    (hstep : ∀ i o, ops[i]? = some o → ∀ E env L w, ClosedL ops L → L i = false → PredIn o L → (∀ j d, L j = true → dstOf ops j = some d → d < base.tmps.size → E.eval (.tmp d) = env j) → (∀ d, outB ops d = true → E.eval (.tmp d) = base.eval (.tmp d)) →
      C env L w → Oper.wp P o E w (fun a' w' => ∃ u, a' = E.put o.dst u ∧ C (upd env i u) (doneL L i) w') Q)
    (hend : ∀ env w, C env (fun j => decide (j < ops.size)) w → Q .normal (actE ops env (fun j => decide (j < ops.size)) (List.range ops.size) base) w) :
    ∀ (fuel : Nat) (listed : Array Bool) (env : Nat → Value) (w : World), listed.size = ops.size → ClosedL ops (lOf listed) → left ops (lOf listed) ≤ fuel → C env (lOf listed) w →
      wpAny P .any ops Q fuel listed (actE ops env (lOf listed) (List.range ops.size) base) w := by
  have fin : ∀ (listed : Array Bool) (env : Nat → Value) (w : World), listed.size = ops.size → Region.ready .any ops listed = [] → C env (lOf listed) w → Q .normal (actE ops env (lOf listed) (List.range ops.size) base) w := by
    intro listed env w hs hr hC
    have e := all_listed hb hs hr
    rw [e] at hC ⊢
    exact hend env w hC
  intro fuel
  induction fuel with
  | zero =>
    intro listed env w hs hc hl hC
    have hr : Region.ready .any ops listed = [] := by
      cases hr : Region.ready .any ops listed with
      | nil => rfl
      | cons i rs =>
        exfalso
        have hi : i ∈ Region.ready .any ops listed := by rw [hr]; simp
        obtain ⟨h0, o, ho, _⟩ := mem_ready.1 hi
        have h1 : 0 < left ops (lOf listed) := List.countP_pos_iff.2 ⟨i, List.mem_range.2 (Array.getElem?_eq_some_iff.1 ho).1, by rw [lOf_false h0]; rfl⟩
        omega
    exact ⟨hr, fin listed env w hs hr hC⟩
  | succ fuel ih =>
    intro listed env w hs hc hl hC
    refine ⟨fun hr => fin listed env w hs hr hC, fun i hi => ?_⟩
    obtain ⟨h0, o, ho, hall⟩ := mem_ready.1 hi
    have hlt : i < ops.size := (Array.getElem?_eq_some_iff.1 ho).1
    have hLf := lOf_false h0
    have hnd := dstB_spec hd
    have hguard : o.guard = none := by
      rw [Array.all_eq_true_iff_forall_mem] at hg
      have := hg o (Array.mem_of_getElem? ho)
      simpa using this
    have hst := hstep i o ho (actE ops env (lOf listed) (List.range ops.size) base) env (lOf listed) w hc hLf hall
      (fun j d hj hdj hds => by
        have hjs : j < ops.size := by
          rcases Nat.lt_or_ge j ops.size with h | h
          · exact h
          · simp [dstOf, Array.getElem?_eq_none h] at hdj
        exact actE_got hj hdj _ _ List.nodup_range hnd (List.mem_range.2 hjs) hds)
      (fun d hdd => actE_out _ _ (outB_spec hdd)) hC
    unfold wpOp
    simp only [ho]
    have hw : Region.wanted o (yielded ops (actE ops env (lOf listed) (List.range ops.size) base).tmps) = true := by simp [Region.wanted, hguard]
    rw [if_pos hw]
    refine .inl (Oper.wp_mono (fun a' w' h => ?_) hst)
    obtain ⟨u, rfl, hC'⟩ := h
    have hdst : o.dst = dstOf ops i := by simp [dstOf, ho]
    rw [hdst, ← actE_done u hLf _ _ List.nodup_range hnd (List.mem_range.2 hlt), ← lOf_set h0]
    refine ih _ _ _ (by simpa using hs) (hc.step hi) ?_ (by rw [lOf_set h0]; exact hC')
    rw [lOf_set h0]
    have := left_done (ops := ops) hlt hLf
    omega
theorem wp_val {o : Oper} {a : Act} {w w' : World} {K : Act → World → Prop} {Q : Exit → Act → World → Prop} {v : Value} (h : (execOp a.eval o).run P w = .ok (.value v) w') (hK : K (a.put o.dst v) w') : Oper.wp P o a w K Q := by
  unfold Oper.wp; rw [h]; exact hK
theorem wp_skp {o : Oper} {a : Act} {w w' : World} {K : Act → World → Prop} {Q : Exit → Act → World → Prop} (h : (execOp a.eval o).run P w = .ok .skip w') (hK : K (a.put o.dst undef) w') : Oper.wp P o a w K Q := by
  unfold Oper.wp; rw [h]; exact hK
theorem envG {G : Nat → Value → Prop} {env : Nat → Value} {L : Nat → Bool} (h : ∀ j, L j = true → G j (env j)) {i : Nat} {u : Value} (hu : G i u) : ∀ j, doneL L i j = true → G j (upd env i u j) := by
  intro j hj
  by_cases e : j = i
  · subst e; rw [upd_same]; exact hu
  · rw [doneL_other L e] at hj; rw [upd_other env u e]; exact h j hj
/-- What is asked of one operation. -/
def oblE (P : Program) (ops : Array Oper) (base : Act) (C : (Nat → Value) → (Nat → Bool) → World → Prop) (Q : Exit → Act → World → Prop) (k : Nat) (o : Oper) : Prop :=
  ∀ E env L w, ClosedL ops L → L k = false → PredIn o L → (∀ j d, L j = true → dstOf ops j = some d → d < base.tmps.size → E.eval (.tmp d) = env j) → (∀ d, outB ops d = true → E.eval (.tmp d) = base.eval (.tmp d)) →
    C env L w → Oper.wp P o E w (fun a' w' => ∃ u, a' = E.put o.dst u ∧ C (upd env k u) (doneL L k) w') Q
def stepsE (P : Program) (ops : Array Oper) (base : Act) (C : (Nat → Value) → (Nat → Bool) → World → Prop) (Q : Exit → Act → World → Prop) : Nat → List Oper → Prop
  | _, [] => True
  | k, o :: r => oblE P ops base C Q k o ∧ stepsE P ops base C Q (k + 1) r
theorem stepsE_at {base : Act} {C : (Nat → Value) → (Nat → Bool) → World → Prop} {Q : Exit → Act → World → Prop} : ∀ (l : List Oper) (k : Nat), stepsE P ops base C Q k l → ∀ i o, l[i]? = some o → oblE P ops base C Q (k + i) o
  | [], _, _, i, o, h => by simp at h
  | x :: r, k, hs, 0, o, h => by
    simp at h; subst h; exact hs.1
  | x :: r, k, hs, i + 1, o, h => by
    have := stepsE_at r (k + 1) hs.2 i o (by simpa using h)
    rwa [Nat.add_assoc, Nat.add_comm 1 i] at this
/-- All have come up. -/
def putsE (env : Nat → Value) : Nat → List Oper → Act → Act
  | _, [], a => a
  | k, o :: r, a => putsE env (k + 1) r (a.put o.dst (env k))
theorem actE_all {env : Nat → Value} {l : List Oper} : ∀ (r : List Oper) (k : Nat) (a : Act), (∀ i, r[i]? = l[k + i]?) → actE l.toArray env (fun j => decide (j < l.toArray.size)) (List.range' k r.length) a = putsE env k r a
  | [], k, a, _ => rfl
  | o :: r, k, a, h => by
    have h0 : l[k]? = some o := by simpa using (h 0).symm
    have hlt : k < l.length := (List.getElem?_eq_some_iff.1 h0).1
    simp only [List.length_cons, List.range'_succ, actE, putsE]
    rw [if_pos (by simpa using hlt)]
    have hd : dstOf l.toArray k = o.dst := by simp [dstOf, h0]
    rw [hd]
    exact actE_all r (k + 1) _ fun i => by have := h (i + 1); simpa [Nat.add_assoc, Nat.add_comm 1 i] using this
/-- What is kept by each operation, whenever it comes up, holds behind the region. -/
theorem wp_region_env {id : Nat} {Q : Exit → Act → World → Prop} {base : Act} {w : World} {l : List Oper} (C : (Nat → Value) → (Nat → Bool) → World → Prop) (env0 : Nat → Value) (hm : P.follows .mixedOrders = true) (hb : backB l.toArray = true) (hd : dstB l.toArray = true) (hg : (l.toArray.all fun o => o.guard.isNone) = true)
    (h0 : C env0 (fun _ => false) w.drew)
    (hstep : stepsE P l.toArray base C Q 0 l)
    (hend : ∀ env w, C env (fun j => decide (j < l.toArray.size)) w → Q .normal (putsE env 0 l base) w) : (Code.region id l.toArray true).wp P Q base w := by
  have e0 : lOf (Array.replicate l.toArray.size false) = fun _ => false := by
    funext j; unfold lOf; simp [Array.getD]
  have hbase : ∀ (r : List Nat) (a : Act), actE l.toArray env0 (fun _ => false) r a = a := by
    intro r
    induction r with
    | nil => intro a; rfl
    | cons k r ih => intro a; simp only [actE, Bool.false_eq_true, if_false]; exact ih a
  refine wp_region_any hm ?_
  have h := wpAny_env (P := P) (ops := l.toArray) (Q := Q) (base := base) C hb hd hg (fun i o ho => by have := stepsE_at l 0 hstep i o (by simpa using ho); rw [Nat.zero_add] at this; exact this) (fun env w h => by have e := actE_all (env := env) (l := l) l 0 base (fun i => by rw [Nat.zero_add]); rw [List.size_toArray, List.range_eq_range', show (fun j => decide (j < l.length)) = (fun j => decide (j < l.toArray.size)) from rfl, e]; exact hend env w h) l.toArray.size (Array.replicate l.toArray.size false) env0 w.drew (by simp) (by rw [e0]; intro j o _ hL; cases hL) (by
    unfold left
    have := List.countP_le_length (p := fun j => !lOf (Array.replicate l.toArray.size false) j) (l := List.range l.toArray.size)
    rw [List.length_range] at this
    exact this) (by rw [e0]; exact h0)
  rw [e0, hbase] at h
  exact h
end
end Go.Proofs.YtdchedkhlfmpeaaDoor
