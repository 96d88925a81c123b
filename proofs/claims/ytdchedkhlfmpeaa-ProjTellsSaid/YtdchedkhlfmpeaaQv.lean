/- A drawn region whose operations all read, or call what keeps the class: the values told one by one, over any frame of which some slots are known. Nothing of the program. -/
import Derived.Test.YtdchedkhlfmpeaaEn2
import Derived.Test.YtdchedkhlfmpeaaClass
import Derived.WalkKit
import Derived.BigQuiet
namespace Go.Proofs.Ytdchedkhlfmpeaa
open Go.RowKit

section
variable {P : Program}
/-- Slots of a frame that are known. -/
def Knows : List (Nat × Value) → Act → Prop
  | [], _ => True
  | p :: r, a => a.eval (.tmp p.1) = p.2 ∧ Knows r a
theorem Knows.get {a : Act} : ∀ {K : List (Nat × Value)} (_ : Knows K a) (i : Nat) {d : Nat} {v : Value} (_ : K[i]? = some (d, v)), a.eval (.tmp d) = v
  | [], _, i, _, _, h => by simp at h
  | p :: r, h, 0, d, v, e => by
    simp at e; subst e; exact h.1
  | p :: r, h, i + 1, d, v, e => h.2.get i (by simpa using e)
theorem Knows.put_other {a : Act} {x : Nat} {u : Value} : ∀ {K : List (Nat × Value)} (_ : Knows K a) (_ : (K.all fun p => p.1 != x) = true), Knows K (a.put (some x) u)
  | [], _, _ => trivial
  | p :: r, h, e => by
    simp only [List.all_cons, Bool.and_eq_true, bne_iff_ne, ne_eq] at e
    exact ⟨(put_get_other a u (fun e2 => e.1 (by injection e2 with e2; exact e2.symm))).trans h.1, h.2.put_other e.2⟩
theorem put_get_same {a : Act} {x : Nat} {u : Value} (h : x < a.tmps.size) : (a.put (some x) u).eval (.tmp x) = u := by
  simp [Act.put, Act.eval, h]
theorem knows_tmp {a : Act} {d : Nat} {v : Value} (h : a.eval (.tmp d) = v) : a.tmps[d]?.getD undef = v := by
  rw [← h]; simp [Act.eval, Array.getD_eq_getD_getElem?]
/-- What is known of a slot. -/
def seekK (d : Nat) : List (Nat × Value) → Option Value
  | [] => none
  | p :: r => if p.1 == d then some p.2 else seekK d r
theorem Knows.seek {a : Act} {d : Nat} {v : Value} : ∀ {K : List (Nat × Value)} (_ : Knows K a) (_ : seekK d K = some v), a.eval (.tmp d) = v
  | [], _, h => by cases h
  | p :: r, h, e => by
    unfold seekK at e
    split at e
    · rename_i h2
      injection e with e
      rw [← e, ← eq_of_beq h2]; exact h.1
    · exact h.2.seek e
/-- A guard, by what is known. -/
def guardB (ops : Array Oper) (K : List (Nat × Value)) (o : Oper) (y : Bool) : Bool := match o.guard with
  | none => y
  | some (j, want) => match dstOf ops j with
    | none => false
    | some d => match seekK d K with
      | some (.bool v) => (v == want) == y
      | _ => false
theorem guardB.wanted {ops : Array Oper} {K : List (Nat × Value)} {o : Oper} {y : Bool} {a : Act} (h : guardB ops K o y = true) (hK : Knows K a) : Region.wanted o (yielded ops a.tmps) = y := by
  unfold guardB at h
  split at h
  · rename_i hg; rw [wanted_none hg, h]
  · rename_i j want hg
    split at h
    · cases h
    · rename_i d hd
      split at h
      · rename_i v hv
        rw [wanted_of hg hd (hK.seek hv)]
        exact eq_of_beq h
      · cases h
def consK (o : Oper) (v : Value) (K : List (Nat × Value)) : List (Nat × Value) := match o.dst with
  | some d => (d, v) :: K
  | none => K
/-- The region's form, by looking: each operation has a slot of its own, each guard is known. -/
def formB (ops : Array Oper) (n : Nat) : List Oper → List (Option Value) → List (Nat × Value) → Bool
  | [], [], _ => true
  | o :: r, v :: vs, K => (match o.dst with
      | some d => (K.all fun p => p.1 != d) && decide (d < n)
      | none => false) && guardB ops K o v.isSome && formB ops n r vs (consK o (v.getD undef) K)
  | _, _, _ => false
/-- What is asked, operation by operation: the value told (none: passed over). -/
def stepsQ (P : Program) (C : World → Prop) : List Oper → List (Option Value) → List (Nat × Value) → Prop
  | [], [], _ => True
  | o :: r, some v :: vs, K => (∀ a w, Knows K a → C w → Oper.quietAt P o a C w v) ∧ stepsQ P C r vs (consK o v K)
  | o :: r, none :: vs, K => stepsQ P C r vs (consK o undef K)
  | _, _, _ => False
/-- All values laid. -/
def putsQ : List Oper → List (Option Value) → Act → Act
  | o :: r, v :: vs, a => putsQ r vs (a.put o.dst (v.getD undef))
  | _, _, a => a
theorem put_sz (a : Act) (x : Option Tmp) (v : Value) : (a.put x v).tmps.size = a.tmps.size := put_size a x v
theorem consK.knows {o : Oper} {K : List (Nat × Value)} {a : Act} {n : Nat} {v : Value} (hn : a.tmps.size = n) (hK : Knows K a) (h : (match o.dst with
      | some d => (K.all fun p => p.1 != d) && decide (d < n)
      | none => false) = true) : Knows (consK o v K) (a.put o.dst v) := by
  unfold consK
  cases hd : o.dst with
  | none => rw [hd] at h; cases h
  | some d =>
    rw [hd] at h
    simp only [Bool.and_eq_true, decide_eq_true_eq] at h
    exact ⟨put_get_same (by rw [hn]; exact h.2), hK.put_other h.1⟩
theorem wpQuiet_vals {ops : Array Oper} {C : World → Prop} {n : Nat} {Q : Act → Prop} : ∀ (l : List Oper) (vs : List (Option Value)) (K : List (Nat × Value)) (a : Act), a.tmps.size = n → Knows K a → formB ops n l vs K = true → stepsQ P C l vs K → Q (putsQ l vs a) → wpQuiet P ops C Q l a
  | [], [], _, a, _, _, _, _, h => wpQuiet_nil h
  | [], _ :: _, _, _, _, _, h, _, _ => by cases h
  | o :: r, [], _, _, _, _, h, _, _ => by cases h
  | o :: r, some v :: vs, K, a, hn, hK, hf, hs, h => by
    unfold formB at hf
    rw [Bool.and_eq_true, Bool.and_eq_true] at hf
    exact BigFrame.wpQuiet_want (guardB.wanted hf.1.2 hK) fun K' hK' => ⟨v, fun w hC => hs.1 a w hK hC, hK' _ (wpQuiet_vals r vs _ _ (by rw [put_sz]; exact hn) (consK.knows hn hK hf.1.1) hf.2 hs.2 h)⟩
  | o :: r, none :: vs, K, a, hn, hK, hf, hs, h => by
    unfold formB at hf
    rw [Bool.and_eq_true, Bool.and_eq_true] at hf
    exact BigFrame.wpQuiet_skip (guardB.wanted hf.1.2 hK) (wpQuiet_vals r vs _ _ (by rw [put_sz]; exact hn) (consK.knows hn hK hf.1.1) hf.2 hs h)
/-- The same, of the slots alone. -/
def putsL : List (Option Tmp) → List (Option Value) → Act → Act
  | d :: r, v :: vs, a => putsL r vs (a.put d (v.getD undef))
  | _, _, a => a
theorem putsQ_eq : ∀ (l : List Oper) (vs : List (Option Value)) (a : Act), putsQ l vs a = putsL (l.map (·.dst)) vs a
  | [], vs, a => by cases vs <;> rfl
  | o :: r, [], a => rfl
  | o :: r, v :: vs, a => putsQ_eq r vs _
/-- A drawn region of reads and of calls that keep the class. -/
theorem wp_region_vals {id : Nat} {Q : Exit → Act → World → Prop} {a : Act} {w : World} {l : List Oper} (C : World → Prop) (K : List (Nat × Value)) (vs : List (Option Value)) (n : Nat) (ds : List (Option Tmp)) (hds : l.map (·.dst) = ds) (hm : P.follows .mixedOrders = true) (hB : Region.lexB .any l.toArray = true) (hC : C w.drew) (hn : a.tmps.size = n) (hK : Knows K a) (hf : formB l.toArray n l vs K = true) (hs : stepsQ P C l vs K) (hend : ∀ w', C w' → Q .normal (putsL ds vs a) w') : (Code.region id l.toArray true).wp P Q a w :=
  wp_region_class C hm hB hC (wpQuiet_vals l vs K a hn hK hf hs fun w' hw' => by rw [putsQ_eq, hds]; exact hend w' hw')
end
end Go.Proofs.Ytdchedkhlfmpeaa
