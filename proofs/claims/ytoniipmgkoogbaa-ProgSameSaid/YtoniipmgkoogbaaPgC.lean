/- Several texts in one. -/
import Derived.Test.YtoniipmgkoogbaaEnv
import Derived.Test.YtoniipmgkoogbaaPgB
import Derived.Lib.SliceRun
import Derived.Deep.RegionLaw
import Derived.WalkKit
import Derived.ProofKit
import Derived.Handy
import Derived.WalkLawsBesides
import Derived.WalkSpells
import Derived.Lib.Hide
import Derived.RegionTactic
import Derived.ChangeAlike
import Derived.WalkSmall
import Derived.Deep.QuietTactic
import Derived.BigQuiet
import Derived.OwnWalk
import Derived.Outline
import Derived.Deep.CutRange
import Derived.Deep.CutBlock
import Derived.LoopTactic
/- A region whose order is open, whatever its operations do, guards and all. Nothing of the program. -/
namespace Go.Proofs.Ytoniipmgkoogbaa
open Go.RowKit

section
variable {P : Program} {ops : Array Oper}

theorem wpAny_env2 {Q : Exit → Act → World → Prop} {base : Act} (C : (Nat → Value) → (Nat → Bool) → World → Prop) (hb : backB ops = true) (hd : dstB ops = true)
    (hstep : ∀ i o, ops[i]? = some o → ∀ E env L w, ClosedL ops L → L i = false → PredIn o L → (∀ j d, L j = true → dstOf ops j = some d → d < base.tmps.size → E.eval (.tmp d) = env j) → (∀ d, outB ops d = true → E.eval (.tmp d) = base.eval (.tmp d)) →
      C env L w → (Region.wanted o (yielded ops E.tmps) = true → Oper.wp P o E w (fun a' w' => ∃ u, a' = E.put o.dst u ∧ C (upd env i u) (doneL L i) w') Q) ∧ (Region.wanted o (yielded ops E.tmps) = false → C (upd env i undef) (doneL L i) w))
    (hend : ∀ env w, C env (fun j => decide (j < ops.size)) w → Q .normal (actE ops env (fun j => decide (j < ops.size)) (List.range ops.size) base) w) :
    ∀ (fuel : Nat) (listed : Array Bool) (env : Nat → Value) (w : World), listed.size = ops.size → ClosedL ops (lOf listed) → left ops (lOf listed) ≤ fuel → C env (lOf listed) w →
      wpAny P .any ops Q fuel listed (actE ops env (lOf listed) (List.range ops.size) base) w := by
  have fin : ∀ (listed : Array Bool) (env : Nat → Value) (w : World), listed.size = ops.size → Region.ready .any ops listed = [] → C env (lOf listed) w → Q .normal (actE ops env (lOf listed) (List.range ops.size) base) w := by
    intro listed env w hs hr hC
    have e := all_listed hb hs hr
    rw [e] at hC ⊢
    exact hend env w hC
  intro fuel
  induction fuel with
  | zero =>
    intro listed env w hs hc hl hC
    have hr : Region.ready .any ops listed = [] := by
      cases hr : Region.ready .any ops listed with
      | nil => rfl
      | cons i rs =>
        exfalso
        have hi : i ∈ Region.ready .any ops listed := by rw [hr]; simp
        obtain ⟨h0, o, ho, _⟩ := mem_ready.1 hi
        have h1 : 0 < left ops (lOf listed) := List.countP_pos_iff.2 ⟨i, List.mem_range.2 (Array.getElem?_eq_some_iff.1 ho).1, by rw [lOf_false h0]; rfl⟩
        omega
    exact ⟨hr, fin listed env w hs hr hC⟩
  | succ fuel ih =>
    intro listed env w hs hc hl hC
    refine ⟨fun hr => fin listed env w hs hr hC, fun i hi => ?_⟩
    obtain ⟨h0, o, ho, hall⟩ := mem_ready.1 hi
    have hlt : i < ops.size := (Array.getElem?_eq_some_iff.1 ho).1
    have hLf := lOf_false h0
    have hnd := dstB_spec hd
    have hst := hstep i o ho (actE ops env (lOf listed) (List.range ops.size) base) env (lOf listed) w hc hLf hall
      (fun j d hj hdj hds => by
        have hjs : j < ops.size := by
          rcases Nat.lt_or_ge j ops.size with h | h
          · exact h
          · simp [dstOf, Array.getElem?_eq_none h] at hdj
        exact actE_got hj hdj _ _ List.nodup_range hnd (List.mem_range.2 hjs) hds)
      (fun d hdd => actE_out _ _ (outB_spec hdd)) hC
    unfold wpOp
    simp only [ho]
    have hdst : o.dst = dstOf ops i := by simp [dstOf, ho]
    have hgo : ∀ u w', C (upd env i u) (doneL (lOf listed) i) w' → wpAny P .any ops Q fuel (listed.setIfInBounds i true) ((actE ops env (lOf listed) (List.range ops.size) base).put o.dst u) w' := by
      intro u w' hC'
      rw [hdst, ← actE_done u hLf _ _ List.nodup_range hnd (List.mem_range.2 hlt), ← lOf_set h0]
      refine ih _ _ _ (by simpa using hs) (hc.step hi) ?_ (by rw [lOf_set h0]; exact hC')
      rw [lOf_set h0]
      have := left_done (ops := ops) hlt hLf
      omega
    cases hw : Region.wanted o (yielded ops (actE ops env (lOf listed) (List.range ops.size) base).tmps) with
    | true =>
      rw [if_pos rfl]
      refine .inl (Oper.wp_mono (fun a' w' h => ?_) (hst.1 hw))
      obtain ⟨u, rfl, hC'⟩ := h
      exact hgo u w' hC'
    | false =>
      rw [if_neg (by simp)]
      exact hgo undef w (hst.2 hw)
/-- When a guarded operation is wanted. -/
theorem wanted_of {o : Oper} {E : Act} {j : Nat} {want v : Bool} {d : Tmp} (hg : o.guard = some (j, want)) (hd : dstOf ops j = some d) (hv : E.eval (.tmp d) = .bool v) : Region.wanted o (yielded ops E.tmps) = (v == want) := by
  have hy : yielded ops E.tmps j = some v := by
    unfold yielded
    unfold dstOf at hd
    rw [hd]
    have h2 : E.tmps[d]? = some (.bool v) := by
      simp only [Act.eval] at hv
      cases h : E.tmps[d]? with
      | none =>
        have hn : ¬ d < E.tmps.size := Nat.not_lt.2 (Array.getElem?_eq_none_iff.1 h)
        simp only [Array.getD, hn, dif_neg, not_false_eq_true] at hv
        cases hv
      | some x =>
        obtain ⟨hl, hx⟩ := Array.getElem?_eq_some_iff.1 h
        simp [Array.getD, hl, hx] at hv
        rw [hv]
    simp [h2]
  unfold Region.wanted
  rw [hg]
  show (yielded ops E.tmps j == some want) = _
  rw [hy]
  cases v <;> cases want <;> rfl
theorem wanted_none {o : Oper} {E : Act} (hg : o.guard = none) : Region.wanted o (yielded ops E.tmps) = true := by unfold Region.wanted; rw [hg]
/-- What is asked of one operation. -/
def oblG (P : Program) (ops : Array Oper) (base : Act) (C : (Nat → Value) → (Nat → Bool) → World → Prop) (Q : Exit → Act → World → Prop) (k : Nat) (o : Oper) : Prop :=
  ∀ E env L w, ClosedL ops L → L k = false → PredIn o L → (∀ j d, L j = true → dstOf ops j = some d → d < base.tmps.size → E.eval (.tmp d) = env j) → (∀ d, outB ops d = true → E.eval (.tmp d) = base.eval (.tmp d)) →
    C env L w → (Region.wanted o (yielded ops E.tmps) = true → Oper.wp P o E w (fun a' w' => ∃ u, a' = E.put o.dst u ∧ C (upd env k u) (doneL L k) w') Q) ∧ (Region.wanted o (yielded ops E.tmps) = false → C (upd env k undef) (doneL L k) w)
def stepsG (P : Program) (ops : Array Oper) (base : Act) (C : (Nat → Value) → (Nat → Bool) → World → Prop) (Q : Exit → Act → World → Prop) : Nat → List Oper → Prop
  | _, [] => True
  | k, o :: r => oblG P ops base C Q k o ∧ stepsG P ops base C Q (k + 1) r
theorem stepsG_at {base : Act} {C : (Nat → Value) → (Nat → Bool) → World → Prop} {Q : Exit → Act → World → Prop} : ∀ (l : List Oper) (k : Nat), stepsG P ops base C Q k l → ∀ i o, l[i]? = some o → oblG P ops base C Q (k + i) o
  | [], _, _, i, o, h => by simp at h
  | x :: r, k, hs, 0, o, h => by
    simp at h; subst h; exact hs.1
  | x :: r, k, hs, i + 1, o, h => by
    have := stepsG_at r (k + 1) hs.2 i o (by simpa using h)
    rwa [Nat.add_assoc, Nat.add_comm 1 i] at this
/-- What is kept by each operation, whenever it comes up, holds behind the region. -/
theorem wp_region_env2 {id : Nat} {Q : Exit → Act → World → Prop} {base : Act} {w : World} {l : List Oper} (C : (Nat → Value) → (Nat → Bool) → World → Prop) (env0 : Nat → Value) (hm : P.follows .mixedOrders = true) (hb : backB l.toArray = true) (hd : dstB l.toArray = true)
    (h0 : C env0 (fun _ => false) w.drew)
    (hstep : stepsG P l.toArray base C Q 0 l)
    (hend : ∀ env w, C env (fun j => decide (j < l.toArray.size)) w → Q .normal (putsE env 0 l base) w) : (Code.region id l.toArray true).wp P Q base w := by
  have e0 : lOf (Array.replicate l.toArray.size false) = fun _ => false := by
    funext j; unfold lOf; simp [Array.getD]
  have hbase : ∀ (r : List Nat) (a : Act), actE l.toArray env0 (fun _ => false) r a = a := by
    intro r
    induction r with
    | nil => intro a; rfl
    | cons k r ih => intro a; simp only [actE, Bool.false_eq_true, if_false]; exact ih a
  refine wp_region_any hm ?_
  have h := wpAny_env2 (P := P) (ops := l.toArray) (Q := Q) (base := base) C hb hd (fun i o ho => by have := stepsG_at l 0 hstep i o (by simpa using ho); rw [Nat.zero_add] at this; exact this) (fun env w h => by have e := actE_all (env := env) (l := l) l 0 base (fun i => by rw [Nat.zero_add]); rw [List.size_toArray, List.range_eq_range', show (fun j => decide (j < l.length)) = (fun j => decide (j < l.toArray.size)) from rfl, e]; exact hend env w h) l.toArray.size (Array.replicate l.toArray.size false) env0 w.drew (by simp) (by rw [e0]; intro j o _ hL; cases hL) (by
    unfold left
    have := List.countP_le_length (p := fun j => !lOf (Array.replicate l.toArray.size false) j) (l := List.range l.toArray.size)
    rw [List.length_range] at this
    exact this) (by rw [e0]; exact h0)
  rw [e0, hbase] at h
  exact h
end
end Go.Proofs.Ytoniipmgkoogbaa
/- Scripts: ops and scripts held against each other. -/
namespace Go.Proofs.Ytoniipmgkoogbaa
open Go.ChangeShapes Go.WideShapes Go.ChangeAt Go.RowKit
set_option linter.unusedSimpArgs false
set_option linter.unusedVariables false


/-- Are two lists of ops the same? -/
def Pg.sameL : List Pg.Op → List Pg.Op → Bool
  | [], [] => true
  | a :: l, b :: m => Pg.same a b && Pg.sameL l m
  | _, _ => false
theorem sameL_len : ∀ (l m : List Pg.Op), l.length ≠ m.length → Pg.sameL l m = false
  | [], [], h => absurd rfl h
  | [], b :: m, _ => rfl
  | a :: l, [], _ => rfl
  | a :: l, b :: m, h => by
    unfold Pg.sameL
    rw [sameL_len l m (by simpa using h), Bool.and_false]
theorem sameL_at : ∀ (l m : List Pg.Op) (i : Nat) (a b : Pg.Op), l[i]? = some a → m[i]? = some b → Pg.same a b = false → Pg.sameL l m = false
  | [], m, i, a, b, h, _, _ => by simp at h
  | x :: l, [], i, a, b, _, h, _ => by simp at h
  | x :: l, y :: m, 0, a, b, h1, h2, h3 => by
    simp at h1 h2
    subst h1 h2
    unfold Pg.sameL
    rw [h3, Bool.false_and]
  | x :: l, y :: m, i + 1, a, b, h1, h2, h3 => by
    unfold Pg.sameL
    rw [sameL_at l m i a b (by simpa using h1) (by simpa using h2) h3, Bool.and_false]
theorem sameL_all : ∀ (l m : List Pg.Op), l.length = m.length → (∀ (i : Nat) a b, l[i]? = some a → m[i]? = some b → Pg.same a b = true) → Pg.sameL l m = true
  | [], [], _, _ => rfl
  | [], b :: m, h, _ => by simp at h
  | a :: l, [], h, _ => by simp at h
  | a :: l, b :: m, h, h2 => by
    unfold Pg.sameL
    rw [h2 0 a b rfl rfl, sameL_all l m (by simpa using h) (fun i x y h3 h4 => h2 (i + 1) x y (by simpa using h3) (by simpa using h4))]
    rfl
/-- Are two scripts the same? -/
def Pg.sameP (nm1 : ByteArray) (dl1 jp1 : Int) (l : List Pg.Op) (nm2 : ByteArray) (dl2 jp2 : Int) (m : List Pg.Op) : Bool := decide (nm1 = nm2) && (decide (dl1 = dl2) && (decide (jp1 = jp2) && Pg.sameL l m))
theorem pg_self (o : Pg.Op) : Pg.same o o = true := by unfold Pg.same; simp
theorem sameL_self (l : List Pg.Op) : Pg.sameL l l = true := sameL_all l l rfl (fun i a b h1 h2 => by rw [h1] at h2; rw [Option.some.inj h2]; exact pg_self b)
theorem sameP_self (nm : ByteArray) (dl jp : Int) (l : List Pg.Op) : Pg.sameP nm dl jp l nm dl jp l = true := by unfold Pg.sameP; rw [sameL_self]; simp
set_option maxRecDepth 20000 in
set_option maxHeartbeats 16000000 in
theorem rf_sameop (k1 k2 : Int) (x1 x2 : ByteArray) (n1 n2 t1 t2 : Int) (a1 a2 : Option Addr) (l1 l2 c1 c2 : Nat) (u1 u2 v1 v2 : Int) (L1 L2 : List (ByteArray × Int)) (h1 : L1.length = l1) (h2 : L2.length = l2) (m1 : l1 ≤ maxLen) (b : Bool) (hb : Pg.same ⟨k1, x1, n1, t1, L1, u1, v1⟩ ⟨k2, x2, n2, t2, L2, u2, v2⟩ = b) (w : World) (H1 : AL w a1 L1) (H2 : AL w a2 L2) :
    Calls Try.prog 25 #[.agg #[.int .i64 k1, .string x1, .int .i64 n1, .int .i64 t1, .slice a1 l1 c1, .int .i64 u1, .int .i64 v1], .agg #[.int .i64 k2, .string x2, .int .i64 n2, .int .i64 t2, .slice a2 l2 c2, .int .i64 u2, .int .i64 v2]] w fun e w' => e = .returned (.bool b) ∧ Below w.heap.size w w' := by
  have hm : maxLen ≤ 9223372036854775807 := by unfold maxLen; omega
  unfold Pg.same at hb
  dsimp only at hb
  by_cases e0 : k1 = k2
  · subst e0
    by_cases e1 : x1 = x2
    · subst e1
      by_cases e2 : n1 = n2
      · subst e2
        by_cases e3 : t1 = t2
        · subst e3
          by_cases e4 : u1 = u2
          · subst e4
            by_cases e5 : v1 = v2
            · subst e5
              by_cases e6 : l1 = l2
              · subst e6
                have HL := Lib.hid (And.intro h1 (And.intro h2 hb))
                have HA := Lib.hid (And.intro H1 H2)
                have H0 := Lib.hid (OB.new w #[.int .i64 k1, .string x1, .int .i64 n1, .int .i64 t1, .slice a1 l1 c1, .int .i64 u1, .int .i64 v1] #[.int .i64 k1, .string x1, .int .i64 n1, .int .i64 t1, .slice a2 l1 c2, .int .i64 u1, .int .i64 v1])
                clear h1 h2 hb H1 H2
                go_enter Try.func25, Try.ntmps25
                go_upto_region 1 with fail
                revert H0
                generalize ((w.alloc (.cells #[.int .i64 k1, .string x1, .int .i64 n1, .int .i64 t1, .slice a1 l1 c1, .int .i64 u1, .int .i64 v1] 27)).alloc (.cells #[.int .i64 k1, .string x1, .int .i64 n1, .int .i64 t1, .slice a2 l1 c2, .int .i64 u1, .int .i64 v1] 27)) = W0
                intro H0
                have c0 := H0.out.1.cell (i := 0) rfl
                have d0 := H0.out.2.1.cell (i := 0) rfl
                have c1 := H0.out.1.cell (i := 1) rfl
                have d1 := H0.out.2.1.cell (i := 1) rfl
                have c2 := H0.out.1.cell (i := 2) rfl
                have d2 := H0.out.2.1.cell (i := 2) rfl
                have c3 := H0.out.1.cell (i := 3) rfl
                have d3 := H0.out.2.1.cell (i := 3) rfl
                have c4 := H0.out.1.cell (i := 4) rfl
                have d4 := H0.out.2.1.cell (i := 4) rfl
                have c5 := H0.out.1.cell (i := 5) rfl
                have d5 := H0.out.2.1.cell (i := 5) rfl
                have c6 := H0.out.1.cell (i := 6) rfl
                have d6 := H0.out.2.1.cell (i := 6) rfl
                go_upto_region 4 with fail
                clear c0 d0 c1 d1 c2 d2 c3 d3 c4 d4 c5 d5 c6 d6
                go_loopw [5] (fun i wr => ∃ k q : Nat, i = .int .i64 k ∧ k ≤ l1 ∧ Hid (∀ j, j < k → L1[j]? = L2[j]?) ∧ wr = W0.drewN q) (fun i _ => l1 - (intOf i).toNat)
                case atStart => exact ⟨0, 0, rfl, by omega, Lib.hid (fun j hj => by omega), rfl⟩
                case round =>
                  obtain ⟨k, q, rfl, hk, HK, rfl⟩ := hrel
                  have i0 : (0 : Int) ≤ (k : Int) := by omega
                  have HB : Hid (OB w (W0.drewN q) [.int .i64 k1, .string x1, .int .i64 n1, .int .i64 t1, .slice a1 l1 c1, .int .i64 u1, .int .i64 v1] [.int .i64 k1, .string x1, .int .i64 n1, .int .i64 t1, .slice a2 l1 c2, .int .i64 u1, .int .i64 v1]) := Lib.hid ⟨H0.out.1.drewN q, H0.out.2.1.drewN q, H0.out.2.2.trans ((bel_drewN W0 q).mono H0.out.2.2.size)⟩
                  have c4 := H0.out.1.cell (i := 4) rfl
                  have d4 := H0.out.2.1.cell (i := 4) rfl
                  by_cases hkn : k < l1
                  · have i1 : (k : Int) < (l1 : Int) := by omega
                    have w1 : IntKind.i64.wrap ((k : Int) + 1) = (k : Int) + 1 := IntWalk.i64_in _ (by omega)
                    obtain ⟨s1, y1, e1⟩ : ∃ s t, L1[k]? = some (s, t) := ⟨_, _, List.getElem?_eq_getElem (by rw [HL.out.1]; exact hkn)⟩
                    obtain ⟨s2, y2, e2⟩ : ∃ s t, L2[k]? = some (s, t) := ⟨_, _, List.getElem?_eq_getElem (by rw [HL.out.2.1]; exact hkn)⟩
                    obtain ⟨_, g1, o1, rfl, _, b1, b2⟩ := (HA.out.1.below H0.out.2.2) k s1 y1 e1
                    obtain ⟨_, g2, o2, rfl, _, b3, b4⟩ := (HA.out.2.below H0.out.2.2) k s2 y2 e2
                    have eqp := eqArm s1 s2 y1 y2
                    by_cases hp : (s1, y1) = (s2, y2)
                    · rw [decide_eq_true hp] at eqp
                      have HK2 : Hid (∀ j, j < k + 1 → L1[j]? = L2[j]?) := Lib.hid (fun j hj => by
                        by_cases e : j = k
                        · rw [e, e1, e2, hp]
                        · exact HK.out j (by omega))
                      clear e1 e2 hp HK
                      go_wp2_with fail
                      go_quiet (fail)
                      go_wp2
                      go_roundw
                      case rel => exact ⟨k + 1, q + nq, by go_num, by omega, HK2, by simp [World.drewN_drewN]⟩
                      case measure => simp [intOf]; omega
                    · rw [decide_eq_false hp] at eqp
                      have HF : Hid (b = false) := Lib.hid (by
                        rw [← HL.out.2.2]
                        have hne : ¬ L1 = L2 := fun e => hp (by
                          rw [e, e2] at e1
                          exact (Option.some.inj e1).symm)
                        simp [hne])
                      clear e1 e2 hp HK
                      go_wp2_with fail
                      go_quiet (fail)
                      go_wp2
                      go_ret
                      exact ⟨by rw [HF.out]; rfl, H0.out.2.2.trans ((by rw [World.drewN_drewN]; exact bel_drewN W0 _ : Below W0.heap.size W0 ((W0.drewN q).drewN _)).mono H0.out.2.2.size)⟩
                  · have i1 : ¬ (k : Int) < (l1 : Int) := by omega
                    have HT : Hid (b = true) := Lib.hid (by
                      rw [← HL.out.2.2]
                      have he : L1 = L2 := List.ext_getElem? fun j => by
                        by_cases hj : j < k
                        · exact HK.out j hj
                        · rw [List.getElem?_eq_none (by rw [HL.out.1]; omega), List.getElem?_eq_none (by rw [HL.out.2.1]; omega)]
                      simp [he])
                    go_wp2
                    go_ret
                    exact ⟨by rw [HT.out]; rfl, HB.out.2.2⟩
              · obtain rfl : false = b := by
                  rw [← hb]
                  have hne : ¬ L1 = L2 := fun e => e6 (by rw [← h1, ← h2, e])
                  simp [hne]
                have g : ((l1 : Int) == (l2 : Int)) = false := by simpa using (show ¬ (l1 : Int) = (l2 : Int) by omega)
                have g9 : ((l1 : Int) != (l2 : Int)) = true := by simp only [bne, g]; rfl
                clear hb h1 h2 H1 H2 e6
                go_enter Try.func25, Try.ntmps25
                go_wp2_with fail
                go_ret
                exact ⟨rfl, bel2 w _ _⟩
            · obtain rfl : false = b := by rw [← hb]; simp [e5]
              have g : (v1 == v2) = false := by simpa using e5
              have g9 : (v1 != v2) = true := by simp only [bne, g]; rfl
              clear hb h1 h2 H1 H2 e5
              go_enter Try.func25, Try.ntmps25
              go_wp2_with fail
              go_ret
              exact ⟨rfl, bel2 w _ _⟩
          · obtain rfl : false = b := by rw [← hb]; simp [e4]
            have g : (u1 == u2) = false := by simpa using e4
            have g9 : (u1 != u2) = true := by simp only [bne, g]; rfl
            clear hb h1 h2 H1 H2 e4
            go_enter Try.func25, Try.ntmps25
            go_wp2_with fail
            go_ret
            exact ⟨rfl, bel2 w _ _⟩
        · obtain rfl : false = b := by rw [← hb]; simp [e3]
          have g : (t1 == t2) = false := by simpa using e3
          have g9 : (t1 != t2) = true := by simp only [bne, g]; rfl
          clear hb h1 h2 H1 H2 e3
          go_enter Try.func25, Try.ntmps25
          go_wp2_with fail
          go_ret
          exact ⟨rfl, bel2 w _ _⟩
      · obtain rfl : false = b := by rw [← hb]; simp [e2]
        have g : (n1 == n2) = false := by simpa using e2
        have g9 : (n1 != n2) = true := by simp only [bne, g]; rfl
        clear hb h1 h2 H1 H2 e2
        go_enter Try.func25, Try.ntmps25
        go_wp2_with fail
        go_ret
        exact ⟨rfl, bel2 w _ _⟩
    · obtain rfl : false = b := by rw [← hb]; simp [e1]
      have g := str_ne e1
      have g9 : (x1.toList != x2.toList) = true := by simp only [bne, g]; rfl
      clear hb h1 h2 H1 H2 e1
      go_enter Try.func25, Try.ntmps25
      go_wp2_with fail
      go_ret
      exact ⟨rfl, bel2 w _ _⟩
  · obtain rfl : false = b := by rw [← hb]; simp [e0]
    have g : (k1 == k2) = false := by simpa using e0
    have g9 : (k1 != k2) = true := by simp only [bne, g]; rfl
    clear hb h1 h2 H1 H2 e0
    go_enter Try.func25, Try.ntmps25
    go_wp2_with fail
    go_ret
    exact ⟨rfl, bel2 w _ _⟩
set_option maxRecDepth 20000 in
set_option maxHeartbeats 16000000 in
theorem rf_word (k : Int) (hw : (Lit.int .i64 k).wf = true) (s : ByteArray) (hs : Pg.word k = s) (w : World) : Calls Try.prog 13 #[.int .i64 k] w fun e w' => e = .returned (.string s) ∧ Below w.heap.size w w' := by
  by_cases h1 : k = 1
  · subst h1
    obtain rfl : ({ data := #[115, 101, 110, 100] } : ByteArray) = s := hs
    go_enter Try.func13, Try.ntmps13
    go_wp2_with fail
    go_ret
    exact ⟨rfl, (Below.refl _ _).alloc (Nat.le_refl _) _⟩
  · skip
    by_cases h2 : k = 2
    · subst h2
      obtain rfl : ({ data := #[101, 120, 112, 101, 99, 116] } : ByteArray) = s := hs
      go_enter Try.func13, Try.ntmps13
      go_wp2_with fail
      go_ret
      exact ⟨rfl, (Below.refl _ _).alloc (Nat.le_refl _) _⟩
    · skip
      by_cases h3 : k = 3
      · subst h3
        obtain rfl : ({ data := #[103, 111, 116, 111] } : ByteArray) = s := hs
        go_enter Try.func13, Try.ntmps13
        go_wp2_with fail
        go_ret
        exact ⟨rfl, (Below.refl _ _).alloc (Nat.le_refl _) _⟩
      · skip
        by_cases h4 : k = 4
        · subst h4
          obtain rfl : ({ data := #[112, 97, 117, 115, 101] } : ByteArray) = s := hs
          go_enter Try.func13, Try.ntmps13
          go_wp2_with fail
          go_ret
          exact ⟨rfl, (Below.refl _ _).alloc (Nat.le_refl _) _⟩
        · skip
          by_cases h5 : k = 5
          · subst h5
            obtain rfl : ({ data := #[100, 111, 110, 101] } : ByteArray) = s := hs
            go_enter Try.func13, Try.ntmps13
            go_wp2_with fail
            go_ret
            exact ⟨rfl, (Below.refl _ _).alloc (Nat.le_refl _) _⟩
          · skip
            by_cases h6 : k = 6
            · subst h6
              obtain rfl : ({ data := #[102, 97, 105, 108] } : ByteArray) = s := hs
              go_enter Try.func13, Try.ntmps13
              go_wp2_with fail
              go_ret
              exact ⟨rfl, (Below.refl _ _).alloc (Nat.le_refl _) _⟩
            · skip
              obtain rfl : ({ data := #[] } : ByteArray) = s := by rw [← hs]; unfold Pg.word; rw [if_neg h1, if_neg h2, if_neg h3, if_neg h4, if_neg h5, if_neg h6]
              by_cases hlt : k < 1
              · have i1 : k < 1 := hlt
                clear hs h1 h2 h3 h4 h5 h6 hw
                go_enter Try.func13, Try.ntmps13
                go_wp2_with fail
                go_ret
                exact ⟨rfl, (Below.refl _ _).alloc (Nat.le_refl _) _⟩
              · have i1 : ¬ k < 1 := hlt
                have i2 : (6 : Int) < k := by omega
                clear hs h1 h2 h3 h4 h5 h6 hw
                go_enter Try.func13, Try.ntmps13
                go_wp2_with fail
                go_ret
                exact ⟨rfl, (Below.refl _ _).alloc (Nat.le_refl _) _⟩
end Go.Proofs.Ytoniipmgkoogbaa
/- Scripts: scripts held against each other. -/
namespace Go.Proofs.Ytoniipmgkoogbaa
open Go.ChangeShapes Go.WideShapes Go.ChangeAt Go.RowKit
set_option linter.unusedSimpArgs false
set_option linter.unusedVariables false


set_option maxRecDepth 20000 in
set_option maxHeartbeats 16000000 in
theorem pg_equalf (oa1 oa2 : Option Addr) (n1 n2 c1 c2 : Nat) (L1 L2 : List Pg.Op) (h1 : L1.length = n1) (h2 : L2.length = n2) (m1 : n1 ≤ maxLen) (b : Bool) (hb : Pg.sameL L1 L2 = b) (w : World) (H1 : OL w oa1 L1) (H2 : OL w oa2 L2) :
    Calls Try.prog 23 #[.slice oa1 n1 c1, .slice oa2 n2 c2, .func (.func 24) #[] #[]] w fun e w' => e = .returned (.bool b) ∧ Below w.heap.size w w' := by
  have hm : maxLen ≤ 9223372036854775807 := by unfold maxLen; omega
  by_cases hn : n1 = n2
  · subst hn
    have HL := Lib.hid (And.intro h1 (And.intro h2 hb))
    have HA := Lib.hid (And.intro H1 H2)
    clear h1 h2 hb H1 H2
    go_enter Try.func23, Try.ntmps23
    go_upto_region 4 with fail
    go_loopw [7, 8, 9, 17] (fun _ _ _ i wr => ∃ j : Nat, i = .int .i64 j ∧ j ≤ n1 ∧ Hid (∀ (i : Nat) a b, i < j → L1[i]? = some a → L2[i]? = some b → Pg.same a b = true) ∧ Hid (True ∧ Below w.heap.size w wr)) (fun _ _ _ i _ => n1 - (intOf i).toNat)
    case atStart => exact ⟨0, rfl, by omega, Lib.hid (fun i a b hi => by omega), Lib.hid ⟨trivial, Below.refl _ _⟩⟩
    case round =>
      obtain ⟨j, rfl, hj, HK, HB⟩ := hrel
      have i0 : (0 : Int) ≤ (j : Int) := by omega
      by_cases hjn : j < n1
      · have i1 : (j : Int) < (n1 : Int) := by omega
        have w1 : IntKind.i64.wrap ((j : Int) + 1) = (j : Int) + 1 := IntWalk.i64_in _ (by omega)
        obtain ⟨k1, x1, p1, t1, ar1, u1, v1, e1⟩ : ∃ k tx n1 to1 ar ot oe, L1[j]? = some ⟨k, tx, n1, to1, ar, ot, oe⟩ := ⟨_, _, _, _, _, _, _, List.getElem?_eq_getElem (by rw [HL.out.1]; exact hjn)⟩
        obtain ⟨k2, x2, p2, t2, ar2, u2, v2, e2⟩ : ∃ k tx n1 to1 ar ot oe, L2[j]? = some ⟨k, tx, n1, to1, ar, ot, oe⟩ := ⟨_, _, _, _, _, _, _, List.getElem?_eq_getElem (by rw [HL.out.2.1]; exact hjn)⟩
        obtain ⟨_, hal1, g1, o1, aa1, ac1, rfl, _, a0, a1, a2, a3, a4, a5, a6, hA1⟩ := (HA.out.1.below HB.out.2) j k1 x1 p1 t1 ar1 u1 v1 e1
        obtain ⟨_, hal2, g2, o2, aa2, ac2, rfl, _, b0, b1, b2, b3, b4, b5, b6, hA2⟩ := (HA.out.2.below HB.out.2) j k2 x2 p2 t2 ar2 u2 v2 e2
        obtain ⟨l1, hl1⟩ : ∃ l, ar1.length = l := ⟨_, rfl⟩
        obtain ⟨l2, hl2⟩ : ∃ l, ar2.length = l := ⟨_, rfl⟩
        rw [hl1] at hal1 a4
        rw [hl2] at hal2 b4
        obtain ⟨q, hq⟩ : ∃ q, Pg.same ⟨k1, x1, p1, t1, ar1, u1, v1⟩ ⟨k2, x2, p2, t2, ar2, u2, v2⟩ = q := ⟨_, rfl⟩
        have HQ := Lib.hid (And.intro hl1 (And.intro hl2 (And.intro hq (And.intro e1 e2))))
        have HC : Hid ((Blk ((wr.alloc (.cells #[.int .i64 k1, .string x1, .int .i64 p1, .int .i64 t1, .slice aa1 l1 ac1, .int .i64 u1, .int .i64 v1] 27)).alloc (.cells #[.int .i64 k2, .string x2, .int .i64 p2, .int .i64 t2, .slice aa2 l2 ac2, .int .i64 u2, .int .i64 v2] 27)) wr.heap.size [.int .i64 k1, .string x1, .int .i64 p1, .int .i64 t1, .slice aa1 l1 ac1, .int .i64 u1, .int .i64 v1] 27 ∧ Blk ((wr.alloc (.cells #[.int .i64 k1, .string x1, .int .i64 p1, .int .i64 t1, .slice aa1 l1 ac1, .int .i64 u1, .int .i64 v1] 27)).alloc (.cells #[.int .i64 k2, .string x2, .int .i64 p2, .int .i64 t2, .slice aa2 l2 ac2, .int .i64 u2, .int .i64 v2] 27)) (wr.heap.size + 1) [.int .i64 k2, .string x2, .int .i64 p2, .int .i64 t2, .slice aa2 l2 ac2, .int .i64 u2, .int .i64 v2] 27 ∧ Below w.heap.size w ((wr.alloc (.cells #[.int .i64 k1, .string x1, .int .i64 p1, .int .i64 t1, .slice aa1 l1 ac1, .int .i64 u1, .int .i64 v1] 27)).alloc (.cells #[.int .i64 k2, .string x2, .int .i64 p2, .int .i64 t2, .slice aa2 l2 ac2, .int .i64 u2, .int .i64 v2] 27))) ∧ AL ((wr.alloc (.cells #[.int .i64 k1, .string x1, .int .i64 p1, .int .i64 t1, .slice aa1 l1 ac1, .int .i64 u1, .int .i64 v1] 27)).alloc (.cells #[.int .i64 k2, .string x2, .int .i64 p2, .int .i64 t2, .slice aa2 l2 ac2, .int .i64 u2, .int .i64 v2] 27)) aa1 ar1 ∧ AL ((wr.alloc (.cells #[.int .i64 k1, .string x1, .int .i64 p1, .int .i64 t1, .slice aa1 l1 ac1, .int .i64 u1, .int .i64 v1] 27)).alloc (.cells #[.int .i64 k2, .string x2, .int .i64 p2, .int .i64 t2, .slice aa2 l2 ac2, .int .i64 u2, .int .i64 v2] 27)) aa2 ar2) := Lib.hid (by
          have h := OB.new wr #[.int .i64 k1, .string x1, .int .i64 p1, .int .i64 t1, .slice aa1 l1 ac1, .int .i64 u1, .int .i64 v1] #[.int .i64 k2, .string x2, .int .i64 p2, .int .i64 t2, .slice aa2 l2 ac2, .int .i64 u2, .int .i64 v2]
          exact ⟨⟨h.1, h.2.1, HB.out.2.trans (h.2.2.mono HB.out.2.size)⟩, hA1.below h.2.2, hA2.below h.2.2⟩)
        have n0 : ¬ g2 = wr.heap.size := by
          have := World.block_lt_of_cell? _ _ b0
          dsimp only at this
          omega
        have n0' : ¬ wr.heap.size = g2 := fun e => n0 e.symm
        clear hl1 hl2 hq e1 e2 hA1 hA2
        go_upto_region 7 with fail
        clear a0 a1 a2 a3 a4 a5 a6 b0 b1 b2 b3 b4 b5 b6 n0 n0' HB
        revert HC
        generalize ((wr.alloc (.cells #[.int .i64 k1, .string x1, .int .i64 p1, .int .i64 t1, .slice aa1 l1 ac1, .int .i64 u1, .int .i64 v1] 27)).alloc (.cells #[.int .i64 k2, .string x2, .int .i64 p2, .int .i64 t2, .slice aa2 l2 ac2, .int .i64 u2, .int .i64 v2] 27)) = V1
        generalize wr.heap.size + 1 = Y2
        generalize wr.heap.size = Y1
        intro HC
        have a0 := HC.out.1.1.cell (i := 0) rfl
        have b0 := HC.out.1.2.1.cell (i := 0) rfl
        have a1 := HC.out.1.1.cell (i := 1) rfl
        have b1 := HC.out.1.2.1.cell (i := 1) rfl
        have a2 := HC.out.1.1.cell (i := 2) rfl
        have b2 := HC.out.1.2.1.cell (i := 2) rfl
        have a3 := HC.out.1.1.cell (i := 3) rfl
        have b3 := HC.out.1.2.1.cell (i := 3) rfl
        have a4 := HC.out.1.1.cell (i := 4) rfl
        have b4 := HC.out.1.2.1.cell (i := 4) rfl
        have a5 := HC.out.1.1.cell (i := 5) rfl
        have b5 := HC.out.1.2.1.cell (i := 5) rfl
        have a6 := HC.out.1.1.cell (i := 6) rfl
        have b6 := HC.out.1.2.1.cell (i := 6) rfl
        cases q with
        | true =>
          have HK2 : Hid (∀ (i : Nat) a b, i < j + 1 → L1[i]? = some a → L2[i]? = some b → Pg.same a b = true) := Lib.hid (fun i a b hi ha hb2 => by
            by_cases e : i = j
            · rw [e, HQ.out.2.2.2.1] at ha
              rw [e, HQ.out.2.2.2.2] at hb2
              rw [← Option.some.inj ha, ← Option.some.inj hb2]
              exact HQ.out.2.2.1
            · exact HK.out i a b (by omega) ha hb2)
          go_wp2_with (first
            | (go_at_call 24; refine (pg_sameop k1 k2 x1 x2 p1 p2 t1 t2 aa1 aa2 l1 l2 ac1 ac2 u1 u2 v1 v2 ar1 ar2 HQ.out.1 HQ.out.2.1 hal1 _ HQ.out.2.2.1 _ HC.out.2.1 HC.out.2.2).mono ?_; rintro r W2 ⟨rfl, hb1⟩; have HD := Lib.hid (HC.out.1.2.2.trans (hb1.mono HC.out.1.2.2.size)); clear hb1)
            | fail)
          go_roundw
          case rel => exact ⟨j + 1, by go_num, by omega, HK2, Lib.hid ⟨trivial, HD.out⟩⟩
          case measure => simp [intOf]; omega
        | false =>
          have HF : Hid (b = false) := Lib.hid (by rw [← HL.out.2.2]; exact sameL_at _ _ j _ _ HQ.out.2.2.2.1 HQ.out.2.2.2.2 HQ.out.2.2.1)
          go_wp2_with (first
            | (go_at_call 24; refine (pg_sameop k1 k2 x1 x2 p1 p2 t1 t2 aa1 aa2 l1 l2 ac1 ac2 u1 u2 v1 v2 ar1 ar2 HQ.out.1 HQ.out.2.1 hal1 _ HQ.out.2.2.1 _ HC.out.2.1 HC.out.2.2).mono ?_; rintro r W2 ⟨rfl, hb1⟩; have HD := Lib.hid (HC.out.1.2.2.trans (hb1.mono HC.out.1.2.2.size)); clear hb1)
            | fail)
          go_ret
          exact ⟨by rw [HF.out]; rfl, HD.out⟩
      · have i1 : ¬ (j : Int) < (n1 : Int) := by omega
        have HT : Hid (b = true) := Lib.hid (by rw [← HL.out.2.2]; exact sameL_all _ _ (by rw [HL.out.1, HL.out.2.1]) (fun i a b2 ha hb2 => HK.out i a b2 (by have : i < L1.length := (List.getElem?_eq_some_iff.1 ha).1; rw [HL.out.1] at this; omega) ha hb2))
        go_wp2_with fail
        go_ret
        exact ⟨by rw [HT.out]; rfl, HB.out.2⟩
  · obtain rfl : false = b := by rw [← hb]; exact (sameL_len L1 L2 (by rw [h1, h2]; exact hn)).symm
    have i1 : ((n1 : Int) == (n2 : Int)) = false := by simpa using (show ¬ (n1 : Int) = (n2 : Int) by omega)
    have i9 : ((n1 : Int) != (n2 : Int)) = true := by simp only [bne, i1]; rfl
    clear hb h1 h2 H1 H2
    go_enter Try.func23, Try.ntmps23
    go_wp2_with fail
    go_ret
    exact ⟨rfl, Below.refl _ _⟩
set_option maxRecDepth 20000 in
set_option maxHeartbeats 16000000 in
theorem pg_same (nm1 nm2 : ByteArray) (dl1 dl2 jp1 jp2 : Int) (oa1 oa2 : Option Addr) (n1 n2 c1 c2 : Nat) (L1 L2 : List Pg.Op) (h1 : L1.length = n1) (h2 : L2.length = n2) (m1 : n1 ≤ maxLen) (b : Bool) (hb : Pg.sameP nm1 dl1 jp1 L1 nm2 dl2 jp2 L2 = b) (w : World) (H1 : OL w oa1 L1) (H2 : OL w oa2 L2) :
    Calls Try.prog 10 #[.agg #[.string nm1, .int .i64 dl1, .int .i64 jp1, .slice oa1 n1 c1], .agg #[.string nm2, .int .i64 dl2, .int .i64 jp2, .slice oa2 n2 c2]] w fun e w' => e = .returned (.bool b) ∧ Below w.heap.size w w' := by
  have hm : maxLen ≤ 9223372036854775807 := by unfold maxLen; omega
  unfold Pg.sameP at hb
  by_cases e0 : nm1 = nm2
  · subst e0
    by_cases e1 : dl1 = dl2
    · subst e1
      by_cases e2 : jp1 = jp2
      · subst e2
        have hq : Pg.sameL L1 L2 = b := by rw [← hb]; simp
        clear hb
        have HL := Lib.hid (And.intro h1 (And.intro h2 (And.intro hq (And.intro H1 H2))))
        have H0 := Lib.hid (FS.new (w := w) #[.string nm1, .int .i64 dl1, .int .i64 jp1, .slice oa1 n1 c1] #[.string nm1, .int .i64 dl1, .int .i64 jp1, .slice oa2 n2 c2])
        clear h1 h2 hq H1 H2
        go_enter Try.func10, Try.ntmps10
        go_upto_region 1 with fail
        revert H0
        generalize ((w.alloc (.cells #[.string nm1, .int .i64 dl1, .int .i64 jp1, .slice oa1 n1 c1] 24)).alloc (.cells #[.string nm1, .int .i64 dl1, .int .i64 jp1, .slice oa2 n2 c2] 24)) = W0
        intro H0
        have cc0 := H0.out.1.cell (i := 0) rfl
        have dd0 := H0.out.2.1.cell (i := 0) rfl
        have cc1 := H0.out.1.cell (i := 1) rfl
        have dd1 := H0.out.2.1.cell (i := 1) rfl
        have cc2 := H0.out.1.cell (i := 2) rfl
        have dd2 := H0.out.2.1.cell (i := 2) rfl
        have cc3 := H0.out.1.cell (i := 3) rfl
        have dd3 := H0.out.2.1.cell (i := 3) rfl
        go_wp2_with (first
          | (go_at_call 23; refine (pg_equalf oa1 oa2 n1 n2 c1 c2 L1 L2 HL.out.1 HL.out.2.1 m1 b HL.out.2.2.1 _ (HL.out.2.2.2.1.below H0.out.2.2) (HL.out.2.2.2.2.below H0.out.2.2)).mono ?_; rintro r W2 ⟨rfl, hb1⟩; have HD := Lib.hid (H0.out.2.2.trans (hb1.mono H0.out.2.2.size)); clear hb1)
          | fail)
        go_ret
        exact ⟨rfl, HD.out⟩
      · obtain rfl : false = b := by rw [← hb]; simp [e2]
        have g : (jp1 == jp2) = false := by simpa using e2
        have g9 : (jp1 != jp2) = true := by simp only [bne, g]; rfl
        clear hb h1 h2 H1 H2 e2
        go_enter Try.func10, Try.ntmps10
        go_wp2_with fail
        go_ret
        exact ⟨rfl, bel2 w _ _⟩
    · obtain rfl : false = b := by rw [← hb]; simp [e1]
      have g : (dl1 == dl2) = false := by simpa using e1
      have g9 : (dl1 != dl2) = true := by simp only [bne, g]; rfl
      clear hb h1 h2 H1 H2 e1
      go_enter Try.func10, Try.ntmps10
      go_wp2_with fail
      go_ret
      exact ⟨rfl, bel2 w _ _⟩
  · obtain rfl : false = b := by rw [← hb]; simp [e0]
    have g := str_ne e0
    have g9 : (nm1.toList != nm2.toList) = true := by simp only [bne, g]; rfl
    clear hb h1 h2 H1 H2 e0
    go_enter Try.func10, Try.ntmps10
    go_wp2_with fail
    go_ret
    exact ⟨rfl, bel2 w _ _⟩
set_option maxRecDepth 20000 in
set_option maxHeartbeats 16000000 in
theorem rf_same (nm1 nm2 : ByteArray) (dl1 dl2 jp1 jp2 : Int) (oa1 oa2 : Option Addr) (n1 n2 c1 c2 : Nat) (L1 L2 : List Pg.Op) (h1 : L1.length = n1) (h2 : L2.length = n2) (m1 : n1 ≤ maxLen) (b : Bool) (hb : Pg.sameP nm1 dl1 jp1 L1 nm2 dl2 jp2 L2 = b) (w : World) (H1 : OL w oa1 L1) (H2 : OL w oa2 L2) :
    Calls Try.prog 11 #[.agg #[.string nm1, .int .i64 dl1, .int .i64 jp1, .slice oa1 n1 c1], .agg #[.string nm2, .int .i64 dl2, .int .i64 jp2, .slice oa2 n2 c2]] w fun e w' => e = .returned (.bool b) ∧ Below w.heap.size w w' := by
  have hm : maxLen ≤ 9223372036854775807 := by unfold maxLen; omega
  unfold Pg.sameP at hb
  by_cases e0 : nm1 = nm2
  · subst e0
    by_cases e1 : dl1 = dl2
    · subst e1
      by_cases e2 : jp1 = jp2
      · subst e2
        have hq : Pg.sameL L1 L2 = b := by rw [← hb]; simp
        clear hb
        by_cases hn : n1 = n2
        · subst hn
          have HL := Lib.hid (And.intro h1 (And.intro h2 hq))
          have HA := Lib.hid (And.intro H1 H2)
          have H0 := Lib.hid (FS.new (w := w) #[.string nm1, .int .i64 dl1, .int .i64 jp1, .slice oa1 n1 c1] #[.string nm1, .int .i64 dl1, .int .i64 jp1, .slice oa2 n1 c2])
          clear h1 h2 hq H1 H2
          go_enter Try.func11, Try.ntmps11
          go_upto_region 1 with fail
          revert H0
          generalize ((w.alloc (.cells #[.string nm1, .int .i64 dl1, .int .i64 jp1, .slice oa1 n1 c1] 24)).alloc (.cells #[.string nm1, .int .i64 dl1, .int .i64 jp1, .slice oa2 n1 c2] 24)) = W0
          intro H0
          have cc0 := H0.out.1.cell (i := 0) rfl
          have dd0 := H0.out.2.1.cell (i := 0) rfl
          have cc1 := H0.out.1.cell (i := 1) rfl
          have dd1 := H0.out.2.1.cell (i := 1) rfl
          have cc2 := H0.out.1.cell (i := 2) rfl
          have dd2 := H0.out.2.1.cell (i := 2) rfl
          have cc3 := H0.out.1.cell (i := 3) rfl
          have dd3 := H0.out.2.1.cell (i := 3) rfl
          go_upto_region 4 with fail
          clear cc0 dd0 cc1 dd1 cc2 dd2 cc3 dd3
          go_loopw [5] (fun i wr => ∃ j : Nat, i = .int .i64 j ∧ j ≤ n1 ∧ Hid (∀ (i : Nat) a b, i < j → L1[i]? = some a → L2[i]? = some b → Pg.same a b = true) ∧ Hid ((Blk wr w.heap.size [.string nm1, .int .i64 dl1, .int .i64 jp1, .slice oa1 n1 c1] 24 ∧ Blk wr (w.heap.size + 1) [.string nm1, .int .i64 dl1, .int .i64 jp1, .slice oa2 n1 c2] 24) ∧ Below w.heap.size w wr)) (fun i _ => n1 - (intOf i).toNat)
          case atStart => exact ⟨0, rfl, by omega, Lib.hid (fun i a b hi => by omega), Lib.hid ⟨⟨H0.out.1, H0.out.2.1⟩, H0.out.2.2⟩⟩
          case round =>
            clear H0
            obtain ⟨j, rfl, hj, HK, HB⟩ := hrel
            have i0 : (0 : Int) ≤ (j : Int) := by omega
            have c3 := HB.out.1.1.cell (i := 3) rfl
            have d3 := HB.out.1.2.cell (i := 3) rfl
            by_cases hjn : j < n1
            · have i1 : (j : Int) < (n1 : Int) := by omega
              have w1 : IntKind.i64.wrap ((j : Int) + 1) = (j : Int) + 1 := IntWalk.i64_in _ (by omega)
              obtain ⟨k1, x1, p1, t1, ar1, u1, v1, e1⟩ : ∃ k tx n1 to1 ar ot oe, L1[j]? = some ⟨k, tx, n1, to1, ar, ot, oe⟩ := ⟨_, _, _, _, _, _, _, List.getElem?_eq_getElem (by rw [HL.out.1]; exact hjn)⟩
              obtain ⟨k2, x2, p2, t2, ar2, u2, v2, e2⟩ : ∃ k tx n1 to1 ar ot oe, L2[j]? = some ⟨k, tx, n1, to1, ar, ot, oe⟩ := ⟨_, _, _, _, _, _, _, List.getElem?_eq_getElem (by rw [HL.out.2.1]; exact hjn)⟩
              obtain ⟨_, hal1, g1, o1, aa1, ac1, rfl, _, a0, a1, a2, a3, a4, a5, a6, hA1⟩ := (HA.out.1.below HB.out.2) j k1 x1 p1 t1 ar1 u1 v1 e1
              obtain ⟨_, hal2, g2, o2, aa2, ac2, rfl, _, b0, b1, b2, b3, b4, b5, b6, hA2⟩ := (HA.out.2.below HB.out.2) j k2 x2 p2 t2 ar2 u2 v2 e2
              obtain ⟨l1, hl1⟩ : ∃ l, ar1.length = l := ⟨_, rfl⟩
              obtain ⟨l2, hl2⟩ : ∃ l, ar2.length = l := ⟨_, rfl⟩
              rw [hl1] at hal1 a4
              rw [hl2] at hal2 b4
              obtain ⟨q, hq⟩ : ∃ q, Pg.same ⟨k1, x1, p1, t1, ar1, u1, v1⟩ ⟨k2, x2, p2, t2, ar2, u2, v2⟩ = q := ⟨_, rfl⟩
              have HQ := Lib.hid (And.intro hl1 (And.intro hl2 (And.intro hq (And.intro e1 e2))))
              have HE := Lib.hid (And.intro hA1 hA2)
              have HG : Hid (wr.cell? ⟨g1, o1 + j * 7, none⟩ = some (.int .i64 k1) ∧ wr.cell? ⟨g1, o1 + j * 7 + 1, none⟩ = some (.string x1) ∧ wr.cell? ⟨g1, o1 + j * 7 + 2, none⟩ = some (.int .i64 p1) ∧ wr.cell? ⟨g1, o1 + j * 7 + 3, none⟩ = some (.int .i64 t1) ∧ wr.cell? ⟨g1, o1 + j * 7 + 4, none⟩ = some (.slice aa1 l1 ac1) ∧ wr.cell? ⟨g1, o1 + j * 7 + 5, none⟩ = some (.int .i64 u1) ∧ wr.cell? ⟨g1, o1 + j * 7 + 6, none⟩ = some (.int .i64 v1) ∧ wr.cell? ⟨g2, o2 + j * 7, none⟩ = some (.int .i64 k2) ∧ wr.cell? ⟨g2, o2 + j * 7 + 1, none⟩ = some (.string x2) ∧ wr.cell? ⟨g2, o2 + j * 7 + 2, none⟩ = some (.int .i64 p2) ∧ wr.cell? ⟨g2, o2 + j * 7 + 3, none⟩ = some (.int .i64 t2) ∧ wr.cell? ⟨g2, o2 + j * 7 + 4, none⟩ = some (.slice aa2 l2 ac2) ∧ wr.cell? ⟨g2, o2 + j * 7 + 5, none⟩ = some (.int .i64 u2) ∧ wr.cell? ⟨g2, o2 + j * 7 + 6, none⟩ = some (.int .i64 v2)) := Lib.hid ⟨a0, a1, a2, a3, a4, a5, a6, b0, b1, b2, b3, b4, b5, b6⟩
              have lg1 := World.block_lt_of_cell? _ _ a0
              have lg2 := World.block_lt_of_cell? _ _ b0
              dsimp only at lg1 lg2
              clear hl1 hl2 hq e1 e2 hA1 hA2 a0 a1 a2 a3 a4 a5 a6 b0 b1 b2 b3 b4 b5 b6
              go_upto_region 6 with fail
              clear c3 d3
              refine wp_region_class (fun w' => Blk w' w.heap.size [.string nm1, .int .i64 dl1, .int .i64 jp1, .slice (some ⟨g1, o1, none⟩) n1 c1] 24 ∧ Blk w' (w.heap.size + 1) [.string nm1, .int .i64 dl1, .int .i64 jp1, .slice (some ⟨g2, o2, none⟩) n1 c2] 24 ∧ Below wr.heap.size wr w') (by kernel_rfl) (by kernel_rfl) ⟨HB.out.1.1.drew, HB.out.1.2.drew, (Below.refl _ _).drew⟩ ?_
              repeat (first
                  | go_big_quiet_skip
                  | (go_big_quiet_want
                     unfold Oper.quiet
                     apply Exists.intro
                     refine ⟨fun wq hwq => ?_, ?_⟩
                     · (have c3 := hwq.1.cell (i := 3) rfl
                        have d3 := hwq.2.1.cell (i := 3) rfl
                        have a0 := (hwq.2.2.cell (p := ⟨g1, o1 + j * 7, none⟩) lg1).trans HG.out.1
                        have a1 := (hwq.2.2.cell (p := ⟨g1, o1 + j * 7 + 1, none⟩) lg1).trans HG.out.2.1
                        have a2 := (hwq.2.2.cell (p := ⟨g1, o1 + j * 7 + 2, none⟩) lg1).trans HG.out.2.2.1
                        have a3 := (hwq.2.2.cell (p := ⟨g1, o1 + j * 7 + 3, none⟩) lg1).trans HG.out.2.2.2.1
                        have a4 := (hwq.2.2.cell (p := ⟨g1, o1 + j * 7 + 4, none⟩) lg1).trans HG.out.2.2.2.2.1
                        have a5 := (hwq.2.2.cell (p := ⟨g1, o1 + j * 7 + 5, none⟩) lg1).trans HG.out.2.2.2.2.2.1
                        have a6 := (hwq.2.2.cell (p := ⟨g1, o1 + j * 7 + 6, none⟩) lg1).trans HG.out.2.2.2.2.2.2.1
                        have b0 := (hwq.2.2.cell (p := ⟨g2, o2 + j * 7, none⟩) lg2).trans HG.out.2.2.2.2.2.2.2.1
                        have b1 := (hwq.2.2.cell (p := ⟨g2, o2 + j * 7 + 1, none⟩) lg2).trans HG.out.2.2.2.2.2.2.2.2.1
                        have b2 := (hwq.2.2.cell (p := ⟨g2, o2 + j * 7 + 2, none⟩) lg2).trans HG.out.2.2.2.2.2.2.2.2.2.1
                        have b3 := (hwq.2.2.cell (p := ⟨g2, o2 + j * 7 + 3, none⟩) lg2).trans HG.out.2.2.2.2.2.2.2.2.2.2.1
                        have b4 := (hwq.2.2.cell (p := ⟨g2, o2 + j * 7 + 4, none⟩) lg2).trans HG.out.2.2.2.2.2.2.2.2.2.2.2.1
                        have b5 := (hwq.2.2.cell (p := ⟨g2, o2 + j * 7 + 5, none⟩) lg2).trans HG.out.2.2.2.2.2.2.2.2.2.2.2.2.1
                        have b6 := (hwq.2.2.cell (p := ⟨g2, o2 + j * 7 + 6, none⟩) lg2).trans HG.out.2.2.2.2.2.2.2.2.2.2.2.2.2
                        unfold Oper.quietAt
                        go_simp
                        first
                          | exact ⟨rfl, hwq⟩
                          | exact rfl
                          | (go_at_call 25; refine (rf_sameop k1 k2 x1 x2 p1 p2 t1 t2 aa1 aa2 l1 l2 ac1 ac2 u1 u2 v1 v2 ar1 ar2 HQ.out.1 HQ.out.2.1 hal1 q HQ.out.2.2.1 _ (HE.out.1.below hwq.2.2) (HE.out.2.below hwq.2.2)).mono ?_; rintro e w3 ⟨he, hb⟩; exact ⟨he, hwq.1.below hb hwq.1.lt, hwq.2.1.below hb hwq.2.1.lt, hwq.2.2.trans (hb.mono hwq.2.2.size)⟩))
                     simp only [Act.put, List.setIfInBounds_toArray, List.set_cons_zero, List.set_cons_succ]
                     go_big_quiet_on))
              refine wpQuiet_nil ?_
              intro w4 hw4
              have HX : Hid ((Blk w4 w.heap.size [.string nm1, .int .i64 dl1, .int .i64 jp1, .slice (some ⟨g1, o1, none⟩) n1 c1] 24 ∧ Blk w4 (w.heap.size + 1) [.string nm1, .int .i64 dl1, .int .i64 jp1, .slice (some ⟨g2, o2, none⟩) n1 c2] 24) ∧ Below w.heap.size w w4) := Lib.hid ⟨⟨hw4.1, hw4.2.1⟩, HB.out.2.trans (hw4.2.2.mono HB.out.2.size)⟩
              clear hw4
              cases q with
              | true =>
                have HK2 : Hid (∀ (i : Nat) a b, i < j + 1 → L1[i]? = some a → L2[i]? = some b → Pg.same a b = true) := Lib.hid (fun i a b hi ha hb2 => by
                  by_cases e : i = j
                  · rw [e, HQ.out.2.2.2.1] at ha
                    rw [e, HQ.out.2.2.2.2] at hb2
                    rw [← Option.some.inj ha, ← Option.some.inj hb2]
                    exact HQ.out.2.2.1
                  · exact HK.out i a b (by omega) ha hb2)
                go_wp2_with fail
                go_roundw
                case rel => exact ⟨j + 1, by go_num, by omega, HK2, HX⟩
                case measure => simp [intOf]; omega
              | false =>
                have HF : Hid (b = false) := Lib.hid (by rw [← HL.out.2.2]; exact sameL_at _ _ j _ _ HQ.out.2.2.2.1 HQ.out.2.2.2.2 HQ.out.2.2.1)
                go_wp2_with fail
                go_ret
                exact ⟨by rw [HF.out]; rfl, HX.out.2⟩
            · have i1 : ¬ (j : Int) < (n1 : Int) := by omega
              have HT : Hid (b = true) := Lib.hid (by rw [← HL.out.2.2]; exact sameL_all _ _ (by rw [HL.out.1, HL.out.2.1]) (fun i a b2 ha hb2 => HK.out i a b2 (by have : i < L1.length := (List.getElem?_eq_some_iff.1 ha).1; rw [HL.out.1] at this; omega) ha hb2))
              go_wp2_with fail
              go_ret
              exact ⟨by rw [HT.out]; rfl, HB.out.2⟩
        · obtain rfl : false = b := by rw [← hq]; exact (sameL_len L1 L2 (by rw [h1, h2]; exact hn)).symm
          have i1 : ((n1 : Int) == (n2 : Int)) = false := by simpa using (show ¬ (n1 : Int) = (n2 : Int) by omega)
          have i9 : ((n1 : Int) != (n2 : Int)) = true := by simp only [bne, i1]; rfl
          clear hq h1 h2 H1 H2
          go_enter Try.func11, Try.ntmps11
          go_wp2_with fail
          go_ret
          exact ⟨rfl, bel2 w _ _⟩
      · obtain rfl : false = b := by rw [← hb]; simp [e2]
        have g : (jp1 == jp2) = false := by simpa using e2
        have g9 : (jp1 != jp2) = true := by simp only [bne, g]; rfl
        clear hb h1 h2 H1 H2 e2
        go_enter Try.func11, Try.ntmps11
        go_wp2_with fail
        go_ret
        exact ⟨rfl, bel2 w _ _⟩
    · obtain rfl : false = b := by rw [← hb]; simp [e1]
      have g : (dl1 == dl2) = false := by simpa using e1
      have g9 : (dl1 != dl2) = true := by simp only [bne, g]; rfl
      clear hb h1 h2 H1 H2 e1
      go_enter Try.func11, Try.ntmps11
      go_wp2_with fail
      go_ret
      exact ⟨rfl, bel2 w _ _⟩
  · obtain rfl : false = b := by rw [← hb]; simp [e0]
    have g := str_ne e0
    have g9 : (nm1.toList != nm2.toList) = true := by simp only [bne, g]; rfl
    clear hb h1 h2 H1 H2 e0
    go_enter Try.func11, Try.ntmps11
    go_wp2_with fail
    go_ret
    exact ⟨rfl, bel2 w _ _⟩
end Go.Proofs.Ytoniipmgkoogbaa
/- Scripts: copies. -/
namespace Go.Proofs.Ytoniipmgkoogbaa
open Go.ChangeShapes Go.WideShapes Go.ChangeAt Go.RowKit
set_option linter.unusedSimpArgs false
set_option linter.unusedVariables false


theorem pcs_one : ∀ (T : List (Pg.Op × Option Addr × Nat)), ∀ u ∈ pcs T, u.oneCell' = true
  | [], u, h => by simp [pcs] at h
  | t :: T, u, h => by
    simp only [pcs, List.mem_append] at h
    rcases h with h | h
    · exact oc_one t u h
    · exact pcs_one T u h
theorem acs_one : ∀ (l : List (ByteArray × Int)), ∀ u ∈ acs l, u.oneCell' = true
  | [], u, h => by simp [acs] at h
  | p :: l, u, h => by
    simp only [acs, List.mem_append] at h
    rcases h with h | h
    · exact arm_one p.1 p.2 u h
    · exact acs_one l u h
theorem pcs_set4 (o : Pg.Op) (r : Option Addr) (c : Nat) : ∀ (T : List (Pg.Op × Option Addr × Nat)) (Q : Nat) (t : Pg.Op × Option Addr × Nat), T[Q]? = some t → t.1 = o → (pcs T).set (Q * 7 + 4) (.slice r o.ar.length c) = pcs (T.set Q (o, r, c))
  | [], Q, t, h, _ => by simp at h
  | a :: T, 0, t, h, h2 => by
    simp at h
    subst h
    subst h2
    simp [pcs, Pg.oc]
  | a :: T, Q + 1, t, h, h2 => by
    simp only [pcs, List.set_cons_succ]
    rw [List.set_append_right _ _ (by simp [Pg.oc]; omega), ← pcs_set4 o r c T Q t (by simpa using h) h2]
    congr 2
    simp [Pg.oc]; omega
/-- A copy half made: the first i ops have arms of their own, none below B; all arms can be read. -/
def CP (w : World) (B i g c : Nat) (T : List (Pg.Op × Option Addr × Nat)) : Prop := Rn w g c 7 (pcs T) 27 ∧ B ≤ g ∧ ∀ (q : Nat) t, T[q]? = some t → ∃ b, t.2.1 = some ⟨b, 0, none⟩ ∧ Rn w b t.2.2 2 (acs t.1.ar) 38 ∧ (q < i → B ≤ b)
theorem CP.below {w w' : World} {B i g c : Nat} {T : List (Pg.Op × Option Addr × Nat)} (h : CP w B i g c T) (k : Below w.heap.size w w') : CP w' B i g c T :=
  ⟨h.1.chg (Chg.of_fresh (l := []) k) (by simp), h.2.1, fun q t ht => by
    obtain ⟨b, h1, h2, h3⟩ := h.2.2 q t ht
    exact ⟨b, h1, h2.chg (Chg.of_fresh (l := []) k) (by simp), h3⟩⟩
theorem arm_ne {w : World} {g c b2 c2 : Nat} {cs : List Value} {L2 : List Value} (h : Rn w g c 7 cs 27) (h2 : Rn w b2 c2 2 L2 38) : b2 ∉ ([g] : List Nat) := fun e => by
  simp at e
  subst e
  obtain ⟨_, _, _, q1⟩ := h2
  obtain ⟨_, _, _, q2⟩ := h
  exact absurd (blk_tp q1 q2) (by decide)
theorem CP.store {w : World} {B i g c : Nat} {T : List (Pg.Op × Option Addr × Nat)} (h : CP w B i g c T) {o : Pg.Op} {r0 : Option Addr} {c0 : Nat} (ht : T[i]? = some (o, r0, c0)) {b kc : Nat} (hb : B ≤ b) (ha : Rn w b kc 2 (acs o.ar) 38) : CP (w.setCell ⟨g, i * 7 + 4, none⟩ (.slice (some ⟨b, 0, none⟩) o.ar.length kc)) B (i + 1) g c (T.set i (o, some ⟨b, 0, none⟩, kc)) := by
  have hi : i < T.length := (List.getElem?_eq_some_iff.1 ht).1
  have k : Chg [g] w (w.setCell ⟨g, i * 7 + 4, none⟩ (.slice (some ⟨b, 0, none⟩) o.ar.length kc)) := (Chg.refl [g] w).set (Or.inl (by simp)) _ _
  refine ⟨?_, h.2.1, fun q t hq => ?_⟩
  · rw [← pcs_set4 o _ _ T i _ ht rfl]
    exact Rn.put h.1 (by rw [pcs_len]; omega) _
  · by_cases e : q = i
    · subst e
      rw [List.getElem?_set_self hi] at hq
      have hq := Option.some.inj hq
      subst hq
      exact ⟨b, rfl, ha.chg k (arm_ne h.1 ha), fun _ => hb⟩
    · rw [List.getElem?_set_ne (fun e2 => e e2.symm)] at hq
      obtain ⟨b2, h1, h2, h3⟩ := h.2.2 q t hq
      exact ⟨b2, h1, h2.chg k (arm_ne h.1 h2), fun hlt => h3 (by omega)⟩
theorem CP.all {w : World} {B n g c : Nat} {T : List (Pg.Op × Option Addr × Nat)} (h : CP w B n g c T) (hn : T.length = n) : PR w B g c T := ⟨h.1, h.2.1, fun t ht => by
  obtain ⟨q, hq⟩ := List.mem_iff_getElem?.1 ht
  obtain ⟨b, h1, h2, h3⟩ := h.2.2 q t hq
  exact ⟨b, h1, h3 (by rw [← hn]; exact (List.getElem?_eq_some_iff.1 hq).1), h2⟩⟩
/-- A script's box, the result's, and a copy half made. -/
def CS (w0 w : World) (cs rs : List Value) (i g c : Nat) (T : List (Pg.Op × Option Addr × Nat)) : Prop := Blk w w0.heap.size cs 24 ∧ Blk w (w0.heap.size + 1) rs 24 ∧ Below w0.heap.size w0 w ∧ CP w (w0.heap.size + 2) i g c T
theorem CS.below {w0 w w' : World} {cs rs : List Value} {i g c : Nat} {T : List (Pg.Op × Option Addr × Nat)} (h : CS w0 w cs rs i g c T) (k : Below w.heap.size w w') : CS w0 w' cs rs i g c T := ⟨h.1.below k h.1.lt, h.2.1.below k h.2.1.lt, h.2.2.1.trans (k.mono h.2.2.1.size), h.2.2.2.below k⟩
theorem CS.store {w0 w : World} {cs rs : List Value} {i g c : Nat} {T : List (Pg.Op × Option Addr × Nat)} (h : CS w0 w cs rs i g c T) {o : Pg.Op} {r0 : Option Addr} {c0 : Nat} (ht : T[i]? = some (o, r0, c0)) {b kc : Nat} (hb : w0.heap.size + 2 ≤ b) (ha : Rn w b kc 2 (acs o.ar) 38) : CS w0 (w.setCell ⟨g, i * 7 + 4, none⟩ (.slice (some ⟨b, 0, none⟩) o.ar.length kc)) cs rs (i + 1) g c (T.set i (o, some ⟨b, 0, none⟩, kc)) := by
  have k : Chg [g] w (w.setCell ⟨g, i * 7 + 4, none⟩ (.slice (some ⟨b, 0, none⟩) o.ar.length kc)) := (Chg.refl [g] w).set (Or.inl (by simp)) _ _
  have hg := h.2.2.2.2.1
  exact ⟨h.1.chg k (by simp; omega), h.2.1.chg k (by simp; omega), k.onto h.2.2.1 h.2.2.1.size (by simp; omega), h.2.2.2.store ht hb ha⟩
set_option maxRecDepth 20000 in
set_option maxHeartbeats 16000000 in
theorem cl_ops (T : List (Pg.Op × Option Addr × Nat)) (n g c : Nat) (hn : T.length = n) (h6 : n ≤ 1000000) (w : World) (h : Rn w g c 7 (pcs T) 27) :
    Calls Try.prog 21 #[.slice (some ⟨g, 0, none⟩) n c] w fun e w' => ∃ g' c', e = .returned (.slice (some ⟨g', 0, none⟩) n c') ∧ Rn w' g' c' 7 (pcs T) 27 ∧ w.heap.size ≤ g' ∧ Below w.heap.size w w' := by
  have HH := Lib.hid (And.intro hn h)
  obtain ⟨cs, hcs⟩ : ∃ cs, pcs T = cs := ⟨_, rfl⟩
  have HC : Hid (cs.length = n * 7 ∧ (∀ u ∈ cs, u.oneCell' = true) ∧ Rn w g c 7 cs 27) := Lib.hid ⟨by rw [← hcs, pcs_len, hn], by rw [← hcs]; exact pcs_one T, by rw [← hcs]; exact h⟩
  rw [hcs]
  clear hn h hcs HH
  have heq : ∀ W : World, Sem.run Try.prog (binOp BinOp.eql 22 (.slice (some ⟨g, 0, none⟩) n c) (.slice none 0 0)) W = .ok (.bool false) W := fun W => Lib.run_eql_slice_nil W 22 27 (some ⟨g, 0, none⟩) n c 0 0 Try.underlying22
  go_enter Try.func21, Try.ntmps21
  go_wp2_with (at_builtin; refine wpList_append_rn _ rfl (.tmp 5) (.tmp 6) 22 22 rfl 27 (.agg #[.int .i64 0, .string ByteArray.empty, .int .i64 0, .int .i64 0, .slice none 0 0, .int .i64 0, .int .i64 0]) 7 80 Try.underlying22 infoOp rfl w.heap.size 0 0 [] rfl rfl (Rn.empty w 7 27) _ rfl n cs (Src.ofSlice _ Try.underlying22 ⟨g, 0, none⟩ n c cs HC.out.1 (fun j u hj => (HC.out.2.2.chg (l := []) ((Chg.refl [] w).alloc _) (by simp)).src j u hj) HC.out.2.1) (by omega) (by omega) ?_; intro g4 c4 w4 r1 r2 r3; have HQ := Lib.hid (And.intro r1 (And.intro r2 r3)); clear r1 r2 r3)
  first | go_ret | go_ret2 | go_ret3
  have k1 : Below w.heap.size w (w.alloc (.cells #[] 27)) := (Below.refl _ _).alloc (Nat.le_refl _) _
  exact ⟨g4, c4, by simp, by simpa using HQ.out.1, by have := k1.size; rcases HQ.out.2.1 with e | e <;> omega, HQ.out.2.2.onto k1 k1.size (by simp)⟩
set_option maxRecDepth 20000 in
set_option maxHeartbeats 16000000 in
theorem cl_arms (ar : List (ByteArray × Int)) (n g c : Nat) (hn : ar.length = n) (h6 : n ≤ 1000000) (w : World) (h : Rn w g c 2 (acs ar) 38) :
    Calls Try.prog 22 #[.slice (some ⟨g, 0, none⟩) n c] w fun e w' => ∃ g' c', e = .returned (.slice (some ⟨g', 0, none⟩) n c') ∧ Rn w' g' c' 2 (acs ar) 38 ∧ w.heap.size ≤ g' ∧ Below w.heap.size w w' := by
  have HH := Lib.hid (And.intro hn h)
  obtain ⟨cs, hcs⟩ : ∃ cs, acs ar = cs := ⟨_, rfl⟩
  have HC : Hid (cs.length = n * 2 ∧ (∀ u ∈ cs, u.oneCell' = true) ∧ Rn w g c 2 cs 38) := Lib.hid ⟨by rw [← hcs, acs_len, hn], by rw [← hcs]; exact acs_one ar, by rw [← hcs]; exact h⟩
  rw [hcs]
  clear hn h hcs HH
  have heq : ∀ W : World, Sem.run Try.prog (binOp BinOp.eql 25 (.slice (some ⟨g, 0, none⟩) n c) (.slice none 0 0)) W = .ok (.bool false) W := fun W => Lib.run_eql_slice_nil W 25 38 (some ⟨g, 0, none⟩) n c 0 0 Try.underlying25
  go_enter Try.func22, Try.ntmps22
  go_wp2_with (at_builtin; refine wpList_append_rn _ rfl (.tmp 5) (.tmp 6) 25 25 rfl 38 (.agg #[.string ByteArray.empty, .int .i64 0]) 2 24 Try.underlying25 infoArm rfl w.heap.size 0 0 [] rfl rfl (Rn.empty w 2 38) _ rfl n cs (Src.ofSlice _ Try.underlying25 ⟨g, 0, none⟩ n c cs HC.out.1 (fun j u hj => (HC.out.2.2.chg (l := []) ((Chg.refl [] w).alloc _) (by simp)).src j u hj) HC.out.2.1) (by omega) (by omega) ?_; intro g4 c4 w4 r1 r2 r3; have HQ := Lib.hid (And.intro r1 (And.intro r2 r3)); clear r1 r2 r3)
  first | go_ret | go_ret2 | go_ret3
  have k1 : Below w.heap.size w (w.alloc (.cells #[] 38)) := (Below.refl _ _).alloc (Nat.le_refl _) _
  exact ⟨g4, c4, by simp, by simpa using HQ.out.1, by have := k1.size; rcases HQ.out.2.1 with e | e <;> omega, HQ.out.2.2.onto k1 k1.size (by simp)⟩
end Go.Proofs.Ytoniipmgkoogbaa
/- Scripts: a script's copy. -/
namespace Go.Proofs.Ytoniipmgkoogbaa
open Go.ChangeShapes Go.WideShapes Go.ChangeAt Go.RowKit
set_option linter.unusedSimpArgs false
set_option linter.unusedVariables false


theorem CS.box {w0 w w' : World} {cs rs cs' rs' : List Value} {i g c : Nat} {T : List (Pg.Op × Option Addr × Nat)} (h : CS w0 w cs rs i g c T) {x : Nat} (hx : x = w0.heap.size ∨ x = w0.heap.size + 1) (k : Chg [x] w w') (h1 : Blk w' w0.heap.size cs' 24) (h2 : Blk w' (w0.heap.size + 1) rs' 24) : CS w0 w' cs' rs' i g c T := by
  have hg := h.2.2.2.2.1
  refine ⟨h1, h2, k.onto h.2.2.1 h.2.2.1.size (by simp; omega), h.2.2.2.1.chg k (by simp; omega), hg, fun q t ht => ?_⟩
  obtain ⟨b, q1, q2, q3⟩ := h.2.2.2.2.2 q t ht
  refine ⟨b, q1, q2.chg k (fun e => ?_), q3⟩
  simp at e
  obtain ⟨_, _, _, qb⟩ := q2
  subst e
  rcases hx with hx | hx
  · rw [hx] at qb
    exact absurd (blk_tp qb h.1) (by decide)
  · rw [hx] at qb
    exact absurd (blk_tp qb h.2.1) (by decide)
theorem CS.setP {w0 w : World} {cs rs : List Value} {i g c : Nat} {T : List (Pg.Op × Option Addr × Nat)} (h : CS w0 w cs rs i g c T) (j : Nat) (v : Value) : CS w0 (w.setCell ⟨w0.heap.size, j, none⟩ v) (cs.set j v) rs i g c T :=
  h.box (Or.inl rfl) ((Chg.refl [w0.heap.size] w).set (Or.inl (by simp)) j v) (h.1.set j v) (h.2.1.other (by omega) j v)
theorem CS.setR {w0 w : World} {cs rs : List Value} {i g c : Nat} {T : List (Pg.Op × Option Addr × Nat)} (h : CS w0 w cs rs i g c T) (j : Nat) (v : Value) : CS w0 (w.setCell ⟨w0.heap.size + 1, j, none⟩ v) cs (rs.set j v) i g c T :=
  h.box (Or.inr rfl) ((Chg.refl [w0.heap.size + 1] w).set (Or.inl (by simp)) j v) (h.1.other (by omega) j v) (h.2.1.set j v)
theorem set_same {α : Type} {l : List α} {j : Nat} {x : α} (h : l[j]? = some x) : l.set j x = l := by
  refine List.ext_getElem? fun i => ?_
  by_cases e : j = i
  · subst e
    rw [List.getElem?_set_self (List.getElem?_eq_some_iff.1 h).1, h]
  · rw [List.getElem?_set_ne e]
theorem s2 {w : World} {X Y : Nat} {a b c d o0 o1 o2 o3 o4 o5 o6 : Value} {T U : TypeId} (hx : Blk w X [a, b, c, d] T) (ho : Blk w Y [o0, o1, o2, o3, o4, o5, o6] U) : w.cell? ⟨X, 3, none⟩ = some d ∧ w.cell? ⟨Y, 4, none⟩ = some o4 := ⟨hx.cell (i := 3) rfl, ho.cell (i := 4) rfl⟩
set_option maxRecDepth 20000 in
set_option maxHeartbeats 16000000 in
theorem pg_copy (nm : ByteArray) (dl jp : Int) (g c : Nat) (T : List (Pg.Op × Option Addr × Nat)) (n : Nat) (hn : T.length = n) (h6 : n ≤ 1000) (har : ∀ t ∈ T, t.1.ar.length ≤ 1000) (B0 : Nat) (w : World) (h : PR w B0 g c T) :
    Calls Try.prog 9 #[.agg #[.string nm, .int .i64 dl, .int .i64 jp, .slice (some ⟨g, 0, none⟩) n c]] w fun r w' => ∃ g1 k1 T2, r = .returned (.agg #[.string nm, .int .i64 dl, .int .i64 jp, .slice (some ⟨g1, 0, none⟩) n k1]) ∧ T2.map (·.1) = T.map (·.1) ∧ PR w' w.heap.size g1 k1 T2 ∧ Below w.heap.size w w' := by
  have HL := Lib.hid (And.intro hn (And.intro har h))
  have H0 := Lib.hid (FS.new (w := w) #[.string nm, .int .i64 dl, .int .i64 jp, .slice (some ⟨g, 0, none⟩) n c] #[.string ⟨#[]⟩, .int .i64 0, .int .i64 0, .slice none 0 0])
  clear hn har h
  go_enter Try.func9, Try.ntmps9
  go_upto_region 1 with fail
  revert H0
  generalize ((w.alloc (.cells #[.string nm, .int .i64 dl, .int .i64 jp, .slice (some ⟨g, 0, none⟩) n c] 24)).alloc (.cells #[.string ⟨#[]⟩, .int .i64 0, .int .i64 0, .slice none 0 0] 24)) = W0
  intro H0
  have c3 := H0.out.1.cell (i := 3) rfl
  go_upto_region 2 with (first
    | (go_at_call 21; refine (cl_ops T n g c HL.out.1 (by omega) _ (HL.out.2.2.below H0.out.2.2).1).mono ?_; rintro r W1 ⟨g1, k1, rfl, q1, q2, q3⟩; have H1 : Hid (CS w W1 [.string nm, .int .i64 dl, .int .i64 jp, .slice (some ⟨g, 0, none⟩) n c] [.string ⟨#[]⟩, .int .i64 0, .int .i64 0, .slice none 0 0] 0 g1 k1 T) := Lib.hid ⟨H0.out.1.below q3 H0.out.1.lt, H0.out.2.1.below q3 H0.out.2.1.lt, H0.out.2.2.trans (q3.mono H0.out.2.2.size), q1, by have := H0.out.2.1.lt; omega, fun q t ht => by obtain ⟨b, h1, h2, h3⟩ := HL.out.2.2.2.2 t (List.mem_of_getElem? ht); exact ⟨b, h1, (h3.chg (Chg.of_fresh (l := []) H0.out.2.2) (by simp)).chg (Chg.of_fresh (l := []) q3) (by simp), fun hlt => by omega⟩⟩; clear q1 q2 q3 c3; have c3 := H1.out.1.cell (i := 3) rfl; have f3 := H1.out.1.free 3)
    | fail)
  have H2 : Hid (CS w (W1.setCell ⟨w.heap.size, 3, none⟩ (.slice (some ⟨g1, 0, none⟩) n k1)) [.string nm, .int .i64 dl, .int .i64 jp, .slice (some ⟨g1, 0, none⟩) n k1] [.string ⟨#[]⟩, .int .i64 0, .int .i64 0, .slice none 0 0] 0 g1 k1 T) := Lib.hid (H1.out.setP 3 _)
  clear c3 f3 H1 H0
  revert H2
  generalize (W1.setCell ⟨w.heap.size, 3, none⟩ (.slice (some ⟨g1, 0, none⟩) n k1)) = W2
  intro H2
  have c3 := H2.out.1.cell (i := 3) rfl
  go_upto_region 3 with fail
  clear c3
  go_loopw [3, 4, 12] (fun _ _ z wr => ∃ (j : Nat) (T2 : List (Pg.Op × Option Addr × Nat)), z = .int .i64 j ∧ j ≤ n ∧ Hid (T2.map (·.1) = T.map (·.1) ∧ CS w wr [.string nm, .int .i64 dl, .int .i64 jp, .slice (some ⟨g1, 0, none⟩) n k1] [.string ⟨#[]⟩, .int .i64 0, .int .i64 0, .slice none 0 0] j g1 k1 T2)) (fun _ _ z _ => n - (intOf z).toNat)
  case atStart => exact ⟨0, T, rfl, by omega, Lib.hid ⟨rfl, H2.out⟩⟩
  case round =>
    clear H2
    obtain ⟨j, T2, rfl, hj, HB⟩ := hrel
    have j0 : (0 : Int) ≤ (j : Int) := by omega
    by_cases hjn : j < n
    · have i1 : (j : Int) < (n : Int) := by omega
      have w1 : IntKind.i64.wrap ((j : Int) + 1) = (j : Int) + 1 := IntWalk.i64_in _ (by omega)
      have hTn : T2.length = n := by
        have := congrArg List.length HB.out.1
        rw [List.length_map, List.length_map, HL.out.1] at this
        exact this
      obtain ⟨t, ht⟩ : ∃ t, T2[j]? = some t := ⟨_, List.getElem?_eq_getElem (by omega)⟩
      obtain ⟨⟨k, tx, n1, to1, ar, ot, oe⟩, r0, c0⟩ := t
      obtain ⟨b, hb, hr, _⟩ := HB.out.2.2.2.2.2.2 j _ ht
      dsimp only at hb hr
      subst hb
      obtain ⟨m2, hm2⟩ : ∃ m, ar.length = m := ⟨_, rfl⟩
      have hm3 : m2 ≤ 1000 := by
        have h1 : (T2.map (·.1))[j]? = some ⟨k, tx, n1, to1, ar, ot, oe⟩ := by rw [List.getElem?_map, ht]; rfl
        rw [HB.out.1, List.getElem?_map] at h1
        obtain ⟨t', h2, h3⟩ := Option.map_eq_some_iff.1 h1
        have h4 := HL.out.2.1 t' (List.mem_of_getElem? h2)
        rw [h3] at h4
        dsimp only at h4
        omega
      have HT : Hid (T2[j]? = some (⟨k, tx, n1, to1, ar, ot, oe⟩, some ⟨b, 0, none⟩, c0) ∧ ar.length = m2 ∧ Rn wr b c0 2 (acs ar) 38) := Lib.hid ⟨ht, hm2, hr⟩
      have e0 : wr.cell? ⟨g1, j * 7, none⟩ = some (.int .i64 k) := by
        have h := HB.out.2.2.2.2.1.cell ((pcs_at T2 j 0 _ ht (by decide)).trans rfl)
        dsimp only at h
        exact h
      have e1 : wr.cell? ⟨g1, j * 7 + 1, none⟩ = some (.string tx) := by
        have h := HB.out.2.2.2.2.1.cell ((pcs_at T2 j 1 _ ht (by decide)).trans rfl)
        dsimp only at h
        exact h
      have e2 : wr.cell? ⟨g1, j * 7 + 2, none⟩ = some (.int .i64 n1) := by
        have h := HB.out.2.2.2.2.1.cell ((pcs_at T2 j 2 _ ht (by decide)).trans rfl)
        dsimp only at h
        exact h
      have e3 : wr.cell? ⟨g1, j * 7 + 3, none⟩ = some (.int .i64 to1) := by
        have h := HB.out.2.2.2.2.1.cell ((pcs_at T2 j 3 _ ht (by decide)).trans rfl)
        dsimp only at h
        exact h
      have e4 : wr.cell? ⟨g1, j * 7 + 4, none⟩ = some (.slice (some ⟨b, 0, none⟩) m2 c0) := by
        have h := HB.out.2.2.2.2.1.cell ((pcs_at T2 j 4 _ ht (by decide)).trans rfl)
        dsimp only at h
        rw [hm2] at h
        exact h
      have e5 : wr.cell? ⟨g1, j * 7 + 5, none⟩ = some (.int .i64 ot) := by
        have h := HB.out.2.2.2.2.1.cell ((pcs_at T2 j 5 _ ht (by decide)).trans rfl)
        dsimp only at h
        exact h
      have e6 : wr.cell? ⟨g1, j * 7 + 6, none⟩ = some (.int .i64 oe) := by
        have h := HB.out.2.2.2.2.1.cell ((pcs_at T2 j 6 _ ht (by decide)).trans rfl)
        dsimp only at h
        exact h
      clear ht hr hm2 hTn
      go_upto_region 5 with fail
      have HD : Hid (CS w (wr.alloc (.cells #[.int .i64 k, .string tx, .int .i64 n1, .int .i64 to1, .slice (some ⟨b, 0, none⟩) m2 c0, .int .i64 ot, .int .i64 oe] 27)) [.string nm, .int .i64 dl, .int .i64 jp, .slice (some ⟨g1, 0, none⟩) n k1] [.string ⟨#[]⟩, .int .i64 0, .int .i64 0, .slice none 0 0] j g1 k1 T2 ∧ Blk (wr.alloc (.cells #[.int .i64 k, .string tx, .int .i64 n1, .int .i64 to1, .slice (some ⟨b, 0, none⟩) m2 c0, .int .i64 ot, .int .i64 oe] 27)) wr.heap.size [.int .i64 k, .string tx, .int .i64 n1, .int .i64 to1, .slice (some ⟨b, 0, none⟩) m2 c0, .int .i64 ot, .int .i64 oe] 27 ∧ Rn (wr.alloc (.cells #[.int .i64 k, .string tx, .int .i64 n1, .int .i64 to1, .slice (some ⟨b, 0, none⟩) m2 c0, .int .i64 ot, .int .i64 oe] 27)) b c0 2 (acs ar) 38) := Lib.hid ⟨HB.out.2.below ((Below.refl _ _).alloc (Nat.le_refl _) _), Blk.newA _ _ _, HT.out.2.2.chg (l := []) ((Chg.refl [] wr).alloc _) (by simp)⟩
      have HM := Lib.hid HB.out.1
      have HY : Hid (¬ wr.heap.size = g1) := Lib.hid (by have := HB.out.2.2.2.2.1.lt; omega)
      clear e0 e1 e2 e3 e4 e5 e6 HB
      have HT2 := Lib.hid (And.intro HT.out.1 HT.out.2.1)
      clear HT
      revert HD HY
      generalize (wr.alloc (.cells #[.int .i64 k, .string tx, .int .i64 n1, .int .i64 to1, .slice (some ⟨b, 0, none⟩) m2 c0, .int .i64 ot, .int .i64 oe] 27)) = V1
      generalize wr.heap.size = Y
      intro HD HY
      have s0 := s2 (w := V1.drew) HD.out.1.1.drew HD.out.2.1.drew
      go_region_held3 (fun w' => w'.cell? ⟨w.heap.size, 3, none⟩ = some (.slice (some ⟨g1, 0, none⟩) n k1) ∧ w'.cell? ⟨Y, 4, none⟩ = some (.slice (some ⟨b, 0, none⟩) m2 c0)) (first | with_reducible exact s0 | with_reducible exact s6 | with_reducible exact s7) (first
        | (go_at_call 22
           refine (cl_arms ar m2 b c0 HT2.out.2 (by omega) _ (HD.out.2.2.chg (l := []) (Chg.refl [] V1).drew (by simp))).mono ?_
           rintro r W3 ⟨b2, k2, rfl, q1, q2, q3⟩
           have HE : Hid (CS w W3 [.string nm, .int .i64 dl, .int .i64 jp, .slice (some ⟨g1, 0, none⟩) n k1] [.string ⟨#[]⟩, .int .i64 0, .int .i64 0, .slice none 0 0] j g1 k1 T2 ∧ Blk W3 Y [.int .i64 k, .string tx, .int .i64 n1, .int .i64 to1, .slice (some ⟨b, 0, none⟩) m2 c0, .int .i64 ot, .int .i64 oe] 27 ∧ Rn W3 b2 k2 2 (acs ar) 38 ∧ w.heap.size + 2 ≤ b2) := Lib.hid ⟨(HD.out.1.below (Below.refl _ _).drew).below q3, HD.out.2.1.drew.below q3 HD.out.2.1.drew.lt, q1, by have h1 := HD.out.1.2.1.lt; have h2 : V1.drew.heap.size = V1.heap.size := rfl; omega⟩
           clear q1 q2 q3
           have s6 := s2 HE.out.1.1 HE.out.2.1
           have e4 : W3.cell? ⟨g1, j * 7 + 4, none⟩ = some (.slice (some ⟨b, 0, none⟩) ar.length c0) := HE.out.1.2.2.2.1.cell ((pcs_at T2 j 4 _ HT2.out.1 (by decide)).trans rfl)
           have f4 := HE.out.1.2.2.2.1.free (j * 7 + 4)
           have HF : Hid (CS w (W3.setCell ⟨g1, j * 7 + 4, none⟩ (.slice (some ⟨b2, 0, none⟩) m2 k2)) [.string nm, .int .i64 dl, .int .i64 jp, .slice (some ⟨g1, 0, none⟩) n k1] [.string ⟨#[]⟩, .int .i64 0, .int .i64 0, .slice none 0 0] (j + 1) g1 k1 (T2.set j (⟨k, tx, n1, to1, ar, ot, oe⟩, some ⟨b2, 0, none⟩, k2))) := Lib.hid (by
             have h := HE.out.1.store HT2.out.1 (b := b2) (kc := k2) HE.out.2.2.2 HE.out.2.2.1
             dsimp only at h
             rw [HT2.out.2] at h
             exact h)
           have hY : Y ∉ ([g1] : List Nat) := by simp; exact fun e => HY.out e
           have s7 := s2 HF.out.1 (HE.out.2.1.chg ((Chg.refl [g1] W3).set (Or.inl (by simp)) (j * 7 + 4) (.slice (some ⟨b2, 0, none⟩) m2 k2)) hY)))
      all_goals
        clear s0 s6 s7 e4 f4
        go_wp2_with fail
        go_roundw
        case rel => exact ⟨j + 1, _, by go_num, by omega, Lib.hid ⟨by rw [map_set1, HM.out]; exact set_same (by rw [← HM.out, List.getElem?_map, HT2.out.1]; rfl), HF.out⟩⟩
        case measure => simp [intOf]; omega
    · obtain rfl : j = n := by omega
      have i1 : ¬ (j : Int) < (j : Int) := by omega
      have c0 := HB.out.2.1.cell (i := 0) rfl
      have z0 := HB.out.2.2.1.cell (i := 0) rfl
      have f0 := HB.out.2.2.1.free 0
      have c1 := HB.out.2.1.cell (i := 1) rfl
      have z1 := HB.out.2.2.1.cell (i := 1) rfl
      have f1 := HB.out.2.2.1.free 1
      have c2 := HB.out.2.1.cell (i := 2) rfl
      have z2 := HB.out.2.2.1.cell (i := 2) rfl
      have f2 := HB.out.2.2.1.free 2
      have c3 := HB.out.2.1.cell (i := 3) rfl
      have z3 := HB.out.2.2.1.cell (i := 3) rfl
      have f3 := HB.out.2.2.1.free 3
      go_wp2_with fail
      have HZ := Lib.hid ((((HB.out.2.setR 0 (.string nm)).setR 1 (.int .i64 dl)).setR 2 (.int .i64 jp)).setR 3 (.slice (some ⟨g1, 0, none⟩) j k1))
      clear c0 z0 f0 c1 z1 f1 c2 z2 f2 c3 z3 f3
      revert HZ
      generalize ((((wr.setCell ⟨w.heap.size + 1, 0, none⟩ (.string nm)).setCell ⟨w.heap.size + 1, 1, none⟩ (.int .i64 dl)).setCell ⟨w.heap.size + 1, 2, none⟩ (.int .i64 jp)).setCell ⟨w.heap.size + 1, 3, none⟩ (.slice (some ⟨g1, 0, none⟩) j k1)) = W9
      intro HZ
      have r0 := HZ.out.2.1.cell (i := 0) rfl
      have r1 := HZ.out.2.1.cell (i := 1) rfl
      have r2 := HZ.out.2.1.cell (i := 2) rfl
      have r3 := HZ.out.2.1.cell (i := 3) rfl
      have hTn : T2.length = j := by have := congrArg List.length HB.out.1; rw [List.length_map, List.length_map, HL.out.1] at this; exact this
      refine bodyPost_ret (v := .agg #[.string nm, .int .i64 dl, .int .i64 jp, .slice (some ⟨g1, 0, none⟩) j k1]) (by simp [results, Try.results9, go_sem, r0, r1, r2, r3]) rfl ?_
      exact ⟨g1, k1, rfl, T2, HB.out.1, (HZ.out.2.2.2.all hTn).mono (by omega), HZ.out.2.2.1⟩
end Go.Proofs.Ytoniipmgkoogbaa
/- Scripts: the states of ProgSame. -/
namespace Go.Proofs.Ytoniipmgkoogbaa
open Go.ChangeShapes Go.WideShapes Go.ChangeAt Go.RowKit
set_option linter.unusedSimpArgs false
set_option linter.unusedVariables false


theorem PR.pt {w w' : World} {B g c x : Nat} {T : List (Pg.Op × Option Addr × Nat)} {cs : List Value} (h : PR w B g c T) (hx : Blk w x cs 24) (k : Chg [x] w w') : PR w' B g c T := by
  refine ⟨h.1.chg k (fun e => ?_), h.2.1, fun t ht => ?_⟩
  · simp at e
    obtain ⟨_, _, _, q⟩ := h.1
    rw [e] at q
    exact absurd (blk_tp q hx) (by decide)
  · obtain ⟨b, h1, h2, h3⟩ := h.2.2 t ht
    refine ⟨b, h1, h2, h3.chg k (fun e => ?_)⟩
    simp at e
    obtain ⟨_, _, _, q⟩ := h3
    rw [e] at q
    exact absurd (blk_tp q hx) (by decide)
theorem cutP_ar {most : Nat} {L : List Pg.Op} : ∀ o ∈ Pg.cutP most L, o.ar.length ≤ 1000 := fun o ho => by
  unfold Pg.cutP at ho
  obtain ⟨q, _, h⟩ := List.mem_map.1 ho
  rw [← h]
  unfold Pg.cutO
  dsimp only
  rw [cutA_len]
  omega
/-- The boxes of two scripts. -/
def S2 (w0 w : World) (csA csB : List Value) : Prop := Blk w w0.heap.size csA 24 ∧ Blk w (w0.heap.size + 1) csB 24 ∧ Below w0.heap.size w0 w
theorem S2.bel {w0 w : World} {csA csB : List Value} (h : S2 w0 w csA csB) : Below w0.heap.size w0 w := h.2.2
theorem S2.below {w0 w w' : World} {csA csB : List Value} (h : S2 w0 w csA csB) (k : Below w.heap.size w w') : S2 w0 w' csA csB := ⟨h.1.below k h.1.lt, h.2.1.below k h.2.1.lt, h.2.2.trans (k.mono h.2.2.size)⟩
theorem S2.setA {w0 w : World} {csA csB : List Value} (h : S2 w0 w csA csB) (i : Nat) (v : Value) : S2 w0 (w.setCell ⟨w0.heap.size, i, none⟩ v) (csA.set i v) csB ∧ Chg [w0.heap.size] w (w.setCell ⟨w0.heap.size, i, none⟩ v) :=
  ⟨⟨h.1.set i v, h.2.1.other (by omega) i v, ((Chg.refl [w0.heap.size] w).set (Or.inl (by simp)) i v).onto h.2.2 h.2.2.size (by simp)⟩, (Chg.refl [w0.heap.size] w).set (Or.inl (by simp)) i v⟩
theorem S2.setB {w0 w : World} {csA csB : List Value} (h : S2 w0 w csA csB) (i : Nat) (v : Value) : S2 w0 (w.setCell ⟨w0.heap.size + 1, i, none⟩ v) csA (csB.set i v) ∧ Chg [w0.heap.size + 1] w (w.setCell ⟨w0.heap.size + 1, i, none⟩ v) :=
  ⟨⟨h.1.other (by omega) i v, h.2.1.set i v, ((Chg.refl [w0.heap.size + 1] w).set (Or.inl (by simp)) i v).onto h.2.2 h.2.2.size (by simp)⟩, (Chg.refl [w0.heap.size + 1] w).set (Or.inl (by simp)) i v⟩
/-- Two scripts in memory of their own. -/
def S4 (w0 w : World) (csA csB : List Value) (gA kA : Nat) (TA : List (Pg.Op × Option Addr × Nat)) (gB kB : Nat) (TB : List (Pg.Op × Option Addr × Nat)) : Prop := S2 w0 w csA csB ∧ PR w (w0.heap.size + 2) gA kA TA ∧ PR w (w0.heap.size + 2) gB kB TB
theorem S4.below {w0 w w' : World} {csA csB : List Value} {gA kA gB kB : Nat} {TA TB : List (Pg.Op × Option Addr × Nat)} (h : S4 w0 w csA csB gA kA TA gB kB TB) (k : Below w.heap.size w w') : S4 w0 w' csA csB gA kA TA gB kB TB := ⟨h.1.below k, h.2.1.below k, h.2.2.below k⟩
theorem S4.setA {w0 w : World} {csA csB : List Value} {gA kA gB kB : Nat} {TA TB : List (Pg.Op × Option Addr × Nat)} (h : S4 w0 w csA csB gA kA TA gB kB TB) (i : Nat) (v : Value) : S4 w0 (w.setCell ⟨w0.heap.size, i, none⟩ v) (csA.set i v) csB gA kA TA gB kB TB := ⟨(h.1.setA i v).1, h.2.1.pt h.1.1 (h.1.setA i v).2, h.2.2.pt h.1.1 (h.1.setA i v).2⟩
theorem S4.setB {w0 w : World} {csA csB : List Value} {gA kA gB kB : Nat} {TA TB : List (Pg.Op × Option Addr × Nat)} (h : S4 w0 w csA csB gA kA TA gB kB TB) (i : Nat) (v : Value) : S4 w0 (w.setCell ⟨w0.heap.size + 1, i, none⟩ v) csA (csB.set i v) gA kA TA gB kB TB := ⟨(h.1.setB i v).1, h.2.1.pt h.1.2.1 (h.1.setB i v).2, h.2.2.pt h.1.2.1 (h.1.setB i v).2⟩
/-- A store into a box apart. -/
theorem S4.chg {w0 w w' : World} {csA csB : List Value} {gA kA gB kB : Nat} {TA TB : List (Pg.Op × Option Addr × Nat)} (h : S4 w0 w csA csB gA kA TA gB kB TB) {x : Nat} {cs : List Value} (hx : Blk w x cs 24) (hl : w0.heap.size + 2 ≤ x) (k : Chg [x] w w') : S4 w0 w' csA csB gA kA TA gB kB TB :=
  ⟨⟨h.1.1.chg k (by simp; omega), h.1.2.1.chg k (by simp; omega), k.onto h.1.2.2 h.1.2.2.size (by simp; omega)⟩, h.2.1.pt hx k, h.2.2.pt hx k⟩
end Go.Proofs.Ytoniipmgkoogbaa
/- Scripts: ProgSame: a copy and a second script, in whatever order. -/
namespace Go.Proofs.Ytoniipmgkoogbaa
open Go.ChangeShapes Go.WideShapes Go.ChangeAt Go.RowKit
set_option linter.unusedSimpArgs false
set_option linter.unusedVariables false


/-- Block x holds nothing of the row at g, nor of its ops' arms. -/
def Out (g : Nat) (T : List (Pg.Op × Option Addr × Nat)) (x : Nat) : Prop := x ≠ g ∧ ∀ t ∈ T, t.2.1 ≠ some ⟨x, 0, none⟩
/-- Two rows have no block in common. -/
def Apt (g : Nat) (T : List (Pg.Op × Option Addr × Nat)) (g' : Nat) (T' : List (Pg.Op × Option Addr × Nat)) : Prop := Out g T g' ∧ ∀ t ∈ T', ∀ b, t.2.1 = some ⟨b, 0, none⟩ → Out g T b
theorem PR.hi {w : World} {B g c : Nat} {T : List (Pg.Op × Option Addr × Nat)} (h : PR w B g c T) : g < w.heap.size ∧ ∀ t ∈ T, ∀ b, t.2.1 = some ⟨b, 0, none⟩ → b < w.heap.size := ⟨h.1.lt, fun t ht b hb => by
  obtain ⟨b2, q1, q2, q3⟩ := h.2.2 t ht
  rw [q1] at hb
  injection hb with hb
  injection hb with e1 e2
  rw [← e1]
  exact q3.lt⟩
theorem PR.hiB {w : World} {B g c : Nat} {T : List (Pg.Op × Option Addr × Nat)} (h : PR w B g c T) : ∃ B0, B0 = w.heap.size ∧ g < B0 ∧ ∀ t ∈ T, ∀ b, t.2.1 = some ⟨b, 0, none⟩ → b < B0 := ⟨_, rfl, h.hi⟩
theorem PR.lob {w : World} {B g c : Nat} {T : List (Pg.Op × Option Addr × Nat)} (h : PR w B g c T) : B ≤ g ∧ ∀ t ∈ T, ∀ b, t.2.1 = some ⟨b, 0, none⟩ → B ≤ b := ⟨h.2.1, fun t ht b hb => by
  obtain ⟨b2, q1, q2, q3⟩ := h.2.2 t ht
  rw [q1] at hb
  injection hb with hb
  injection hb with e1 e2
  rw [← e1]
  exact q2⟩
/-- What is new lies apart from what was. -/
theorem Apt.fresh {w w' : World} {B g c : Nat} {T : List (Pg.Op × Option Addr × Nat)} {g' c' : Nat} {T' : List (Pg.Op × Option Addr × Nat)} (h : PR w B g c T) (h' : PR w' w.heap.size g' c' T') : Apt g T g' T' ∧ Apt g' T' g T := by
  obtain ⟨a1, a2⟩ := h.hi
  obtain ⟨b1, b2⟩ := h'.lob
  refine ⟨⟨⟨by omega, fun t ht e => ?_⟩, fun t ht b hb => ⟨?_, fun t2 ht2 e => ?_⟩⟩, ⟨by omega, fun t ht e => ?_⟩, fun t ht b hb => ⟨?_, fun t2 ht2 e => ?_⟩⟩
  · have := a2 t ht _ e; omega
  · have := b2 t ht b hb; omega
  · have := b2 t ht b hb; have := a2 t2 ht2 _ e; omega
  · have := b2 t ht _ e; omega
  · have := a2 t ht b hb; omega
  · have := a2 t ht b hb; have := b2 t2 ht2 _ e; omega
/-- What holds while a copy and a second script are made, by what has come up. -/
def RG2 (w0 : World) (B0 : Nat) (csA csB : List Value) (gA kA : Nat) (TA : List (Pg.Op × Option Addr × Nat)) (gB kB : Nat) (TB : List (Pg.Op × Option Addr × Nat)) (pg : Nat → Nat → Array Value) (MC M0 : List Pg.Op) (env : Nat → Value) (L : Nat → Bool) (w : World) : Prop :=
  ∃ (gC kC : Nat) (TC : List (Pg.Op × Option Addr × Nat)) (gM kM : Nat) (TM : List (Pg.Op × Option Addr × Nat)), (S4 w0 w csA csB gA kA TA gB kB TB ∧ B0 ≤ w.heap.size) ∧ (L 0 = true → env 0 = .agg csA.toArray) ∧ (L 2 = true → env 2 = .agg csA.toArray) ∧ (L 1 = true → env 1 = .agg (pg gC kC) ∧ TC.map (·.1) = MC ∧ PR w B0 gC kC TC) ∧ (L 3 = true → env 3 = .agg (pg gM kM) ∧ TM.map (·.1) = M0 ∧ PR w B0 gM kM TM) ∧ (L 1 = true → L 3 = true → Apt gC TC gM TM ∧ Apt gM TM gC TC) ∧ (L 4 = true → ∃ X cs, env 4 = .pointer (some ⟨X, 0, none⟩) ∧ w0.heap.size + 2 ≤ X ∧ Blk w X cs 24 ∧ cs.length = 4 ∧ (L 6 = true → env 1 = .agg cs.toArray)) ∧ (L 5 = true → ∃ X cs, env 5 = .pointer (some ⟨X, 0, none⟩) ∧ w0.heap.size + 2 ≤ X ∧ Blk w X cs 24 ∧ cs.length = 4 ∧ (L 7 = true → env 3 = .agg cs.toArray)) ∧ (L 4 = true → L 5 = true → env 4 ≠ env 5)
theorem RG2.below {w0 w : World} {B0 : Nat} {csA csB : List Value} {gA kA : Nat} {TA : List (Pg.Op × Option Addr × Nat)} {gB kB : Nat} {TB : List (Pg.Op × Option Addr × Nat)} {pg : Nat → Nat → Array Value} {MC M0 : List Pg.Op} {env : Nat → Value} {L : Nat → Bool} (h : RG2 w0 B0 csA csB gA kA TA gB kB TB pg MC M0 env L w) {w' : World} (k : Below w.heap.size w w') : RG2 w0 B0 csA csB gA kA TA gB kB TB pg MC M0 env L w' := by
  obtain ⟨gC, kC, TC, gM, kM, TM, h1, h2, h3, h4, h5, h45, h6, h7, h8⟩ := h
  refine ⟨gC, kC, TC, gM, kM, TM, ⟨h1.1.below k, Nat.le_trans h1.2 k.size⟩, h2, h3, fun e => ?_, fun e => ?_, h45, fun e => ?_, fun e => ?_, h8⟩
  · obtain ⟨q1, q2, q3⟩ := h4 e; exact ⟨q1, q2, q3.below k⟩
  · obtain ⟨q1, q2, q3⟩ := h5 e; exact ⟨q1, q2, q3.below k⟩
  · obtain ⟨X, cs, q1, q2, q3, q4⟩ := h6 e; exact ⟨X, cs, q1, q2, q3.below k q3.lt, q4⟩
  · obtain ⟨X, cs, q1, q2, q3, q4⟩ := h7 e; exact ⟨X, cs, q1, q2, q3.below k q3.lt, q4⟩
theorem RG2.load0 {w0 w : World} {B0 : Nat} {csA csB : List Value} {gA kA : Nat} {TA : List (Pg.Op × Option Addr × Nat)} {gB kB : Nat} {TB : List (Pg.Op × Option Addr × Nat)} {pg : Nat → Nat → Array Value} {MC M0 : List Pg.Op} {env : Nat → Value} {L : Nat → Bool} (h : RG2 w0 B0 csA csB gA kA TA gB kB TB pg MC M0 env L w) : RG2 w0 B0 csA csB gA kA TA gB kB TB pg MC M0 (upd env 0 (.agg csA.toArray)) (doneL L 0) w := by
  obtain ⟨gC, kC, TC, gM, kM, TM, h1, h2, h3, h4, h5, h45, h6, h7, h8⟩ := h
  exact ⟨gC, kC, TC, gM, kM, TM, h1, fun _ => by simp [upd], by simpa [upd, doneL] using h3, by simpa [upd, doneL] using h4, by simpa [upd, doneL] using h5, by simpa [upd, doneL] using h45, by simpa [upd, doneL] using h6, by simpa [upd, doneL] using h7, by simpa [upd, doneL] using h8⟩
theorem RG2.load2 {w0 w : World} {B0 : Nat} {csA csB : List Value} {gA kA : Nat} {TA : List (Pg.Op × Option Addr × Nat)} {gB kB : Nat} {TB : List (Pg.Op × Option Addr × Nat)} {pg : Nat → Nat → Array Value} {MC M0 : List Pg.Op} {env : Nat → Value} {L : Nat → Bool} (h : RG2 w0 B0 csA csB gA kA TA gB kB TB pg MC M0 env L w) : RG2 w0 B0 csA csB gA kA TA gB kB TB pg MC M0 (upd env 2 (.agg csA.toArray)) (doneL L 2) w := by
  obtain ⟨gC, kC, TC, gM, kM, TM, h1, h2, h3, h4, h5, h45, h6, h7, h8⟩ := h
  exact ⟨gC, kC, TC, gM, kM, TM, h1, by simpa [upd, doneL] using h2, fun _ => by simp [upd], by simpa [upd, doneL] using h4, by simpa [upd, doneL] using h5, by simpa [upd, doneL] using h45, by simpa [upd, doneL] using h6, by simpa [upd, doneL] using h7, by simpa [upd, doneL] using h8⟩
theorem RG2.call1 {w0 w : World} {B0 : Nat} {csA csB : List Value} {gA kA : Nat} {TA : List (Pg.Op × Option Addr × Nat)} {gB kB : Nat} {TB : List (Pg.Op × Option Addr × Nat)} {pg : Nat → Nat → Array Value} {MC M0 : List Pg.Op} {env : Nat → Value} {L : Nat → Bool} (h : RG2 w0 B0 csA csB gA kA TA gB kB TB pg MC M0 env L w) (hs : L 6 = false) {w' : World} (kb : Below w.heap.size w w') {g k : Nat} {T : List (Pg.Op × Option Addr × Nat)} (hT : T.map (·.1) = MC) (hp : PR w' w.heap.size g k T) : RG2 w0 B0 csA csB gA kA TA gB kB TB pg MC M0 (upd env 1 (.agg (pg g k))) (doneL L 1) w' := by
  obtain ⟨gC, kC, TC, gM, kM, TM, h1, h2, h3, h4, h5, h45, h6, h7, h8⟩ := h
  exact ⟨g, k, T, gM, kM, TM, ⟨h1.1.below kb, Nat.le_trans h1.2 kb.size⟩, by simpa [upd, doneL] using h2, by simpa [upd, doneL] using h3, fun _ => ⟨by simp [upd], hT, hp.mono h1.2⟩, fun e => by obtain ⟨q1, q2, q3⟩ := h5 (by simpa [doneL] using e); exact ⟨by simpa [upd] using q1, q2, q3.below kb⟩, fun _ e3 => by obtain ⟨_, _, q3⟩ := h5 (by simpa [doneL] using e3); have f := Apt.fresh q3 hp; exact ⟨f.2, f.1⟩, fun e => by obtain ⟨X, cs, q1, q2, q3, q4, _⟩ := h6 (by simpa [doneL] using e); exact ⟨X, cs, by simpa [upd] using q1, q2, q3.below kb q3.lt, q4, fun e6 => by simp [doneL, hs] at e6⟩, fun e => by obtain ⟨X, cs, q1, q2, q3, q4, q5⟩ := h7 (by simpa [doneL] using e); exact ⟨X, cs, by simpa [upd] using q1, q2, q3.below kb q3.lt, q4, fun e6 => by simpa [upd] using q5 (by simpa [doneL] using e6)⟩, by simpa [upd, doneL] using h8⟩
theorem RG2.call3 {w0 w : World} {B0 : Nat} {csA csB : List Value} {gA kA : Nat} {TA : List (Pg.Op × Option Addr × Nat)} {gB kB : Nat} {TB : List (Pg.Op × Option Addr × Nat)} {pg : Nat → Nat → Array Value} {MC M0 : List Pg.Op} {env : Nat → Value} {L : Nat → Bool} (h : RG2 w0 B0 csA csB gA kA TA gB kB TB pg MC M0 env L w) (hs : L 7 = false) {w' : World} (kb : Below w.heap.size w w') {g k : Nat} {T : List (Pg.Op × Option Addr × Nat)} (hT : T.map (·.1) = M0) (hp : PR w' w.heap.size g k T) : RG2 w0 B0 csA csB gA kA TA gB kB TB pg MC M0 (upd env 3 (.agg (pg g k))) (doneL L 3) w' := by
  obtain ⟨gC, kC, TC, gM, kM, TM, h1, h2, h3, h4, h5, h45, h6, h7, h8⟩ := h
  exact ⟨gC, kC, TC, g, k, T, ⟨h1.1.below kb, Nat.le_trans h1.2 kb.size⟩, by simpa [upd, doneL] using h2, by simpa [upd, doneL] using h3, fun e => by obtain ⟨q1, q2, q3⟩ := h4 (by simpa [doneL] using e); exact ⟨by simpa [upd] using q1, q2, q3.below kb⟩, fun _ => ⟨by simp [upd], hT, hp.mono h1.2⟩, fun e3 _ => by obtain ⟨_, _, q3⟩ := h4 (by simpa [doneL] using e3); exact Apt.fresh q3 hp, fun e => by obtain ⟨X, cs, q1, q2, q3, q4, q5⟩ := h6 (by simpa [doneL] using e); exact ⟨X, cs, by simpa [upd] using q1, q2, q3.below kb q3.lt, q4, fun e6 => by simpa [upd] using q5 (by simpa [doneL] using e6)⟩, fun e => by obtain ⟨X, cs, q1, q2, q3, q4, _⟩ := h7 (by simpa [doneL] using e); exact ⟨X, cs, by simpa [upd] using q1, q2, q3.below kb q3.lt, q4, fun e6 => by simp [doneL, hs] at e6⟩, by simpa [upd, doneL] using h8⟩
theorem RG2.alloc4 {w0 w : World} {B0 : Nat} {csA csB : List Value} {gA kA : Nat} {TA : List (Pg.Op × Option Addr × Nat)} {gB kB : Nat} {TB : List (Pg.Op × Option Addr × Nat)} {pg : Nat → Nat → Array Value} {MC M0 : List Pg.Op} {env : Nat → Value} {L : Nat → Bool} (h : RG2 w0 B0 csA csB gA kA TA gB kB TB pg MC M0 env L w) (hs : L 6 = false) (cs : Array Value) (hc : cs.size = 4) : RG2 w0 B0 csA csB gA kA TA gB kB TB pg MC M0 (upd env 4 (.pointer (some ⟨w.heap.size, 0, none⟩))) (doneL L 4) (w.alloc (.cells cs 24)) := by
  have ho := h
  obtain ⟨_, _, _, _, _, _, h1o, _, _, _, _, _, h6o, h7o, _⟩ := ho
  have hb := h1o.1.1.2.1.lt
  have h := h.below ((Below.refl _ _).alloc (Nat.le_refl _) (.cells cs 24))
  obtain ⟨gC, kC, TC, gM, kM, TM, h1, h2, h3, h4, h5, h45, h6, h7, h8⟩ := h
  exact ⟨gC, kC, TC, gM, kM, TM, h1, by simpa [upd, doneL] using h2, by simpa [upd, doneL] using h3, by simpa [upd, doneL] using h4, by simpa [upd, doneL] using h5, by simpa [upd, doneL] using h45, fun _ => ⟨w.heap.size, cs.toList, by simp [upd], by omega, Blk.newA _ _ _, by simpa using hc, fun e6 => by simp [doneL, hs] at e6⟩, by simpa [upd, doneL] using h7, fun _ e5 => by
    obtain ⟨Y, cs2, q1, q2, q3, q4, _⟩ := h7o (by simpa [doneL] using e5)
    simp only [upd_same, upd_other env _ (show (5 : Nat) ≠ 4 by decide), q1]
    intro e
    injection e with e
    injection e with e
    injection e with e1 e2
    have := q3.lt
    omega⟩
theorem RG2.alloc5 {w0 w : World} {B0 : Nat} {csA csB : List Value} {gA kA : Nat} {TA : List (Pg.Op × Option Addr × Nat)} {gB kB : Nat} {TB : List (Pg.Op × Option Addr × Nat)} {pg : Nat → Nat → Array Value} {MC M0 : List Pg.Op} {env : Nat → Value} {L : Nat → Bool} (h : RG2 w0 B0 csA csB gA kA TA gB kB TB pg MC M0 env L w) (hs : L 7 = false) (cs : Array Value) (hc : cs.size = 4) : RG2 w0 B0 csA csB gA kA TA gB kB TB pg MC M0 (upd env 5 (.pointer (some ⟨w.heap.size, 0, none⟩))) (doneL L 5) (w.alloc (.cells cs 24)) := by
  have ho := h
  obtain ⟨_, _, _, _, _, _, h1o, _, _, _, _, _, h6o, h7o, _⟩ := ho
  have hb := h1o.1.1.2.1.lt
  have h := h.below ((Below.refl _ _).alloc (Nat.le_refl _) (.cells cs 24))
  obtain ⟨gC, kC, TC, gM, kM, TM, h1, h2, h3, h4, h5, h45, h6, h7, h8⟩ := h
  exact ⟨gC, kC, TC, gM, kM, TM, h1, by simpa [upd, doneL] using h2, by simpa [upd, doneL] using h3, by simpa [upd, doneL] using h4, by simpa [upd, doneL] using h5, by simpa [upd, doneL] using h45, by simpa [upd, doneL] using h6, fun _ => ⟨w.heap.size, cs.toList, by simp [upd], by omega, Blk.newA _ _ _, by simpa using hc, fun e6 => by simp [doneL, hs] at e6⟩, fun e5 _ => by
    obtain ⟨Y, cs2, q1, q2, q3, q4, _⟩ := h6o (by simpa [doneL] using e5)
    simp only [upd_same, upd_other env _ (show (4 : Nat) ≠ 5 by decide), q1]
    intro e
    injection e with e
    injection e with e
    injection e with e1 e2
    have := q3.lt
    omega⟩
theorem RG2.store6 {w0 w : World} {B0 : Nat} {csA csB : List Value} {gA kA : Nat} {TA : List (Pg.Op × Option Addr × Nat)} {gB kB : Nat} {TB : List (Pg.Op × Option Addr × Nat)} {pg : Nat → Nat → Array Value} {MC M0 : List Pg.Op} {env : Nat → Value} {L : Nat → Bool} (h : RG2 w0 B0 csA csB gA kA TA gB kB TB pg MC M0 env L w) (hal : L 4 = true) {X : Nat} (hX : env 4 = .pointer (some ⟨X, 0, none⟩)) {w' : World} (k : Chg [X] w w') {cs : List Value} (hw : Blk w' X cs 24) (hc : cs.length = 4) (he : env 1 = .agg cs.toArray) (u : Value) : RG2 w0 B0 csA csB gA kA TA gB kB TB pg MC M0 (upd env 6 u) (doneL L 6) w' := by
  obtain ⟨gC, kC, TC, gM, kM, TM, h1, h2, h3, h4, h5, h45, h6, h7, h8⟩ := h
  obtain ⟨X', cs0, q1, q2, q3, q4, q5⟩ := h6 hal
  have eX : X' = X := by rw [hX] at q1; injection q1 with q1; injection q1 with q1; injection q1 with a b; exact a.symm
  subst eX
  exact ⟨gC, kC, TC, gM, kM, TM, ⟨h1.1.chg q3 q2 k, Nat.le_trans h1.2 k.size⟩, by simpa [upd, doneL] using h2, by simpa [upd, doneL] using h3, fun e => by obtain ⟨p1, p2, p3⟩ := h4 (by simpa [doneL] using e); exact ⟨by simpa [upd] using p1, p2, p3.pt q3 k⟩, fun e => by obtain ⟨p1, p2, p3⟩ := h5 (by simpa [doneL] using e); exact ⟨by simpa [upd] using p1, p2, p3.pt q3 k⟩, by simpa [upd, doneL] using h45, fun _ => ⟨X', cs, by simpa [upd] using hX, q2, hw, hc, fun _ => by simpa [upd] using he⟩, fun e => by
    have e5 : L 5 = true := by simpa [doneL] using e
    obtain ⟨Y, cs2, p1, p2, p3, p4, p5⟩ := h7 e5
    refine ⟨Y, cs2, by simpa [upd] using p1, p2, p3.chg k (fun hy => ?_), p4, fun e7 => by simpa [upd] using p5 (by simpa [doneL] using e7)⟩
    simp at hy
    subst hy
    exact h8 hal e5 (by rw [hX, p1]), by simpa [upd, doneL] using h8⟩
theorem RG2.store7 {w0 w : World} {B0 : Nat} {csA csB : List Value} {gA kA : Nat} {TA : List (Pg.Op × Option Addr × Nat)} {gB kB : Nat} {TB : List (Pg.Op × Option Addr × Nat)} {pg : Nat → Nat → Array Value} {MC M0 : List Pg.Op} {env : Nat → Value} {L : Nat → Bool} (h : RG2 w0 B0 csA csB gA kA TA gB kB TB pg MC M0 env L w) (hal : L 5 = true) {X : Nat} (hX : env 5 = .pointer (some ⟨X, 0, none⟩)) {w' : World} (k : Chg [X] w w') {cs : List Value} (hw : Blk w' X cs 24) (hc : cs.length = 4) (he : env 3 = .agg cs.toArray) (u : Value) : RG2 w0 B0 csA csB gA kA TA gB kB TB pg MC M0 (upd env 7 u) (doneL L 7) w' := by
  obtain ⟨gC, kC, TC, gM, kM, TM, h1, h2, h3, h4, h5, h45, h6, h7, h8⟩ := h
  obtain ⟨X', cs0, q1, q2, q3, q4, q5⟩ := h7 hal
  have eX : X' = X := by rw [hX] at q1; injection q1 with q1; injection q1 with q1; injection q1 with a b; exact a.symm
  subst eX
  exact ⟨gC, kC, TC, gM, kM, TM, ⟨h1.1.chg q3 q2 k, Nat.le_trans h1.2 k.size⟩, by simpa [upd, doneL] using h2, by simpa [upd, doneL] using h3, fun e => by obtain ⟨p1, p2, p3⟩ := h4 (by simpa [doneL] using e); exact ⟨by simpa [upd] using p1, p2, p3.pt q3 k⟩, fun e => by obtain ⟨p1, p2, p3⟩ := h5 (by simpa [doneL] using e); exact ⟨by simpa [upd] using p1, p2, p3.pt q3 k⟩, by simpa [upd, doneL] using h45, fun e => by
    have e5 : L 4 = true := by simpa [doneL] using e
    obtain ⟨Y, cs2, p1, p2, p3, p4, p5⟩ := h6 e5
    refine ⟨Y, cs2, by simpa [upd] using p1, p2, p3.chg k (fun hy => ?_), p4, fun e7 => by simpa [upd] using p5 (by simpa [doneL] using e7)⟩
    simp at hy
    subst hy
    exact h8 e5 hal (by rw [hX, p1]), fun _ => ⟨X', cs, by simpa [upd] using hX, q2, hw, hc, fun _ => by simpa [upd] using he⟩, by simpa [upd, doneL] using h8⟩
end Go.Proofs.Ytoniipmgkoogbaa
/- Scripts: ProgSame: four scripts in memory. -/
namespace Go.Proofs.Ytoniipmgkoogbaa
open Go.ChangeShapes Go.WideShapes Go.ChangeAt Go.RowKit
set_option linter.unusedSimpArgs false
set_option linter.unusedVariables false


/-- Two scripts' boxes and rows, a copy (box X) and a second one (box Y) with theirs. -/
def Z5 (w0 : World) (B0 : Nat) (w : World) (csA csB csX csY : List Value) (X Y gA kA : Nat) (TA : List (Pg.Op × Option Addr × Nat)) (gB kB : Nat) (TB : List (Pg.Op × Option Addr × Nat)) (gC kC : Nat) (TC : List (Pg.Op × Option Addr × Nat)) (gM kM : Nat) (TM : List (Pg.Op × Option Addr × Nat)) : Prop :=
  S4 w0 w csA csB gA kA TA gB kB TB ∧ PR w B0 gC kC TC ∧ PR w B0 gM kM TM ∧ (Blk w X csX 24 ∧ w0.heap.size + 2 ≤ X) ∧ (Blk w Y csY 24 ∧ w0.heap.size + 2 ≤ Y) ∧ X ≠ Y ∧ Apt gC TC gM TM ∧ Apt gM TM gC TC
theorem Z5.below {w0 w : World} {B0 : Nat} {csA csB csX csY : List Value} {X Y gA kA gB kB gC kC gM kM : Nat} {TA TB TC TM : List (Pg.Op × Option Addr × Nat)} (h : Z5 w0 B0 w csA csB csX csY X Y gA kA TA gB kB TB gC kC TC gM kM TM) {w' : World} (k : Below w.heap.size w w') : Z5 w0 B0 w' csA csB csX csY X Y gA kA TA gB kB TB gC kC TC gM kM TM := ⟨h.1.below k, h.2.1.below k, h.2.2.1.below k, ⟨h.2.2.2.1.1.below k h.2.2.2.1.1.lt, h.2.2.2.1.2⟩, ⟨h.2.2.2.2.1.1.below k h.2.2.2.2.1.1.lt, h.2.2.2.2.1.2⟩, h.2.2.2.2.2⟩
theorem Z5.bel {w0 w : World} {B0 : Nat} {csA csB csX csY : List Value} {X Y gA kA gB kB gC kC gM kM : Nat} {TA TB TC TM : List (Pg.Op × Option Addr × Nat)} (h : Z5 w0 B0 w csA csB csX csY X Y gA kA TA gB kB TB gC kC TC gM kM TM) : Below w0.heap.size w0 w := h.1.1.2.2
theorem s12 {w : World} {A B X : Nat} {a0 a1 a2 a3 b0 b1 b2 b3 x0 x1 x2 x3 : Value} {T : TypeId} (ha : Blk w A [a0, a1, a2, a3] T) (hb : Blk w B [b0, b1, b2, b3] T) (hx : Blk w X [x0, x1, x2, x3] T) : w.cell? ⟨A, 0, none⟩ = some a0 ∧ w.cell? ⟨A, 1, none⟩ = some a1 ∧ w.cell? ⟨A, 2, none⟩ = some a2 ∧ w.cell? ⟨A, 3, none⟩ = some a3 ∧ w.cell? ⟨B, 0, none⟩ = some b0 ∧ w.cell? ⟨B, 1, none⟩ = some b1 ∧ w.cell? ⟨B, 2, none⟩ = some b2 ∧ w.cell? ⟨B, 3, none⟩ = some b3 ∧ w.cell? ⟨X, 0, none⟩ = some x0 ∧ w.cell? ⟨X, 1, none⟩ = some x1 ∧ w.cell? ⟨X, 2, none⟩ = some x2 ∧ w.cell? ⟨X, 3, none⟩ = some x3 :=
  ⟨ha.cell (i := 0) rfl, ha.cell (i := 1) rfl, ha.cell (i := 2) rfl, ha.cell (i := 3) rfl, hb.cell (i := 0) rfl, hb.cell (i := 1) rfl, hb.cell (i := 2) rfl, hb.cell (i := 3) rfl, hx.cell (i := 0) rfl, hx.cell (i := 1) rfl, hx.cell (i := 2) rfl, hx.cell (i := 3) rfl⟩
theorem Z5.a {w0 w : World} {B0 : Nat} {csA csB csX csY : List Value} {X Y gA kA gB kB gC kC gM kM : Nat} {TA TB TC TM : List (Pg.Op × Option Addr × Nat)} (h : Z5 w0 B0 w csA csB csX csY X Y gA kA TA gB kB TB gC kC TC gM kM TM) {L : List Pg.Op} (hT : TA.map (·.1) = L) (hs : ∀ o ∈ L, Pg.okO o) : OL w (some ⟨gA, 0, none⟩) L := h.1.2.1.ol2 hT hs
theorem Z5.b {w0 w : World} {B0 : Nat} {csA csB csX csY : List Value} {X Y gA kA gB kB gC kC gM kM : Nat} {TA TB TC TM : List (Pg.Op × Option Addr × Nat)} (h : Z5 w0 B0 w csA csB csX csY X Y gA kA TA gB kB TB gC kC TC gM kM TM) {L : List Pg.Op} (hT : TB.map (·.1) = L) (hs : ∀ o ∈ L, Pg.okO o) : OL w (some ⟨gB, 0, none⟩) L := h.1.2.2.ol2 hT hs
theorem Z5.c {w0 w : World} {B0 : Nat} {csA csB csX csY : List Value} {X Y gA kA gB kB gC kC gM kM : Nat} {TA TB TC TM : List (Pg.Op × Option Addr × Nat)} (h : Z5 w0 B0 w csA csB csX csY X Y gA kA TA gB kB TB gC kC TC gM kM TM) {L : List Pg.Op} (hT : TC.map (·.1) = L) (hs : ∀ o ∈ L, Pg.okO o) : OL w (some ⟨gC, 0, none⟩) L := h.2.1.ol2 hT hs
end Go.Proofs.Ytoniipmgkoogbaa
/- Scripts: ProgSame: a copy that is stored into. -/
namespace Go.Proofs.Ytoniipmgkoogbaa
open Go.ChangeShapes Go.WideShapes Go.ChangeAt Go.RowKit
set_option linter.unusedSimpArgs false
set_option linter.unusedVariables false


/-- A row stays when a block is changed that isn't one of its own. -/
theorem PR.off {w w' : World} {B g c x : Nat} {T : List (Pg.Op × Option Addr × Nat)} (h : PR w B g c T) (hx : Out g T x) (k : Chg [x] w w') : PR w' B g c T :=
  ⟨h.1.chg k (by simp; exact fun e => hx.1 e.symm), h.2.1, fun t ht => by
    obtain ⟨b, h1, h2, h3⟩ := h.2.2 t ht
    refine ⟨b, h1, h2, h3.chg k (fun e => ?_)⟩
    simp at e
    subst e
    exact hx.2 t ht h1⟩
/-- A row of ops that may be stored into: of each op its kind's cell, where its arms are, and that they are there. -/
def MO (w : World) (g : Nat) (T : List (Pg.Op × Option Addr × Nat)) : Prop := (∃ cs, Blk w g cs 27 ∧ ∀ (q : Nat) t, T[q]? = some t → ∃ k : Int, cs[q * 7]? = some (.int .i64 k) ∧ cs[q * 7 + 4]? = some (.slice t.2.1 t.1.ar.length t.2.2)) ∧ ∀ (q : Nat) t, T[q]? = some t → ∃ b cs2, t.2.1 = some ⟨b, 0, none⟩ ∧ Blk w b cs2 38 ∧ t.1.ar.length * 2 ≤ cs2.length
theorem MO.of {w : World} {B g c : Nat} {T : List (Pg.Op × Option Addr × Nat)} (h : PR w B g c T) : MO w g T := by
  obtain ⟨⟨rest, hl, _, hb⟩, _, h3⟩ := h
  refine ⟨⟨pcs T ++ rest, hb, fun q t ht => ?_⟩, fun q t ht => ?_⟩
  · have hq : q < T.length := (List.getElem?_eq_some_iff.1 ht).1
    refine ⟨t.1.k, ?_, ?_⟩
    · rw [List.getElem?_append_left (by rw [pcs_len]; omega)]
      exact (pcs_at T q 0 t ht (by decide)).trans rfl
    · rw [List.getElem?_append_left (by rw [pcs_len]; omega)]
      exact (pcs_at T q 4 t ht (by decide)).trans rfl
  · obtain ⟨b, h1, _, rest2, hl2, _, hb2⟩ := h3 t (List.mem_of_getElem? ht)
    exact ⟨b, _, h1, hb2, by rw [List.length_append, acs_len]; omega⟩
theorem MO.below {w w' : World} {g : Nat} {T : List (Pg.Op × Option Addr × Nat)} (h : MO w g T) (k : Below w.heap.size w w') : MO w' g T := by
  obtain ⟨⟨cs, hb, h1⟩, h2⟩ := h
  refine ⟨⟨cs, hb.below k hb.lt, h1⟩, fun q t ht => ?_⟩
  obtain ⟨b, cs2, p1, p2, p3⟩ := h2 q t ht
  exact ⟨b, cs2, p1, p2.below k p2.lt, p3⟩
theorem MO.drew {w : World} {g : Nat} {T : List (Pg.Op × Option Addr × Nat)} (h : MO w g T) : MO w.drew g T := h.below (Below.refl _ _).drew
/-- An op's kind is stored. -/
theorem MO.kind {w : World} {g : Nat} {T : List (Pg.Op × Option Addr × Nat)} (h : MO w g T) {q : Nat} (hq : q < T.length) (k' : Int) : MO (w.setCell ⟨g, q * 7, none⟩ (.int .i64 k')) g T := by
  obtain ⟨⟨cs, hb, h1⟩, h2⟩ := h
  have k : Chg [g] w (w.setCell ⟨g, q * 7, none⟩ (.int .i64 k')) := (Chg.refl [g] w).set (Or.inl (by simp)) _ _
  refine ⟨⟨cs.set (q * 7) (.int .i64 k'), hb.set _ _, fun q2 t ht => ?_⟩, fun q2 t ht => ?_⟩
  · obtain ⟨k2, p1, p2⟩ := h1 q2 t ht
    by_cases e : q = q2
    · subst e
      exact ⟨k', by rw [List.getElem?_set_self (List.getElem?_eq_some_iff.1 p1).1], by rw [List.getElem?_set_ne (by omega)]; exact p2⟩
    · exact ⟨k2, by rw [List.getElem?_set_ne (by omega)]; exact p1, by rw [List.getElem?_set_ne (by omega)]; exact p2⟩
  · obtain ⟨b, cs2, p1, p2, p3⟩ := h2 q2 t ht
    refine ⟨b, cs2, p1, p2.chg k (fun e => ?_), p3⟩
    simp at e
    subst e
    exact absurd (blk_tp p2 hb) (by decide)
/-- An arm's goal is stored. -/
theorem MO.arm {w : World} {g : Nat} {T : List (Pg.Op × Option Addr × Nat)} (h : MO w g T) {b : Nat} {csb : List Value} (hb2 : Blk w b csb 38) (i : Nat) (v : Value) : MO (w.setCell ⟨b, i, none⟩ v) g T := by
  obtain ⟨⟨cs, hb, h1⟩, h2⟩ := h
  have k : Chg [b] w (w.setCell ⟨b, i, none⟩ v) := (Chg.refl [b] w).set (Or.inl (by simp)) _ _
  refine ⟨⟨cs, hb.chg k (fun e => ?_), h1⟩, fun q2 t ht => ?_⟩
  · simp at e
    subst e
    exact absurd (blk_tp hb hb2) (by decide)
  · obtain ⟨b2, cs2, p1, p2, p3⟩ := h2 q2 t ht
    by_cases e : b2 = b
    · subst e
      exact ⟨b2, cs2.set i v, p1, p2.set i v, by simpa using p3⟩
    · exact ⟨b2, cs2, p1, p2.chg k (by simpa using e), p3⟩
/-- What holds in the loops: the boxes, the first script's row and the second one's, and the copy that is stored into. -/
def LW (w0 w : World) (csA csB csX csY : List Value) (X Y : Nat) (B0 gA kA : Nat) (TA : List (Pg.Op × Option Addr × Nat)) (gM kM : Nat) (TM : List (Pg.Op × Option Addr × Nat)) (gC : Nat) (TC : List (Pg.Op × Option Addr × Nat)) : Prop :=
  S2 w0 w csA csB ∧ PR w (w0.heap.size + 2) gA kA TA ∧ PR w B0 gM kM TM ∧ (Blk w X csX 24 ∧ w0.heap.size + 2 ≤ X) ∧ (Blk w Y csY 24 ∧ w0.heap.size + 2 ≤ Y) ∧ MO w gC TC
theorem LW.below {w0 w w' : World} {csA csB csX csY : List Value} {X Y B0 gA kA : Nat} {TA : List (Pg.Op × Option Addr × Nat)} {gM kM : Nat} {TM : List (Pg.Op × Option Addr × Nat)} {gC : Nat} {TC : List (Pg.Op × Option Addr × Nat)} (h : LW w0 w csA csB csX csY X Y B0 gA kA TA gM kM TM gC TC) (k : Below w.heap.size w w') : LW w0 w' csA csB csX csY X Y B0 gA kA TA gM kM TM gC TC :=
  ⟨h.1.below k, h.2.1.below k, h.2.2.1.below k, ⟨h.2.2.2.1.1.below k h.2.2.2.1.1.lt, h.2.2.2.1.2⟩, ⟨h.2.2.2.2.1.1.below k h.2.2.2.2.1.1.lt, h.2.2.2.2.1.2⟩, h.2.2.2.2.2.below k⟩
/-- A store into the copy. -/
theorem LW.put {w0 w w' : World} {csA csB csX csY : List Value} {X Y B0 gA kA : Nat} {TA : List (Pg.Op × Option Addr × Nat)} {gM kM : Nat} {TM : List (Pg.Op × Option Addr × Nat)} {gC : Nat} {TC : List (Pg.Op × Option Addr × Nat)} (h : LW w0 w csA csB csX csY X Y B0 gA kA TA gM kM TM gC TC) {x : Nat} {cs : List Value} {U : TypeId} (hx : Blk w x cs U) (hU : U ≠ 24) (hlo : w0.heap.size + 2 ≤ x) (hA : Out gA TA x) (hM : Out gM TM x) (k : Chg [x] w w') (hm : MO w' gC TC) : LW w0 w' csA csB csX csY X Y B0 gA kA TA gM kM TM gC TC := by
  have ne : ∀ y ds, Blk w y ds 24 → y ∉ ([x] : List Nat) := fun y ds hy e => by
    simp at e
    subst e
    exact hU (blk_tp hx hy)
  exact ⟨⟨h.1.1.chg k (ne _ _ h.1.1), h.1.2.1.chg k (ne _ _ h.1.2.1), k.onto h.1.2.2 h.1.2.2.size (by simp; omega)⟩, h.2.1.off hA k, h.2.2.1.off hM k, ⟨h.2.2.2.1.1.chg k (ne _ _ h.2.2.2.1.1), h.2.2.2.1.2⟩, ⟨h.2.2.2.2.1.1.chg k (ne _ _ h.2.2.2.2.1.1), h.2.2.2.2.1.2⟩, hm⟩
end Go.Proofs.Ytoniipmgkoogbaa
