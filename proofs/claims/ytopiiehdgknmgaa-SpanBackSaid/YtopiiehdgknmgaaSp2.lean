/- Span: a pattern turned round. -/
import Derived.RangeFuncNested
import Derived.RangeFuncBound
import Derived.RangeFuncBox
import Derived.RangeFuncCalls
import Derived.RangeFuncLeaves
import Derived.Shelf.Abstract
import Derived.Shelf.RegionOpen
import Derived.WalkKit
import Derived.OwnWalkIn
import Derived.TacticsInMore
import Derived.LoopNIn
import Derived.LoopIn
import Derived.Maps.AppendAt
import Derived.Test.YtopiiehdgknmgaaLgC
namespace Go.Proofs.Ytopiiehdgknmgaa
open Go.RowKit Go.Shelf
set_option linter.unusedSimpArgs false
set_option linter.unusedVariables false
attribute [local go_sem] Oper.semAt_some

/-- What a round that goes on keeps: all below n₀, and the box of the items. -/
def Sp.Kp (n₀ Bn : Nat) (v : Value) (W W' : World) : Prop := Below n₀ W W' ∧ (Boxed W Bn 54 v → Boxed W' Bn 54 v)
theorem Sp.Kp.trans {n₀ Bn : Nat} {v : Value} {A B C : World} (h : Sp.Kp n₀ Bn v A B) (k : Sp.Kp n₀ Bn v B C) : Sp.Kp n₀ Bn v A C := ⟨h.1.trans k.1, fun b => k.2 (h.2 b)⟩
theorem Sp.Kp.refl (n₀ Bn : Nat) (v : Value) (A : World) : Sp.Kp n₀ Bn v A A := ⟨Below.refl _ _, fun b => b⟩
theorem kp_own {n₀ Bn : Nat} {v : Value} {w0 : World} (hn : n₀ ≤ w0.heap.size) (W : World) (l : Nat) (o o' : Obj) (hl : w0.heap.size ≤ l) (ho : W.heap[l]? = some o) (hc : o.isCells = false) (hw : o.isWalk = false) : Sp.Kp n₀ Bn v W (W.putObj l o') :=
  ⟨belowK_b hn W l o o' hl ho hc hw, fun b => b.kept (grownBy_putObj' W l o') (fun e => by
    injection e with e
    rw [← e, show W.heap[Bn]? = _ from b] at ho
    cases ho; cases hc)⟩
theorem ib_own (B : Nat) (r : Bool) (X : BitVec 256) : Own (fun (_ : Unit) W => IB W B r X) := fun s X' Y row hs hg hrow =>
  (hg.block B (Blk.lt hs) (fun e' => by obtain ⟨o, ho, hc⟩ := hrow B e'.symm; rw [show X'.heap[B]? = _ from hs] at ho; cases ho; cases hc)).trans hs
theorem back_pre (xs : List (Bool × BitVec 256)) (k : Nat) (x : Bool × BitVec 256) (hk : xs[k]? = some x) : (xs.drop (k + 1)).reverse ++ [x] = (xs.drop k).reverse := by
  obtain ⟨hlt, e⟩ := List.getElem?_eq_some_iff.1 hk
  rw [List.drop_eq_getElem_cons hlt, List.reverse_cons, e]
set_option maxRecDepth 100000 in
set_option maxHeartbeats 4000000 in
theorem sp_behind1 (F : Fence) (n : Nat) (h67 : F.fn 67) (hro : F.round = none) (hn : 1 ≤ n) (l Bn n₀ : Nat) (a : Option Addr) (m c : Nat) (xs : List (Bool × BitVec 256)) (hm : xs.length = m) (hm6 : m ≤ 1000000) (J Jx : List (Bool × BitVec 256) → World → Prop)
    (hY : ∀ pre x W, J pre W → pre.length < m → YieldAt F (n - 1) Try.prog l #[Cs.it x.1 x.2] W fun e W' =>
      (e = .returned (.bool true) ∧ J (pre ++ [x]) W' ∧ Sp.Kp n₀ Bn (.slice a m c) W W') ∨ (e = .returned (.bool false) ∧ Jx (pre ++ [x]) W'))
    (W : World) (hBn : Boxed W Bn 54 (.slice a m c)) (hL : ∀ j x, xs[j]? = some x → ∃ g o, a = some ⟨g, o, none⟩ ∧ g < n₀ ∧ W.cell? ⟨g, o + j * 5, none⟩ = some (.bool x.1) ∧ W.cell? ⟨g, o + j * 5 + 1, none⟩ = some (.int .u64 (Cs.wd x.2 0)) ∧ W.cell? ⟨g, o + j * 5 + 2, none⟩ = some (.int .u64 (Cs.wd x.2 1)) ∧ W.cell? ⟨g, o + j * 5 + 3, none⟩ = some (.int .u64 (Cs.wd x.2 2)) ∧ W.cell? ⟨g, o + j * 5 + 4, none⟩ = some (.int .u64 (Cs.wd x.2 3))) (h0 : J [] W) :
    CallsIn F n Try.prog 67 #[.func (.yield l) #[] #[], .pointer (some ⟨Bn, 0, none⟩)] W fun e W' => (∃ v, e = .returned v) ∧
      ((∃ ys, ys = xs.reverse ∧ J ys W') ∨ (∃ pre, True ∧ Jx pre W')) := by
  have cb := hBn.cell
  have HL := Lib.hid hL
  have HM := Lib.hid hm
  have HB := Lib.hid hBn
  clear hL hm hBn
  have w1 : IntKind.i64.wrap ((m : Int) - 1) = (m : Int) - 1 := IntWalk.i64_in _ (by omega)
  refine callsIn_of_wp Try.func67 rfl h67 ?_ hro
  simp only [Try.ntmps67, List.size_toArray, List.length_cons, List.length_nil, Nat.reduceAdd, Nat.reduceSub, Array.replicate_succ, Array.replicate_zero, List.push_toArray, List.append_toArray, List.nil_append, List.cons_append]
  gi_wp2
  gi_loopw [3] (fun i wr => ∃ (k : Nat) (z : Int), i = .int .i64 z ∧ Hid (z = (k : Int) - 1) ∧ k ≤ m ∧ J (xs.drop k).reverse wr ∧ Sp.Kp n₀ Bn (.slice a m c) W wr)
    (fun i _ => ((intOf i) + 1).toNat)
  case atStart => exact ⟨m, _, rfl, Lib.hid rfl, Nat.le_refl _, by rw [← HM.out, List.drop_length]; exact h0, Sp.Kp.refl _ _ _ _⟩
  case round =>
    obtain ⟨k, z, rfl, hz, hk, hJs, hK⟩ := hrel
    have cb' := (hK.2 HB.out).cell
    cases k with
    | zero =>
      obtain rfl : z = -1 := by have := hz.out; omega
      gi_wp2
      go_end0
      exact ⟨⟨_, rfl⟩, .inl ⟨xs.reverse, rfl, by simpa using hJs⟩⟩
    | succ j =>
      obtain rfl : z = (j : Int) := by have := hz.out; omega
      have j0 : (0 : Int) ≤ (j : Int) := by omega
      have jm : (j : Int) < (m : Int) := by omega
      obtain ⟨x, hx⟩ : ∃ x, xs[j]? = some x := ⟨_, List.getElem?_eq_getElem (by rw [HM.out]; omega)⟩
      obtain ⟨g, o, ha, hg, d0, d1, d2, d3, d4⟩ := HL.out j x hx
      have HX := Lib.hid hx
      clear hx
      subst ha
      have c0 := (hK.1.cell (p := ⟨g, o + j * 5, none⟩) hg).trans d0
      have c1 := (hK.1.cell (p := ⟨g, o + j * 5 + 1, none⟩) hg).trans d1
      have c2 := (hK.1.cell (p := ⟨g, o + j * 5 + 2, none⟩) hg).trans d2
      have c3 := (hK.1.cell (p := ⟨g, o + j * 5 + 3, none⟩) hg).trans d3
      have c4 := (hK.1.cell (p := ⟨g, o + j * 5 + 4, none⟩) hg).trans d4
      have w2 : IntKind.i64.wrap ((j : Int) - 1) = (j : Int) - 1 := IntWalk.i64_in _ (by omega)
      obtain ⟨fn, tmps, assign, body, hy, hR⟩ := hY _ x wr hJs (by rw [List.length_reverse, List.length_drop, HM.out]; omega)
      unfold Cs.it at hy
      clear d0 d1 d2 d3 d4 hY hz
      gi_wp2
      refine hR.mono ?_
      rintro e W3 (⟨rfl, hJ3, hk3⟩ | ⟨rfl, hJx3⟩)
      · gi_wp2
        go_roundw
        case rel => exact ⟨j, _, by simp, Lib.hid rfl, by omega, by rw [← back_pre xs j x HX.out]; exact hJ3, hK.trans hk3⟩
        case measure => simp [intOf]
      · gi_wp2
        refine bodyPost_ret (results_none rfl _ _ _) rfl ?_
        exact ⟨⟨_, rfl⟩, .inr ⟨_, trivial, hJx3⟩⟩
set_option maxHeartbeats 1000000 in
theorem sp_behind (F : Fence) (n : Nat) (h5 : F.fn 53) (hro : F.round = none) (a : Option Addr) (m c : Nat) (w : World) :
    CallsIn F n Try.prog 53 #[.slice a m c] w fun e w' => e = .returned (.func (.func 67) #[] #[.pointer (some ⟨w.heap.size, 0, none⟩)]) ∧ w' = w.alloc (.cells #[.slice a m c] 54) := by
  refine callsIn_of_wp Try.func53 rfl h5 ?_ hro
  simp only [Try.ntmps53, List.size_toArray, List.length_cons, List.length_nil, Nat.reduceAdd, Nat.reduceSub, Array.replicate_succ, Array.replicate_zero, List.push_toArray, List.append_toArray, List.nil_append, List.cons_append]
  gi_wp2
  go_ret
  exact ⟨rfl, rfl⟩
theorem its_snoc (pre : List (Bool × BitVec 256)) (x : Bool × BitVec 256) : its (pre ++ [x]) = its pre ++ [.bool x.1, .int .u64 (Cs.wd x.2 0), .int .u64 (Cs.wd x.2 1), .int .u64 (Cs.wd x.2 2), .int .u64 (Cs.wd x.2 3)] := by
  rw [its_append]; rfl
set_option maxRecDepth 100000 in
set_option maxHeartbeats 8000000 in
theorem sp_back_in (F : Fence) (n : Nat) (h3 : F.fn 32) (h4 : F.fn 53) (h5 : F.fn 67) (hro : F.round = none) (hn : 3 ≤ n) (xs : List (Bool × BitVec 256)) (m : Nat) (hm : xs.length = m) (hm6 : m ≤ 100000) (a : Option Addr) (c : Nat) (w : World) (hI : IA w a xs) :
    CallsIn F n Try.prog 32 #[.slice a m c] w fun e W' => ∃ v, e = .returned v ∧ W'.ownsRow w.heap.size 62 5 v m (its xs.reverse) ∧ Below w.heap.size w W' := by
  have h1 : 1 ≤ n := by omega
  have hL : ∀ (U : World), Below w.heap.size w U → ∀ j x, xs[j]? = some x → ∃ g o, a = some ⟨g, o, none⟩ ∧ g < w.heap.size ∧ U.cell? ⟨g, o + j * 5, none⟩ = some (.bool x.1) ∧ U.cell? ⟨g, o + j * 5 + 1, none⟩ = some (.int .u64 (Cs.wd x.2 0)) ∧ U.cell? ⟨g, o + j * 5 + 2, none⟩ = some (.int .u64 (Cs.wd x.2 1)) ∧ U.cell? ⟨g, o + j * 5 + 3, none⟩ = some (.int .u64 (Cs.wd x.2 2)) ∧ U.cell? ⟨g, o + j * 5 + 4, none⟩ = some (.int .u64 (Cs.wd x.2 3)) := fun U hU j x hx => by
    obtain ⟨g, o, h1, h2, h3⟩ := hI.cell hx
    refine ⟨g, o, h1, h2, ?_⟩
    rw [hU.cell (p := ⟨g, o + j * 5, none⟩) h2, hU.cell (p := ⟨g, o + j * 5 + 1, none⟩) h2, hU.cell (p := ⟨g, o + j * 5 + 2, none⟩) h2, hU.cell (p := ⟨g, o + j * 5 + 3, none⟩) h2, hU.cell (p := ⟨g, o + j * 5 + 4, none⟩) h2]
    exact h3
  obtain ⟨i0, hi, hz0, hz1, hz2⟩ := info_parts infoI
  refine callsIn_of_wp_marks Try.func32 rfl h3 ?_ hro
  simp only [Try.ntmps32, List.size_toArray, List.length_cons, List.length_nil, Nat.reduceAdd, Nat.reduceSub, Array.replicate_succ, Array.replicate_zero, List.push_toArray, List.append_toArray, List.nil_append, List.cons_append]
  gi_wp2_with (gi_at_call 53; refine (sp_behind F (n - 1) h4 hro _ _ _ _).mono ?_; rintro e w' ⟨rfl, rfl⟩)
  have bO := Boxed.new w 54 (.slice none 0 0)
  have bN := Boxed.new (w.alloc (.cells #[.slice none 0 0] 54)) 54 (.slice a m c)
  rw [World.size_alloc] at bN
  have hB0 : Below w.heap.size w ((w.alloc (.cells #[.slice none 0 0] 54)).alloc (.cells #[.slice a m c] 54)) := ((Below.refl _ w).alloc (Nat.le_refl _) _).alloc (by simp) _
  have hsz : ((w.alloc (.cells #[.slice none 0 0] 54)).alloc (.cells #[.slice a m c] 54)).heap.size = w.heap.size + 2 := by simp
  replace bO := bO.alloc (.cells #[.slice a m c] 54)
  revert bO bN hB0 hsz
  generalize (w.alloc (.cells #[.slice none 0 0] 54)).alloc (.cells #[.slice a m c] 54) = W0
  intro bN hB0 hsz bO
  refine wpIn_rangeFunc_ownH hro h1 (gf := 67) (lb := #[.pointer (some ⟨w.heap.size + 1, 0, none⟩)]) rfl h5 (enters_of Try.func67 (by kernel_rfl) rfl)
    (encs := fun x : Bool × BitVec 256 => #[Cs.it x.1 x.2]) (Kp := Sp.Kp w.heap.size (w.heap.size + 1) (.slice a m c)) (S := fun ys => ys = xs.reverse) (Sp := fun _ => True) (N := m) (w0 := W0)
    (fun l J Jx W hW _ _ hY h0 => sp_behind1 F (n - 1) h5 hro (by omega) l (w.heap.size + 1) w.heap.size a m c xs hm (by omega) J Jx hY W (by
      have := hW.cell (p := ⟨w.heap.size + 1, 0, none⟩) (by show w.heap.size + 1 < _; omega)
      exact (hW.block (w.heap.size + 1) (by omega)).trans bN) (hL W (hB0.trans (hW.mono (by omega)))) h0)
    Sp.Kp.trans (kp_own (by omega)) (Below.refl _ _) (fun _ => rfl)
    (fun pre W => ((∃ v, Boxed W w.heap.size 54 v ∧ W.ownsRow w.heap.size 62 5 v pre.length (its pre) ∧ True) ∧ Boxed W (w.heap.size + 1) 54 (.slice a m c)) ∧ Below w.heap.size w W)
    (fun _ _ _ => False)
    (OwnFrom.and (OwnFrom.and (Own.from (holdsRow_own w.heap.size w.heap.size 54 62 5 (fun pre => pre.length) (fun pre => its pre) (fun _ _ => True)) _) (Own.from (boxed_own _ _ _) _)) (ownFrom_below (Nat.le_refl _) (by omega)))
    (fun _ _ _ _ _ hs _ _ => hs)
    ⟨⟨⟨_, bO, World.ownsRow_nil _ _ _ _, trivial⟩, bN⟩, hB0⟩
    (fun x a' W => ∃ Bx, w.heap.size + 1 < Bx ∧ IB W Bx x.1 x.2 ∧ a' = { tmps := #[.slice a m c, undef, .slice none 0 0, .pointer (some ⟨w.heap.size, 0, none⟩), .pointer (some ⟨Bx, 0, none⟩), .slice a m c, .func (.func 67) #[] #[.pointer (some ⟨w.heap.size + 1, 0, none⟩)], Cs.it x.1 x.2, undef, undef, undef, undef, undef], defers := [] })
    (fun x a' _ X Y row hs hg hr => by obtain ⟨Bx, h1, h2, h3⟩ := hs; exact ⟨Bx, h1, ib_own Bx x.1 x.2 () X Y row h2 hg (fun r e => (hr r e).2), h3⟩)
    ?assign ?body ?done ?stop
  case assign =>
    rintro l pre ⟨r, X⟩ W K ⟨⟨⟨v, b1, r1, _⟩, b2⟩, hB1⟩ hK
    unfold Cs.it
    gi_wp2
    exact hK _ _ ((KeepsOthers.alloc _ _).from _) ⟨(Below.refl _ W).alloc hB1.size _, fun b => b.alloc _⟩ ⟨⟨⟨_, b1.alloc _, r1.alloc _, trivial⟩, b2.alloc _⟩, hB1.alloc hB1.size _⟩ ⟨W.heap.size, b2.lt, IB.new W r X, rfl⟩
  case body =>
    rintro l pre ⟨r, X⟩ a' W hl ⟨rec, hrec⟩ ⟨⟨⟨v, b1, r1, _⟩, b2⟩, hB1⟩ ⟨Bx, hBx, bX, rfl⟩ hlt
    have c0 := b1.cell
    have d0 := Blk.cell bX (i := 0) rfl
    have d1 := Blk.cell bX (i := 1) rfl
    have d2 := Blk.cell bX (i := 2) rfl
    have d3 := Blk.cell bX (i := 3) rfl
    have d4 := Blk.cell bX (i := 4) rfl
    dsimp only at d0 d1 d2 d3 d4
    unfold Cs.it
    gi_wp2_with (gi_at_builtin; refine wpListIn_append_own _ rfl _ _ 54 rfl w.heap.size 62 i0 (.agg #[.bool false, .int .u64 0, .int .u64 0, .int .u64 0, .int .u64 0]) 5 40 Try.underlying54 hi hz0 hz1 hz2 rfl (by decide) _ _ _ rfl (r1.alloc _) ⟨W.heap.size, 0, none⟩ 1 1 [.bool r, .int .u64 (Cs.wd X 0), .int .u64 (Cs.wd X 1), .int .u64 (Cs.wd X 2), .int .u64 (Cs.wd X 3)] rfl rfl (new_cells _ _ _) (one_item _ _ _ _ _) (by unfold maxLen; omega) (by omega) (by have := hB1.size; simp; omega) ?_; intro v' w1 hown' hgrow _; obtain ⟨g', cap', rfl⟩ := ownsRow_succ hown'; obtain ⟨hv1, hv2, hr2, hk2, hb2⟩ := b1.appended (by decide) r1 hB1.size (Nat.le_refl _) hown' hgrow; have hc1 := hv1.cell; have hf1 := hv1.frozen)
    have b2' := ((b2.alloc _).kept hgrow (b2.not_row (by decide) r1)).other (B' := w.heap.size) (by omega) (.slice (some ⟨g', 0, none⟩) (pre.length + 1) cap')
    exact ⟨hk2.from _, ⟨hb2, fun _ => b2'⟩, ⟨⟨_, hv2, by rw [its_snoc, show (pre ++ [(r, X)]).length = pre.length + 1 by simp]; exact hr2⟩, b2'⟩, hB1.trans hb2⟩
  case done =>
    rintro D ys W hD rfl ⟨⟨⟨v, b1, r1, _⟩, b2⟩, hB1⟩ hK
    have cS := b1.cell
    gi_wp2
    refine ⟨by simp, .inl ⟨_, _, rfl, run_takeDeferred hK, ?_⟩⟩
    refine ⟨_, results_tmp rfl _ _ _, v, rfl, ?_, hB1.trans (belowK_b (w := w) (Nat.le_refl _) W D _ _ (by omega) hK rfl rfl)⟩
    have := ownsRow_putObj r1 (.deferred none) hK rfl
    rw [List.length_reverse, hm] at this
    exact this
  case stop =>
    rintro D c pre W _ _ h _
    exact h.elim
theorem sp_back (xs : List (Bool × BitVec 256)) (m : Nat) (hm : xs.length = m) (hm6 : m ≤ 100000) (a : Option Addr) (c : Nat) (w : World) (hI : IA w a xs) :
    Calls Try.prog 32 #[.slice a m c] w fun e W' => ∃ a' c', e = .returned (.slice a' m c') ∧ IK W' a' xs.reverse ∧ Below w.heap.size w W' := by
  refine (callsIn_wide (n := 8)).1 ((sp_back_in Fence.wide 8 trivial trivial trivial rfl (by omega) xs m hm hm6 a c w hI).mono ?_)
  rintro e W' ⟨v, rfl, h1, h2⟩
  have hl : xs.reverse.length = m := by simpa using hm
  rw [← hl] at h1
  obtain ⟨a', c', rfl, h3⟩ := own_ik h1
  exact ⟨a', c', by rw [hl], h3, h2⟩
end Go.Proofs.Ytopiiehdgknmgaa
