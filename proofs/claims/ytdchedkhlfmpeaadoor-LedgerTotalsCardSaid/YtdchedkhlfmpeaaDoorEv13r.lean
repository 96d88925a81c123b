/- Events: the document on lives: the regions. -/
import Derived.Test.YtdchedkhlfmpeaaDoorEv12
import Derived.WalkKit
import Derived.ProofKit
import Derived.Handy
import Derived.WalkLawsBesides
import Derived.WalkSpells
import Derived.Lib.Hide
import Derived.Lib.SliceRun
import Derived.Deep.RegionLaw
import Derived.RegionTactic
import Derived.ChangeAlike
import Derived.WalkSmall
import Derived.Deep.QuietTactic
import Derived.BigQuiet
import Derived.OwnWalk
import Derived.Outline
import Derived.Deep.CutRange
import Derived.Deep.CutBlock
import Derived.LoopTactic
namespace Go.Proofs.YtdchedkhlfmpeaaDoor
open Go.ChangeShapes Go.WideShapes Go.ChangeAt Go.RowKit
set_option linter.unusedSimpArgs false
set_option linter.unusedVariables false

theorem infoOut : (Tryd.prog.info? 92).map (fun i => (i.zero, i.size, i.bytes)) = some (some (.agg #[.int .i64 0, .string ByteArray.empty, .int .i64 0, .int .i64 0, .int .i64 0, .int .i64 0, .int .i64 0, .int .i64 0, .bool false]), 9, 80) := by kernel_rfl
theorem out_one (a : Int) (b : ByteArray) (c d e f g h : Int) (i : Bool) : ∀ v ∈ [Value.int .i64 a, .string b, .int .i64 c, .int .i64 d, .int .i64 e, .int .i64 f, .int .i64 g, .int .i64 h, .bool i], v.oneCell' = true := by
  intro v hv
  simp only [List.mem_cons, List.not_mem_nil, or_false] at hv
  rcases hv with rfl | rfl | rfl | rfl | rfl | rfl | rfl | rfl | rfl <;> rfl
/-- The operations of region n. -/
def findR (n : Nat) : Code → Option (List Oper)
  | .region i ops _ => if i = n then some ops.toList else none
  | .seq a b => match findR n a with
    | some x => some x
    | none => findR n b
  | .cond _ a b => match findR n a with
    | some x => some x
    | none => findR n b
  | .block _ c => findR n c
  | .loop c => findR n c
  | .scope c => findR n c
  | _ => none
/-- Slots laid, one by one. -/
def putsD (env : Nat → Value) : Nat → List (Option Tmp) → Act → Act
  | _, [], a => a
  | k, d :: r, a => putsD env (k + 1) r (a.put d (env k))
/-- The operations of a region of the document's Of. -/
noncomputable def opsOf (n : Nat) : List Oper := ((Tryd.f20).body.bind (findR n)).getD []
set_option maxRecDepth 20000 in
set_option maxHeartbeats 16000000 in
theorem rf_reg7 (i n t : Int) (b : ByteArray) (e s0 s1 s2 s3 s4 s5 : Int) (V W1 : World) (F X : Nat) (a1 sc fr : Int) (rd tk : ByteArray) (eo : Bool) (r1 : Option Addr) (n1 c1 : Nat) (L1 : List Value) (r2 : Option Addr) (c2 : Nat) (L2 : List Value) (r3 : Option Addr) (n3 c3 : Nat) (L3 : List Value) (bn1 : n1 ≤ 100000) (HR : Hid (RO V W1 F F a1 sc fr rd tk eo 0 r1 n1 c1 L1 r2 n1 c2 L2 r3 n3 c3 L3 ∧ Blk W1 X (Ev.c ⟨7, i, n, t, b, e, s0, s1, s2, s3, s4, s5⟩) 46)) (Q : Exit → Act → World → Prop) (base : Act) (hsz : base.tmps.size = 169) (hb6 : base.eval (.tmp 6) = .pointer (some ⟨F, 0, none⟩)) (hb10 : base.eval (.tmp 10) = .pointer (some ⟨X, 0, none⟩))
    (hQ : ∀ env w' (g1 k1 g2 k2 : Nat), RO V w' F F a1 sc fr rd tk eo 0 (some ⟨g1, 0, none⟩) (n1 + 1) k1 (L1 ++ [.int .i64 4, .string ⟨#[]⟩, .int .i64 0, .int .i64 t]) (some ⟨g2, 0, none⟩) (n1 + 1) k2 (L2 ++ [.int .i64 0, .string ⟨#[]⟩, .int .i64 0, .int .i64 0, .int .i64 0, .int .i64 0, .int .i64 0, .int .i64 0, .bool false]) r3 n3 c3 L3 ∧ Blk w' X (Ev.c ⟨7, i, n, t, b, e, s0, s1, s2, s3, s4, s5⟩) 46 → Q .normal (putsD env 0 [some 51, some 52, some 53, some 54, some 55, some 56, some 57, some 58, some 59, some 60, some 61, some 62, some 63, none, some 64, none] base) w') : (Code.region 12 (opsOf 12).toArray true).wp Tryd.prog Q base W1 := by
  have hops : opsOf 12 = opsOf 12 := rfl
  refine wp_region_env (fun env L w' => DD V F F X ⟨7, i, n, t, b, e, s0, s1, s2, s3, s4, s5⟩ a1 sc fr rd tk eo eo 0 r1 n1 c1 L1 r2 n1 c2 L2 r3 n3 c3 L3 [.int .i64 4, .string ⟨#[]⟩, .int .i64 0, .int .i64 t] [.int .i64 0, .string ⟨#[]⟩, .int .i64 0, .int .i64 0, .int .i64 0, .int .i64 0, .int .i64 0, .int .i64 0, .bool false] (fun q => ([some (.pointer (some ⟨F, 3, none⟩)), some (.slice r1 n1 c1), some (.pointer (some ⟨X, 3, none⟩)), some (.int .i64 t), some (.agg #[.int .i64 4, .string ⟨#[]⟩, .int .i64 0, .int .i64 t]), none, none, some (.pointer (some ⟨F, 4, none⟩)), some (.slice r2 n1 c2), some (.agg #[.int .i64 0, .string ⟨#[]⟩, .int .i64 0, .int .i64 0, .int .i64 0, .int .i64 0, .int .i64 0, .int .i64 0, .bool false]), none, none, some (.pointer (some ⟨F, 3, none⟩)), none, some (.pointer (some ⟨F, 4, none⟩)), none] : List (Option Value))[q]?.join) 5 6 10 11 13 15 1000 env L w') (fun _ => undef) (by kernel_rfl) (by kernel_rfl) (by kernel_rfl) (by kernel_rfl) ?h0 ?hstep ?hend
  case h0 => exact ⟨fun k v _ h => by (cases h), HR.out.2.drew, HR.out.1.blk.drew, fun h => by (cases h), fun h => by (cases h), fun _ => HR.out.1.m1.chg (l := []) (Chg.refl [] _).drew (by simp), fun h => by (cases h), fun _ => HR.out.1.m2.chg (l := []) (Chg.refl [] _).drew (by simp), fun h => by (cases h), HR.out.1.m3.chg (l := []) (Chg.refl [] _).drew (by simp), HR.out.1.be.drew, HR.out.1.FB, HR.out.1.le⟩
  case hstep =>
    have hDis : Dis 5 6 10 11 13 15 1000 := by unfold Dis; decide
    refine ⟨?o0, ?o1, ?o2, ?o3, ?o4, ?o5, ?o6, ?o7, ?o8, ?o9, ?o10, ?o11, ?o12, ?o13, ?o14, ?o15, trivial⟩
    case o0 =>
      intro E env L w' hcl hL hp hd ho2 hC
      have xb : E.eval (.tmp 6) = .pointer (some ⟨F, 0, none⟩) := (ho2 6 (by kernel_rfl)).trans hb6
      refine wp_val (v := .pointer (some ⟨F, 3, none⟩)) (w' := w') ?_ ⟨_, rfl, hC.pure hDis 0 (by decide) _ rfl⟩
      simp only [execOp, xb]
      go_simp
    case o1 =>
      intro E env L w' hcl hL hp hd ho2 hC
      have l0 : L 0 = true := hp ⟨0, .data⟩ (by simp) rfl
      have x0 : E.eval (.tmp 51) = .pointer (some ⟨F, 3, none⟩) := (hd 0 51 l0 rfl (by rw [hsz]; decide)).trans (hC.g 0 _ rfl l0)
      have hL13 : L 13 = false := by
        cases h0 : L 13 with
        | false => rfl
        | true =>
          have h1 := hcl 13 _ rfl h0 ⟨1, .phase⟩ (by first | exact Array.mem_of_getElem? (i := 0) rfl | exact Array.mem_of_getElem? (i := 1) rfl | exact Array.mem_of_getElem? (i := 2) rfl | exact Array.mem_of_getElem? (i := 3) rfl | exact Array.mem_of_getElem? (i := 4) rfl | exact Array.mem_of_getElem? (i := 5) rfl | exact Array.mem_of_getElem? (i := 6) rfl | exact Array.mem_of_getElem? (i := 7) rfl | exact Array.mem_of_getElem? (i := 8) rfl | exact Array.mem_of_getElem? (i := 9) rfl | exact Array.mem_of_getElem? (i := 10) rfl | exact Array.mem_of_getElem? (i := 11) rfl | exact Array.mem_of_getElem? (i := 12) rfl | exact Array.mem_of_getElem? (i := 13) rfl | exact Array.mem_of_getElem? (i := 14) rfl | exact Array.mem_of_getElem? (i := 15) rfl | exact Array.mem_of_getElem? (i := 16) rfl | exact Array.mem_of_getElem? (i := 17) rfl | exact Array.mem_of_getElem? (i := 18) rfl | exact Array.mem_of_getElem? (i := 19) rfl | exact Array.mem_of_getElem? (i := 20) rfl | exact Array.mem_of_getElem? (i := 21) rfl | exact Array.mem_of_getElem? (i := 22) rfl | exact Array.mem_of_getElem? (i := 23) rfl) rfl
          exact absurd (h1.symm.trans hL) (by simp)
      have cF : w'.cell? ⟨F, 3, none⟩ = some (.slice r1 n1 c1) := by
        have h := hC.blk.cell (i := 3) rfl
        rw [hL13] at h
        exact h
      refine wp_val (v := .slice r1 n1 c1) (w' := w') ?_ ⟨_, rfl, hC.pure hDis 1 (by decide) _ rfl⟩
      simp only [execOp, x0]
      go_simp
    case o2 =>
      intro E env L w' hcl hL hp hd ho2 hC
      have xb : E.eval (.tmp 10) = .pointer (some ⟨X, 0, none⟩) := (ho2 10 (by kernel_rfl)).trans hb10
      refine wp_val (v := .pointer (some ⟨X, 3, none⟩)) (w' := w') ?_ ⟨_, rfl, hC.pure hDis 2 (by decide) _ rfl⟩
      simp only [execOp, xb]
      go_simp
    case o3 =>
      intro E env L w' hcl hL hp hd ho2 hC
      have l2 : L 2 = true := hp ⟨2, .data⟩ (by simp) rfl
      have x2 : E.eval (.tmp 53) = .pointer (some ⟨X, 3, none⟩) := (hd 2 53 l2 rfl (by rw [hsz]; decide)).trans (hC.g 2 _ rfl l2)
      have cX3 := hC.ev.cell (i := 3) rfl
      refine wp_val (v := .int .i64 t) (w' := w') ?_ ⟨_, rfl, hC.pure hDis 3 (by decide) _ rfl⟩
      simp only [execOp, x2]
      go_simp
    case o4 =>
      intro E env L w' hcl hL hp hd ho2 hC
      have l3 : L 3 = true := hp ⟨3, .data⟩ (by simp) rfl
      have x3 : E.eval (.tmp 54) = .int .i64 t := (hd 3 54 l3 rfl (by rw [hsz]; decide)).trans (hC.g 3 _ rfl l3)
      have m3 : E.tmps[54]?.getD undef = .int .i64 t := by simpa [Act.eval] using x3
      refine wp_val (v := .agg #[.int .i64 4, .string ⟨#[]⟩, .int .i64 0, .int .i64 t]) (w' := w') ?_ ⟨_, rfl, hC.pure hDis 4 (by decide) _ rfl⟩
      simp only [execOp, x3]
      go_simp
    case o5 =>
      intro E env L w' hcl hL hp hd ho2 hC
      have l4 : L 4 = true := hp ⟨4, .data⟩ (by simp) rfl
      have x4 : E.eval (.tmp 55) = .agg #[.int .i64 4, .string ⟨#[]⟩, .int .i64 0, .int .i64 t] := (hd 4 55 l4 rfl (by rw [hsz]; decide)).trans (hC.g 4 _ rfl l4)
      have m4 : E.tmps[55]?.getD undef = .agg #[.int .i64 4, .string ⟨#[]⟩, .int .i64 0, .int .i64 t] := by simpa [Act.eval] using x4
      refine wp_val (v := .slice (some ⟨w'.heap.size, 0, none⟩) 1 1) (w' := w'.alloc (.cells #[.int .i64 4, .string ⟨#[]⟩, .int .i64 0, .int .i64 t] 90)) ?_ ⟨_, rfl, hC.mk1 hDis rfl⟩
      simp only [execOp, x4]
      go_simp
    case o6 =>
      intro E env L w' hcl hL hp hd ho2 hC
      have l1 : L 1 = true := hp ⟨1, .data⟩ (by simp) rfl
      have x1 : E.eval (.tmp 52) = .slice r1 n1 c1 := (hd 1 52 l1 rfl (by rw [hsz]; decide)).trans (hC.g 1 _ rfl l1)
      have l5 : L 5 = true := hp ⟨5, .data⟩ (by simp) rfl
      obtain ⟨y, ey, hy⟩ := hC.b1 l5 hL
      have xy : E.eval (.tmp 56) = .slice (some ⟨y, 0, none⟩) 1 1 := (hd 5 56 l5 rfl (by rw [hsz]; decide)).trans ey
      have hL13 : L 13 = false := by
        cases h0 : L 13 with
        | false => rfl
        | true =>
          have h1 := hcl 13 _ rfl h0 ⟨6, .data⟩ (by first | exact Array.mem_of_getElem? (i := 0) rfl | exact Array.mem_of_getElem? (i := 1) rfl | exact Array.mem_of_getElem? (i := 2) rfl | exact Array.mem_of_getElem? (i := 3) rfl | exact Array.mem_of_getElem? (i := 4) rfl | exact Array.mem_of_getElem? (i := 5) rfl | exact Array.mem_of_getElem? (i := 6) rfl | exact Array.mem_of_getElem? (i := 7) rfl | exact Array.mem_of_getElem? (i := 8) rfl | exact Array.mem_of_getElem? (i := 9) rfl | exact Array.mem_of_getElem? (i := 10) rfl | exact Array.mem_of_getElem? (i := 11) rfl | exact Array.mem_of_getElem? (i := 12) rfl | exact Array.mem_of_getElem? (i := 13) rfl | exact Array.mem_of_getElem? (i := 14) rfl | exact Array.mem_of_getElem? (i := 15) rfl | exact Array.mem_of_getElem? (i := 16) rfl | exact Array.mem_of_getElem? (i := 17) rfl | exact Array.mem_of_getElem? (i := 18) rfl | exact Array.mem_of_getElem? (i := 19) rfl | exact Array.mem_of_getElem? (i := 20) rfl | exact Array.mem_of_getElem? (i := 21) rfl | exact Array.mem_of_getElem? (i := 22) rfl | exact Array.mem_of_getElem? (i := 23) rfl) rfl
          exact absurd (h1.symm.trans hL) (by simp)
      refine wp_append_rm w' (.tmp 52) (.tmp 56) 54 54 rfl 90 (.agg #[.int .i64 0, .string ByteArray.empty, .int .i64 0, .int .i64 0]) 4 40 Tryd.underlying54 infoIn rfl F r1 n1 c1 L1 x1 (hC.p1 hL) _ xy 1 (by omega) [.int .i64 4, .string ⟨#[]⟩, .int .i64 0, .int .i64 t] (Src.ofSlice _ Tryd.underlying54 ⟨y, 0, none⟩ 1 1 [.int .i64 4, .string ⟨#[]⟩, .int .i64 0, .int .i64 t] rfl (fun j u hj => by rw [Addr.add_lit, Nat.zero_add]; exact hy.cell hj) (in_one _ _ _ _)) (by omega) (by omega) (fun g' c' w2 h1 h2 h3 => ⟨_, rfl, hC.app1 hDis rfl hL13 hL h1 h3⟩)
    case o7 =>
      intro E env L w' hcl hL hp hd ho2 hC
      have xb : E.eval (.tmp 6) = .pointer (some ⟨F, 0, none⟩) := (ho2 6 (by kernel_rfl)).trans hb6
      refine wp_val (v := .pointer (some ⟨F, 4, none⟩)) (w' := w') ?_ ⟨_, rfl, hC.pure hDis 7 (by decide) _ rfl⟩
      simp only [execOp, xb]
      go_simp
    case o8 =>
      intro E env L w' hcl hL hp hd ho2 hC
      have l7 : L 7 = true := hp ⟨7, .data⟩ (by simp) rfl
      have x7 : E.eval (.tmp 58) = .pointer (some ⟨F, 4, none⟩) := (hd 7 58 l7 rfl (by rw [hsz]; decide)).trans (hC.g 7 _ rfl l7)
      have hL15 : L 15 = false := by
        cases h0 : L 15 with
        | false => rfl
        | true =>
          have h1 := hcl 15 _ rfl h0 ⟨8, .phase⟩ (by first | exact Array.mem_of_getElem? (i := 0) rfl | exact Array.mem_of_getElem? (i := 1) rfl | exact Array.mem_of_getElem? (i := 2) rfl | exact Array.mem_of_getElem? (i := 3) rfl | exact Array.mem_of_getElem? (i := 4) rfl | exact Array.mem_of_getElem? (i := 5) rfl | exact Array.mem_of_getElem? (i := 6) rfl | exact Array.mem_of_getElem? (i := 7) rfl | exact Array.mem_of_getElem? (i := 8) rfl | exact Array.mem_of_getElem? (i := 9) rfl | exact Array.mem_of_getElem? (i := 10) rfl | exact Array.mem_of_getElem? (i := 11) rfl | exact Array.mem_of_getElem? (i := 12) rfl | exact Array.mem_of_getElem? (i := 13) rfl | exact Array.mem_of_getElem? (i := 14) rfl | exact Array.mem_of_getElem? (i := 15) rfl | exact Array.mem_of_getElem? (i := 16) rfl | exact Array.mem_of_getElem? (i := 17) rfl | exact Array.mem_of_getElem? (i := 18) rfl | exact Array.mem_of_getElem? (i := 19) rfl | exact Array.mem_of_getElem? (i := 20) rfl | exact Array.mem_of_getElem? (i := 21) rfl | exact Array.mem_of_getElem? (i := 22) rfl | exact Array.mem_of_getElem? (i := 23) rfl) rfl
          exact absurd (h1.symm.trans hL) (by simp)
      have cF : w'.cell? ⟨F, 4, none⟩ = some (.slice r2 n1 c2) := by
        have h := hC.blk.cell (i := 4) rfl
        rw [hL15] at h
        exact h
      refine wp_val (v := .slice r2 n1 c2) (w' := w') ?_ ⟨_, rfl, hC.pure hDis 8 (by decide) _ rfl⟩
      simp only [execOp, x7]
      go_simp
    case o9 =>
      intro E env L w' hcl hL hp hd ho2 hC
      refine wp_val (v := .agg #[.int .i64 0, .string ⟨#[]⟩, .int .i64 0, .int .i64 0, .int .i64 0, .int .i64 0, .int .i64 0, .int .i64 0, .bool false]) (w' := w') ?_ ⟨_, rfl, hC.pure hDis 9 (by decide) _ rfl⟩
      simp only [execOp]
      go_simp
    case o10 =>
      intro E env L w' hcl hL hp hd ho2 hC
      have l9 : L 9 = true := hp ⟨9, .data⟩ (by simp) rfl
      have x9 : E.eval (.tmp 60) = .agg #[.int .i64 0, .string ⟨#[]⟩, .int .i64 0, .int .i64 0, .int .i64 0, .int .i64 0, .int .i64 0, .int .i64 0, .bool false] := (hd 9 60 l9 rfl (by rw [hsz]; decide)).trans (hC.g 9 _ rfl l9)
      have m9 : E.tmps[60]?.getD undef = .agg #[.int .i64 0, .string ⟨#[]⟩, .int .i64 0, .int .i64 0, .int .i64 0, .int .i64 0, .int .i64 0, .int .i64 0, .bool false] := by simpa [Act.eval] using x9
      refine wp_val (v := .slice (some ⟨w'.heap.size, 0, none⟩) 1 1) (w' := w'.alloc (.cells #[.int .i64 0, .string ⟨#[]⟩, .int .i64 0, .int .i64 0, .int .i64 0, .int .i64 0, .int .i64 0, .int .i64 0, .bool false] 92)) ?_ ⟨_, rfl, hC.mk2 hDis rfl⟩
      simp only [execOp, x9]
      go_simp
    case o11 =>
      intro E env L w' hcl hL hp hd ho2 hC
      have l8 : L 8 = true := hp ⟨8, .data⟩ (by simp) rfl
      have x8 : E.eval (.tmp 59) = .slice r2 n1 c2 := (hd 8 59 l8 rfl (by rw [hsz]; decide)).trans (hC.g 8 _ rfl l8)
      have l10 : L 10 = true := hp ⟨10, .data⟩ (by simp) rfl
      obtain ⟨y, ey, hy⟩ := hC.b2 l10 hL
      have xy : E.eval (.tmp 61) = .slice (some ⟨y, 0, none⟩) 1 1 := (hd 10 61 l10 rfl (by rw [hsz]; decide)).trans ey
      have hL15 : L 15 = false := by
        cases h0 : L 15 with
        | false => rfl
        | true =>
          have h1 := hcl 15 _ rfl h0 ⟨11, .data⟩ (by first | exact Array.mem_of_getElem? (i := 0) rfl | exact Array.mem_of_getElem? (i := 1) rfl | exact Array.mem_of_getElem? (i := 2) rfl | exact Array.mem_of_getElem? (i := 3) rfl | exact Array.mem_of_getElem? (i := 4) rfl | exact Array.mem_of_getElem? (i := 5) rfl | exact Array.mem_of_getElem? (i := 6) rfl | exact Array.mem_of_getElem? (i := 7) rfl | exact Array.mem_of_getElem? (i := 8) rfl | exact Array.mem_of_getElem? (i := 9) rfl | exact Array.mem_of_getElem? (i := 10) rfl | exact Array.mem_of_getElem? (i := 11) rfl | exact Array.mem_of_getElem? (i := 12) rfl | exact Array.mem_of_getElem? (i := 13) rfl | exact Array.mem_of_getElem? (i := 14) rfl | exact Array.mem_of_getElem? (i := 15) rfl | exact Array.mem_of_getElem? (i := 16) rfl | exact Array.mem_of_getElem? (i := 17) rfl | exact Array.mem_of_getElem? (i := 18) rfl | exact Array.mem_of_getElem? (i := 19) rfl | exact Array.mem_of_getElem? (i := 20) rfl | exact Array.mem_of_getElem? (i := 21) rfl | exact Array.mem_of_getElem? (i := 22) rfl | exact Array.mem_of_getElem? (i := 23) rfl) rfl
          exact absurd (h1.symm.trans hL) (by simp)
      refine wp_append_rm w' (.tmp 59) (.tmp 61) 55 55 rfl 92 (.agg #[.int .i64 0, .string ByteArray.empty, .int .i64 0, .int .i64 0, .int .i64 0, .int .i64 0, .int .i64 0, .int .i64 0, .bool false]) 9 80 Tryd.underlying55 infoOut rfl F r2 n1 c2 L2 x8 (hC.p2 hL) _ xy 1 (by omega) [.int .i64 0, .string ⟨#[]⟩, .int .i64 0, .int .i64 0, .int .i64 0, .int .i64 0, .int .i64 0, .int .i64 0, .bool false] (Src.ofSlice _ Tryd.underlying55 ⟨y, 0, none⟩ 1 1 [.int .i64 0, .string ⟨#[]⟩, .int .i64 0, .int .i64 0, .int .i64 0, .int .i64 0, .int .i64 0, .int .i64 0, .bool false] rfl (fun j u hj => by rw [Addr.add_lit, Nat.zero_add]; exact hy.cell hj) (out_one _ _ _ _ _ _ _ _ _)) (by omega) (by omega) (fun g' c' w2 h1 h2 h3 => ⟨_, rfl, hC.app2 hDis rfl hL15 hL h1 h3⟩)
    case o12 =>
      intro E env L w' hcl hL hp hd ho2 hC
      have xb : E.eval (.tmp 6) = .pointer (some ⟨F, 0, none⟩) := (ho2 6 (by kernel_rfl)).trans hb6
      refine wp_val (v := .pointer (some ⟨F, 3, none⟩)) (w' := w') ?_ ⟨_, rfl, hC.pure hDis 12 (by decide) _ rfl⟩
      simp only [execOp, xb]
      go_simp
    case o13 =>
      intro E env L w' hcl hL hp hd ho2 hC
      have l12 : L 12 = true := hp ⟨12, .data⟩ (by simp) rfl
      have x12 : E.eval (.tmp 63) = .pointer (some ⟨F, 3, none⟩) := (hd 12 63 l12 rfl (by rw [hsz]; decide)).trans (hC.g 12 _ rfl l12)
      have l6 : L 6 = true := hp ⟨6, .data⟩ (by simp) rfl
      obtain ⟨g, c, eg, _⟩ := hC.q1 l6
      have xg : E.eval (.tmp 57) = .slice (some ⟨g, 0, none⟩) (n1 + 1) c := (hd 6 57 l6 rfl (by rw [hsz]; decide)).trans eg
      have cF := hC.blk.cell (i := 3) rfl
      have fF := hC.blk.free 3
      rw [hL] at cF
      have hN := hC.st1 hDis rfl
      rw [eg] at hN
      refine wp_skp (w' := w'.setCell ⟨F, 3, none⟩ (.slice (some ⟨g, 0, none⟩) (n1 + 1) c)) ?_ ⟨_, rfl, hN⟩
      simp only [execOp, x12, xg]
      go_simp
    case o14 =>
      intro E env L w' hcl hL hp hd ho2 hC
      have xb : E.eval (.tmp 6) = .pointer (some ⟨F, 0, none⟩) := (ho2 6 (by kernel_rfl)).trans hb6
      refine wp_val (v := .pointer (some ⟨F, 4, none⟩)) (w' := w') ?_ ⟨_, rfl, hC.pure hDis 14 (by decide) _ rfl⟩
      simp only [execOp, xb]
      go_simp
    case o15 =>
      intro E env L w' hcl hL hp hd ho2 hC
      have l14 : L 14 = true := hp ⟨14, .data⟩ (by simp) rfl
      have x14 : E.eval (.tmp 64) = .pointer (some ⟨F, 4, none⟩) := (hd 14 64 l14 rfl (by rw [hsz]; decide)).trans (hC.g 14 _ rfl l14)
      have l11 : L 11 = true := hp ⟨11, .data⟩ (by simp) rfl
      obtain ⟨g, c, eg, _⟩ := hC.q2 l11
      have xg : E.eval (.tmp 62) = .slice (some ⟨g, 0, none⟩) (n1 + 1) c := (hd 11 62 l11 rfl (by rw [hsz]; decide)).trans eg
      have cF := hC.blk.cell (i := 4) rfl
      have fF := hC.blk.free 4
      rw [hL] at cF
      have hN := hC.st2 hDis rfl
      rw [eg] at hN
      refine wp_skp (w' := w'.setCell ⟨F, 4, none⟩ (.slice (some ⟨g, 0, none⟩) (n1 + 1) c)) ?_ ⟨_, rfl, hN⟩
      simp only [execOp, x14, xg]
      go_simp
  case hend =>
    intro env w' hC
    obtain ⟨g1, k1, e1, h1⟩ := hC.q1 rfl
    obtain ⟨g2, k2, e2, h2⟩ := hC.q2 rfl
    have hb : Blk w' F [.int .i64 a1, .int .i64 sc, .int .i64 fr, env 6, env 11, .slice r3 n3 c3, .string rd, .string tk, .bool eo, .int .i64 0] 58 := hC.blk
    rw [e1, e2] at hb
    have HN : Hid (RO V w' F F a1 sc fr rd tk eo 0 (some ⟨g1, 0, none⟩) (n1 + 1) k1 (L1 ++ [.int .i64 4, .string ⟨#[]⟩, .int .i64 0, .int .i64 t]) (some ⟨g2, 0, none⟩) (n1 + 1) k2 (L2 ++ [.int .i64 0, .string ⟨#[]⟩, .int .i64 0, .int .i64 0, .int .i64 0, .int .i64 0, .int .i64 0, .int .i64 0, .bool false]) r3 n3 c3 L3 ∧ Blk w' X (Ev.c ⟨7, i, n, t, b, e, s0, s1, s2, s3, s4, s5⟩) 46) := Lib.hid ⟨⟨hb, h1, h2, hC.m3, hC.be, hC.FB, hC.le⟩, hC.ev⟩
    clear hC hb h1 h2 e1 e2
    exact hQ env w' g1 k1 g2 k2 HN.out
set_option maxRecDepth 20000 in
set_option maxHeartbeats 16000000 in
theorem rf_reg4 (i n t : Int) (b : ByteArray) (e s0 s1 s2 s3 s4 s5 : Int) (bs : Int) (hbs0 : (b.size : Int) = bs) (V W1 : World) (F X : Nat) (a1 sc fr : Int) (rd tk : ByteArray) (eo : Bool) (st : Int) (r1 : Option Addr) (n1 c1 : Nat) (L1 : List Value) (r2 : Option Addr) (c2 : Nat) (L2 : List Value) (r3 : Option Addr) (n3 c3 : Nat) (L3 : List Value) (bn1 : n1 ≤ 100000) (HR : Hid (RO V W1 F F a1 sc fr rd tk eo st r1 n1 c1 L1 r2 n1 c2 L2 r3 n3 c3 L3 ∧ Blk W1 X (Ev.c ⟨4, i, n, t, b, e, s0, s1, s2, s3, s4, s5⟩) 46)) (Q : Exit → Act → World → Prop) (base : Act) (hsz : base.tmps.size = 169) (hb6 : base.eval (.tmp 6) = .pointer (some ⟨F, 0, none⟩)) (hb10 : base.eval (.tmp 10) = .pointer (some ⟨X, 0, none⟩))
    (hQ : ∀ env w' (g1 k1 g2 k2 : Nat), RO V w' F F a1 sc fr rd tk eo st (some ⟨g1, 0, none⟩) (n1 + 1) k1 (L1 ++ [.int .i64 1, .string b, .int .i64 0, .int .i64 0]) (some ⟨g2, 0, none⟩) (n1 + 1) k2 (L2 ++ [.int .i64 bs, .string ⟨#[]⟩, .int .i64 0, .int .i64 0, .int .i64 0, .int .i64 0, .int .i64 0, .int .i64 0, .bool false]) r3 n3 c3 L3 ∧ Blk w' X (Ev.c ⟨4, i, n, t, b, e, s0, s1, s2, s3, s4, s5⟩) 46 → Q .normal (putsD env 0 [some 72, some 73, some 74, some 75, some 76, some 77, some 78, some 79, some 80, some 81, some 82, some 83, some 84, some 85, some 86, some 87, none, some 88, none] base) w') : (Code.region 15 (opsOf 15).toArray true).wp Tryd.prog Q base W1 := by
  have HBS := Lib.hid hbs0
  clear hbs0
  have hops : opsOf 15 = opsOf 15 := rfl
  refine wp_region_env (fun env L w' => DD V F F X ⟨4, i, n, t, b, e, s0, s1, s2, s3, s4, s5⟩ a1 sc fr rd tk eo eo st r1 n1 c1 L1 r2 n1 c2 L2 r3 n3 c3 L3 [.int .i64 1, .string b, .int .i64 0, .int .i64 0] [.int .i64 bs, .string ⟨#[]⟩, .int .i64 0, .int .i64 0, .int .i64 0, .int .i64 0, .int .i64 0, .int .i64 0, .bool false] (fun q => ([some (.pointer (some ⟨F, 3, none⟩)), some (.slice r1 n1 c1), some (.pointer (some ⟨X, 4, none⟩)), some (.string b), some (.agg #[.int .i64 1, .string b, .int .i64 0, .int .i64 0]), none, none, some (.pointer (some ⟨F, 4, none⟩)), some (.slice r2 n1 c2), some (.pointer (some ⟨X, 4, none⟩)), some (.string b), some (.int .i64 bs), some (.agg #[.int .i64 bs, .string ⟨#[]⟩, .int .i64 0, .int .i64 0, .int .i64 0, .int .i64 0, .int .i64 0, .int .i64 0, .bool false]), none, none, some (.pointer (some ⟨F, 3, none⟩)), none, some (.pointer (some ⟨F, 4, none⟩)), none] : List (Option Value))[q]?.join) 5 6 13 14 16 18 1000 env L w') (fun _ => undef) (by kernel_rfl) (by kernel_rfl) (by kernel_rfl) (by kernel_rfl) ?h0 ?hstep ?hend
  case h0 => exact ⟨fun k v _ h => by (cases h), HR.out.2.drew, HR.out.1.blk.drew, fun h => by (cases h), fun h => by (cases h), fun _ => HR.out.1.m1.chg (l := []) (Chg.refl [] _).drew (by simp), fun h => by (cases h), fun _ => HR.out.1.m2.chg (l := []) (Chg.refl [] _).drew (by simp), fun h => by (cases h), HR.out.1.m3.chg (l := []) (Chg.refl [] _).drew (by simp), HR.out.1.be.drew, HR.out.1.FB, HR.out.1.le⟩
  case hstep =>
    have hDis : Dis 5 6 13 14 16 18 1000 := by unfold Dis; decide
    refine ⟨?o0, ?o1, ?o2, ?o3, ?o4, ?o5, ?o6, ?o7, ?o8, ?o9, ?o10, ?o11, ?o12, ?o13, ?o14, ?o15, ?o16, ?o17, ?o18, trivial⟩
    case o0 =>
      intro E env L w' hcl hL hp hd ho2 hC
      have xb : E.eval (.tmp 6) = .pointer (some ⟨F, 0, none⟩) := (ho2 6 (by kernel_rfl)).trans hb6
      refine wp_val (v := .pointer (some ⟨F, 3, none⟩)) (w' := w') ?_ ⟨_, rfl, hC.pure hDis 0 (by decide) _ rfl⟩
      simp only [execOp, xb]
      go_simp
    case o1 =>
      intro E env L w' hcl hL hp hd ho2 hC
      have l0 : L 0 = true := hp ⟨0, .data⟩ (by simp) rfl
      have x0 : E.eval (.tmp 72) = .pointer (some ⟨F, 3, none⟩) := (hd 0 72 l0 rfl (by rw [hsz]; decide)).trans (hC.g 0 _ rfl l0)
      have hL16 : L 16 = false := by
        cases h0 : L 16 with
        | false => rfl
        | true =>
          have h1 := hcl 16 _ rfl h0 ⟨1, .phase⟩ (by first | exact Array.mem_of_getElem? (i := 0) rfl | exact Array.mem_of_getElem? (i := 1) rfl | exact Array.mem_of_getElem? (i := 2) rfl | exact Array.mem_of_getElem? (i := 3) rfl | exact Array.mem_of_getElem? (i := 4) rfl | exact Array.mem_of_getElem? (i := 5) rfl | exact Array.mem_of_getElem? (i := 6) rfl | exact Array.mem_of_getElem? (i := 7) rfl | exact Array.mem_of_getElem? (i := 8) rfl | exact Array.mem_of_getElem? (i := 9) rfl | exact Array.mem_of_getElem? (i := 10) rfl | exact Array.mem_of_getElem? (i := 11) rfl | exact Array.mem_of_getElem? (i := 12) rfl | exact Array.mem_of_getElem? (i := 13) rfl | exact Array.mem_of_getElem? (i := 14) rfl | exact Array.mem_of_getElem? (i := 15) rfl | exact Array.mem_of_getElem? (i := 16) rfl | exact Array.mem_of_getElem? (i := 17) rfl | exact Array.mem_of_getElem? (i := 18) rfl | exact Array.mem_of_getElem? (i := 19) rfl | exact Array.mem_of_getElem? (i := 20) rfl | exact Array.mem_of_getElem? (i := 21) rfl | exact Array.mem_of_getElem? (i := 22) rfl | exact Array.mem_of_getElem? (i := 23) rfl) rfl
          exact absurd (h1.symm.trans hL) (by simp)
      have cF : w'.cell? ⟨F, 3, none⟩ = some (.slice r1 n1 c1) := by
        have h := hC.blk.cell (i := 3) rfl
        rw [hL16] at h
        exact h
      refine wp_val (v := .slice r1 n1 c1) (w' := w') ?_ ⟨_, rfl, hC.pure hDis 1 (by decide) _ rfl⟩
      simp only [execOp, x0]
      go_simp
    case o2 =>
      intro E env L w' hcl hL hp hd ho2 hC
      have xb : E.eval (.tmp 10) = .pointer (some ⟨X, 0, none⟩) := (ho2 10 (by kernel_rfl)).trans hb10
      refine wp_val (v := .pointer (some ⟨X, 4, none⟩)) (w' := w') ?_ ⟨_, rfl, hC.pure hDis 2 (by decide) _ rfl⟩
      simp only [execOp, xb]
      go_simp
    case o3 =>
      intro E env L w' hcl hL hp hd ho2 hC
      have l2 : L 2 = true := hp ⟨2, .data⟩ (by simp) rfl
      have x2 : E.eval (.tmp 74) = .pointer (some ⟨X, 4, none⟩) := (hd 2 74 l2 rfl (by rw [hsz]; decide)).trans (hC.g 2 _ rfl l2)
      have cX4 := hC.ev.cell (i := 4) rfl
      refine wp_val (v := .string b) (w' := w') ?_ ⟨_, rfl, hC.pure hDis 3 (by decide) _ rfl⟩
      simp only [execOp, x2]
      go_simp
    case o4 =>
      intro E env L w' hcl hL hp hd ho2 hC
      have l3 : L 3 = true := hp ⟨3, .data⟩ (by simp) rfl
      have x3 : E.eval (.tmp 75) = .string b := (hd 3 75 l3 rfl (by rw [hsz]; decide)).trans (hC.g 3 _ rfl l3)
      have m3 : E.tmps[75]?.getD undef = .string b := by simpa [Act.eval] using x3
      refine wp_val (v := .agg #[.int .i64 1, .string b, .int .i64 0, .int .i64 0]) (w' := w') ?_ ⟨_, rfl, hC.pure hDis 4 (by decide) _ rfl⟩
      simp only [execOp, x3]
      go_simp
    case o5 =>
      intro E env L w' hcl hL hp hd ho2 hC
      have l4 : L 4 = true := hp ⟨4, .data⟩ (by simp) rfl
      have x4 : E.eval (.tmp 76) = .agg #[.int .i64 1, .string b, .int .i64 0, .int .i64 0] := (hd 4 76 l4 rfl (by rw [hsz]; decide)).trans (hC.g 4 _ rfl l4)
      have m4 : E.tmps[76]?.getD undef = .agg #[.int .i64 1, .string b, .int .i64 0, .int .i64 0] := by simpa [Act.eval] using x4
      refine wp_val (v := .slice (some ⟨w'.heap.size, 0, none⟩) 1 1) (w' := w'.alloc (.cells #[.int .i64 1, .string b, .int .i64 0, .int .i64 0] 90)) ?_ ⟨_, rfl, hC.mk1 hDis rfl⟩
      simp only [execOp, x4]
      go_simp
    case o6 =>
      intro E env L w' hcl hL hp hd ho2 hC
      have l1 : L 1 = true := hp ⟨1, .data⟩ (by simp) rfl
      have x1 : E.eval (.tmp 73) = .slice r1 n1 c1 := (hd 1 73 l1 rfl (by rw [hsz]; decide)).trans (hC.g 1 _ rfl l1)
      have l5 : L 5 = true := hp ⟨5, .data⟩ (by simp) rfl
      obtain ⟨y, ey, hy⟩ := hC.b1 l5 hL
      have xy : E.eval (.tmp 77) = .slice (some ⟨y, 0, none⟩) 1 1 := (hd 5 77 l5 rfl (by rw [hsz]; decide)).trans ey
      have hL16 : L 16 = false := by
        cases h0 : L 16 with
        | false => rfl
        | true =>
          have h1 := hcl 16 _ rfl h0 ⟨6, .data⟩ (by first | exact Array.mem_of_getElem? (i := 0) rfl | exact Array.mem_of_getElem? (i := 1) rfl | exact Array.mem_of_getElem? (i := 2) rfl | exact Array.mem_of_getElem? (i := 3) rfl | exact Array.mem_of_getElem? (i := 4) rfl | exact Array.mem_of_getElem? (i := 5) rfl | exact Array.mem_of_getElem? (i := 6) rfl | exact Array.mem_of_getElem? (i := 7) rfl | exact Array.mem_of_getElem? (i := 8) rfl | exact Array.mem_of_getElem? (i := 9) rfl | exact Array.mem_of_getElem? (i := 10) rfl | exact Array.mem_of_getElem? (i := 11) rfl | exact Array.mem_of_getElem? (i := 12) rfl | exact Array.mem_of_getElem? (i := 13) rfl | exact Array.mem_of_getElem? (i := 14) rfl | exact Array.mem_of_getElem? (i := 15) rfl | exact Array.mem_of_getElem? (i := 16) rfl | exact Array.mem_of_getElem? (i := 17) rfl | exact Array.mem_of_getElem? (i := 18) rfl | exact Array.mem_of_getElem? (i := 19) rfl | exact Array.mem_of_getElem? (i := 20) rfl | exact Array.mem_of_getElem? (i := 21) rfl | exact Array.mem_of_getElem? (i := 22) rfl | exact Array.mem_of_getElem? (i := 23) rfl) rfl
          exact absurd (h1.symm.trans hL) (by simp)
      refine wp_append_rm w' (.tmp 73) (.tmp 77) 54 54 rfl 90 (.agg #[.int .i64 0, .string ByteArray.empty, .int .i64 0, .int .i64 0]) 4 40 Tryd.underlying54 infoIn rfl F r1 n1 c1 L1 x1 (hC.p1 hL) _ xy 1 (by omega) [.int .i64 1, .string b, .int .i64 0, .int .i64 0] (Src.ofSlice _ Tryd.underlying54 ⟨y, 0, none⟩ 1 1 [.int .i64 1, .string b, .int .i64 0, .int .i64 0] rfl (fun j u hj => by rw [Addr.add_lit, Nat.zero_add]; exact hy.cell hj) (in_one _ _ _ _)) (by omega) (by omega) (fun g' c' w2 h1 h2 h3 => ⟨_, rfl, hC.app1 hDis rfl hL16 hL h1 h3⟩)
    case o7 =>
      intro E env L w' hcl hL hp hd ho2 hC
      have xb : E.eval (.tmp 6) = .pointer (some ⟨F, 0, none⟩) := (ho2 6 (by kernel_rfl)).trans hb6
      refine wp_val (v := .pointer (some ⟨F, 4, none⟩)) (w' := w') ?_ ⟨_, rfl, hC.pure hDis 7 (by decide) _ rfl⟩
      simp only [execOp, xb]
      go_simp
    case o8 =>
      intro E env L w' hcl hL hp hd ho2 hC
      have l7 : L 7 = true := hp ⟨7, .data⟩ (by simp) rfl
      have x7 : E.eval (.tmp 79) = .pointer (some ⟨F, 4, none⟩) := (hd 7 79 l7 rfl (by rw [hsz]; decide)).trans (hC.g 7 _ rfl l7)
      have hL18 : L 18 = false := by
        cases h0 : L 18 with
        | false => rfl
        | true =>
          have h1 := hcl 18 _ rfl h0 ⟨8, .phase⟩ (by first | exact Array.mem_of_getElem? (i := 0) rfl | exact Array.mem_of_getElem? (i := 1) rfl | exact Array.mem_of_getElem? (i := 2) rfl | exact Array.mem_of_getElem? (i := 3) rfl | exact Array.mem_of_getElem? (i := 4) rfl | exact Array.mem_of_getElem? (i := 5) rfl | exact Array.mem_of_getElem? (i := 6) rfl | exact Array.mem_of_getElem? (i := 7) rfl | exact Array.mem_of_getElem? (i := 8) rfl | exact Array.mem_of_getElem? (i := 9) rfl | exact Array.mem_of_getElem? (i := 10) rfl | exact Array.mem_of_getElem? (i := 11) rfl | exact Array.mem_of_getElem? (i := 12) rfl | exact Array.mem_of_getElem? (i := 13) rfl | exact Array.mem_of_getElem? (i := 14) rfl | exact Array.mem_of_getElem? (i := 15) rfl | exact Array.mem_of_getElem? (i := 16) rfl | exact Array.mem_of_getElem? (i := 17) rfl | exact Array.mem_of_getElem? (i := 18) rfl | exact Array.mem_of_getElem? (i := 19) rfl | exact Array.mem_of_getElem? (i := 20) rfl | exact Array.mem_of_getElem? (i := 21) rfl | exact Array.mem_of_getElem? (i := 22) rfl | exact Array.mem_of_getElem? (i := 23) rfl) rfl
          exact absurd (h1.symm.trans hL) (by simp)
      have cF : w'.cell? ⟨F, 4, none⟩ = some (.slice r2 n1 c2) := by
        have h := hC.blk.cell (i := 4) rfl
        rw [hL18] at h
        exact h
      refine wp_val (v := .slice r2 n1 c2) (w' := w') ?_ ⟨_, rfl, hC.pure hDis 8 (by decide) _ rfl⟩
      simp only [execOp, x7]
      go_simp
    case o9 =>
      intro E env L w' hcl hL hp hd ho2 hC
      have xb : E.eval (.tmp 10) = .pointer (some ⟨X, 0, none⟩) := (ho2 10 (by kernel_rfl)).trans hb10
      refine wp_val (v := .pointer (some ⟨X, 4, none⟩)) (w' := w') ?_ ⟨_, rfl, hC.pure hDis 9 (by decide) _ rfl⟩
      simp only [execOp, xb]
      go_simp
    case o10 =>
      intro E env L w' hcl hL hp hd ho2 hC
      have l9 : L 9 = true := hp ⟨9, .data⟩ (by simp) rfl
      have x9 : E.eval (.tmp 81) = .pointer (some ⟨X, 4, none⟩) := (hd 9 81 l9 rfl (by rw [hsz]; decide)).trans (hC.g 9 _ rfl l9)
      have cX4 := hC.ev.cell (i := 4) rfl
      refine wp_val (v := .string b) (w' := w') ?_ ⟨_, rfl, hC.pure hDis 10 (by decide) _ rfl⟩
      simp only [execOp, x9]
      go_simp
    case o11 =>
      intro E env L w' hcl hL hp hd ho2 hC
      have l10 : L 10 = true := hp ⟨10, .data⟩ (by simp) rfl
      have x10 : E.eval (.tmp 82) = .string b := (hd 10 82 l10 rfl (by rw [hsz]; decide)).trans (hC.g 10 _ rfl l10)
      have m10 : E.tmps[82]?.getD undef = .string b := by simpa [Act.eval] using x10
      have hbs := HBS.out
      refine wp_val (v := .int .i64 bs) (w' := w') ?_ ⟨_, rfl, hC.pure hDis 11 (by decide) _ rfl⟩
      simp only [execOp, x10]
      go_simp
    case o12 =>
      intro E env L w' hcl hL hp hd ho2 hC
      have l11 : L 11 = true := hp ⟨11, .data⟩ (by simp) rfl
      have x11 : E.eval (.tmp 83) = .int .i64 bs := (hd 11 83 l11 rfl (by rw [hsz]; decide)).trans (hC.g 11 _ rfl l11)
      have m11 : E.tmps[83]?.getD undef = .int .i64 bs := by simpa [Act.eval] using x11
      refine wp_val (v := .agg #[.int .i64 bs, .string ⟨#[]⟩, .int .i64 0, .int .i64 0, .int .i64 0, .int .i64 0, .int .i64 0, .int .i64 0, .bool false]) (w' := w') ?_ ⟨_, rfl, hC.pure hDis 12 (by decide) _ rfl⟩
      simp only [execOp, x11]
      go_simp
    case o13 =>
      intro E env L w' hcl hL hp hd ho2 hC
      have l12 : L 12 = true := hp ⟨12, .data⟩ (by simp) rfl
      have x12 : E.eval (.tmp 84) = .agg #[.int .i64 bs, .string ⟨#[]⟩, .int .i64 0, .int .i64 0, .int .i64 0, .int .i64 0, .int .i64 0, .int .i64 0, .bool false] := (hd 12 84 l12 rfl (by rw [hsz]; decide)).trans (hC.g 12 _ rfl l12)
      have m12 : E.tmps[84]?.getD undef = .agg #[.int .i64 bs, .string ⟨#[]⟩, .int .i64 0, .int .i64 0, .int .i64 0, .int .i64 0, .int .i64 0, .int .i64 0, .bool false] := by simpa [Act.eval] using x12
      refine wp_val (v := .slice (some ⟨w'.heap.size, 0, none⟩) 1 1) (w' := w'.alloc (.cells #[.int .i64 bs, .string ⟨#[]⟩, .int .i64 0, .int .i64 0, .int .i64 0, .int .i64 0, .int .i64 0, .int .i64 0, .bool false] 92)) ?_ ⟨_, rfl, hC.mk2 hDis rfl⟩
      simp only [execOp, x12]
      go_simp
    case o14 =>
      intro E env L w' hcl hL hp hd ho2 hC
      have l8 : L 8 = true := hp ⟨8, .data⟩ (by simp) rfl
      have x8 : E.eval (.tmp 80) = .slice r2 n1 c2 := (hd 8 80 l8 rfl (by rw [hsz]; decide)).trans (hC.g 8 _ rfl l8)
      have l13 : L 13 = true := hp ⟨13, .data⟩ (by simp) rfl
      obtain ⟨y, ey, hy⟩ := hC.b2 l13 hL
      have xy : E.eval (.tmp 85) = .slice (some ⟨y, 0, none⟩) 1 1 := (hd 13 85 l13 rfl (by rw [hsz]; decide)).trans ey
      have hL18 : L 18 = false := by
        cases h0 : L 18 with
        | false => rfl
        | true =>
          have h1 := hcl 18 _ rfl h0 ⟨14, .data⟩ (by first | exact Array.mem_of_getElem? (i := 0) rfl | exact Array.mem_of_getElem? (i := 1) rfl | exact Array.mem_of_getElem? (i := 2) rfl | exact Array.mem_of_getElem? (i := 3) rfl | exact Array.mem_of_getElem? (i := 4) rfl | exact Array.mem_of_getElem? (i := 5) rfl | exact Array.mem_of_getElem? (i := 6) rfl | exact Array.mem_of_getElem? (i := 7) rfl | exact Array.mem_of_getElem? (i := 8) rfl | exact Array.mem_of_getElem? (i := 9) rfl | exact Array.mem_of_getElem? (i := 10) rfl | exact Array.mem_of_getElem? (i := 11) rfl | exact Array.mem_of_getElem? (i := 12) rfl | exact Array.mem_of_getElem? (i := 13) rfl | exact Array.mem_of_getElem? (i := 14) rfl | exact Array.mem_of_getElem? (i := 15) rfl | exact Array.mem_of_getElem? (i := 16) rfl | exact Array.mem_of_getElem? (i := 17) rfl | exact Array.mem_of_getElem? (i := 18) rfl | exact Array.mem_of_getElem? (i := 19) rfl | exact Array.mem_of_getElem? (i := 20) rfl | exact Array.mem_of_getElem? (i := 21) rfl | exact Array.mem_of_getElem? (i := 22) rfl | exact Array.mem_of_getElem? (i := 23) rfl) rfl
          exact absurd (h1.symm.trans hL) (by simp)
      refine wp_append_rm w' (.tmp 80) (.tmp 85) 55 55 rfl 92 (.agg #[.int .i64 0, .string ByteArray.empty, .int .i64 0, .int .i64 0, .int .i64 0, .int .i64 0, .int .i64 0, .int .i64 0, .bool false]) 9 80 Tryd.underlying55 infoOut rfl F r2 n1 c2 L2 x8 (hC.p2 hL) _ xy 1 (by omega) [.int .i64 bs, .string ⟨#[]⟩, .int .i64 0, .int .i64 0, .int .i64 0, .int .i64 0, .int .i64 0, .int .i64 0, .bool false] (Src.ofSlice _ Tryd.underlying55 ⟨y, 0, none⟩ 1 1 [.int .i64 bs, .string ⟨#[]⟩, .int .i64 0, .int .i64 0, .int .i64 0, .int .i64 0, .int .i64 0, .int .i64 0, .bool false] rfl (fun j u hj => by rw [Addr.add_lit, Nat.zero_add]; exact hy.cell hj) (out_one _ _ _ _ _ _ _ _ _)) (by omega) (by omega) (fun g' c' w2 h1 h2 h3 => ⟨_, rfl, hC.app2 hDis rfl hL18 hL h1 h3⟩)
    case o15 =>
      intro E env L w' hcl hL hp hd ho2 hC
      have xb : E.eval (.tmp 6) = .pointer (some ⟨F, 0, none⟩) := (ho2 6 (by kernel_rfl)).trans hb6
      refine wp_val (v := .pointer (some ⟨F, 3, none⟩)) (w' := w') ?_ ⟨_, rfl, hC.pure hDis 15 (by decide) _ rfl⟩
      simp only [execOp, xb]
      go_simp
    case o16 =>
      intro E env L w' hcl hL hp hd ho2 hC
      have l15 : L 15 = true := hp ⟨15, .data⟩ (by simp) rfl
      have x15 : E.eval (.tmp 87) = .pointer (some ⟨F, 3, none⟩) := (hd 15 87 l15 rfl (by rw [hsz]; decide)).trans (hC.g 15 _ rfl l15)
      have l6 : L 6 = true := hp ⟨6, .data⟩ (by simp) rfl
      obtain ⟨g, c, eg, _⟩ := hC.q1 l6
      have xg : E.eval (.tmp 78) = .slice (some ⟨g, 0, none⟩) (n1 + 1) c := (hd 6 78 l6 rfl (by rw [hsz]; decide)).trans eg
      have cF := hC.blk.cell (i := 3) rfl
      have fF := hC.blk.free 3
      rw [hL] at cF
      have hN := hC.st1 hDis rfl
      rw [eg] at hN
      refine wp_skp (w' := w'.setCell ⟨F, 3, none⟩ (.slice (some ⟨g, 0, none⟩) (n1 + 1) c)) ?_ ⟨_, rfl, hN⟩
      simp only [execOp, x15, xg]
      go_simp
    case o17 =>
      intro E env L w' hcl hL hp hd ho2 hC
      have xb : E.eval (.tmp 6) = .pointer (some ⟨F, 0, none⟩) := (ho2 6 (by kernel_rfl)).trans hb6
      refine wp_val (v := .pointer (some ⟨F, 4, none⟩)) (w' := w') ?_ ⟨_, rfl, hC.pure hDis 17 (by decide) _ rfl⟩
      simp only [execOp, xb]
      go_simp
    case o18 =>
      intro E env L w' hcl hL hp hd ho2 hC
      have l17 : L 17 = true := hp ⟨17, .data⟩ (by simp) rfl
      have x17 : E.eval (.tmp 88) = .pointer (some ⟨F, 4, none⟩) := (hd 17 88 l17 rfl (by rw [hsz]; decide)).trans (hC.g 17 _ rfl l17)
      have l14 : L 14 = true := hp ⟨14, .data⟩ (by simp) rfl
      obtain ⟨g, c, eg, _⟩ := hC.q2 l14
      have xg : E.eval (.tmp 86) = .slice (some ⟨g, 0, none⟩) (n1 + 1) c := (hd 14 86 l14 rfl (by rw [hsz]; decide)).trans eg
      have cF := hC.blk.cell (i := 4) rfl
      have fF := hC.blk.free 4
      rw [hL] at cF
      have hN := hC.st2 hDis rfl
      rw [eg] at hN
      refine wp_skp (w' := w'.setCell ⟨F, 4, none⟩ (.slice (some ⟨g, 0, none⟩) (n1 + 1) c)) ?_ ⟨_, rfl, hN⟩
      simp only [execOp, x17, xg]
      go_simp
  case hend =>
    intro env w' hC
    obtain ⟨g1, k1, e1, h1⟩ := hC.q1 rfl
    obtain ⟨g2, k2, e2, h2⟩ := hC.q2 rfl
    have hb : Blk w' F [.int .i64 a1, .int .i64 sc, .int .i64 fr, env 6, env 14, .slice r3 n3 c3, .string rd, .string tk, .bool eo, .int .i64 st] 58 := hC.blk
    rw [e1, e2] at hb
    have HN : Hid (RO V w' F F a1 sc fr rd tk eo st (some ⟨g1, 0, none⟩) (n1 + 1) k1 (L1 ++ [.int .i64 1, .string b, .int .i64 0, .int .i64 0]) (some ⟨g2, 0, none⟩) (n1 + 1) k2 (L2 ++ [.int .i64 bs, .string ⟨#[]⟩, .int .i64 0, .int .i64 0, .int .i64 0, .int .i64 0, .int .i64 0, .int .i64 0, .bool false]) r3 n3 c3 L3 ∧ Blk w' X (Ev.c ⟨4, i, n, t, b, e, s0, s1, s2, s3, s4, s5⟩) 46) := Lib.hid ⟨⟨hb, h1, h2, hC.m3, hC.be, hC.FB, hC.le⟩, hC.ev⟩
    clear hC hb h1 h2 e1 e2
    exact hQ env w' g1 k1 g2 k2 HN.out
set_option maxRecDepth 20000 in
set_option maxHeartbeats 16000000 in
theorem rf_reg5 (i n t : Int) (b : ByteArray) (e s0 s1 s2 s3 s4 s5 : Int) (V W1 : World) (F X : Nat) (a1 sc fr : Int) (rd tk : ByteArray) (eo : Bool) (st : Int) (r1 : Option Addr) (n1 c1 : Nat) (L1 : List Value) (r2 : Option Addr) (c2 : Nat) (L2 : List Value) (r3 : Option Addr) (n3 c3 : Nat) (L3 : List Value) (bn1 : n1 ≤ 100000) (HR : Hid (RO V W1 F F a1 sc fr rd tk eo st r1 n1 c1 L1 r2 n1 c2 L2 r3 n3 c3 L3 ∧ Blk W1 X (Ev.c ⟨5, i, n, t, b, e, s0, s1, s2, s3, s4, s5⟩) 46)) (Q : Exit → Act → World → Prop) (base : Act) (hsz : base.tmps.size = 169) (hb6 : base.eval (.tmp 6) = .pointer (some ⟨F, 0, none⟩)) (hb10 : base.eval (.tmp 10) = .pointer (some ⟨X, 0, none⟩))
    (hQ : ∀ env w' (g1 k1 g2 k2 : Nat), RO V w' F F a1 sc fr rd tk true st (some ⟨g1, 0, none⟩) (n1 + 1) k1 (L1 ++ [.int .i64 2, .string ⟨#[]⟩, .int .i64 0, .int .i64 0]) (some ⟨g2, 0, none⟩) (n1 + 1) k2 (L2 ++ [.int .i64 0, .string ⟨#[]⟩, .int .i64 0, .int .i64 0, .int .i64 0, .int .i64 0, .int .i64 0, .int .i64 0, .bool true]) r3 n3 c3 L3 ∧ Blk w' X (Ev.c ⟨5, i, n, t, b, e, s0, s1, s2, s3, s4, s5⟩) 46 → Q .normal (putsD env 0 [some 98, some 99, some 100, some 101, some 102, some 103, some 104, some 105, some 106, some 107, some 108, none, some 109, none, some 110, none] base) w') : (Code.region 18 (opsOf 18).toArray true).wp Tryd.prog Q base W1 := by
  have hops : opsOf 18 = opsOf 18 := rfl
  refine wp_region_env (fun env L w' => DD V F F X ⟨5, i, n, t, b, e, s0, s1, s2, s3, s4, s5⟩ a1 sc fr rd tk eo true st r1 n1 c1 L1 r2 n1 c2 L2 r3 n3 c3 L3 [.int .i64 2, .string ⟨#[]⟩, .int .i64 0, .int .i64 0] [.int .i64 0, .string ⟨#[]⟩, .int .i64 0, .int .i64 0, .int .i64 0, .int .i64 0, .int .i64 0, .int .i64 0, .bool true] (fun q => ([some (.pointer (some ⟨F, 3, none⟩)), some (.slice r1 n1 c1), some (.agg #[.int .i64 2, .string ⟨#[]⟩, .int .i64 0, .int .i64 0]), none, none, some (.pointer (some ⟨F, 4, none⟩)), some (.slice r2 n1 c2), some (.agg #[.int .i64 0, .string ⟨#[]⟩, .int .i64 0, .int .i64 0, .int .i64 0, .int .i64 0, .int .i64 0, .int .i64 0, .bool true]), none, none, some (.pointer (some ⟨F, 3, none⟩)), none, some (.pointer (some ⟨F, 4, none⟩)), none, some (.pointer (some ⟨F, 8, none⟩)), none] : List (Option Value))[q]?.join) 3 4 8 9 11 13 15 env L w') (fun _ => undef) (by kernel_rfl) (by kernel_rfl) (by kernel_rfl) (by kernel_rfl) ?h0 ?hstep ?hend
  case h0 => exact ⟨fun k v _ h => by (cases h), HR.out.2.drew, HR.out.1.blk.drew, fun h => by (cases h), fun h => by (cases h), fun _ => HR.out.1.m1.chg (l := []) (Chg.refl [] _).drew (by simp), fun h => by (cases h), fun _ => HR.out.1.m2.chg (l := []) (Chg.refl [] _).drew (by simp), fun h => by (cases h), HR.out.1.m3.chg (l := []) (Chg.refl [] _).drew (by simp), HR.out.1.be.drew, HR.out.1.FB, HR.out.1.le⟩
  case hstep =>
    have hDis : Dis 3 4 8 9 11 13 15 := by unfold Dis; decide
    refine ⟨?o0, ?o1, ?o2, ?o3, ?o4, ?o5, ?o6, ?o7, ?o8, ?o9, ?o10, ?o11, ?o12, ?o13, ?o14, ?o15, trivial⟩
    case o0 =>
      intro E env L w' hcl hL hp hd ho2 hC
      have xb : E.eval (.tmp 6) = .pointer (some ⟨F, 0, none⟩) := (ho2 6 (by kernel_rfl)).trans hb6
      refine wp_val (v := .pointer (some ⟨F, 3, none⟩)) (w' := w') ?_ ⟨_, rfl, hC.pure hDis 0 (by decide) _ rfl⟩
      simp only [execOp, xb]
      go_simp
    case o1 =>
      intro E env L w' hcl hL hp hd ho2 hC
      have l0 : L 0 = true := hp ⟨0, .data⟩ (by simp) rfl
      have x0 : E.eval (.tmp 98) = .pointer (some ⟨F, 3, none⟩) := (hd 0 98 l0 rfl (by rw [hsz]; decide)).trans (hC.g 0 _ rfl l0)
      have hL11 : L 11 = false := by
        cases h0 : L 11 with
        | false => rfl
        | true =>
          have h1 := hcl 11 _ rfl h0 ⟨1, .phase⟩ (by first | exact Array.mem_of_getElem? (i := 0) rfl | exact Array.mem_of_getElem? (i := 1) rfl | exact Array.mem_of_getElem? (i := 2) rfl | exact Array.mem_of_getElem? (i := 3) rfl | exact Array.mem_of_getElem? (i := 4) rfl | exact Array.mem_of_getElem? (i := 5) rfl | exact Array.mem_of_getElem? (i := 6) rfl | exact Array.mem_of_getElem? (i := 7) rfl | exact Array.mem_of_getElem? (i := 8) rfl | exact Array.mem_of_getElem? (i := 9) rfl | exact Array.mem_of_getElem? (i := 10) rfl | exact Array.mem_of_getElem? (i := 11) rfl | exact Array.mem_of_getElem? (i := 12) rfl | exact Array.mem_of_getElem? (i := 13) rfl | exact Array.mem_of_getElem? (i := 14) rfl | exact Array.mem_of_getElem? (i := 15) rfl | exact Array.mem_of_getElem? (i := 16) rfl | exact Array.mem_of_getElem? (i := 17) rfl | exact Array.mem_of_getElem? (i := 18) rfl | exact Array.mem_of_getElem? (i := 19) rfl | exact Array.mem_of_getElem? (i := 20) rfl | exact Array.mem_of_getElem? (i := 21) rfl | exact Array.mem_of_getElem? (i := 22) rfl | exact Array.mem_of_getElem? (i := 23) rfl) rfl
          exact absurd (h1.symm.trans hL) (by simp)
      have cF : w'.cell? ⟨F, 3, none⟩ = some (.slice r1 n1 c1) := by
        have h := hC.blk.cell (i := 3) rfl
        rw [hL11] at h
        exact h
      refine wp_val (v := .slice r1 n1 c1) (w' := w') ?_ ⟨_, rfl, hC.pure hDis 1 (by decide) _ rfl⟩
      simp only [execOp, x0]
      go_simp
    case o2 =>
      intro E env L w' hcl hL hp hd ho2 hC
      refine wp_val (v := .agg #[.int .i64 2, .string ⟨#[]⟩, .int .i64 0, .int .i64 0]) (w' := w') ?_ ⟨_, rfl, hC.pure hDis 2 (by decide) _ rfl⟩
      simp only [execOp]
      go_simp
    case o3 =>
      intro E env L w' hcl hL hp hd ho2 hC
      have l2 : L 2 = true := hp ⟨2, .data⟩ (by simp) rfl
      have x2 : E.eval (.tmp 100) = .agg #[.int .i64 2, .string ⟨#[]⟩, .int .i64 0, .int .i64 0] := (hd 2 100 l2 rfl (by rw [hsz]; decide)).trans (hC.g 2 _ rfl l2)
      have m2 : E.tmps[100]?.getD undef = .agg #[.int .i64 2, .string ⟨#[]⟩, .int .i64 0, .int .i64 0] := by simpa [Act.eval] using x2
      refine wp_val (v := .slice (some ⟨w'.heap.size, 0, none⟩) 1 1) (w' := w'.alloc (.cells #[.int .i64 2, .string ⟨#[]⟩, .int .i64 0, .int .i64 0] 90)) ?_ ⟨_, rfl, hC.mk1 hDis rfl⟩
      simp only [execOp, x2]
      go_simp
    case o4 =>
      intro E env L w' hcl hL hp hd ho2 hC
      have l1 : L 1 = true := hp ⟨1, .data⟩ (by simp) rfl
      have x1 : E.eval (.tmp 99) = .slice r1 n1 c1 := (hd 1 99 l1 rfl (by rw [hsz]; decide)).trans (hC.g 1 _ rfl l1)
      have l3 : L 3 = true := hp ⟨3, .data⟩ (by simp) rfl
      obtain ⟨y, ey, hy⟩ := hC.b1 l3 hL
      have xy : E.eval (.tmp 101) = .slice (some ⟨y, 0, none⟩) 1 1 := (hd 3 101 l3 rfl (by rw [hsz]; decide)).trans ey
      have hL11 : L 11 = false := by
        cases h0 : L 11 with
        | false => rfl
        | true =>
          have h1 := hcl 11 _ rfl h0 ⟨4, .data⟩ (by first | exact Array.mem_of_getElem? (i := 0) rfl | exact Array.mem_of_getElem? (i := 1) rfl | exact Array.mem_of_getElem? (i := 2) rfl | exact Array.mem_of_getElem? (i := 3) rfl | exact Array.mem_of_getElem? (i := 4) rfl | exact Array.mem_of_getElem? (i := 5) rfl | exact Array.mem_of_getElem? (i := 6) rfl | exact Array.mem_of_getElem? (i := 7) rfl | exact Array.mem_of_getElem? (i := 8) rfl | exact Array.mem_of_getElem? (i := 9) rfl | exact Array.mem_of_getElem? (i := 10) rfl | exact Array.mem_of_getElem? (i := 11) rfl | exact Array.mem_of_getElem? (i := 12) rfl | exact Array.mem_of_getElem? (i := 13) rfl | exact Array.mem_of_getElem? (i := 14) rfl | exact Array.mem_of_getElem? (i := 15) rfl | exact Array.mem_of_getElem? (i := 16) rfl | exact Array.mem_of_getElem? (i := 17) rfl | exact Array.mem_of_getElem? (i := 18) rfl | exact Array.mem_of_getElem? (i := 19) rfl | exact Array.mem_of_getElem? (i := 20) rfl | exact Array.mem_of_getElem? (i := 21) rfl | exact Array.mem_of_getElem? (i := 22) rfl | exact Array.mem_of_getElem? (i := 23) rfl) rfl
          exact absurd (h1.symm.trans hL) (by simp)
      refine wp_append_rm w' (.tmp 99) (.tmp 101) 54 54 rfl 90 (.agg #[.int .i64 0, .string ByteArray.empty, .int .i64 0, .int .i64 0]) 4 40 Tryd.underlying54 infoIn rfl F r1 n1 c1 L1 x1 (hC.p1 hL) _ xy 1 (by omega) [.int .i64 2, .string ⟨#[]⟩, .int .i64 0, .int .i64 0] (Src.ofSlice _ Tryd.underlying54 ⟨y, 0, none⟩ 1 1 [.int .i64 2, .string ⟨#[]⟩, .int .i64 0, .int .i64 0] rfl (fun j u hj => by rw [Addr.add_lit, Nat.zero_add]; exact hy.cell hj) (in_one _ _ _ _)) (by omega) (by omega) (fun g' c' w2 h1 h2 h3 => ⟨_, rfl, hC.app1 hDis rfl hL11 hL h1 h3⟩)
    case o5 =>
      intro E env L w' hcl hL hp hd ho2 hC
      have xb : E.eval (.tmp 6) = .pointer (some ⟨F, 0, none⟩) := (ho2 6 (by kernel_rfl)).trans hb6
      refine wp_val (v := .pointer (some ⟨F, 4, none⟩)) (w' := w') ?_ ⟨_, rfl, hC.pure hDis 5 (by decide) _ rfl⟩
      simp only [execOp, xb]
      go_simp
    case o6 =>
      intro E env L w' hcl hL hp hd ho2 hC
      have l5 : L 5 = true := hp ⟨5, .data⟩ (by simp) rfl
      have x5 : E.eval (.tmp 103) = .pointer (some ⟨F, 4, none⟩) := (hd 5 103 l5 rfl (by rw [hsz]; decide)).trans (hC.g 5 _ rfl l5)
      have hL13 : L 13 = false := by
        cases h0 : L 13 with
        | false => rfl
        | true =>
          have h1 := hcl 13 _ rfl h0 ⟨6, .phase⟩ (by first | exact Array.mem_of_getElem? (i := 0) rfl | exact Array.mem_of_getElem? (i := 1) rfl | exact Array.mem_of_getElem? (i := 2) rfl | exact Array.mem_of_getElem? (i := 3) rfl | exact Array.mem_of_getElem? (i := 4) rfl | exact Array.mem_of_getElem? (i := 5) rfl | exact Array.mem_of_getElem? (i := 6) rfl | exact Array.mem_of_getElem? (i := 7) rfl | exact Array.mem_of_getElem? (i := 8) rfl | exact Array.mem_of_getElem? (i := 9) rfl | exact Array.mem_of_getElem? (i := 10) rfl | exact Array.mem_of_getElem? (i := 11) rfl | exact Array.mem_of_getElem? (i := 12) rfl | exact Array.mem_of_getElem? (i := 13) rfl | exact Array.mem_of_getElem? (i := 14) rfl | exact Array.mem_of_getElem? (i := 15) rfl | exact Array.mem_of_getElem? (i := 16) rfl | exact Array.mem_of_getElem? (i := 17) rfl | exact Array.mem_of_getElem? (i := 18) rfl | exact Array.mem_of_getElem? (i := 19) rfl | exact Array.mem_of_getElem? (i := 20) rfl | exact Array.mem_of_getElem? (i := 21) rfl | exact Array.mem_of_getElem? (i := 22) rfl | exact Array.mem_of_getElem? (i := 23) rfl) rfl
          exact absurd (h1.symm.trans hL) (by simp)
      have cF : w'.cell? ⟨F, 4, none⟩ = some (.slice r2 n1 c2) := by
        have h := hC.blk.cell (i := 4) rfl
        rw [hL13] at h
        exact h
      refine wp_val (v := .slice r2 n1 c2) (w' := w') ?_ ⟨_, rfl, hC.pure hDis 6 (by decide) _ rfl⟩
      simp only [execOp, x5]
      go_simp
    case o7 =>
      intro E env L w' hcl hL hp hd ho2 hC
      refine wp_val (v := .agg #[.int .i64 0, .string ⟨#[]⟩, .int .i64 0, .int .i64 0, .int .i64 0, .int .i64 0, .int .i64 0, .int .i64 0, .bool true]) (w' := w') ?_ ⟨_, rfl, hC.pure hDis 7 (by decide) _ rfl⟩
      simp only [execOp]
      go_simp
    case o8 =>
      intro E env L w' hcl hL hp hd ho2 hC
      have l7 : L 7 = true := hp ⟨7, .data⟩ (by simp) rfl
      have x7 : E.eval (.tmp 105) = .agg #[.int .i64 0, .string ⟨#[]⟩, .int .i64 0, .int .i64 0, .int .i64 0, .int .i64 0, .int .i64 0, .int .i64 0, .bool true] := (hd 7 105 l7 rfl (by rw [hsz]; decide)).trans (hC.g 7 _ rfl l7)
      have m7 : E.tmps[105]?.getD undef = .agg #[.int .i64 0, .string ⟨#[]⟩, .int .i64 0, .int .i64 0, .int .i64 0, .int .i64 0, .int .i64 0, .int .i64 0, .bool true] := by simpa [Act.eval] using x7
      refine wp_val (v := .slice (some ⟨w'.heap.size, 0, none⟩) 1 1) (w' := w'.alloc (.cells #[.int .i64 0, .string ⟨#[]⟩, .int .i64 0, .int .i64 0, .int .i64 0, .int .i64 0, .int .i64 0, .int .i64 0, .bool true] 92)) ?_ ⟨_, rfl, hC.mk2 hDis rfl⟩
      simp only [execOp, x7]
      go_simp
    case o9 =>
      intro E env L w' hcl hL hp hd ho2 hC
      have l6 : L 6 = true := hp ⟨6, .data⟩ (by simp) rfl
      have x6 : E.eval (.tmp 104) = .slice r2 n1 c2 := (hd 6 104 l6 rfl (by rw [hsz]; decide)).trans (hC.g 6 _ rfl l6)
      have l8 : L 8 = true := hp ⟨8, .data⟩ (by simp) rfl
      obtain ⟨y, ey, hy⟩ := hC.b2 l8 hL
      have xy : E.eval (.tmp 106) = .slice (some ⟨y, 0, none⟩) 1 1 := (hd 8 106 l8 rfl (by rw [hsz]; decide)).trans ey
      have hL13 : L 13 = false := by
        cases h0 : L 13 with
        | false => rfl
        | true =>
          have h1 := hcl 13 _ rfl h0 ⟨9, .data⟩ (by first | exact Array.mem_of_getElem? (i := 0) rfl | exact Array.mem_of_getElem? (i := 1) rfl | exact Array.mem_of_getElem? (i := 2) rfl | exact Array.mem_of_getElem? (i := 3) rfl | exact Array.mem_of_getElem? (i := 4) rfl | exact Array.mem_of_getElem? (i := 5) rfl | exact Array.mem_of_getElem? (i := 6) rfl | exact Array.mem_of_getElem? (i := 7) rfl | exact Array.mem_of_getElem? (i := 8) rfl | exact Array.mem_of_getElem? (i := 9) rfl | exact Array.mem_of_getElem? (i := 10) rfl | exact Array.mem_of_getElem? (i := 11) rfl | exact Array.mem_of_getElem? (i := 12) rfl | exact Array.mem_of_getElem? (i := 13) rfl | exact Array.mem_of_getElem? (i := 14) rfl | exact Array.mem_of_getElem? (i := 15) rfl | exact Array.mem_of_getElem? (i := 16) rfl | exact Array.mem_of_getElem? (i := 17) rfl | exact Array.mem_of_getElem? (i := 18) rfl | exact Array.mem_of_getElem? (i := 19) rfl | exact Array.mem_of_getElem? (i := 20) rfl | exact Array.mem_of_getElem? (i := 21) rfl | exact Array.mem_of_getElem? (i := 22) rfl | exact Array.mem_of_getElem? (i := 23) rfl) rfl
          exact absurd (h1.symm.trans hL) (by simp)
      refine wp_append_rm w' (.tmp 104) (.tmp 106) 55 55 rfl 92 (.agg #[.int .i64 0, .string ByteArray.empty, .int .i64 0, .int .i64 0, .int .i64 0, .int .i64 0, .int .i64 0, .int .i64 0, .bool false]) 9 80 Tryd.underlying55 infoOut rfl F r2 n1 c2 L2 x6 (hC.p2 hL) _ xy 1 (by omega) [.int .i64 0, .string ⟨#[]⟩, .int .i64 0, .int .i64 0, .int .i64 0, .int .i64 0, .int .i64 0, .int .i64 0, .bool true] (Src.ofSlice _ Tryd.underlying55 ⟨y, 0, none⟩ 1 1 [.int .i64 0, .string ⟨#[]⟩, .int .i64 0, .int .i64 0, .int .i64 0, .int .i64 0, .int .i64 0, .int .i64 0, .bool true] rfl (fun j u hj => by rw [Addr.add_lit, Nat.zero_add]; exact hy.cell hj) (out_one _ _ _ _ _ _ _ _ _)) (by omega) (by omega) (fun g' c' w2 h1 h2 h3 => ⟨_, rfl, hC.app2 hDis rfl hL13 hL h1 h3⟩)
    case o10 =>
      intro E env L w' hcl hL hp hd ho2 hC
      have xb : E.eval (.tmp 6) = .pointer (some ⟨F, 0, none⟩) := (ho2 6 (by kernel_rfl)).trans hb6
      refine wp_val (v := .pointer (some ⟨F, 3, none⟩)) (w' := w') ?_ ⟨_, rfl, hC.pure hDis 10 (by decide) _ rfl⟩
      simp only [execOp, xb]
      go_simp
    case o11 =>
      intro E env L w' hcl hL hp hd ho2 hC
      have l10 : L 10 = true := hp ⟨10, .data⟩ (by simp) rfl
      have x10 : E.eval (.tmp 108) = .pointer (some ⟨F, 3, none⟩) := (hd 10 108 l10 rfl (by rw [hsz]; decide)).trans (hC.g 10 _ rfl l10)
      have l4 : L 4 = true := hp ⟨4, .data⟩ (by simp) rfl
      obtain ⟨g, c, eg, _⟩ := hC.q1 l4
      have xg : E.eval (.tmp 102) = .slice (some ⟨g, 0, none⟩) (n1 + 1) c := (hd 4 102 l4 rfl (by rw [hsz]; decide)).trans eg
      have cF := hC.blk.cell (i := 3) rfl
      have fF := hC.blk.free 3
      rw [hL] at cF
      have hN := hC.st1 hDis rfl
      rw [eg] at hN
      refine wp_skp (w' := w'.setCell ⟨F, 3, none⟩ (.slice (some ⟨g, 0, none⟩) (n1 + 1) c)) ?_ ⟨_, rfl, hN⟩
      simp only [execOp, x10, xg]
      go_simp
    case o12 =>
      intro E env L w' hcl hL hp hd ho2 hC
      have xb : E.eval (.tmp 6) = .pointer (some ⟨F, 0, none⟩) := (ho2 6 (by kernel_rfl)).trans hb6
      refine wp_val (v := .pointer (some ⟨F, 4, none⟩)) (w' := w') ?_ ⟨_, rfl, hC.pure hDis 12 (by decide) _ rfl⟩
      simp only [execOp, xb]
      go_simp
    case o13 =>
      intro E env L w' hcl hL hp hd ho2 hC
      have l12 : L 12 = true := hp ⟨12, .data⟩ (by simp) rfl
      have x12 : E.eval (.tmp 109) = .pointer (some ⟨F, 4, none⟩) := (hd 12 109 l12 rfl (by rw [hsz]; decide)).trans (hC.g 12 _ rfl l12)
      have l9 : L 9 = true := hp ⟨9, .data⟩ (by simp) rfl
      obtain ⟨g, c, eg, _⟩ := hC.q2 l9
      have xg : E.eval (.tmp 107) = .slice (some ⟨g, 0, none⟩) (n1 + 1) c := (hd 9 107 l9 rfl (by rw [hsz]; decide)).trans eg
      have cF := hC.blk.cell (i := 4) rfl
      have fF := hC.blk.free 4
      rw [hL] at cF
      have hN := hC.st2 hDis rfl
      rw [eg] at hN
      refine wp_skp (w' := w'.setCell ⟨F, 4, none⟩ (.slice (some ⟨g, 0, none⟩) (n1 + 1) c)) ?_ ⟨_, rfl, hN⟩
      simp only [execOp, x12, xg]
      go_simp
    case o14 =>
      intro E env L w' hcl hL hp hd ho2 hC
      have xb : E.eval (.tmp 6) = .pointer (some ⟨F, 0, none⟩) := (ho2 6 (by kernel_rfl)).trans hb6
      refine wp_val (v := .pointer (some ⟨F, 8, none⟩)) (w' := w') ?_ ⟨_, rfl, hC.pure hDis 14 (by decide) _ rfl⟩
      simp only [execOp, xb]
      go_simp
    case o15 =>
      intro E env L w' hcl hL hp hd ho2 hC
      have l14 : L 14 = true := hp ⟨14, .data⟩ (by simp) rfl
      have x14 : E.eval (.tmp 110) = .pointer (some ⟨F, 8, none⟩) := (hd 14 110 l14 rfl (by rw [hsz]; decide)).trans (hC.g 14 _ rfl l14)
      have cF := hC.blk.cell (i := 8) rfl
      have fF := hC.blk.free 8
      rw [hL] at cF
      refine wp_skp (w' := w'.setCell ⟨F, 8, none⟩ (.bool true)) ?_ ⟨_, rfl, hC.st8 hDis rfl⟩
      simp only [execOp, x14]
      go_simp
  case hend =>
    intro env w' hC
    obtain ⟨g1, k1, e1, h1⟩ := hC.q1 rfl
    obtain ⟨g2, k2, e2, h2⟩ := hC.q2 rfl
    have hb : Blk w' F [.int .i64 a1, .int .i64 sc, .int .i64 fr, env 4, env 9, .slice r3 n3 c3, .string rd, .string tk, .bool true, .int .i64 st] 58 := hC.blk
    rw [e1, e2] at hb
    have HN : Hid (RO V w' F F a1 sc fr rd tk true st (some ⟨g1, 0, none⟩) (n1 + 1) k1 (L1 ++ [.int .i64 2, .string ⟨#[]⟩, .int .i64 0, .int .i64 0]) (some ⟨g2, 0, none⟩) (n1 + 1) k2 (L2 ++ [.int .i64 0, .string ⟨#[]⟩, .int .i64 0, .int .i64 0, .int .i64 0, .int .i64 0, .int .i64 0, .int .i64 0, .bool true]) r3 n3 c3 L3 ∧ Blk w' X (Ev.c ⟨5, i, n, t, b, e, s0, s1, s2, s3, s4, s5⟩) 46) := Lib.hid ⟨⟨hb, h1, h2, hC.m3, hC.be, hC.FB, hC.le⟩, hC.ev⟩
    clear hC hb h1 h2 e1 e2
    exact hQ env w' g1 k1 g2 k2 HN.out
set_option maxRecDepth 20000 in
set_option maxHeartbeats 16000000 in
theorem rf_reg6 (i n t : Int) (b : ByteArray) (e s0 s1 s2 s3 s4 s5 : Int) (V W1 : World) (F X : Nat) (a1 sc fr : Int) (rd tk : ByteArray) (eo : Bool) (st : Int) (r1 : Option Addr) (n1 c1 : Nat) (L1 : List Value) (r2 : Option Addr) (c2 : Nat) (L2 : List Value) (r3 : Option Addr) (n3 c3 : Nat) (L3 : List Value) (bn1 : n1 ≤ 100000) (HR : Hid (RO V W1 F F a1 sc fr rd tk eo st r1 n1 c1 L1 r2 n1 c2 L2 r3 n3 c3 L3 ∧ Blk W1 X (Ev.c ⟨6, i, n, t, b, e, s0, s1, s2, s3, s4, s5⟩) 46)) (Q : Exit → Act → World → Prop) (base : Act) (hsz : base.tmps.size = 169) (hb6 : base.eval (.tmp 6) = .pointer (some ⟨F, 0, none⟩)) (hb10 : base.eval (.tmp 10) = .pointer (some ⟨X, 0, none⟩))
    (hQ : ∀ env w' (g1 k1 g2 k2 : Nat), RO V w' F F a1 sc fr rd tk eo st (some ⟨g1, 0, none⟩) (n1 + 1) k1 (L1 ++ [.int .i64 3, .string ⟨#[]⟩, .int .i64 n, .int .i64 0]) (some ⟨g2, 0, none⟩) (n1 + 1) k2 (L2 ++ [.int .i64 0, .string b, .int .i64 0, .int .i64 0, .int .i64 0, .int .i64 0, .int .i64 0, .int .i64 0, .bool false]) r3 n3 c3 L3 ∧ Blk w' X (Ev.c ⟨6, i, n, t, b, e, s0, s1, s2, s3, s4, s5⟩) 46 → Q .normal (putsD env 0 [some 114, some 115, some 116, some 117, some 118, some 119, some 120, some 121, some 122, some 123, some 124, some 125, some 126, some 127, some 128, none, some 129, none] base) w') : (Code.region 20 (opsOf 20).toArray true).wp Tryd.prog Q base W1 := by
  have hops : opsOf 20 = opsOf 20 := rfl
  refine wp_region_env (fun env L w' => DD V F F X ⟨6, i, n, t, b, e, s0, s1, s2, s3, s4, s5⟩ a1 sc fr rd tk eo eo st r1 n1 c1 L1 r2 n1 c2 L2 r3 n3 c3 L3 [.int .i64 3, .string ⟨#[]⟩, .int .i64 n, .int .i64 0] [.int .i64 0, .string b, .int .i64 0, .int .i64 0, .int .i64 0, .int .i64 0, .int .i64 0, .int .i64 0, .bool false] (fun q => ([some (.pointer (some ⟨F, 3, none⟩)), some (.slice r1 n1 c1), some (.pointer (some ⟨X, 2, none⟩)), some (.int .i64 n), some (.agg #[.int .i64 3, .string ⟨#[]⟩, .int .i64 n, .int .i64 0]), none, none, some (.pointer (some ⟨F, 4, none⟩)), some (.slice r2 n1 c2), some (.pointer (some ⟨X, 4, none⟩)), some (.string b), some (.agg #[.int .i64 0, .string b, .int .i64 0, .int .i64 0, .int .i64 0, .int .i64 0, .int .i64 0, .int .i64 0, .bool false]), none, none, some (.pointer (some ⟨F, 3, none⟩)), none, some (.pointer (some ⟨F, 4, none⟩)), none] : List (Option Value))[q]?.join) 5 6 12 13 15 17 1000 env L w') (fun _ => undef) (by kernel_rfl) (by kernel_rfl) (by kernel_rfl) (by kernel_rfl) ?h0 ?hstep ?hend
  case h0 => exact ⟨fun k v _ h => by (cases h), HR.out.2.drew, HR.out.1.blk.drew, fun h => by (cases h), fun h => by (cases h), fun _ => HR.out.1.m1.chg (l := []) (Chg.refl [] _).drew (by simp), fun h => by (cases h), fun _ => HR.out.1.m2.chg (l := []) (Chg.refl [] _).drew (by simp), fun h => by (cases h), HR.out.1.m3.chg (l := []) (Chg.refl [] _).drew (by simp), HR.out.1.be.drew, HR.out.1.FB, HR.out.1.le⟩
  case hstep =>
    have hDis : Dis 5 6 12 13 15 17 1000 := by unfold Dis; decide
    refine ⟨?o0, ?o1, ?o2, ?o3, ?o4, ?o5, ?o6, ?o7, ?o8, ?o9, ?o10, ?o11, ?o12, ?o13, ?o14, ?o15, ?o16, ?o17, trivial⟩
    case o0 =>
      intro E env L w' hcl hL hp hd ho2 hC
      have xb : E.eval (.tmp 6) = .pointer (some ⟨F, 0, none⟩) := (ho2 6 (by kernel_rfl)).trans hb6
      refine wp_val (v := .pointer (some ⟨F, 3, none⟩)) (w' := w') ?_ ⟨_, rfl, hC.pure hDis 0 (by decide) _ rfl⟩
      simp only [execOp, xb]
      go_simp
    case o1 =>
      intro E env L w' hcl hL hp hd ho2 hC
      have l0 : L 0 = true := hp ⟨0, .data⟩ (by simp) rfl
      have x0 : E.eval (.tmp 114) = .pointer (some ⟨F, 3, none⟩) := (hd 0 114 l0 rfl (by rw [hsz]; decide)).trans (hC.g 0 _ rfl l0)
      have hL15 : L 15 = false := by
        cases h0 : L 15 with
        | false => rfl
        | true =>
          have h1 := hcl 15 _ rfl h0 ⟨1, .phase⟩ (by first | exact Array.mem_of_getElem? (i := 0) rfl | exact Array.mem_of_getElem? (i := 1) rfl | exact Array.mem_of_getElem? (i := 2) rfl | exact Array.mem_of_getElem? (i := 3) rfl | exact Array.mem_of_getElem? (i := 4) rfl | exact Array.mem_of_getElem? (i := 5) rfl | exact Array.mem_of_getElem? (i := 6) rfl | exact Array.mem_of_getElem? (i := 7) rfl | exact Array.mem_of_getElem? (i := 8) rfl | exact Array.mem_of_getElem? (i := 9) rfl | exact Array.mem_of_getElem? (i := 10) rfl | exact Array.mem_of_getElem? (i := 11) rfl | exact Array.mem_of_getElem? (i := 12) rfl | exact Array.mem_of_getElem? (i := 13) rfl | exact Array.mem_of_getElem? (i := 14) rfl | exact Array.mem_of_getElem? (i := 15) rfl | exact Array.mem_of_getElem? (i := 16) rfl | exact Array.mem_of_getElem? (i := 17) rfl | exact Array.mem_of_getElem? (i := 18) rfl | exact Array.mem_of_getElem? (i := 19) rfl | exact Array.mem_of_getElem? (i := 20) rfl | exact Array.mem_of_getElem? (i := 21) rfl | exact Array.mem_of_getElem? (i := 22) rfl | exact Array.mem_of_getElem? (i := 23) rfl) rfl
          exact absurd (h1.symm.trans hL) (by simp)
      have cF : w'.cell? ⟨F, 3, none⟩ = some (.slice r1 n1 c1) := by
        have h := hC.blk.cell (i := 3) rfl
        rw [hL15] at h
        exact h
      refine wp_val (v := .slice r1 n1 c1) (w' := w') ?_ ⟨_, rfl, hC.pure hDis 1 (by decide) _ rfl⟩
      simp only [execOp, x0]
      go_simp
    case o2 =>
      intro E env L w' hcl hL hp hd ho2 hC
      have xb : E.eval (.tmp 10) = .pointer (some ⟨X, 0, none⟩) := (ho2 10 (by kernel_rfl)).trans hb10
      refine wp_val (v := .pointer (some ⟨X, 2, none⟩)) (w' := w') ?_ ⟨_, rfl, hC.pure hDis 2 (by decide) _ rfl⟩
      simp only [execOp, xb]
      go_simp
    case o3 =>
      intro E env L w' hcl hL hp hd ho2 hC
      have l2 : L 2 = true := hp ⟨2, .data⟩ (by simp) rfl
      have x2 : E.eval (.tmp 116) = .pointer (some ⟨X, 2, none⟩) := (hd 2 116 l2 rfl (by rw [hsz]; decide)).trans (hC.g 2 _ rfl l2)
      have cX2 := hC.ev.cell (i := 2) rfl
      refine wp_val (v := .int .i64 n) (w' := w') ?_ ⟨_, rfl, hC.pure hDis 3 (by decide) _ rfl⟩
      simp only [execOp, x2]
      go_simp
    case o4 =>
      intro E env L w' hcl hL hp hd ho2 hC
      have l3 : L 3 = true := hp ⟨3, .data⟩ (by simp) rfl
      have x3 : E.eval (.tmp 117) = .int .i64 n := (hd 3 117 l3 rfl (by rw [hsz]; decide)).trans (hC.g 3 _ rfl l3)
      have m3 : E.tmps[117]?.getD undef = .int .i64 n := by simpa [Act.eval] using x3
      refine wp_val (v := .agg #[.int .i64 3, .string ⟨#[]⟩, .int .i64 n, .int .i64 0]) (w' := w') ?_ ⟨_, rfl, hC.pure hDis 4 (by decide) _ rfl⟩
      simp only [execOp, x3]
      go_simp
    case o5 =>
      intro E env L w' hcl hL hp hd ho2 hC
      have l4 : L 4 = true := hp ⟨4, .data⟩ (by simp) rfl
      have x4 : E.eval (.tmp 118) = .agg #[.int .i64 3, .string ⟨#[]⟩, .int .i64 n, .int .i64 0] := (hd 4 118 l4 rfl (by rw [hsz]; decide)).trans (hC.g 4 _ rfl l4)
      have m4 : E.tmps[118]?.getD undef = .agg #[.int .i64 3, .string ⟨#[]⟩, .int .i64 n, .int .i64 0] := by simpa [Act.eval] using x4
      refine wp_val (v := .slice (some ⟨w'.heap.size, 0, none⟩) 1 1) (w' := w'.alloc (.cells #[.int .i64 3, .string ⟨#[]⟩, .int .i64 n, .int .i64 0] 90)) ?_ ⟨_, rfl, hC.mk1 hDis rfl⟩
      simp only [execOp, x4]
      go_simp
    case o6 =>
      intro E env L w' hcl hL hp hd ho2 hC
      have l1 : L 1 = true := hp ⟨1, .data⟩ (by simp) rfl
      have x1 : E.eval (.tmp 115) = .slice r1 n1 c1 := (hd 1 115 l1 rfl (by rw [hsz]; decide)).trans (hC.g 1 _ rfl l1)
      have l5 : L 5 = true := hp ⟨5, .data⟩ (by simp) rfl
      obtain ⟨y, ey, hy⟩ := hC.b1 l5 hL
      have xy : E.eval (.tmp 119) = .slice (some ⟨y, 0, none⟩) 1 1 := (hd 5 119 l5 rfl (by rw [hsz]; decide)).trans ey
      have hL15 : L 15 = false := by
        cases h0 : L 15 with
        | false => rfl
        | true =>
          have h1 := hcl 15 _ rfl h0 ⟨6, .data⟩ (by first | exact Array.mem_of_getElem? (i := 0) rfl | exact Array.mem_of_getElem? (i := 1) rfl | exact Array.mem_of_getElem? (i := 2) rfl | exact Array.mem_of_getElem? (i := 3) rfl | exact Array.mem_of_getElem? (i := 4) rfl | exact Array.mem_of_getElem? (i := 5) rfl | exact Array.mem_of_getElem? (i := 6) rfl | exact Array.mem_of_getElem? (i := 7) rfl | exact Array.mem_of_getElem? (i := 8) rfl | exact Array.mem_of_getElem? (i := 9) rfl | exact Array.mem_of_getElem? (i := 10) rfl | exact Array.mem_of_getElem? (i := 11) rfl | exact Array.mem_of_getElem? (i := 12) rfl | exact Array.mem_of_getElem? (i := 13) rfl | exact Array.mem_of_getElem? (i := 14) rfl | exact Array.mem_of_getElem? (i := 15) rfl | exact Array.mem_of_getElem? (i := 16) rfl | exact Array.mem_of_getElem? (i := 17) rfl | exact Array.mem_of_getElem? (i := 18) rfl | exact Array.mem_of_getElem? (i := 19) rfl | exact Array.mem_of_getElem? (i := 20) rfl | exact Array.mem_of_getElem? (i := 21) rfl | exact Array.mem_of_getElem? (i := 22) rfl | exact Array.mem_of_getElem? (i := 23) rfl) rfl
          exact absurd (h1.symm.trans hL) (by simp)
      refine wp_append_rm w' (.tmp 115) (.tmp 119) 54 54 rfl 90 (.agg #[.int .i64 0, .string ByteArray.empty, .int .i64 0, .int .i64 0]) 4 40 Tryd.underlying54 infoIn rfl F r1 n1 c1 L1 x1 (hC.p1 hL) _ xy 1 (by omega) [.int .i64 3, .string ⟨#[]⟩, .int .i64 n, .int .i64 0] (Src.ofSlice _ Tryd.underlying54 ⟨y, 0, none⟩ 1 1 [.int .i64 3, .string ⟨#[]⟩, .int .i64 n, .int .i64 0] rfl (fun j u hj => by rw [Addr.add_lit, Nat.zero_add]; exact hy.cell hj) (in_one _ _ _ _)) (by omega) (by omega) (fun g' c' w2 h1 h2 h3 => ⟨_, rfl, hC.app1 hDis rfl hL15 hL h1 h3⟩)
    case o7 =>
      intro E env L w' hcl hL hp hd ho2 hC
      have xb : E.eval (.tmp 6) = .pointer (some ⟨F, 0, none⟩) := (ho2 6 (by kernel_rfl)).trans hb6
      refine wp_val (v := .pointer (some ⟨F, 4, none⟩)) (w' := w') ?_ ⟨_, rfl, hC.pure hDis 7 (by decide) _ rfl⟩
      simp only [execOp, xb]
      go_simp
    case o8 =>
      intro E env L w' hcl hL hp hd ho2 hC
      have l7 : L 7 = true := hp ⟨7, .data⟩ (by simp) rfl
      have x7 : E.eval (.tmp 121) = .pointer (some ⟨F, 4, none⟩) := (hd 7 121 l7 rfl (by rw [hsz]; decide)).trans (hC.g 7 _ rfl l7)
      have hL17 : L 17 = false := by
        cases h0 : L 17 with
        | false => rfl
        | true =>
          have h1 := hcl 17 _ rfl h0 ⟨8, .phase⟩ (by first | exact Array.mem_of_getElem? (i := 0) rfl | exact Array.mem_of_getElem? (i := 1) rfl | exact Array.mem_of_getElem? (i := 2) rfl | exact Array.mem_of_getElem? (i := 3) rfl | exact Array.mem_of_getElem? (i := 4) rfl | exact Array.mem_of_getElem? (i := 5) rfl | exact Array.mem_of_getElem? (i := 6) rfl | exact Array.mem_of_getElem? (i := 7) rfl | exact Array.mem_of_getElem? (i := 8) rfl | exact Array.mem_of_getElem? (i := 9) rfl | exact Array.mem_of_getElem? (i := 10) rfl | exact Array.mem_of_getElem? (i := 11) rfl | exact Array.mem_of_getElem? (i := 12) rfl | exact Array.mem_of_getElem? (i := 13) rfl | exact Array.mem_of_getElem? (i := 14) rfl | exact Array.mem_of_getElem? (i := 15) rfl | exact Array.mem_of_getElem? (i := 16) rfl | exact Array.mem_of_getElem? (i := 17) rfl | exact Array.mem_of_getElem? (i := 18) rfl | exact Array.mem_of_getElem? (i := 19) rfl | exact Array.mem_of_getElem? (i := 20) rfl | exact Array.mem_of_getElem? (i := 21) rfl | exact Array.mem_of_getElem? (i := 22) rfl | exact Array.mem_of_getElem? (i := 23) rfl) rfl
          exact absurd (h1.symm.trans hL) (by simp)
      have cF : w'.cell? ⟨F, 4, none⟩ = some (.slice r2 n1 c2) := by
        have h := hC.blk.cell (i := 4) rfl
        rw [hL17] at h
        exact h
      refine wp_val (v := .slice r2 n1 c2) (w' := w') ?_ ⟨_, rfl, hC.pure hDis 8 (by decide) _ rfl⟩
      simp only [execOp, x7]
      go_simp
    case o9 =>
      intro E env L w' hcl hL hp hd ho2 hC
      have xb : E.eval (.tmp 10) = .pointer (some ⟨X, 0, none⟩) := (ho2 10 (by kernel_rfl)).trans hb10
      refine wp_val (v := .pointer (some ⟨X, 4, none⟩)) (w' := w') ?_ ⟨_, rfl, hC.pure hDis 9 (by decide) _ rfl⟩
      simp only [execOp, xb]
      go_simp
    case o10 =>
      intro E env L w' hcl hL hp hd ho2 hC
      have l9 : L 9 = true := hp ⟨9, .data⟩ (by simp) rfl
      have x9 : E.eval (.tmp 123) = .pointer (some ⟨X, 4, none⟩) := (hd 9 123 l9 rfl (by rw [hsz]; decide)).trans (hC.g 9 _ rfl l9)
      have cX4 := hC.ev.cell (i := 4) rfl
      refine wp_val (v := .string b) (w' := w') ?_ ⟨_, rfl, hC.pure hDis 10 (by decide) _ rfl⟩
      simp only [execOp, x9]
      go_simp
    case o11 =>
      intro E env L w' hcl hL hp hd ho2 hC
      have l10 : L 10 = true := hp ⟨10, .data⟩ (by simp) rfl
      have x10 : E.eval (.tmp 124) = .string b := (hd 10 124 l10 rfl (by rw [hsz]; decide)).trans (hC.g 10 _ rfl l10)
      have m10 : E.tmps[124]?.getD undef = .string b := by simpa [Act.eval] using x10
      refine wp_val (v := .agg #[.int .i64 0, .string b, .int .i64 0, .int .i64 0, .int .i64 0, .int .i64 0, .int .i64 0, .int .i64 0, .bool false]) (w' := w') ?_ ⟨_, rfl, hC.pure hDis 11 (by decide) _ rfl⟩
      simp only [execOp, x10]
      go_simp
    case o12 =>
      intro E env L w' hcl hL hp hd ho2 hC
      have l11 : L 11 = true := hp ⟨11, .data⟩ (by simp) rfl
      have x11 : E.eval (.tmp 125) = .agg #[.int .i64 0, .string b, .int .i64 0, .int .i64 0, .int .i64 0, .int .i64 0, .int .i64 0, .int .i64 0, .bool false] := (hd 11 125 l11 rfl (by rw [hsz]; decide)).trans (hC.g 11 _ rfl l11)
      have m11 : E.tmps[125]?.getD undef = .agg #[.int .i64 0, .string b, .int .i64 0, .int .i64 0, .int .i64 0, .int .i64 0, .int .i64 0, .int .i64 0, .bool false] := by simpa [Act.eval] using x11
      refine wp_val (v := .slice (some ⟨w'.heap.size, 0, none⟩) 1 1) (w' := w'.alloc (.cells #[.int .i64 0, .string b, .int .i64 0, .int .i64 0, .int .i64 0, .int .i64 0, .int .i64 0, .int .i64 0, .bool false] 92)) ?_ ⟨_, rfl, hC.mk2 hDis rfl⟩
      simp only [execOp, x11]
      go_simp
    case o13 =>
      intro E env L w' hcl hL hp hd ho2 hC
      have l8 : L 8 = true := hp ⟨8, .data⟩ (by simp) rfl
      have x8 : E.eval (.tmp 122) = .slice r2 n1 c2 := (hd 8 122 l8 rfl (by rw [hsz]; decide)).trans (hC.g 8 _ rfl l8)
      have l12 : L 12 = true := hp ⟨12, .data⟩ (by simp) rfl
      obtain ⟨y, ey, hy⟩ := hC.b2 l12 hL
      have xy : E.eval (.tmp 126) = .slice (some ⟨y, 0, none⟩) 1 1 := (hd 12 126 l12 rfl (by rw [hsz]; decide)).trans ey
      have hL17 : L 17 = false := by
        cases h0 : L 17 with
        | false => rfl
        | true =>
          have h1 := hcl 17 _ rfl h0 ⟨13, .data⟩ (by first | exact Array.mem_of_getElem? (i := 0) rfl | exact Array.mem_of_getElem? (i := 1) rfl | exact Array.mem_of_getElem? (i := 2) rfl | exact Array.mem_of_getElem? (i := 3) rfl | exact Array.mem_of_getElem? (i := 4) rfl | exact Array.mem_of_getElem? (i := 5) rfl | exact Array.mem_of_getElem? (i := 6) rfl | exact Array.mem_of_getElem? (i := 7) rfl | exact Array.mem_of_getElem? (i := 8) rfl | exact Array.mem_of_getElem? (i := 9) rfl | exact Array.mem_of_getElem? (i := 10) rfl | exact Array.mem_of_getElem? (i := 11) rfl | exact Array.mem_of_getElem? (i := 12) rfl | exact Array.mem_of_getElem? (i := 13) rfl | exact Array.mem_of_getElem? (i := 14) rfl | exact Array.mem_of_getElem? (i := 15) rfl | exact Array.mem_of_getElem? (i := 16) rfl | exact Array.mem_of_getElem? (i := 17) rfl | exact Array.mem_of_getElem? (i := 18) rfl | exact Array.mem_of_getElem? (i := 19) rfl | exact Array.mem_of_getElem? (i := 20) rfl | exact Array.mem_of_getElem? (i := 21) rfl | exact Array.mem_of_getElem? (i := 22) rfl | exact Array.mem_of_getElem? (i := 23) rfl) rfl
          exact absurd (h1.symm.trans hL) (by simp)
      refine wp_append_rm w' (.tmp 122) (.tmp 126) 55 55 rfl 92 (.agg #[.int .i64 0, .string ByteArray.empty, .int .i64 0, .int .i64 0, .int .i64 0, .int .i64 0, .int .i64 0, .int .i64 0, .bool false]) 9 80 Tryd.underlying55 infoOut rfl F r2 n1 c2 L2 x8 (hC.p2 hL) _ xy 1 (by omega) [.int .i64 0, .string b, .int .i64 0, .int .i64 0, .int .i64 0, .int .i64 0, .int .i64 0, .int .i64 0, .bool false] (Src.ofSlice _ Tryd.underlying55 ⟨y, 0, none⟩ 1 1 [.int .i64 0, .string b, .int .i64 0, .int .i64 0, .int .i64 0, .int .i64 0, .int .i64 0, .int .i64 0, .bool false] rfl (fun j u hj => by rw [Addr.add_lit, Nat.zero_add]; exact hy.cell hj) (out_one _ _ _ _ _ _ _ _ _)) (by omega) (by omega) (fun g' c' w2 h1 h2 h3 => ⟨_, rfl, hC.app2 hDis rfl hL17 hL h1 h3⟩)
    case o14 =>
      intro E env L w' hcl hL hp hd ho2 hC
      have xb : E.eval (.tmp 6) = .pointer (some ⟨F, 0, none⟩) := (ho2 6 (by kernel_rfl)).trans hb6
      refine wp_val (v := .pointer (some ⟨F, 3, none⟩)) (w' := w') ?_ ⟨_, rfl, hC.pure hDis 14 (by decide) _ rfl⟩
      simp only [execOp, xb]
      go_simp
    case o15 =>
      intro E env L w' hcl hL hp hd ho2 hC
      have l14 : L 14 = true := hp ⟨14, .data⟩ (by simp) rfl
      have x14 : E.eval (.tmp 128) = .pointer (some ⟨F, 3, none⟩) := (hd 14 128 l14 rfl (by rw [hsz]; decide)).trans (hC.g 14 _ rfl l14)
      have l6 : L 6 = true := hp ⟨6, .data⟩ (by simp) rfl
      obtain ⟨g, c, eg, _⟩ := hC.q1 l6
      have xg : E.eval (.tmp 120) = .slice (some ⟨g, 0, none⟩) (n1 + 1) c := (hd 6 120 l6 rfl (by rw [hsz]; decide)).trans eg
      have cF := hC.blk.cell (i := 3) rfl
      have fF := hC.blk.free 3
      rw [hL] at cF
      have hN := hC.st1 hDis rfl
      rw [eg] at hN
      refine wp_skp (w' := w'.setCell ⟨F, 3, none⟩ (.slice (some ⟨g, 0, none⟩) (n1 + 1) c)) ?_ ⟨_, rfl, hN⟩
      simp only [execOp, x14, xg]
      go_simp
    case o16 =>
      intro E env L w' hcl hL hp hd ho2 hC
      have xb : E.eval (.tmp 6) = .pointer (some ⟨F, 0, none⟩) := (ho2 6 (by kernel_rfl)).trans hb6
      refine wp_val (v := .pointer (some ⟨F, 4, none⟩)) (w' := w') ?_ ⟨_, rfl, hC.pure hDis 16 (by decide) _ rfl⟩
      simp only [execOp, xb]
      go_simp
    case o17 =>
      intro E env L w' hcl hL hp hd ho2 hC
      have l16 : L 16 = true := hp ⟨16, .data⟩ (by simp) rfl
      have x16 : E.eval (.tmp 129) = .pointer (some ⟨F, 4, none⟩) := (hd 16 129 l16 rfl (by rw [hsz]; decide)).trans (hC.g 16 _ rfl l16)
      have l13 : L 13 = true := hp ⟨13, .data⟩ (by simp) rfl
      obtain ⟨g, c, eg, _⟩ := hC.q2 l13
      have xg : E.eval (.tmp 127) = .slice (some ⟨g, 0, none⟩) (n1 + 1) c := (hd 13 127 l13 rfl (by rw [hsz]; decide)).trans eg
      have cF := hC.blk.cell (i := 4) rfl
      have fF := hC.blk.free 4
      rw [hL] at cF
      have hN := hC.st2 hDis rfl
      rw [eg] at hN
      refine wp_skp (w' := w'.setCell ⟨F, 4, none⟩ (.slice (some ⟨g, 0, none⟩) (n1 + 1) c)) ?_ ⟨_, rfl, hN⟩
      simp only [execOp, x16, xg]
      go_simp
  case hend =>
    intro env w' hC
    obtain ⟨g1, k1, e1, h1⟩ := hC.q1 rfl
    obtain ⟨g2, k2, e2, h2⟩ := hC.q2 rfl
    have hb : Blk w' F [.int .i64 a1, .int .i64 sc, .int .i64 fr, env 6, env 13, .slice r3 n3 c3, .string rd, .string tk, .bool eo, .int .i64 st] 58 := hC.blk
    rw [e1, e2] at hb
    have HN : Hid (RO V w' F F a1 sc fr rd tk eo st (some ⟨g1, 0, none⟩) (n1 + 1) k1 (L1 ++ [.int .i64 3, .string ⟨#[]⟩, .int .i64 n, .int .i64 0]) (some ⟨g2, 0, none⟩) (n1 + 1) k2 (L2 ++ [.int .i64 0, .string b, .int .i64 0, .int .i64 0, .int .i64 0, .int .i64 0, .int .i64 0, .int .i64 0, .bool false]) r3 n3 c3 L3 ∧ Blk w' X (Ev.c ⟨6, i, n, t, b, e, s0, s1, s2, s3, s4, s5⟩) 46) := Lib.hid ⟨⟨hb, h1, h2, hC.m3, hC.be, hC.FB, hC.le⟩, hC.ev⟩
    clear hC hb h1 h2 e1 e2
    exact hQ env w' g1 k1 g2 k2 HN.out
set_option maxRecDepth 20000 in
set_option maxHeartbeats 16000000 in
theorem rf_reg8 (i n t : Int) (b : ByteArray) (e s0 s1 s2 s3 s4 s5 : Int) (V W1 : World) (F X : Nat) (a1 sc fr : Int) (rd tk : ByteArray) (eo : Bool) (st : Int) (r1 : Option Addr) (n1 c1 : Nat) (L1 : List Value) (r2 : Option Addr) (c2 : Nat) (L2 : List Value) (r3 : Option Addr) (n3 c3 : Nat) (L3 : List Value) (bn1 : n1 ≤ 100000) (HR : Hid (RO V W1 F F a1 sc fr rd tk eo st r1 n1 c1 L1 r2 n1 c2 L2 r3 n3 c3 L3 ∧ Blk W1 X (Ev.c ⟨8, i, n, t, b, e, s0, s1, s2, s3, s4, s5⟩) 46)) (Q : Exit → Act → World → Prop) (base : Act) (hsz : base.tmps.size = 169) (hb6 : base.eval (.tmp 6) = .pointer (some ⟨F, 0, none⟩)) (hb10 : base.eval (.tmp 10) = .pointer (some ⟨X, 0, none⟩))
    (hQ : ∀ env w' (g1 k1 g2 k2 : Nat), RO V w' F F a1 sc fr rd tk eo st (some ⟨g1, 0, none⟩) (n1 + 1) k1 (L1 ++ [.int .i64 5, .string ⟨#[]⟩, .int .i64 0, .int .i64 s0]) (some ⟨g2, 0, none⟩) (n1 + 1) k2 (L2 ++ [.int .i64 0, .string ⟨#[]⟩, .int .i64 s0, .int .i64 s1, .int .i64 s2, .int .i64 s3, .int .i64 s4, .int .i64 s5, .bool true]) r3 n3 c3 L3 ∧ Blk w' X (Ev.c ⟨8, i, n, t, b, e, s0, s1, s2, s3, s4, s5⟩) 46 → Q .normal (putsD env 0 [some 139, some 140, some 141, some 142, some 143, some 144, some 145, some 146, some 147, some 148, some 149, some 150, some 151, some 152, some 153, some 154, none, some 155, none] base) w') : (Code.region 23 (opsOf 23).toArray true).wp Tryd.prog Q base W1 := by
  have hops : opsOf 23 = opsOf 23 := rfl
  refine wp_region_env (fun env L w' => DD V F F X ⟨8, i, n, t, b, e, s0, s1, s2, s3, s4, s5⟩ a1 sc fr rd tk eo eo st r1 n1 c1 L1 r2 n1 c2 L2 r3 n3 c3 L3 [.int .i64 5, .string ⟨#[]⟩, .int .i64 0, .int .i64 s0] [.int .i64 0, .string ⟨#[]⟩, .int .i64 s0, .int .i64 s1, .int .i64 s2, .int .i64 s3, .int .i64 s4, .int .i64 s5, .bool true] (fun q => ([some (.pointer (some ⟨F, 3, none⟩)), some (.slice r1 n1 c1), some (.pointer (some ⟨X, 6, none⟩)), some (.pointer (some ⟨X, 6, none⟩)), some (.int .i64 s0), some (.agg #[.int .i64 5, .string ⟨#[]⟩, .int .i64 0, .int .i64 s0]), none, none, some (.pointer (some ⟨F, 4, none⟩)), some (.slice r2 n1 c2), some (.pointer (some ⟨X, 6, none⟩)), some (.agg #[.int .i64 s0, .int .i64 s1, .int .i64 s2, .int .i64 s3, .int .i64 s4, .int .i64 s5]), some (.agg #[.int .i64 0, .string ⟨#[]⟩, .int .i64 s0, .int .i64 s1, .int .i64 s2, .int .i64 s3, .int .i64 s4, .int .i64 s5, .bool true]), none, none, some (.pointer (some ⟨F, 3, none⟩)), none, some (.pointer (some ⟨F, 4, none⟩)), none] : List (Option Value))[q]?.join) 6 7 13 14 16 18 1000 env L w') (fun _ => undef) (by kernel_rfl) (by kernel_rfl) (by kernel_rfl) (by kernel_rfl) ?h0 ?hstep ?hend
  case h0 => exact ⟨fun k v _ h => by (cases h), HR.out.2.drew, HR.out.1.blk.drew, fun h => by (cases h), fun h => by (cases h), fun _ => HR.out.1.m1.chg (l := []) (Chg.refl [] _).drew (by simp), fun h => by (cases h), fun _ => HR.out.1.m2.chg (l := []) (Chg.refl [] _).drew (by simp), fun h => by (cases h), HR.out.1.m3.chg (l := []) (Chg.refl [] _).drew (by simp), HR.out.1.be.drew, HR.out.1.FB, HR.out.1.le⟩
  case hstep =>
    have hDis : Dis 6 7 13 14 16 18 1000 := by unfold Dis; decide
    refine ⟨?o0, ?o1, ?o2, ?o3, ?o4, ?o5, ?o6, ?o7, ?o8, ?o9, ?o10, ?o11, ?o12, ?o13, ?o14, ?o15, ?o16, ?o17, ?o18, trivial⟩
    case o0 =>
      intro E env L w' hcl hL hp hd ho2 hC
      have xb : E.eval (.tmp 6) = .pointer (some ⟨F, 0, none⟩) := (ho2 6 (by kernel_rfl)).trans hb6
      refine wp_val (v := .pointer (some ⟨F, 3, none⟩)) (w' := w') ?_ ⟨_, rfl, hC.pure hDis 0 (by decide) _ rfl⟩
      simp only [execOp, xb]
      go_simp
    case o1 =>
      intro E env L w' hcl hL hp hd ho2 hC
      have l0 : L 0 = true := hp ⟨0, .data⟩ (by simp) rfl
      have x0 : E.eval (.tmp 139) = .pointer (some ⟨F, 3, none⟩) := (hd 0 139 l0 rfl (by rw [hsz]; decide)).trans (hC.g 0 _ rfl l0)
      have hL16 : L 16 = false := by
        cases h0 : L 16 with
        | false => rfl
        | true =>
          have h1 := hcl 16 _ rfl h0 ⟨1, .phase⟩ (by first | exact Array.mem_of_getElem? (i := 0) rfl | exact Array.mem_of_getElem? (i := 1) rfl | exact Array.mem_of_getElem? (i := 2) rfl | exact Array.mem_of_getElem? (i := 3) rfl | exact Array.mem_of_getElem? (i := 4) rfl | exact Array.mem_of_getElem? (i := 5) rfl | exact Array.mem_of_getElem? (i := 6) rfl | exact Array.mem_of_getElem? (i := 7) rfl | exact Array.mem_of_getElem? (i := 8) rfl | exact Array.mem_of_getElem? (i := 9) rfl | exact Array.mem_of_getElem? (i := 10) rfl | exact Array.mem_of_getElem? (i := 11) rfl | exact Array.mem_of_getElem? (i := 12) rfl | exact Array.mem_of_getElem? (i := 13) rfl | exact Array.mem_of_getElem? (i := 14) rfl | exact Array.mem_of_getElem? (i := 15) rfl | exact Array.mem_of_getElem? (i := 16) rfl | exact Array.mem_of_getElem? (i := 17) rfl | exact Array.mem_of_getElem? (i := 18) rfl | exact Array.mem_of_getElem? (i := 19) rfl | exact Array.mem_of_getElem? (i := 20) rfl | exact Array.mem_of_getElem? (i := 21) rfl | exact Array.mem_of_getElem? (i := 22) rfl | exact Array.mem_of_getElem? (i := 23) rfl) rfl
          exact absurd (h1.symm.trans hL) (by simp)
      have cF : w'.cell? ⟨F, 3, none⟩ = some (.slice r1 n1 c1) := by
        have h := hC.blk.cell (i := 3) rfl
        rw [hL16] at h
        exact h
      refine wp_val (v := .slice r1 n1 c1) (w' := w') ?_ ⟨_, rfl, hC.pure hDis 1 (by decide) _ rfl⟩
      simp only [execOp, x0]
      go_simp
    case o2 =>
      intro E env L w' hcl hL hp hd ho2 hC
      have xb : E.eval (.tmp 10) = .pointer (some ⟨X, 0, none⟩) := (ho2 10 (by kernel_rfl)).trans hb10
      refine wp_val (v := .pointer (some ⟨X, 6, none⟩)) (w' := w') ?_ ⟨_, rfl, hC.pure hDis 2 (by decide) _ rfl⟩
      simp only [execOp, xb]
      go_simp
    case o3 =>
      intro E env L w' hcl hL hp hd ho2 hC
      have l2 : L 2 = true := hp ⟨2, .data⟩ (by simp) rfl
      have x2 : E.eval (.tmp 141) = .pointer (some ⟨X, 6, none⟩) := (hd 2 141 l2 rfl (by rw [hsz]; decide)).trans (hC.g 2 _ rfl l2)
      refine wp_val (v := .pointer (some ⟨X, 6, none⟩)) (w' := w') ?_ ⟨_, rfl, hC.pure hDis 3 (by decide) _ rfl⟩
      simp only [execOp, x2]
      go_simp
    case o4 =>
      intro E env L w' hcl hL hp hd ho2 hC
      have l3 : L 3 = true := hp ⟨3, .data⟩ (by simp) rfl
      have x3 : E.eval (.tmp 142) = .pointer (some ⟨X, 6, none⟩) := (hd 3 142 l3 rfl (by rw [hsz]; decide)).trans (hC.g 3 _ rfl l3)
      have cX6 := hC.ev.cell (i := 6) rfl
      refine wp_val (v := .int .i64 s0) (w' := w') ?_ ⟨_, rfl, hC.pure hDis 4 (by decide) _ rfl⟩
      simp only [execOp, x3]
      go_simp
    case o5 =>
      intro E env L w' hcl hL hp hd ho2 hC
      have l4 : L 4 = true := hp ⟨4, .data⟩ (by simp) rfl
      have x4 : E.eval (.tmp 143) = .int .i64 s0 := (hd 4 143 l4 rfl (by rw [hsz]; decide)).trans (hC.g 4 _ rfl l4)
      have m4 : E.tmps[143]?.getD undef = .int .i64 s0 := by simpa [Act.eval] using x4
      refine wp_val (v := .agg #[.int .i64 5, .string ⟨#[]⟩, .int .i64 0, .int .i64 s0]) (w' := w') ?_ ⟨_, rfl, hC.pure hDis 5 (by decide) _ rfl⟩
      simp only [execOp, x4]
      go_simp
    case o6 =>
      intro E env L w' hcl hL hp hd ho2 hC
      have l5 : L 5 = true := hp ⟨5, .data⟩ (by simp) rfl
      have x5 : E.eval (.tmp 144) = .agg #[.int .i64 5, .string ⟨#[]⟩, .int .i64 0, .int .i64 s0] := (hd 5 144 l5 rfl (by rw [hsz]; decide)).trans (hC.g 5 _ rfl l5)
      have m5 : E.tmps[144]?.getD undef = .agg #[.int .i64 5, .string ⟨#[]⟩, .int .i64 0, .int .i64 s0] := by simpa [Act.eval] using x5
      refine wp_val (v := .slice (some ⟨w'.heap.size, 0, none⟩) 1 1) (w' := w'.alloc (.cells #[.int .i64 5, .string ⟨#[]⟩, .int .i64 0, .int .i64 s0] 90)) ?_ ⟨_, rfl, hC.mk1 hDis rfl⟩
      simp only [execOp, x5]
      go_simp
    case o7 =>
      intro E env L w' hcl hL hp hd ho2 hC
      have l1 : L 1 = true := hp ⟨1, .data⟩ (by simp) rfl
      have x1 : E.eval (.tmp 140) = .slice r1 n1 c1 := (hd 1 140 l1 rfl (by rw [hsz]; decide)).trans (hC.g 1 _ rfl l1)
      have l6 : L 6 = true := hp ⟨6, .data⟩ (by simp) rfl
      obtain ⟨y, ey, hy⟩ := hC.b1 l6 hL
      have xy : E.eval (.tmp 145) = .slice (some ⟨y, 0, none⟩) 1 1 := (hd 6 145 l6 rfl (by rw [hsz]; decide)).trans ey
      have hL16 : L 16 = false := by
        cases h0 : L 16 with
        | false => rfl
        | true =>
          have h1 := hcl 16 _ rfl h0 ⟨7, .data⟩ (by first | exact Array.mem_of_getElem? (i := 0) rfl | exact Array.mem_of_getElem? (i := 1) rfl | exact Array.mem_of_getElem? (i := 2) rfl | exact Array.mem_of_getElem? (i := 3) rfl | exact Array.mem_of_getElem? (i := 4) rfl | exact Array.mem_of_getElem? (i := 5) rfl | exact Array.mem_of_getElem? (i := 6) rfl | exact Array.mem_of_getElem? (i := 7) rfl | exact Array.mem_of_getElem? (i := 8) rfl | exact Array.mem_of_getElem? (i := 9) rfl | exact Array.mem_of_getElem? (i := 10) rfl | exact Array.mem_of_getElem? (i := 11) rfl | exact Array.mem_of_getElem? (i := 12) rfl | exact Array.mem_of_getElem? (i := 13) rfl | exact Array.mem_of_getElem? (i := 14) rfl | exact Array.mem_of_getElem? (i := 15) rfl | exact Array.mem_of_getElem? (i := 16) rfl | exact Array.mem_of_getElem? (i := 17) rfl | exact Array.mem_of_getElem? (i := 18) rfl | exact Array.mem_of_getElem? (i := 19) rfl | exact Array.mem_of_getElem? (i := 20) rfl | exact Array.mem_of_getElem? (i := 21) rfl | exact Array.mem_of_getElem? (i := 22) rfl | exact Array.mem_of_getElem? (i := 23) rfl) rfl
          exact absurd (h1.symm.trans hL) (by simp)
      refine wp_append_rm w' (.tmp 140) (.tmp 145) 54 54 rfl 90 (.agg #[.int .i64 0, .string ByteArray.empty, .int .i64 0, .int .i64 0]) 4 40 Tryd.underlying54 infoIn rfl F r1 n1 c1 L1 x1 (hC.p1 hL) _ xy 1 (by omega) [.int .i64 5, .string ⟨#[]⟩, .int .i64 0, .int .i64 s0] (Src.ofSlice _ Tryd.underlying54 ⟨y, 0, none⟩ 1 1 [.int .i64 5, .string ⟨#[]⟩, .int .i64 0, .int .i64 s0] rfl (fun j u hj => by rw [Addr.add_lit, Nat.zero_add]; exact hy.cell hj) (in_one _ _ _ _)) (by omega) (by omega) (fun g' c' w2 h1 h2 h3 => ⟨_, rfl, hC.app1 hDis rfl hL16 hL h1 h3⟩)
    case o8 =>
      intro E env L w' hcl hL hp hd ho2 hC
      have xb : E.eval (.tmp 6) = .pointer (some ⟨F, 0, none⟩) := (ho2 6 (by kernel_rfl)).trans hb6
      refine wp_val (v := .pointer (some ⟨F, 4, none⟩)) (w' := w') ?_ ⟨_, rfl, hC.pure hDis 8 (by decide) _ rfl⟩
      simp only [execOp, xb]
      go_simp
    case o9 =>
      intro E env L w' hcl hL hp hd ho2 hC
      have l8 : L 8 = true := hp ⟨8, .data⟩ (by simp) rfl
      have x8 : E.eval (.tmp 147) = .pointer (some ⟨F, 4, none⟩) := (hd 8 147 l8 rfl (by rw [hsz]; decide)).trans (hC.g 8 _ rfl l8)
      have hL18 : L 18 = false := by
        cases h0 : L 18 with
        | false => rfl
        | true =>
          have h1 := hcl 18 _ rfl h0 ⟨9, .phase⟩ (by first | exact Array.mem_of_getElem? (i := 0) rfl | exact Array.mem_of_getElem? (i := 1) rfl | exact Array.mem_of_getElem? (i := 2) rfl | exact Array.mem_of_getElem? (i := 3) rfl | exact Array.mem_of_getElem? (i := 4) rfl | exact Array.mem_of_getElem? (i := 5) rfl | exact Array.mem_of_getElem? (i := 6) rfl | exact Array.mem_of_getElem? (i := 7) rfl | exact Array.mem_of_getElem? (i := 8) rfl | exact Array.mem_of_getElem? (i := 9) rfl | exact Array.mem_of_getElem? (i := 10) rfl | exact Array.mem_of_getElem? (i := 11) rfl | exact Array.mem_of_getElem? (i := 12) rfl | exact Array.mem_of_getElem? (i := 13) rfl | exact Array.mem_of_getElem? (i := 14) rfl | exact Array.mem_of_getElem? (i := 15) rfl | exact Array.mem_of_getElem? (i := 16) rfl | exact Array.mem_of_getElem? (i := 17) rfl | exact Array.mem_of_getElem? (i := 18) rfl | exact Array.mem_of_getElem? (i := 19) rfl | exact Array.mem_of_getElem? (i := 20) rfl | exact Array.mem_of_getElem? (i := 21) rfl | exact Array.mem_of_getElem? (i := 22) rfl | exact Array.mem_of_getElem? (i := 23) rfl) rfl
          exact absurd (h1.symm.trans hL) (by simp)
      have cF : w'.cell? ⟨F, 4, none⟩ = some (.slice r2 n1 c2) := by
        have h := hC.blk.cell (i := 4) rfl
        rw [hL18] at h
        exact h
      refine wp_val (v := .slice r2 n1 c2) (w' := w') ?_ ⟨_, rfl, hC.pure hDis 9 (by decide) _ rfl⟩
      simp only [execOp, x8]
      go_simp
    case o10 =>
      intro E env L w' hcl hL hp hd ho2 hC
      have xb : E.eval (.tmp 10) = .pointer (some ⟨X, 0, none⟩) := (ho2 10 (by kernel_rfl)).trans hb10
      refine wp_val (v := .pointer (some ⟨X, 6, none⟩)) (w' := w') ?_ ⟨_, rfl, hC.pure hDis 10 (by decide) _ rfl⟩
      simp only [execOp, xb]
      go_simp
    case o11 =>
      intro E env L w' hcl hL hp hd ho2 hC
      have l10 : L 10 = true := hp ⟨10, .data⟩ (by simp) rfl
      have x10 : E.eval (.tmp 149) = .pointer (some ⟨X, 6, none⟩) := (hd 10 149 l10 rfl (by rw [hsz]; decide)).trans (hC.g 10 _ rfl l10)
      have cX6 := hC.ev.cell (i := 6) rfl
      have cX7 := hC.ev.cell (i := 7) rfl
      have cX8 := hC.ev.cell (i := 8) rfl
      have cX9 := hC.ev.cell (i := 9) rfl
      have cX10 := hC.ev.cell (i := 10) rfl
      have cX11 := hC.ev.cell (i := 11) rfl
      refine wp_val (v := .agg #[.int .i64 s0, .int .i64 s1, .int .i64 s2, .int .i64 s3, .int .i64 s4, .int .i64 s5]) (w' := w') ?_ ⟨_, rfl, hC.pure hDis 11 (by decide) _ rfl⟩
      simp only [execOp, x10]
      go_simp
    case o12 =>
      intro E env L w' hcl hL hp hd ho2 hC
      have l11 : L 11 = true := hp ⟨11, .data⟩ (by simp) rfl
      have x11 : E.eval (.tmp 150) = .agg #[.int .i64 s0, .int .i64 s1, .int .i64 s2, .int .i64 s3, .int .i64 s4, .int .i64 s5] := (hd 11 150 l11 rfl (by rw [hsz]; decide)).trans (hC.g 11 _ rfl l11)
      have m11 : E.tmps[150]?.getD undef = .agg #[.int .i64 s0, .int .i64 s1, .int .i64 s2, .int .i64 s3, .int .i64 s4, .int .i64 s5] := by simpa [Act.eval] using x11
      refine wp_val (v := .agg #[.int .i64 0, .string ⟨#[]⟩, .int .i64 s0, .int .i64 s1, .int .i64 s2, .int .i64 s3, .int .i64 s4, .int .i64 s5, .bool true]) (w' := w') ?_ ⟨_, rfl, hC.pure hDis 12 (by decide) _ rfl⟩
      simp only [execOp, x11]
      go_simp
    case o13 =>
      intro E env L w' hcl hL hp hd ho2 hC
      have l12 : L 12 = true := hp ⟨12, .data⟩ (by simp) rfl
      have x12 : E.eval (.tmp 151) = .agg #[.int .i64 0, .string ⟨#[]⟩, .int .i64 s0, .int .i64 s1, .int .i64 s2, .int .i64 s3, .int .i64 s4, .int .i64 s5, .bool true] := (hd 12 151 l12 rfl (by rw [hsz]; decide)).trans (hC.g 12 _ rfl l12)
      have m12 : E.tmps[151]?.getD undef = .agg #[.int .i64 0, .string ⟨#[]⟩, .int .i64 s0, .int .i64 s1, .int .i64 s2, .int .i64 s3, .int .i64 s4, .int .i64 s5, .bool true] := by simpa [Act.eval] using x12
      refine wp_val (v := .slice (some ⟨w'.heap.size, 0, none⟩) 1 1) (w' := w'.alloc (.cells #[.int .i64 0, .string ⟨#[]⟩, .int .i64 s0, .int .i64 s1, .int .i64 s2, .int .i64 s3, .int .i64 s4, .int .i64 s5, .bool true] 92)) ?_ ⟨_, rfl, hC.mk2 hDis rfl⟩
      simp only [execOp, x12]
      go_simp
    case o14 =>
      intro E env L w' hcl hL hp hd ho2 hC
      have l9 : L 9 = true := hp ⟨9, .data⟩ (by simp) rfl
      have x9 : E.eval (.tmp 148) = .slice r2 n1 c2 := (hd 9 148 l9 rfl (by rw [hsz]; decide)).trans (hC.g 9 _ rfl l9)
      have l13 : L 13 = true := hp ⟨13, .data⟩ (by simp) rfl
      obtain ⟨y, ey, hy⟩ := hC.b2 l13 hL
      have xy : E.eval (.tmp 152) = .slice (some ⟨y, 0, none⟩) 1 1 := (hd 13 152 l13 rfl (by rw [hsz]; decide)).trans ey
      have hL18 : L 18 = false := by
        cases h0 : L 18 with
        | false => rfl
        | true =>
          have h1 := hcl 18 _ rfl h0 ⟨14, .data⟩ (by first | exact Array.mem_of_getElem? (i := 0) rfl | exact Array.mem_of_getElem? (i := 1) rfl | exact Array.mem_of_getElem? (i := 2) rfl | exact Array.mem_of_getElem? (i := 3) rfl | exact Array.mem_of_getElem? (i := 4) rfl | exact Array.mem_of_getElem? (i := 5) rfl | exact Array.mem_of_getElem? (i := 6) rfl | exact Array.mem_of_getElem? (i := 7) rfl | exact Array.mem_of_getElem? (i := 8) rfl | exact Array.mem_of_getElem? (i := 9) rfl | exact Array.mem_of_getElem? (i := 10) rfl | exact Array.mem_of_getElem? (i := 11) rfl | exact Array.mem_of_getElem? (i := 12) rfl | exact Array.mem_of_getElem? (i := 13) rfl | exact Array.mem_of_getElem? (i := 14) rfl | exact Array.mem_of_getElem? (i := 15) rfl | exact Array.mem_of_getElem? (i := 16) rfl | exact Array.mem_of_getElem? (i := 17) rfl | exact Array.mem_of_getElem? (i := 18) rfl | exact Array.mem_of_getElem? (i := 19) rfl | exact Array.mem_of_getElem? (i := 20) rfl | exact Array.mem_of_getElem? (i := 21) rfl | exact Array.mem_of_getElem? (i := 22) rfl | exact Array.mem_of_getElem? (i := 23) rfl) rfl
          exact absurd (h1.symm.trans hL) (by simp)
      refine wp_append_rm w' (.tmp 148) (.tmp 152) 55 55 rfl 92 (.agg #[.int .i64 0, .string ByteArray.empty, .int .i64 0, .int .i64 0, .int .i64 0, .int .i64 0, .int .i64 0, .int .i64 0, .bool false]) 9 80 Tryd.underlying55 infoOut rfl F r2 n1 c2 L2 x9 (hC.p2 hL) _ xy 1 (by omega) [.int .i64 0, .string ⟨#[]⟩, .int .i64 s0, .int .i64 s1, .int .i64 s2, .int .i64 s3, .int .i64 s4, .int .i64 s5, .bool true] (Src.ofSlice _ Tryd.underlying55 ⟨y, 0, none⟩ 1 1 [.int .i64 0, .string ⟨#[]⟩, .int .i64 s0, .int .i64 s1, .int .i64 s2, .int .i64 s3, .int .i64 s4, .int .i64 s5, .bool true] rfl (fun j u hj => by rw [Addr.add_lit, Nat.zero_add]; exact hy.cell hj) (out_one _ _ _ _ _ _ _ _ _)) (by omega) (by omega) (fun g' c' w2 h1 h2 h3 => ⟨_, rfl, hC.app2 hDis rfl hL18 hL h1 h3⟩)
    case o15 =>
      intro E env L w' hcl hL hp hd ho2 hC
      have xb : E.eval (.tmp 6) = .pointer (some ⟨F, 0, none⟩) := (ho2 6 (by kernel_rfl)).trans hb6
      refine wp_val (v := .pointer (some ⟨F, 3, none⟩)) (w' := w') ?_ ⟨_, rfl, hC.pure hDis 15 (by decide) _ rfl⟩
      simp only [execOp, xb]
      go_simp
    case o16 =>
      intro E env L w' hcl hL hp hd ho2 hC
      have l15 : L 15 = true := hp ⟨15, .data⟩ (by simp) rfl
      have x15 : E.eval (.tmp 154) = .pointer (some ⟨F, 3, none⟩) := (hd 15 154 l15 rfl (by rw [hsz]; decide)).trans (hC.g 15 _ rfl l15)
      have l7 : L 7 = true := hp ⟨7, .data⟩ (by simp) rfl
      obtain ⟨g, c, eg, _⟩ := hC.q1 l7
      have xg : E.eval (.tmp 146) = .slice (some ⟨g, 0, none⟩) (n1 + 1) c := (hd 7 146 l7 rfl (by rw [hsz]; decide)).trans eg
      have cF := hC.blk.cell (i := 3) rfl
      have fF := hC.blk.free 3
      rw [hL] at cF
      have hN := hC.st1 hDis rfl
      rw [eg] at hN
      refine wp_skp (w' := w'.setCell ⟨F, 3, none⟩ (.slice (some ⟨g, 0, none⟩) (n1 + 1) c)) ?_ ⟨_, rfl, hN⟩
      simp only [execOp, x15, xg]
      go_simp
    case o17 =>
      intro E env L w' hcl hL hp hd ho2 hC
      have xb : E.eval (.tmp 6) = .pointer (some ⟨F, 0, none⟩) := (ho2 6 (by kernel_rfl)).trans hb6
      refine wp_val (v := .pointer (some ⟨F, 4, none⟩)) (w' := w') ?_ ⟨_, rfl, hC.pure hDis 17 (by decide) _ rfl⟩
      simp only [execOp, xb]
      go_simp
    case o18 =>
      intro E env L w' hcl hL hp hd ho2 hC
      have l17 : L 17 = true := hp ⟨17, .data⟩ (by simp) rfl
      have x17 : E.eval (.tmp 155) = .pointer (some ⟨F, 4, none⟩) := (hd 17 155 l17 rfl (by rw [hsz]; decide)).trans (hC.g 17 _ rfl l17)
      have l14 : L 14 = true := hp ⟨14, .data⟩ (by simp) rfl
      obtain ⟨g, c, eg, _⟩ := hC.q2 l14
      have xg : E.eval (.tmp 153) = .slice (some ⟨g, 0, none⟩) (n1 + 1) c := (hd 14 153 l14 rfl (by rw [hsz]; decide)).trans eg
      have cF := hC.blk.cell (i := 4) rfl
      have fF := hC.blk.free 4
      rw [hL] at cF
      have hN := hC.st2 hDis rfl
      rw [eg] at hN
      refine wp_skp (w' := w'.setCell ⟨F, 4, none⟩ (.slice (some ⟨g, 0, none⟩) (n1 + 1) c)) ?_ ⟨_, rfl, hN⟩
      simp only [execOp, x17, xg]
      go_simp
  case hend =>
    intro env w' hC
    obtain ⟨g1, k1, e1, h1⟩ := hC.q1 rfl
    obtain ⟨g2, k2, e2, h2⟩ := hC.q2 rfl
    have hb : Blk w' F [.int .i64 a1, .int .i64 sc, .int .i64 fr, env 7, env 14, .slice r3 n3 c3, .string rd, .string tk, .bool eo, .int .i64 st] 58 := hC.blk
    rw [e1, e2] at hb
    have HN : Hid (RO V w' F F a1 sc fr rd tk eo st (some ⟨g1, 0, none⟩) (n1 + 1) k1 (L1 ++ [.int .i64 5, .string ⟨#[]⟩, .int .i64 0, .int .i64 s0]) (some ⟨g2, 0, none⟩) (n1 + 1) k2 (L2 ++ [.int .i64 0, .string ⟨#[]⟩, .int .i64 s0, .int .i64 s1, .int .i64 s2, .int .i64 s3, .int .i64 s4, .int .i64 s5, .bool true]) r3 n3 c3 L3 ∧ Blk w' X (Ev.c ⟨8, i, n, t, b, e, s0, s1, s2, s3, s4, s5⟩) 46) := Lib.hid ⟨⟨hb, h1, h2, hC.m3, hC.be, hC.FB, hC.le⟩, hC.ev⟩
    clear hC hb h1 h2 e1 e2
    exact hQ env w' g1 k1 g2 k2 HN.out
end Go.Proofs.YtdchedkhlfmpeaaDoor
