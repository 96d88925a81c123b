/- P13.1: for every number n (0 to 255): a script of 190 + n % 20 ops that are done: too long behind 200. No condition. -/
import Derived.Test.YtoniipmgkoogbaaOpen
import Derived.WalkKit
import Derived.ProofKit
import Derived.OpenShut
import Derived.Test.YtoniipmgkoogbaaPg6
import Derived.Test.YtoniipmgkoogbaaClass
import Derived.Deep.CutRange
namespace Go.Proofs.Ytoniipmgkoogbaa.progLong
open Go.Joins Go.ChangeShapes Go.WideShapes Go.ChangeAt Go.RowKit Go.Deep
open Go.ChangeMaps (open_string)
set_option linter.unusedSimpArgs false
set_option linter.unusedVariables false

theorem dn_w (N : Nat) : Pg.wOp N ⟨5, ⟨#[]⟩, 0, 0, [], 0, 0⟩ = 0 := by rfl
theorem dn_map (k : Nat) : (List.replicate k (⟨⟨5, ⟨#[]⟩, 0, 0, [], 0, 0⟩, none, 0⟩ : Pg.Op × Option Addr × Nat)).map (·.1) = List.replicate k (⟨5, ⟨#[]⟩, 0, 0, [], 0, 0⟩ : Pg.Op) := by simp
theorem dn_short (k : Nat) (h : ¬ 200 < k) : Pg.wrong ⟨#[97]⟩ 9223372036854775807 0 (List.replicate k (⟨5, ⟨#[]⟩, 0, 0, [], 0, 0⟩ : Pg.Op)) = (0, 0) := by
  unfold Pg.wrong
  rw [if_neg (by decide +kernel), if_neg (by simp), if_neg (by decide), List.length_replicate, if_neg h, wOps_all k _ 0 (fun q o ho => by
    have := List.mem_of_getElem? ho
    rw [List.eq_of_mem_replicate this]
    exact dn_w k)]
  rfl
theorem dn_long (k : Nat) (h : 200 < k) : Pg.wrong ⟨#[97]⟩ 9223372036854775807 0 (List.replicate k (⟨5, ⟨#[]⟩, 0, 0, [], 0, 0⟩ : Pg.Op)) = (-1, 4) := by
  unfold Pg.wrong
  rw [if_neg (by decide +kernel), if_neg (by simp), if_neg (by decide), List.length_replicate, if_pos h]
theorem tmod_nat20 (y m : Nat) : (y : Int).tmod m = ((y % m : Nat) : Int) := by
  rw [Int.tmod_eq_emod_of_nonneg (by omega)]; rfl
theorem dn_next (k : Nat) : pcs (List.replicate k (⟨⟨5, ⟨#[]⟩, 0, 0, [], 0, 0⟩, none, 0⟩ : Pg.Op × Option Addr × Nat)) ++ [.int .i64 5, .string ⟨#[]⟩, .int .i64 0, .int .i64 0, .slice none 0 0, .int .i64 0, .int .i64 0] = pcs (List.replicate (k + 1) (⟨⟨5, ⟨#[]⟩, 0, 0, [], 0, 0⟩, none, 0⟩ : Pg.Op × Option Addr × Nat)) := by
  rw [List.replicate_succ', pcs_snoc]
  rfl
theorem dn_ol {w : World} {g c : Nat} {k : Nat} (h : Rn w g c 7 (pcs (List.replicate k (⟨⟨5, ⟨#[]⟩, 0, 0, [], 0, 0⟩, none, 0⟩ : Pg.Op × Option Addr × Nat))) 27) : OL w (some ⟨g, 0, none⟩) (List.replicate k (⟨5, ⟨#[]⟩, 0, 0, [], 0, 0⟩ : Pg.Op)) := by
  have := ol_of h (fun t ht => by
    rw [List.eq_of_mem_replicate ht]
    exact ⟨by decide, by unfold maxLen; simp, AL.nil _ _⟩)
  rwa [dn_map] at this
set_option maxRecDepth 20000 in
set_option maxHeartbeats 8000000 in

theorem walk (a0 : Int) (w : World) (w0 : (Lit.int .u8 a0).wf = true) :
    Calls Try.prog 3 #[.int .u8 a0] w fun e w' => e = .returned (.bool true) ∧ Below w.heap.size w w' := by
  obtain ⟨y, rfl, hy⟩ : ∃ y : Nat, a0 = (y : Int) ∧ y < 256 := by have := wf_u8 w0; exact ⟨a0.toNat, by omega, by omega⟩
  obtain ⟨yy, hyy⟩ : ∃ yy, y % 20 = yy := ⟨_, rfl⟩
  have y20 : yy < 20 := by omega
  obtain ⟨N, hN⟩ : ∃ N, 190 + yy = N := ⟨_, rfl⟩
  have y1 : (y : Int).tmod 20 = (yy : Int) := by rw [← hyy]; exact tmod_nat20 y 20
  have y2 : IntKind.u8.wrap (yy : Int) = (yy : Int) := by simp [IntKind.wrap, IntKind.signed, IntKind.bits]; omega
  have y3 : IntKind.i64.wrap (yy : Int) = (yy : Int) := IntWalk.i64_in _ (by omega)
  have y4 : (190 : Int) + (yy : Int) = (N : Int) := by omega
  have y5 : IntKind.i64.wrap (N : Int) = (N : Int) := IntWalk.i64_in _ (by omega)
  have hN1 : 190 ≤ N ∧ N ≤ 210 := by omega
  clear w0 hyy hN hy
  go_enter Try.func3, Try.ntmps3
  go_upto_region 2 with fail
  have H0 : Hid (Blk (w.alloc (.cells #[.string ⟨#[97]⟩, .int .i64 9223372036854775807, .int .i64 0, .slice none 0 0] 24)) w.heap.size [.string ⟨#[97]⟩, .int .i64 9223372036854775807, .int .i64 0, .slice none 0 0] 24 ∧ RM (w.alloc (.cells #[.string ⟨#[97]⟩, .int .i64 9223372036854775807, .int .i64 0, .slice none 0 0] 24)) (w.heap.size + 1) none 0 0 7 (pcs (List.replicate 0 (⟨⟨5, ⟨#[]⟩, 0, 0, [], 0, 0⟩, none, 0⟩ : Pg.Op × Option Addr × Nat))) 27 ∧ Below w.heap.size w (w.alloc (.cells #[.string ⟨#[97]⟩, .int .i64 9223372036854775807, .int .i64 0, .slice none 0 0] 24))) := Lib.hid ⟨Blk.newA _ _ _, RM.nil _ _ _ _ (by simp), (Below.refl _ _).alloc (Nat.le_refl _) _⟩
  revert H0
  generalize (w.alloc (.cells #[.string ⟨#[97]⟩, .int .i64 9223372036854775807, .int .i64 0, .slice none 0 0] 24)) = W0
  intro H0
  go_upto_region 3 with fail
  go_loopw [4] (fun i wr => ∃ (k : Nat) (r : Option Addr) (c : Nat), i = .int .i64 k ∧ k ≤ N ∧ Hid (Blk wr w.heap.size [.string ⟨#[97]⟩, .int .i64 9223372036854775807, .int .i64 0, .slice r k c] 24 ∧ RM wr (w.heap.size + 1) r k c 7 (pcs (List.replicate k (⟨⟨5, ⟨#[]⟩, 0, 0, [], 0, 0⟩, none, 0⟩ : Pg.Op × Option Addr × Nat))) 27 ∧ Below w.heap.size w wr)) (fun i _ => N - (intOf i).toNat)
  case atStart => exact ⟨0, none, 0, rfl, by omega, H0⟩
  case round =>
    clear H0
    obtain ⟨k, r, c, rfl, hk, HB⟩ := hrel
    have k0 : (0 : Int) ≤ (k : Int) := by omega
    by_cases hkN : k < N
    · have i1 : (k : Int) < (N : Int) := by omega
      have w1 : IntKind.i64.wrap ((k : Int) + 1) = (k : Int) + 1 := IntWalk.i64_in _ (by omega)
      have p3 := HB.out.1.cell (i := 3) rfl
      go_wp2_with (first
        | (at_builtin; refine wpList_append_rm _ rfl (.tmp 17) (.tmp 19) 22 22 rfl 27 (.agg #[.int .i64 0, .string ByteArray.empty, .int .i64 0, .int .i64 0, .slice none 0 0, .int .i64 0, .int .i64 0]) 7 80 Try.underlying22 infoOp rfl (w.heap.size + 1) r k c (pcs (List.replicate k (⟨⟨5, ⟨#[]⟩, 0, 0, [], 0, 0⟩, none, 0⟩ : Pg.Op × Option Addr × Nat))) rfl (HB.out.2.1.chg (l := []) ((Chg.refl _ _).alloc _) (by intro g _; simp)) _ rfl 1 (by omega) [.int .i64 5, .string ⟨#[]⟩, .int .i64 0, .int .i64 0, .slice none 0 0, .int .i64 0, .int .i64 0] (Src.ofSlice _ Try.underlying22 ⟨_, 0, none⟩ 1 1 [.int .i64 5, .string ⟨#[]⟩, .int .i64 0, .int .i64 0, .slice none 0 0, .int .i64 0, .int .i64 0] rfl (new_at _ _ _) (oc_one (⟨⟨5, ⟨#[]⟩, 0, 0, [], 0, 0⟩, none, 0⟩ : Pg.Op × Option Addr × Nat))) (by omega) (by omega) ?_; intro g4 c4 w4 r1 r2 r3; rw [dn_next] at r1; have HB4 : Hid (Blk w4 w.heap.size [.string ⟨#[97]⟩, .int .i64 9223372036854775807, .int .i64 0, .slice r k c] 24 ∧ RM w4 (w.heap.size + 1) (some ⟨g4, 0, none⟩) (k + 1) c4 7 (pcs (List.replicate (k + 1) (⟨⟨5, ⟨#[]⟩, 0, 0, [], 0, 0⟩, none, 0⟩ : Pg.Op × Option Addr × Nat))) 27 ∧ Below w.heap.size w w4) := Lib.hid (by have hs := HB.out.2.2.size; have hlt := HB.out.2.1.lt; exact ⟨(HB.out.1.alloc _).chg r3 (fun hm => by have := (hlt _ hm).1; omega), r1, r3.onto (HB.out.2.2.alloc hs _) (by simp; omega) (fun y hy => by have := (hlt y hy).1; omega)⟩); clear r1 r2 r3; have p3 := HB4.out.1.cell (i := 3) rfl; have f3 := HB4.out.1.free 3)
        | fail)
      have HC : Hid (Blk (w4.setCell ⟨w.heap.size, 3, none⟩ (.slice (some ⟨g4, 0, none⟩) (k + 1) c4)) w.heap.size [.string ⟨#[97]⟩, .int .i64 9223372036854775807, .int .i64 0, .slice (some ⟨g4, 0, none⟩) (k + 1) c4] 24 ∧ RM (w4.setCell ⟨w.heap.size, 3, none⟩ (.slice (some ⟨g4, 0, none⟩) (k + 1) c4)) (w.heap.size + 1) (some ⟨g4, 0, none⟩) (k + 1) c4 7 (pcs (List.replicate (k + 1) (⟨⟨5, ⟨#[]⟩, 0, 0, [], 0, 0⟩, none, 0⟩ : Pg.Op × Option Addr × Nat))) 27 ∧ Below w.heap.size w (w4.setCell ⟨w.heap.size, 3, none⟩ (.slice (some ⟨g4, 0, none⟩) (k + 1) c4))) := Lib.hid (by
        obtain ⟨q1, q2, q3⟩ := HB4.out
        have hlt := q2.lt
        have kk : Chg [w.heap.size] w4 (w4.setCell ⟨w.heap.size, 3, none⟩ (.slice (some ⟨g4, 0, none⟩) (k + 1) c4)) := (Chg.refl [w.heap.size] w4).set (Or.inl (by simp)) _ _
        exact ⟨q1.set 3 _, q2.chg kk (fun y hy => by have := (hlt y hy).1; simp; omega), kk.onto q3 q3.size (by simp)⟩)
      go_roundw
      case rel => exact ⟨k + 1, some ⟨g4, 0, none⟩, c4, by go_num, by omega, HC⟩
      case measure => simp [intOf]; omega
    · obtain rfl : k = N := by omega
      have i1 : ¬ (k : Int) < (k : Int) := by omega
      obtain ⟨g, rfl, hg, hr⟩ := HB.out.2.1.row (by omega)
      have p0 := HB.out.1.cell (i := 0) rfl
      have p1 := HB.out.1.cell (i := 1) rfl
      have p2 := HB.out.1.cell (i := 2) rfl
      have p3 := HB.out.1.cell (i := 3) rfl
      have HO := Lib.hid (dn_ol hr)
      clear hr
      by_cases h2 : 200 < k
      · have i2 : (200 : Int) < (k : Int) := by omega
        have HW := Lib.hid (dn_long k h2)
        go_wp2_with (first
          | (go_at_call 6; refine (pg_wrong ⟨#[97]⟩ 9223372036854775807 0 _ k c (List.replicate k (⟨5, ⟨#[]⟩, 0, 0, [], 0, 0⟩ : Pg.Op)) (by simp) (by unfold maxLen; omega) (by decide) _ _ HW.out _ HO.out).mono ?_; rintro q W1 ⟨rfl, hb1⟩; have HC := Lib.hid (And.intro (HB.out.1.below hb1 HB.out.1.lt) (HB.out.2.2.trans (hb1.mono HB.out.2.2.size))); clear hb1 p0 p1 p2 p3; have p3 := HC.out.1.cell (i := 3) rfl)
          | (go_at_call 7; refine (lives13 _).mono ?_; rintro q W2 ⟨rfl, hb1⟩; have HD := Lib.hid (HC.out.2.trans (hb1.mono HC.out.2.size)); clear hb1)
          | fail)
        go_ret
        exact ⟨rfl, HD.out⟩
      · have i2 : ¬ (200 : Int) < (k : Int) := by omega
        have HW := Lib.hid (dn_short k h2)
        go_wp2_with (first
          | (go_at_call 6; refine (pg_wrong ⟨#[97]⟩ 9223372036854775807 0 _ k c (List.replicate k (⟨5, ⟨#[]⟩, 0, 0, [], 0, 0⟩ : Pg.Op)) (by simp) (by unfold maxLen; omega) (by decide) _ _ HW.out _ HO.out).mono ?_; rintro q W1 ⟨rfl, hb1⟩; have HC := Lib.hid (And.intro (HB.out.1.below hb1 HB.out.1.lt) (HB.out.2.2.trans (hb1.mono HB.out.2.2.size))); clear hb1 p0 p1 p2 p3; have p3 := HC.out.1.cell (i := 3) rfl)
          | (go_at_call 7; refine (lives13 _).mono ?_; rintro q W2 ⟨rfl, hb1⟩; have HD := Lib.hid (HC.out.2.trans (hb1.mono HC.out.2.size)); clear hb1)
          | fail)
        go_ret
        exact ⟨rfl, HD.out⟩

set_option maxRecDepth 100000 in
theorem lifted (os : Os) (started : os.Started) (H : Type) (enc : TypeId × Value → H) :
    ReturnsInHanded {} Try.checked os 3 .any (Rows.progLongSpec.pre6 enc Try.prog Try.f3 Rows.progLongRow.domain false) (Rows.progLongSpec.post enc Try.prog Try.f3 false true false false) := by
  refine returnsInHanded_of_change (C := Try.checked) ownKn started (by kernel_rfl) Try.func3
    (ChangeSpec.witness6 (enc := enc) (C := Try.checked) false ⟨#[], #[.int .u8 0], []⟩ 8 (by kernel_rfl) (by kernel_rfl) (by kernel_rfl) (by kernel_rfl)) ?_
  intro W base args ds gs before hval0 hW hcnd _
  have hval : ∀ (j : Nat) t v, Try.f3.params[j]? = some t → args[j]? = some v → Value.okWide Try.prog W .any base t v := hval0
  have hW' := hW
  obtain ⟨p, q, hA0, hV, rfl, hfz, hnd⟩ := hW
  have hA : DataW.TrodAll enc Try.prog W 0 (fun _ => true) true Try.f3.params.toList args.toList ds p := hA0
  rw [Try.params3] at hA hval
  obtain ⟨v0, vs0, d0, ds0, p0, q0, hargs, rfl, rfl, h0, r0⟩ := trodAll_cons hA
  obtain ⟨rfl, rfl, rfl⟩ := trodAll_nil r0
  obtain rfl : args = #[v0] := by cases args; simp_all
  obtain ⟨rfl, rfl⟩ := trodVars_none hV
  have k0 := h0
  have lt0 : ∀ x ∈ p0, x.block < W.heap.size := by obtain ⟨m, hm⟩ := k0; exact DataW.trod_lt m _ _ _ hm
  obtain ⟨a0, rfl, rfl, rfl, w0⟩ := open_int Try.underlying5 (hval 0 5 v0 rfl rfl) h0
  clear hA0 hval0
  refine (walk a0 W w0).mono fun e W' ⟨he, bel⟩ => ?_
  subst he
  exact ⟨_, rfl, _, _, _, [], _, [], hW', trodAll_mk1 (shut_bool Try.underlying4 _), (trodAll_cons_mk (Below.trod laidOut (by kernel_rfl) (of_decide_eq_true (by kernel_rfl)) k0 bel lt0) trodAll_mk0), rfl, bel.frame _, fun h => by cases h⟩

theorem over : Rows.progLongRow.holds Try.pinned (OpenSpec.ofChange Rows.progLongSpec) :=
  OpenClaim.holds_of_wide 3 Try.f3 rfl rfl rfl rfl rfl rfl rfl ⟨rfl, rfl, rfl, rfl, rfl⟩ rfl rfl rfl rfl rfl (by kernel_rfl) Try.func3 (by kernel_rfl)
    (of_decide_eq_true (by kernel_rfl)) (by unfold Func.isWrapper; first | (rw [if_pos (by decide +kernel)]; kernel_rfl) | (rw [if_neg (by decide +kernel)]; exact ⟨rfl, rfl⟩))
    (fun os started H enc _ => lifted os started H enc)

/-- The statement. -/
theorem proved : Rows.ProgLongSaid := over
#print axioms proved
end Go.Proofs.Ytoniipmgkoogbaa.progLong
