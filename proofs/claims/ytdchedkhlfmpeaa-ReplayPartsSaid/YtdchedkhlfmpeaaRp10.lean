/- Replay: Rounds of the four events. -/
import Derived.Test.YtdchedkhlfmpeaaRp9
import Derived.WideMake
import Derived.LoopN
import Derived.WalkKit
import Derived.ProofKit
import Derived.Handy
import Derived.WalkLawsBesides
import Derived.WalkSpells
import Derived.Lib.Hide
import Derived.Lib.SliceRun
import Derived.Deep.RegionLaw
import Derived.RegionTactic
import Derived.ChangeAlike
import Derived.WalkSmall
import Derived.Deep.QuietTactic
import Derived.BigQuiet
import Derived.OwnWalk
import Derived.Outline
import Derived.Deep.CutRange
import Derived.Deep.CutBlock
import Derived.LoopTactic
namespace Go.Proofs.Ytdchedkhlfmpeaa
open Go.ChangeShapes Go.WideShapes Go.ChangeAt Go.RowKit
set_option linter.unusedSimpArgs false
set_option linter.unusedVariables false

set_option maxRecDepth 20000 in
set_option maxHeartbeats 16000000 in
theorem rp_rounds (a : Option Addr) (cap : Nat) (w : World) (HE : EL w a [rp1, rp2, rp3, rp4]) :
    Calls Try.prog 56 #[.slice a 4 cap] w fun r w' => ∃ gr kr g kk gA kA gB kB, r = .returned (.slice (some ⟨gr, 0, none⟩) 2 kr) ∧ RM w' w.heap.size (some ⟨gr, 0, none⟩) 2 kr 6 [.int .i64 3, .slice (some ⟨g, 0, none⟩) 1 kk, .slice none 0 0, .slice none 0 0, .int .i64 0, .bool false, .int .i64 2, .slice none 0 0, .slice (some ⟨gA, 0, none⟩) 1 kA, .slice (some ⟨gB, 0, none⟩) 1 kB, .int .i64 0, .bool false] 92 ∧ RM w' w.heap.size (some ⟨gA, 0, none⟩) 1 kA 3 [.int .i64 0, .string ⟨#[111, 107]⟩, .bool false] 94 ∧ RM w' w.heap.size (some ⟨gB, 0, none⟩) 1 kB 4 [.int .i64 0, .bool true, .bool false, .int .i64 0] 96 ∧ Below w.heap.size w w' := by
  obtain ⟨mb, hmb⟩ : ∃ mb, w.heap.size = mb := ⟨_, rfl⟩
  have H1 : Hid (MpB ((w.alloc (.map #[] 0)).alloc (.cells #[.int .i64 0, .map (some mb)] 120)) mb [] 0 ∧ Blk ((w.alloc (.map #[] 0)).alloc (.cells #[.int .i64 0, .map (some mb)] 120)) (mb + 1) [.int .i64 0, .map (some mb)] 120 ∧ EL ((w.alloc (.map #[] 0)).alloc (.cells #[.int .i64 0, .map (some mb)] 120)) a [rp1, rp2, rp3, rp4] ∧ Below mb w ((w.alloc (.map #[] 0)).alloc (.cells #[.int .i64 0, .map (some mb)] 120)) ∧ mb + 1 < ((w.alloc (.map #[] 0)).alloc (.cells #[.int .i64 0, .map (some mb)] 120)).heap.size) := Lib.hid (by
    have b1 := MpB.new w
    have b2 := Blk.newA (w.alloc (.map #[] 0)) #[.int .i64 0, .map (some mb)] 120
    rw [World.size_alloc] at b2
    rw [hmb] at b1 b2
    have kk : Chg [] w ((w.alloc (.map #[] 0)).alloc (.cells #[.int .i64 0, .map (some mb)] 120)) := ((Chg.refl [] w).alloc _).alloc _
    have bl : Below w.heap.size w ((w.alloc (.map #[] 0)).alloc (.cells #[.int .i64 0, .map (some mb)] 120)) := ((Below.refl _ _).alloc (Nat.le_refl _) _).alloc (by simp) _
    rw [hmb] at bl
    exact ⟨b1.chg (l := []) ((Chg.refl [] _).alloc _) (by simp), b2, HE.chg kk (by simp), bl, by simp; omega⟩)
  clear HE
  have hmk : (Instr.makeMap 118 none).run Try.prog w = .ok (.map (some w.heap.size)) (w.alloc (.map #[] 0)) := run_makeMap_plain w _
  go_enter Try.func56, Try.ntmps56
  go_upto_region 2 with fail
  revert H1
  generalize ((w.alloc (.map #[] 0)).alloc (.cells #[.int .i64 0, .map (some mb)] 120)) = W1
  intro H1
  go_upto_region 4 with (go_at_call 15; (refine (pj_rounds a 4 cap [rp1, rp2, rp3, rp4] rfl (by omega) [[rp1, rp2], [rp3, rp4]] chk_rp 2 rfl _ H1.out.2.2.1).mono ?_); rintro r W2 ⟨rr, cr, rfl, p1, bb⟩; have H2 : Hid (MpB W2 mb [] 0 ∧ Blk W2 (mb + 1) [.int .i64 0, .map (some mb)] 120 ∧ RR W2 W1.heap.size rr 2 cr [[rp1, rp2], [rp3, rp4]] ∧ Below mb w W2 ∧ W1.heap.size ≤ W2.heap.size) := Lib.hid ⟨H1.out.1.chg (l := []) (Chg.of_fresh bb) (by simp), H1.out.2.1.chg (l := []) (Chg.of_fresh bb) (by simp), p1, H1.out.2.2.2.1.trans (bb.mono (by have := H1.out.2.2.2.2; omega)), bb.size⟩; clear bb p1)
  obtain ⟨gr, qa, ca, qb, cb, rfl, u1, u2, u3, u4, u5, u6⟩ := H2.out.2.2.1.two rfl rfl
  have hs1 := H1.out.2.2.2.2
  obtain ⟨B1, hB1⟩ : ∃ B1, W1.heap.size = B1 := ⟨_, rfl⟩
  rw [hB1] at u4 u5 u6 hs1
  obtain ⟨M, hM⟩ : ∃ M, mb + 1 = M := ⟨_, rfl⟩
  have hle := H2.out.2.2.2.2
  rw [hB1] at hle
  have hca : 2 ≤ ca := by have := u2.len; rw [evs_len] at this; simp at this; omega
  have hcb : 2 ≤ cb := by have := u3.len; rw [evs_len] at this; simp at this; omega
  have hcr : 2 ≤ cr := by have := u1.len; simp at this; omega
  have hqa := u2.lt
  have hqb := u3.lt
  have HS : Hid (S2T W2 gr cr qa ca qb cb ∧ MpB W2 mb [] 0 ∧ Blk W2 M [.int .i64 0, .map (some mb)] 120 ∧ Below mb w W2) := Lib.hid ⟨⟨u1, u2, u3⟩, H2.out.1, hM ▸ H2.out.2.1, H2.out.2.2.2.1⟩
  have HQ : Hid (B1 ≤ W2.heap.size ∧ qa < W2.heap.size ∧ qb < W2.heap.size) := Lib.hid ⟨hle, hqa, hqb⟩
  clear H1 H2 u1 u2 u3 hle hqa hqb hB1
  have c0 := HS.out.1.1.cell (j := 0) rfl
  have l0 : Tk.left 3 0 = 3 := by decide
  have l1 : Tk.left 5 3 = 2 := by decide
  go_wp2_with fail
  refine wp_loop_rounds 3 ?_
  rw [rounds_succ]
  go_wp2_with (first
    | (go_at_call 72; (refine (rp_roundA (some ⟨qa, 0, none⟩) ca M mb 0 _ 0 3 0 0 3 ⟨#[]⟩ 0 0 0 0 0 0 0 0 0 0 ⟨#[]⟩ 0 0 0 0 0 0 0 (by omega) (by omega) l0 W2 rfl hca (EL.of_rn HS.out.1.2.1 (fun x hx => rp_ok x (by simp only [List.mem_cons, List.not_mem_nil, or_false] at hx ⊢; rcases hx with h | h <;> first | exact Or.inl h | exact Or.inr (Or.inl h) | exact Or.inr (Or.inr (Or.inl h)) | exact Or.inr (Or.inr (Or.inr h))))) HS.out.2.2.1 HS.out.2.1 (by have := HQ.out; omega) (by omega) (fun g hg => by simp [rvB] at hg; subst hg; have := HQ.out; omega)).mono ?_); rintro r W3 ⟨g, kk, rfl, v1, v2, v3⟩; have HT : Hid (S2T W3 gr cr qa ca qb cb ∧ Blk W3 M [.int .i64 3, .map (some mb)] 120 ∧ Below mb w W3) := Lib.hid ⟨HS.out.1.chg v3 (by simp; omega) (by simp; omega) (by simp; omega), v2, Chg.onto HS.out.2.2.2 v3 (by have := HS.out.2.2.2.size; omega) (by intro x hx; simp at hx; omega)⟩; have hz3 : B1 ≤ W3.heap.size := Nat.le_trans HQ.out.1 v3.size; have hmw : mb ≤ W3.heap.size := (by omega); clear v1 v2 v3 HS c0)
    | (at_builtin; refine wpList_append_rm _ rfl (.tmp 17) (.tmp 21) 87 87 rfl 92 (.agg #[.int .i64 0, .slice none 0 0, .slice none 0 0, .slice none 0 0, .int .i64 0, .bool false]) 6 96 Try.underlying87 infoRd rfl w.heap.size none 0 0 [] rfl (RM.nil _ _ _ _ (by simp; omega)) _ rfl 1 (by omega) [.int .i64 3, .slice (some ⟨g, 0, none⟩) 1 kk, .slice none 0 0, .slice none 0 0, .int .i64 0, .bool false] (Src.ofSlice _ Try.underlying87 ⟨_, 0, none⟩ 1 1 [.int .i64 3, .slice (some ⟨g, 0, none⟩) 1 kk, .slice none 0 0, .slice none 0 0, .int .i64 0, .bool false] rfl (new_atE _ _ _) (rd_one _ _ _ _ _ _ _ _ _ _ _ _)) (by omega) (by omega) ?_; intro g1 k1 w4 q1 q2 q3; have ka : Chg [] W3 w4 := ((Chg.refl [] W3).alloc _).trans q3 (by simp [rvB]); have hg1 : W3.heap.size < g1 := (by rcases q2 with q | q; (simp [rvB] at q); (simp at q; omega)); have HU : Hid (S2T w4 gr cr qa ca qb cb ∧ Blk w4 M [.int .i64 3, .map (some mb)] 120 ∧ RM w4 w.heap.size (some ⟨g1, 0, none⟩) 1 k1 6 [.int .i64 3, .slice (some ⟨g, 0, none⟩) 1 kk, .slice none 0 0, .slice none 0 0, .int .i64 0, .bool false] 92 ∧ Below mb w w4) := Lib.hid ⟨HT.out.1.chg ka (by simp) (by simp) (by simp), HT.out.2.1.chg ka (by simp), q1, Chg.onto HT.out.2.2 ka (by have := HT.out.2.2.size; omega) (by simp)⟩; have HV : Hid (B1 < g1 ∧ B1 ≤ w4.heap.size ∧ w.heap.size ≤ w4.heap.size ∧ qb < w4.heap.size ∧ qa < w4.heap.size) := Lib.hid (by have := HU.out.1.2.2.lt; have := HU.out.1.2.1.lt; have := ka.size; omega); clear q1 q2 q3 ka HT hg1 HQ hz3 hmw))
  have c1 := HU.out.1.1.cell (j := 1) rfl
  rw [rounds_succ]
  go_wp2_with (first
    | (go_at_call 72; (refine (rp_roundB (some ⟨qb, 0, none⟩) cb M mb 0 _ 3 2 0 0 5 ⟨#[]⟩ 0 0 0 0 0 0 0 0 2 0 ⟨#[111, 107]⟩ 0 0 0 0 0 0 0 (by omega) (by omega) l1 w4 rfl hcb (EL.of_rn HU.out.1.2.2 (fun x hx => rp_ok x (by simp only [List.mem_cons, List.not_mem_nil, or_false] at hx ⊢; rcases hx with h | h <;> first | exact Or.inl h | exact Or.inr (Or.inl h) | exact Or.inr (Or.inr (Or.inl h)) | exact Or.inr (Or.inr (Or.inr h))))) HU.out.2.1 trivial (by have := HV.out; omega) (by omega) (fun g hg => by simp [rvB] at hg; subst hg; have := HV.out; omega)).mono ?_); rintro r W5 ⟨gA, kA, gB, kB, rfl, v1, v0, v2, v3⟩; have HW : Hid (RM W5 w.heap.size (some ⟨g1, 0, none⟩) 1 k1 6 [.int .i64 3, .slice (some ⟨g, 0, none⟩) 1 kk, .slice none 0 0, .slice none 0 0, .int .i64 0, .bool false] 92 ∧ RM W5 w.heap.size (some ⟨gA, 0, none⟩) 1 kA 3 [.int .i64 0, .string ⟨#[111, 107]⟩, .bool false] 94 ∧ RM W5 w.heap.size (some ⟨gB, 0, none⟩) 1 kB 4 [.int .i64 0, .bool true, .bool false, .int .i64 0] 96 ∧ Below mb w W5) := Lib.hid ⟨HU.out.2.2.1.chg v3 (by intro y hy; simp [rvB] at hy; subst hy; simp; have := HV.out; omega), v1.base_le (by have := HV.out; omega), v0.base_le (by have := HV.out; omega), Chg.onto HU.out.2.2.2 v3 (by have := HU.out.2.2.2.size; omega) (by intro x hx; simp at hx; omega)⟩; clear v1 v0 v2 v3 HU c1)
    | (at_builtin; refine wpList_append_rm _ rfl (.tmp 17) (.tmp 21) 87 87 rfl 92 (.agg #[.int .i64 0, .slice none 0 0, .slice none 0 0, .slice none 0 0, .int .i64 0, .bool false]) 6 96 Try.underlying87 infoRd rfl w.heap.size (some ⟨g1, 0, none⟩) 1 k1 [.int .i64 3, .slice (some ⟨g, 0, none⟩) 1 kk, .slice none 0 0, .slice none 0 0, .int .i64 0, .bool false] rfl (HW.out.1.chg (l := []) ((Chg.refl [] W5).alloc _) (by simp)) _ rfl 1 (by omega) [.int .i64 2, .slice none 0 0, .slice (some ⟨gA, 0, none⟩) 1 kA, .slice (some ⟨gB, 0, none⟩) 1 kB, .int .i64 0, .bool false] (Src.ofSlice _ Try.underlying87 ⟨_, 0, none⟩ 1 1 [.int .i64 2, .slice none 0 0, .slice (some ⟨gA, 0, none⟩) 1 kA, .slice (some ⟨gB, 0, none⟩) 1 kB, .int .i64 0, .bool false] rfl (new_atE _ _ _) (rd_one _ _ _ _ _ _ _ _ _ _ _ _)) (by omega) (by omega) ?_; intro g2 k2 w6 q1 q2 q3; have ka : Chg [] W5 (W5.alloc (.cells #[.int .i64 2, .slice none 0 0, .slice (some ⟨gA, 0, none⟩) 1 kA, .slice (some ⟨gB, 0, none⟩) 1 kB, .int .i64 0, .bool false] 92)) := (Chg.refl [] W5).alloc _; have HY : Hid (RM w6 w.heap.size (some ⟨g2, 0, none⟩) 2 k2 6 [.int .i64 3, .slice (some ⟨g, 0, none⟩) 1 kk, .slice none 0 0, .slice none 0 0, .int .i64 0, .bool false, .int .i64 2, .slice none 0 0, .slice (some ⟨gA, 0, none⟩) 1 kA, .slice (some ⟨gB, 0, none⟩) 1 kB, .int .i64 0, .bool false] 92 ∧ RM w6 w.heap.size (some ⟨gA, 0, none⟩) 1 kA 3 [.int .i64 0, .string ⟨#[111, 107]⟩, .bool false] 94 ∧ RM w6 w.heap.size (some ⟨gB, 0, none⟩) 1 kB 4 [.int .i64 0, .bool true, .bool false, .int .i64 0] 96 ∧ Below w.heap.size w w6) := Lib.hid ⟨q1, (HW.out.2.1.chg ka (by simp)).chg q3 (rm_ne HW.out.2.1 HW.out.1 (by decide)), (HW.out.2.2.1.chg ka (by simp)).chg q3 (rm_ne HW.out.2.2.1 HW.out.1 (by decide)), by
  have b5 : Below mb w (W5.alloc (.cells #[.int .i64 2, .slice none 0 0, .slice (some ⟨gA, 0, none⟩) 1 kA, .slice (some ⟨gB, 0, none⟩) 1 kB, .int .i64 0, .bool false] 92)) := Chg.onto HW.out.2.2.2 ka (by have := HW.out.2.2.2.size; omega) (by simp)
  rw [hmb]
  exact Chg.onto b5 q3 (by have := b5.size; omega) (fun y hy => by have := (HW.out.1.lt y hy).1; omega)⟩; clear q1 q2 q3 ka HW))
  rw [rounds_succ]
  go_wp2_with fail
  go_ret
  exact ⟨g2, k2, g, kk, gA, kA, gB, kB, rfl, HY.out⟩
end Go.Proofs.Ytdchedkhlfmpeaa
