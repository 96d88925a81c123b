/- Events: the rounds held against the list, one region of the law. -/
import Derived.Test.YtdchedkhlfmpeaaEv18
import Derived.Test.YtdchedkhlfmpeaaQv
import Derived.WalkKit
import Derived.ProofKit
import Derived.Handy
import Derived.WalkLawsBesides
import Derived.WalkSpells
import Derived.Lib.Hide
import Derived.Lib.SliceRun
import Derived.Deep.RegionLaw
import Derived.RegionTactic
import Derived.ChangeAlike
import Derived.WalkSmall
import Derived.Deep.QuietTactic
import Derived.BigQuiet
import Derived.OwnWalk
import Derived.Outline
import Derived.Deep.CutRange
import Derived.Deep.CutBlock
import Derived.LoopTactic
namespace Go.Proofs.Ytdchedkhlfmpeaa
open Go.ChangeShapes Go.WideShapes Go.ChangeAt Go.RowKit
set_option linter.unusedSimpArgs false
set_option linter.unusedVariables false

/-- A region of the law ProjTells. -/
def findC (n : Nat) : Code → Option Code
  | .region i ops b => if i = n then some (.region i ops b) else none
  | .seq a b => match findC n a with
    | some x => some x
    | none => findC n b
  | .cond _ a b => match findC n a with
    | some x => some x
    | none => findC n b
  | .block _ c => findC n c
  | .loop c => findC n c
  | .scope c => findC n c
  | _ => none
noncomputable def regT (n : Nat) : Code := ((Try.f3).body.bind (findC n)).getD .skip
set_option maxRecDepth 20000 in
set_option maxHeartbeats 16000000 in
theorem pt_reg12 (wr W : World) (q0 : Option Addr) (dn q2 gl cl m nr cr g gk ok2 ck q j p : Nat) (t : Int) (hj : j < nr) (hd0 : 0 < dn) (hp : q + dn = p) (hpm : p ≤ m) (hqm : q < m) (hmc : m ≤ cl) (hbig : m ≤ 1000000) (hnr : nr ≤ 1000000) (N : Nat)
    (HF : Hid (∀ wq, Below wr.heap.size wr wq → wq.cell? ⟨g, j, none⟩ = some (.slice q0 dn q2) ∧ wq.cell? ⟨gk, ok2 + j, none⟩ = some (.int .i64 t) ∧ wq.cell? ⟨gl, q * 12 + 3, none⟩ = some (.int .i64 t)))
    (HS : Hid (∀ wq, Below wr.heap.size wr wq → Calls Try.prog 17 #[.slice q0 dn q2, .slice (some ⟨gl, q * 12, none⟩) dn (cl - q)] wq fun e w' => e = .returned (.bool true) ∧ Below wq.heap.size wq w'))
    (hW : Below wr.heap.size wr W) (Q : Exit → Act → World → Prop) (a : Act) (hn : a.tmps.size = 165) (hK : Knows [(0, .slice (some ⟨gl, 0, none⟩) m cl), (9, .slice (some ⟨g, 0, none⟩) nr cr), (10, .slice (some ⟨gk, ok2, none⟩) nr ck), (11, .int .i64 (q : Int)), (13, .int .i64 (j : Int))] a)
    (hend : ∀ w', Below wr.heap.size wr w' → Q .normal (putsL [some 71, some 72, some 73, some 74, some 75, some 76, some 77, some 78, some 79, some 80, some 81, some 82, some 83, some 84, some 85, some 86, some 87, some 88, some 89, some 90, some 91, some 92, some 93, some 94, some 95, some 96, some 97, some 98, some 99, some 100, some 101, some 102, some 103, some 104, some 105, some 106, some 107, some 108, some 109, some 110, some 111, some 112, some 113, some 114, some 115, some 116, some 117, some 118, some 119, some 120, some 121, some 122, some 123, some 124] [some (.slice (some ⟨g, 0, none⟩) nr cr), some (.int .i64 (j : Int)), some (.pointer (some ⟨g, j, none⟩)), some (.slice q0 dn q2), some (.int .i64 (dn : Int)), some (.bool false), some (.bool false), some (.int .i64 (q : Int)), some (.slice (some ⟨g, 0, none⟩) nr cr), some (.int .i64 (j : Int)), some (.pointer (some ⟨g, j, none⟩)), some (.slice q0 dn q2), some (.int .i64 (dn : Int)), some (.int .i64 (p : Int)), some (.slice (some ⟨gl, 0, none⟩) m cl), some (.int .i64 (m : Int)), some (.bool false), some (.bool false), some (.bool false), some (.int .i64 (j : Int)), some (.slice (some ⟨gk, ok2, none⟩) nr ck), some (.int .i64 (nr : Int)), some (.bool false), some (.bool false), some (.bool false), some (.slice (some ⟨g, 0, none⟩) nr cr), some (.int .i64 (j : Int)), some (.pointer (some ⟨g, j, none⟩)), some (.slice q0 dn q2), some (.slice (some ⟨gl, 0, none⟩) m cl), some (.int .i64 (q : Int)), some (.int .i64 (q : Int)), some (.slice (some ⟨g, 0, none⟩) nr cr), some (.int .i64 (j : Int)), some (.pointer (some ⟨g, j, none⟩)), some (.slice q0 dn q2), some (.int .i64 (dn : Int)), some (.int .i64 (p : Int)), some (.slice (some ⟨gl, q * 12, none⟩) dn (cl - q)), some (.bool true), some (.bool false), some (.bool false), some (.bool false), some (.slice (some ⟨gk, ok2, none⟩) nr ck), some (.int .i64 (j : Int)), some (.pointer (some ⟨gk, ok2 + j, none⟩)), some (.int .i64 t), some (.slice (some ⟨gl, 0, none⟩) m cl), some (.int .i64 (q : Int)), some (.pointer (some ⟨gl, q * 12, none⟩)), some (.pointer (some ⟨gl, q * 12 + 3, none⟩)), some (.int .i64 t), some (.bool false), some (.bool false)] a) w') : Code.wp Try.prog (regT 12) Q a W := by
  conv => arg 2; whnf
  have i1 : (j : Int) < (nr : Int) := by omega
  have j0 : (0 : Int) ≤ (j : Int) := by omega
  have q0' : (0 : Int) ≤ (q : Int) := by omega
  have i2 : ¬ (dn : Int) = 0 := by omega
  have i3 : ¬ dn = 0 := by omega
  have w2 : IntKind.i64.wrap ((q : Int) + (dn : Int)) = (p : Int) := by rw [IntWalk.i64_in _ (by omega)]; omega
  have i4 : ¬ (m : Int) < (p : Int) := by omega
  have i5 : ¬ (nr : Int) ≤ (j : Int) := by omega
  have i6 : (q : Int) ≤ (p : Int) := by omega
  have i7 : (p : Int) ≤ (cl : Int) := by omega
  have i8 : (q : Int) < (m : Int) := by omega
  have i9 : q ≤ p := by omega
  have i10 : p ≤ cl := by omega
  have hpq : p - q = dn := by omega
  have b1 : ((dn : Int) == 0) = false := by simp; omega
  have b2 : (dn == 0) = false := by simp; omega
  have b3 : decide ((m : Int) < (p : Int)) = false := by simp; omega
  have b4 : decide ((nr : Int) ≤ (j : Int)) = false := by simp; omega
  have b5 : (t != t) = false := by simp
  clear hp
  refine wp_region_vals (fun w' => Below wr.heap.size wr w') _ _ _ _ ?_ ?_ ?_ hW.drew hn hK ?_ ?_ hend
  · kernel_rfl
  · kernel_rfl
  · kernel_rfl
  · kernel_rfl
  refine ⟨fun a w hK hw => ?_, ?_⟩
  · have x9 := hK.get 1 rfl
    have m9 := knows_tmp x9
    unfold Oper.quietAt
    simp only [execOp, x9]
    go_simp
    all_goals first | exact ⟨rfl, rfl⟩ | exact rfl | (intro h; exfalso; omega)
  refine ⟨fun a w hK hw => ?_, ?_⟩
  · have x13 := hK.get 5 rfl
    have m13 := knows_tmp x13
    unfold Oper.quietAt
    simp only [execOp, x13]
    go_simp
    all_goals first | exact ⟨rfl, rfl⟩ | exact rfl | (intro h; exfalso; omega)
  refine ⟨fun a w hK hw => ?_, ?_⟩
  · have x71 := hK.get 1 rfl
    have m71 := knows_tmp x71
    have x72 := hK.get 0 rfl
    have m72 := knows_tmp x72
    unfold Oper.quietAt
    simp only [execOp, x71, x72]
    go_simp
    all_goals first | exact ⟨rfl, rfl⟩ | exact rfl | (intro h; exfalso; omega)
  refine ⟨fun a w hK hw => ?_, ?_⟩
  · have x73 := hK.get 0 rfl
    have m73 := knows_tmp x73
    obtain ⟨y1, y2, y3⟩ := HF.out w hw
    unfold Oper.quietAt
    simp only [execOp, x73]
    go_simp
    all_goals first | exact ⟨rfl, rfl⟩ | exact rfl | (intro h; exfalso; omega)
  refine ⟨fun a w hK hw => ?_, ?_⟩
  · have x74 := hK.get 0 rfl
    have m74 := knows_tmp x74
    unfold Oper.quietAt
    simp only [execOp, x74]
    go_simp
    all_goals first | exact ⟨rfl, rfl⟩ | exact rfl | (intro h; exfalso; omega)
  refine ⟨fun a w hK hw => ?_, ?_⟩
  · have x75 := hK.get 0 rfl
    have m75 := knows_tmp x75
    unfold Oper.quietAt
    simp only [execOp, x75]
    go_simp
    all_goals first | exact ⟨rfl, rfl⟩ | exact rfl | (intro h; exfalso; omega)
  refine ⟨fun a w hK hw => ?_, ?_⟩
  · have x76 := hK.get 0 rfl
    have m76 := knows_tmp x76
    unfold Oper.quietAt
    simp only [execOp, x76]
    go_simp
    all_goals first | exact ⟨rfl, rfl⟩ | exact rfl | (intro h; exfalso; omega)
  refine ⟨fun a w hK hw => ?_, ?_⟩
  · have x11 := hK.get 10 rfl
    have m11 := knows_tmp x11
    unfold Oper.quietAt
    simp only [execOp, x11]
    go_simp
    all_goals first | exact ⟨rfl, rfl⟩ | exact rfl | (intro h; exfalso; omega)
  refine ⟨fun a w hK hw => ?_, ?_⟩
  · have x9 := hK.get 9 rfl
    have m9 := knows_tmp x9
    unfold Oper.quietAt
    simp only [execOp, x9]
    go_simp
    all_goals first | exact ⟨rfl, rfl⟩ | exact rfl | (intro h; exfalso; omega)
  refine ⟨fun a w hK hw => ?_, ?_⟩
  · have x13 := hK.get 13 rfl
    have m13 := knows_tmp x13
    unfold Oper.quietAt
    simp only [execOp, x13]
    go_simp
    all_goals first | exact ⟨rfl, rfl⟩ | exact rfl | (intro h; exfalso; omega)
  refine ⟨fun a w hK hw => ?_, ?_⟩
  · have x79 := hK.get 1 rfl
    have m79 := knows_tmp x79
    have x80 := hK.get 0 rfl
    have m80 := knows_tmp x80
    unfold Oper.quietAt
    simp only [execOp, x79, x80]
    go_simp
    all_goals first | exact ⟨rfl, rfl⟩ | exact rfl | (intro h; exfalso; omega)
  refine ⟨fun a w hK hw => ?_, ?_⟩
  · have x81 := hK.get 0 rfl
    have m81 := knows_tmp x81
    obtain ⟨y1, y2, y3⟩ := HF.out w hw
    unfold Oper.quietAt
    simp only [execOp, x81]
    go_simp
    all_goals first | exact ⟨rfl, rfl⟩ | exact rfl | (intro h; exfalso; omega)
  refine ⟨fun a w hK hw => ?_, ?_⟩
  · have x82 := hK.get 0 rfl
    have m82 := knows_tmp x82
    unfold Oper.quietAt
    simp only [execOp, x82]
    go_simp
    all_goals first | exact ⟨rfl, rfl⟩ | exact rfl | (intro h; exfalso; omega)
  refine ⟨fun a w hK hw => ?_, ?_⟩
  · have x78 := hK.get 5 rfl
    have m78 := knows_tmp x78
    have x83 := hK.get 0 rfl
    have m83 := knows_tmp x83
    unfold Oper.quietAt
    simp only [execOp, x78, x83]
    go_simp
    all_goals first | exact ⟨rfl, rfl⟩ | exact rfl | (intro h; exfalso; omega)
  refine ⟨fun a w hK hw => ?_, ?_⟩
  · have x0 := hK.get 14 rfl
    have m0 := knows_tmp x0
    unfold Oper.quietAt
    simp only [execOp, x0]
    go_simp
    all_goals first | exact ⟨rfl, rfl⟩ | exact rfl | (intro h; exfalso; omega)
  refine ⟨fun a w hK hw => ?_, ?_⟩
  · have x85 := hK.get 0 rfl
    have m85 := knows_tmp x85
    unfold Oper.quietAt
    simp only [execOp, x85]
    go_simp
    all_goals first | exact ⟨rfl, rfl⟩ | exact rfl | (intro h; exfalso; omega)
  refine ⟨fun a w hK hw => ?_, ?_⟩
  · have x84 := hK.get 2 rfl
    have m84 := knows_tmp x84
    have x86 := hK.get 0 rfl
    have m86 := knows_tmp x86
    unfold Oper.quietAt
    simp only [execOp, x84, x86]
    go_simp
    all_goals first | exact ⟨rfl, rfl⟩ | exact rfl | (intro h; exfalso; omega)
  refine ⟨fun a w hK hw => ?_, ?_⟩
  · have x77 := hK.get 10 rfl
    have m77 := knows_tmp x77
    have x87 := hK.get 0 rfl
    have m87 := knows_tmp x87
    unfold Oper.quietAt
    simp only [execOp, x77, x87]
    go_simp
    all_goals first | exact ⟨rfl, rfl⟩ | exact rfl | (intro h; exfalso; omega)
  refine ⟨fun a w hK hw => ?_, ?_⟩
  · have x88 := hK.get 0 rfl
    have m88 := knows_tmp x88
    unfold Oper.quietAt
    simp only [execOp, x88]
    go_simp
    all_goals first | exact ⟨rfl, rfl⟩ | exact rfl | (intro h; exfalso; omega)
  refine ⟨fun a w hK hw => ?_, ?_⟩
  · have x13 := hK.get 23 rfl
    have m13 := knows_tmp x13
    unfold Oper.quietAt
    simp only [execOp, x13]
    go_simp
    all_goals first | exact ⟨rfl, rfl⟩ | exact rfl | (intro h; exfalso; omega)
  refine ⟨fun a w hK hw => ?_, ?_⟩
  · have x10 := hK.get 22 rfl
    have m10 := knows_tmp x10
    unfold Oper.quietAt
    simp only [execOp, x10]
    go_simp
    all_goals first | exact ⟨rfl, rfl⟩ | exact rfl | (intro h; exfalso; omega)
  refine ⟨fun a w hK hw => ?_, ?_⟩
  · have x91 := hK.get 0 rfl
    have m91 := knows_tmp x91
    unfold Oper.quietAt
    simp only [execOp, x91]
    go_simp
    all_goals first | exact ⟨rfl, rfl⟩ | exact rfl | (intro h; exfalso; omega)
  refine ⟨fun a w hK hw => ?_, ?_⟩
  · have x90 := hK.get 2 rfl
    have m90 := knows_tmp x90
    have x92 := hK.get 0 rfl
    have m92 := knows_tmp x92
    unfold Oper.quietAt
    simp only [execOp, x90, x92]
    go_simp
    all_goals first | exact ⟨rfl, rfl⟩ | exact rfl | (intro h; exfalso; omega)
  refine ⟨fun a w hK hw => ?_, ?_⟩
  · have x89 := hK.get 4 rfl
    have m89 := knows_tmp x89
    have x93 := hK.get 0 rfl
    have m93 := knows_tmp x93
    unfold Oper.quietAt
    simp only [execOp, x89, x93]
    go_simp
    all_goals first | exact ⟨rfl, rfl⟩ | exact rfl | (intro h; exfalso; omega)
  refine ⟨fun a w hK hw => ?_, ?_⟩
  · have x94 := hK.get 0 rfl
    have m94 := knows_tmp x94
    unfold Oper.quietAt
    simp only [execOp, x94]
    go_simp
    all_goals first | exact ⟨rfl, rfl⟩ | exact rfl | (intro h; exfalso; omega)
  refine ⟨fun a w hK hw => ?_, ?_⟩
  · have x9 := hK.get 26 rfl
    have m9 := knows_tmp x9
    unfold Oper.quietAt
    simp only [execOp, x9]
    go_simp
    all_goals first | exact ⟨rfl, rfl⟩ | exact rfl | (intro h; exfalso; omega)
  refine ⟨fun a w hK hw => ?_, ?_⟩
  · have x13 := hK.get 30 rfl
    have m13 := knows_tmp x13
    unfold Oper.quietAt
    simp only [execOp, x13]
    go_simp
    all_goals first | exact ⟨rfl, rfl⟩ | exact rfl | (intro h; exfalso; omega)
  refine ⟨fun a w hK hw => ?_, ?_⟩
  · have x96 := hK.get 1 rfl
    have m96 := knows_tmp x96
    have x97 := hK.get 0 rfl
    have m97 := knows_tmp x97
    unfold Oper.quietAt
    simp only [execOp, x96, x97]
    go_simp
    all_goals first | exact ⟨rfl, rfl⟩ | exact rfl | (intro h; exfalso; omega)
  refine ⟨fun a w hK hw => ?_, ?_⟩
  · have x98 := hK.get 0 rfl
    have m98 := knows_tmp x98
    obtain ⟨y1, y2, y3⟩ := HF.out w hw
    unfold Oper.quietAt
    simp only [execOp, x98]
    go_simp
    all_goals first | exact ⟨rfl, rfl⟩ | exact rfl | (intro h; exfalso; omega)
  refine ⟨fun a w hK hw => ?_, ?_⟩
  · have x0 := hK.get 29 rfl
    have m0 := knows_tmp x0
    unfold Oper.quietAt
    simp only [execOp, x0]
    go_simp
    all_goals first | exact ⟨rfl, rfl⟩ | exact rfl | (intro h; exfalso; omega)
  refine ⟨fun a w hK hw => ?_, ?_⟩
  · have x11 := hK.get 33 rfl
    have m11 := knows_tmp x11
    unfold Oper.quietAt
    simp only [execOp, x11]
    go_simp
    all_goals first | exact ⟨rfl, rfl⟩ | exact rfl | (intro h; exfalso; omega)
  refine ⟨fun a w hK hw => ?_, ?_⟩
  · have x11 := hK.get 34 rfl
    have m11 := knows_tmp x11
    unfold Oper.quietAt
    simp only [execOp, x11]
    go_simp
    all_goals first | exact ⟨rfl, rfl⟩ | exact rfl | (intro h; exfalso; omega)
  refine ⟨fun a w hK hw => ?_, ?_⟩
  · have x9 := hK.get 33 rfl
    have m9 := knows_tmp x9
    unfold Oper.quietAt
    simp only [execOp, x9]
    go_simp
    all_goals first | exact ⟨rfl, rfl⟩ | exact rfl | (intro h; exfalso; omega)
  refine ⟨fun a w hK hw => ?_, ?_⟩
  · have x13 := hK.get 37 rfl
    have m13 := knows_tmp x13
    unfold Oper.quietAt
    simp only [execOp, x13]
    go_simp
    all_goals first | exact ⟨rfl, rfl⟩ | exact rfl | (intro h; exfalso; omega)
  refine ⟨fun a w hK hw => ?_, ?_⟩
  · have x103 := hK.get 1 rfl
    have m103 := knows_tmp x103
    have x104 := hK.get 0 rfl
    have m104 := knows_tmp x104
    unfold Oper.quietAt
    simp only [execOp, x103, x104]
    go_simp
    all_goals first | exact ⟨rfl, rfl⟩ | exact rfl | (intro h; exfalso; omega)
  refine ⟨fun a w hK hw => ?_, ?_⟩
  · have x105 := hK.get 0 rfl
    have m105 := knows_tmp x105
    obtain ⟨y1, y2, y3⟩ := HF.out w hw
    unfold Oper.quietAt
    simp only [execOp, x105]
    go_simp
    all_goals first | exact ⟨rfl, rfl⟩ | exact rfl | (intro h; exfalso; omega)
  refine ⟨fun a w hK hw => ?_, ?_⟩
  · have x106 := hK.get 0 rfl
    have m106 := knows_tmp x106
    unfold Oper.quietAt
    simp only [execOp, x106]
    go_simp
    all_goals first | exact ⟨rfl, rfl⟩ | exact rfl | (intro h; exfalso; omega)
  refine ⟨fun a w hK hw => ?_, ?_⟩
  · have x102 := hK.get 5 rfl
    have m102 := knows_tmp x102
    have x107 := hK.get 0 rfl
    have m107 := knows_tmp x107
    unfold Oper.quietAt
    simp only [execOp, x102, x107]
    go_simp
    all_goals first | exact ⟨rfl, rfl⟩ | exact rfl | (intro h; exfalso; omega)
  refine ⟨fun a w hK hw => ?_, ?_⟩
  · have x100 := hK.get 8 rfl
    have m100 := knows_tmp x100
    have x101 := hK.get 7 rfl
    have m101 := knows_tmp x101
    have x108 := hK.get 0 rfl
    have m108 := knows_tmp x108
    unfold Oper.quietAt
    simp only [execOp, x100, x101, x108]
    go_simp
    all_goals first | exact ⟨rfl, rfl⟩ | exact rfl | (intro h; exfalso; omega)
  refine ⟨fun a w hK hw => ?_, ?_⟩
  · have x99 := hK.get 10 rfl
    have m99 := knows_tmp x99
    have x109 := hK.get 0 rfl
    have m109 := knows_tmp x109
    unfold Oper.quietAt
    simp only [execOp, x99, x109]
    go_simp
    first
      | (go_at_call 17; exact (HS.out w hw).mono (fun e w3 ⟨he, hb⟩ => ⟨he, hw.trans (hb.mono hw.size)⟩))
      | exact (HS.out w hw).mono (fun e w3 ⟨he, hb⟩ => ⟨he, hw.trans (hb.mono hw.size)⟩)
  refine ⟨fun a w hK hw => ?_, ?_⟩
  · have x110 := hK.get 0 rfl
    have m110 := knows_tmp x110
    unfold Oper.quietAt
    simp only [execOp, x110]
    go_simp
    all_goals first | exact ⟨rfl, rfl⟩ | exact rfl | (intro h; exfalso; omega)
  refine ⟨fun a w hK hw => ?_, ?_⟩
  · have x95 := hK.get 16 rfl
    have m95 := knows_tmp x95
    have x111 := hK.get 0 rfl
    have m111 := knows_tmp x111
    unfold Oper.quietAt
    simp only [execOp, x95, x111]
    go_simp
    all_goals first | exact ⟨rfl, rfl⟩ | exact rfl | (intro h; exfalso; omega)
  refine ⟨fun a w hK hw => ?_, ?_⟩
  · have x112 := hK.get 0 rfl
    have m112 := knows_tmp x112
    unfold Oper.quietAt
    simp only [execOp, x112]
    go_simp
    all_goals first | exact ⟨rfl, rfl⟩ | exact rfl | (intro h; exfalso; omega)
  refine ⟨fun a w hK hw => ?_, ?_⟩
  · have x10 := hK.get 45 rfl
    have m10 := knows_tmp x10
    unfold Oper.quietAt
    simp only [execOp, x10]
    go_simp
    all_goals first | exact ⟨rfl, rfl⟩ | exact rfl | (intro h; exfalso; omega)
  refine ⟨fun a w hK hw => ?_, ?_⟩
  · have x13 := hK.get 48 rfl
    have m13 := knows_tmp x13
    unfold Oper.quietAt
    simp only [execOp, x13]
    go_simp
    all_goals first | exact ⟨rfl, rfl⟩ | exact rfl | (intro h; exfalso; omega)
  refine ⟨fun a w hK hw => ?_, ?_⟩
  · have x114 := hK.get 1 rfl
    have m114 := knows_tmp x114
    have x115 := hK.get 0 rfl
    have m115 := knows_tmp x115
    unfold Oper.quietAt
    simp only [execOp, x114, x115]
    go_simp
    all_goals first | exact ⟨rfl, rfl⟩ | exact rfl | (intro h; exfalso; omega)
  refine ⟨fun a w hK hw => ?_, ?_⟩
  · have x116 := hK.get 0 rfl
    have m116 := knows_tmp x116
    obtain ⟨y1, y2, y3⟩ := HF.out w hw
    unfold Oper.quietAt
    simp only [execOp, x116]
    go_simp
    all_goals first | exact ⟨rfl, rfl⟩ | exact rfl | (intro h; exfalso; omega)
  refine ⟨fun a w hK hw => ?_, ?_⟩
  · have x0 := hK.get 47 rfl
    have m0 := knows_tmp x0
    unfold Oper.quietAt
    simp only [execOp, x0]
    go_simp
    all_goals first | exact ⟨rfl, rfl⟩ | exact rfl | (intro h; exfalso; omega)
  refine ⟨fun a w hK hw => ?_, ?_⟩
  · have x11 := hK.get 51 rfl
    have m11 := knows_tmp x11
    unfold Oper.quietAt
    simp only [execOp, x11]
    go_simp
    all_goals first | exact ⟨rfl, rfl⟩ | exact rfl | (intro h; exfalso; omega)
  refine ⟨fun a w hK hw => ?_, ?_⟩
  · have x118 := hK.get 1 rfl
    have m118 := knows_tmp x118
    have x119 := hK.get 0 rfl
    have m119 := knows_tmp x119
    unfold Oper.quietAt
    simp only [execOp, x118, x119]
    go_simp
    all_goals first | exact ⟨rfl, rfl⟩ | exact rfl | (intro h; exfalso; omega)
  refine ⟨fun a w hK hw => ?_, ?_⟩
  · have x120 := hK.get 0 rfl
    have m120 := knows_tmp x120
    unfold Oper.quietAt
    simp only [execOp, x120]
    go_simp
    all_goals first | exact ⟨rfl, rfl⟩ | exact rfl | (intro h; exfalso; omega)
  refine ⟨fun a w hK hw => ?_, ?_⟩
  · have x121 := hK.get 0 rfl
    have m121 := knows_tmp x121
    obtain ⟨y1, y2, y3⟩ := HF.out w hw
    unfold Oper.quietAt
    simp only [execOp, x121]
    go_simp
    all_goals first | exact ⟨rfl, rfl⟩ | exact rfl | (intro h; exfalso; omega)
  refine ⟨fun a w hK hw => ?_, ?_⟩
  · have x117 := hK.get 5 rfl
    have m117 := knows_tmp x117
    have x122 := hK.get 0 rfl
    have m122 := knows_tmp x122
    unfold Oper.quietAt
    simp only [execOp, x117, x122]
    go_simp
    all_goals first | exact ⟨rfl, rfl⟩ | exact rfl | (intro h; exfalso; omega)
  refine ⟨fun a w hK hw => ?_, ?_⟩
  · have x113 := hK.get 10 rfl
    have m113 := knows_tmp x113
    have x123 := hK.get 0 rfl
    have m123 := knows_tmp x123
    unfold Oper.quietAt
    simp only [execOp, x113, x123]
    go_simp
    all_goals first | exact ⟨rfl, rfl⟩ | exact rfl | (intro h; exfalso; omega)
  exact trivial
end Go.Proofs.Ytdchedkhlfmpeaa
