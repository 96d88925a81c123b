/- P19.1, P19.2: for every width and every list of acts (its first 16): what is found, however bytes come, and patterns change, and what is held behind each, is as the page says. No condition. -/
import Derived.Test.YtbdjcppkfihonaaOpen
import Derived.WalkKit
import Derived.ProofKit
import Derived.OpenShut
import Derived.Test.YtbdjcppkfihonaaHdD
import Derived.Test.YtbdjcppkfihonaaHdD
import Derived.Test.YtbdjcppkfihonaaHdD
import Derived.Test.YtbdjcppkfihonaaClass
import Derived.Deep.CutRange
import Derived.Deep.CutBlock
import Derived.Deep.RegionLaw
namespace Go.Proofs.Ytbdjcppkfihonaa.holdPlays
open Go.Joins Go.ChangeShapes Go.WideShapes Go.ChangeAt Go.RowKit Go.Deep
open Go.ChangeMaps (open_string)
set_option linter.unusedSimpArgs false
set_option linter.unusedVariables false

section
variable {H : Type} {enc : TypeId × Value → H} {P : Program} {w : World} {base : Nat} {spare : Nat → Bool} {held : Bool}
theorem open_flat2 {r : Reach} {b0 : Nat} {t : TypeId} {f0 f1 : Field} {v : Value} {d : DataW H} {p : List MemPlace} (hs : P.underlying t = some (.struct #[f0, f1])) (hone : oneCellFields P #[f0, f1] = true) (hC : P.cellsOf t = 2)
    (hv : Value.okWide P w r b0 t v) (h : DataW.Trod enc P w base spare held t v d p) :
    ∃ (v0 v1 : Value) (y0 y1 : DataW H × List MemPlace) (n : Nat), v = .agg #[v0, v1] ∧ d = .agg [y0.1, y1.1] ∧ True ∧
      DataW.trod enc P w base spare held n f0.type [v0] = some y0 ∧ DataW.trod enc P w base spare held n f1.type [v1] = some y1 := by
  obtain ⟨cs, rfl, hsz⟩ := okWide_struct hs hv
  obtain ⟨l⟩ := cs
  match l, hsz.trans hC with
  | [c0, c1], _ =>
    obtain ⟨fuel, hf⟩ := h
    obtain ⟨xs, n, _, hx, _, hlen, hg⟩ := DataW.trod_struct hs hf
    obtain ⟨o0, k0⟩ := hone_of hone 0 f0 rfl
    obtain ⟨o1, k1⟩ := hone_of hone 1 f1 rfl
    match xs, hlen with
    | [y0, y1], _ =>
      simp only [Prod.mk.injEq] at hx
      exact ⟨c0, c1, y0, y1, n, rfl, by simpa using hx.1, trivial, by simpa [Value.cells, o0, k0] using hg 0 f0 rfl, by simpa [Value.cells, o1, k1] using hg 1 f1 rfl⟩
end
theorem hd_new_ex (x : Int) (W : Nat) (hW : min (max x 1) 4096 = (W : Int)) (w : World) : Calls Try.prog 32 #[.int .i64 x] w fun e w' => ∃ h, w.heap.size ≤ h ∧ e = .returned (.pointer (some ⟨h, 0, none⟩)) ∧ HO w' h W none 0 0 ByteArray.empty 0 (.slice none 0 0) none ∧ Below w.heap.size w w' :=
  (hd_new x W hW w).mono fun e w' ⟨h1, h2, h3⟩ => ⟨_, Nat.le_refl _, h1, h2, h3⟩
theorem rg_new_ex (n : Nat) (x : Int) (w : World) (hn : min (max x 1) 4096 = (n : Int)) : Calls Try.prog 34 #[.int .i64 x] w fun e w' => ∃ b g, w.heap.size ≤ b ∧ w.heap.size ≤ g ∧ e = .returned (.pointer (some ⟨b, 0, none⟩)) ∧ RAt w' b g n 0 ByteArray.empty ∧ Below w.heap.size w w' :=
  (new_any0 n x w hn).mono fun e w' ⟨he, hr, _, hb⟩ => ⟨_, _, by omega, Nat.le_refl _, he, hr, hb⟩
/-- The argument's box, and that nothing elder has changed. -/
def FF (w0 w : World) (pc : List Value) : Prop := Blk w w0.heap.size pc 56 ∧ Below w0.heap.size w0 w ∧ w0.heap.size ≤ w.heap.size
theorem FF.below {w0 w w' : World} {pc : List Value} (h : FF w0 w pc) (k : Below w.heap.size w w') : FF w0 w' pc := ⟨Blk.below h.1 k h.1.lt, h.2.1.trans (k.mono h.2.2), Nat.le_trans h.2.2 k.size⟩
theorem FF.alloc {w0 w : World} {pc : List Value} (h : FF w0 w pc) (o : Obj) : FF w0 (w.alloc o) pc := h.below ((Below.refl _ _).alloc (Nat.le_refl _) o)
theorem FF.sz {w0 w : World} {pc : List Value} (h : FF w0 w pc) : w0.heap.size ≤ w.heap.size := h.2.2
theorem FF.drew {w0 w : World} {pc : List Value} (h : FF w0 w pc) : FF w0 w.drew pc := h.below (Below.refl _ _).drew
theorem zp_new {w0 w : World} {X h b g W : Nat} {pc hc : List Value} (hF : FF w0 w pc) (hH : HO w h W none 0 0 ByteArray.empty 0 (.slice none 0 0) none) (hR : RAt w b g 24 0 ByteArray.empty) (hX : Blk w X hc 61) (h1 : w0.heap.size ≤ h) (h2 : w0.heap.size ≤ b) (h3 : w0.heap.size ≤ g) (h4 : w0.heap.size ≤ X) :
    ZP w0.heap.size w0 w X pc hc none h b g 24 W (.slice none 0 0) none [] [] none (⟨#[]⟩ : ByteArray).size 0 ⟨#[]⟩ 0 0 ⟨#[]⟩ := by
  have e1 : h ≠ b := fun e => by
    obtain ⟨_, _, _, _, _, q6, R, q7, q8, q9⟩ := hR
    have := hH.o; rw [e] at this
    exact absurd (blk_ty this q6) (by decide)
  have e2 : h ≠ g := fun e => by
    obtain ⟨_, _, _, _, _, q6, R, q7, q8, q9⟩ := hR
    have := hH.o; rw [e] at this
    exact absurd (blk_ty this q8) (by decide)
  exact ⟨⟨hH, Or.inl ⟨rfl, rfl, rfl⟩, hR, ⟨e1, e2, by simp [tvB]⟩, ⟨h1, h2, h3, by simp, by simp [tvB]⟩, hF.2.1, hF.2.2⟩, LLT.nil _ _, hX, hF.1, h4⟩
theorem new19 {W v : World} (k : Below (W.drew.alloc (.cells #[.int .i64 0, .string ⟨#[]⟩, .int .i64 0, .slice none 0 0] 61)).heap.size (W.drew.alloc (.cells #[.int .i64 0, .string ⟨#[]⟩, .int .i64 0, .slice none 0 0] 61)) v) : Blk v W.heap.size [.int .i64 0, .string ⟨#[]⟩, .int .i64 0, .slice none 0 0] 61 := (Blk.newA W.drew #[.int .i64 0, .string ⟨#[]⟩, .int .i64 0, .slice none 0 0] 61).below k (by simp)
theorem new19c {W v : World} (k : Below ((W.alloc (.cells #[.int .i64 0, .string ⟨#[]⟩, .int .i64 0, .slice none 0 0] 61)).drew).heap.size ((W.alloc (.cells #[.int .i64 0, .string ⟨#[]⟩, .int .i64 0, .slice none 0 0] 61)).drew) v) : Blk v W.heap.size [.int .i64 0, .string ⟨#[]⟩, .int .i64 0, .slice none 0 0] 61 := (Blk.newA W #[.int .i64 0, .string ⟨#[]⟩, .int .i64 0, .slice none 0 0] 61).drew.below k (by simp)
theorem new19b {W v : World} (k : Below (W.alloc (.cells #[.int .i64 0, .string ⟨#[]⟩, .int .i64 0, .slice none 0 0] 61)).heap.size (W.alloc (.cells #[.int .i64 0, .string ⟨#[]⟩, .int .i64 0, .slice none 0 0] 61)) v) : Blk v W.heap.size [.int .i64 0, .string ⟨#[]⟩, .int .i64 0, .slice none 0 0] 61 := (Blk.newA W #[.int .i64 0, .string ⟨#[]⟩, .int .i64 0, .slice none 0 0] 61).below k (by simp)
theorem look_le {Ls : List (List (Bool × BitVec 256))} {W : Nat} : ∀ (f : Nat) (S : List UInt8) (K : Nat) (Q : List UInt8) (rd : Nat), (Hd.look Ls W f S K Q rd).S.length + (Hd.look Ls W f S K Q rd).Q.length ≤ S.length + Q.length
  | 0, S, K, Q, rd => by simp [Hd.look]
  | f + 1, S, K, Q, rd => by
    by_cases hK : K < S.length
    · cases hh : Hd.at Ls S K with
      | mk q b =>
        cases b with
        | true => rw [look_hit hK hh]; simp only [List.length_drop]; omega
        | false => rw [look_on hK hh]; exact look_le (Ls := Ls) (W := W) f S (K + 1) Q rd
    · cases Q with
      | nil => rw [look_end hK]; exact Nat.le_refl _
      | cons b Q =>
        by_cases hw : W ≤ S.length
        · rw [look_full hK hw]; exact Nat.le_refl _
        · rw [Hd.look, if_neg hK]
          simp only [if_neg hw]
          split
          · simp only [List.length_drop, List.length_append, List.length_cons, List.length_nil]; omega
          · have := look_le (Ls := Ls) (W := W) f (S ++ [b]) (K + 1) Q (rd + 1)
            simp only [List.length_append, List.length_cons, List.length_nil] at this ⊢
            omega
theorem ZP.setF {P : Nat} {w0 w : World} {X : Nat} {pc hc : List Value} {a : Option Addr} {h b g n W : Nat} {pv : Value} {ap : Option Addr} {xs : List Nat} {Ls : List (List (Bool × BitVec 256))} {t : Option Addr} {m ct : Nat} {S : ByteArray} {K f : Nat} {R : ByteArray} {y : Nat} {cs : List Value} (H : ZP P w0 w X pc hc a h b g n W pv ap xs Ls t m ct S K f R ∧ Blk w y cs 71 ∧ P ≤ y) (i : Nat) (v : Value) : ZP P w0 (w.setCell ⟨y, i, none⟩ v) X pc hc a h b g n W pv ap xs Ls t m ct S K f R ∧ Blk (w.setCell ⟨y, i, none⟩ v) y (cs.set i v) 71 ∧ P ≤ y := by
  obtain ⟨H, hy, hP⟩ := H
  have k : Chg [y] w (w.setCell ⟨y, i, none⟩ v) := (Chg.refl [y] w).set (Or.inl (by simp)) _ _
  have e1 : X ≠ y := fun e => by
    have := H.2.2.1; rw [e] at this; exact absurd (blk_ty this hy) (by decide)
  have e2 : P ≠ y := fun e => by
    have := H.2.2.2.1; rw [e] at this; exact absurd (blk_ty this hy) (by decide)
  refine ⟨⟨H.1.chg k (fun z hz => ?_), H.2.1.chg k (fun z hz cs2 => ?_), H.2.2.1.chg k (by simpa using e1), H.2.2.2.1.chg k (by simpa using e2), H.2.2.2.2⟩, hy.set i v, hP⟩
  · simp at hz
    subst hz
    refine ⟨OT2.of hy (by decide), hP, fun e => ?_⟩
    obtain ⟨cs', T', h1, h2⟩ := H.1.dty _ e
    rw [blk_ty h1 hy] at h2
    exact ht5_no.2.2.2 h2
  · simp at hz
    subst hz
    exact ⟨fun h => absurd (blk_ty h hy) (by decide), fun h => absurd (blk_ty h hy) (by decide)⟩
theorem ZP.llt {P : Nat} {w0 w : World} {X : Nat} {pc hc : List Value} {a : Option Addr} {h b g n W : Nat} {pv : Value} {ap : Option Addr} {xs : List Nat} {Ls : List (List (Bool × BitVec 256))} {t : Option Addr} {m ct : Nat} {S : ByteArray} {K f : Nat} {R : ByteArray} (H : ZP P w0 w X pc hc a h b g n W pv ap xs Ls t m ct S K f R) {a2 : Option Addr} {A : List (List (Bool × BitVec 256))} (hL : LLT w a2 A) (i : Nat) (v : Value) : LLT (w.setCell ⟨X, i, none⟩ v) a2 A := by
  have k : Chg [X] w (w.setCell ⟨X, i, none⟩ v) := (Chg.refl [X] w).set (Or.inl (by simp)) _ _
  have hx := H.2.2.1
  exact hL.chg k (fun y hy cs => by simp at hy; subst hy; exact ⟨fun h => absurd (blk_ty h hx) (by decide), fun h => absurd (blk_ty h hx) (by decide)⟩)
theorem zp_newall {w0 w : World} {h b g W : Nat} {pc : List Value} (F3 : FF w0 w pc ∧ HO w h W none 0 0 ByteArray.empty 0 (.slice none 0 0) none ∧ w0.heap.size ≤ h ∧ w0.heap.size ≤ b ∧ w0.heap.size ≤ g ∧ RAt w b g 24 0 ByteArray.empty) : ZP w0.heap.size w0 (w.alloc (.cells #[.int .i64 W, .string ⟨#[]⟩, .int .i64 0, .slice none 0 0] 61)) w.heap.size pc [.int .i64 W, .string ⟨#[]⟩, .int .i64 (0 : Nat), .slice none 0 0] none h b g 24 W (.slice none 0 0) none [] [] none (⟨#[]⟩ : ByteArray).size 0 ⟨#[]⟩ 0 0 ⟨#[]⟩ :=
  zp_new (F3.1.alloc _) (F3.2.1.below ((Below.refl _ _).alloc (Nat.le_refl _) _)) (F3.2.2.2.2.2.fresh ((Below.refl _ _).alloc (Nat.le_refl _) _)) (Blk.newA w #[.int .i64 W, .string ⟨#[]⟩, .int .i64 0, .slice none 0 0] 61) F3.2.2.1 F3.2.2.2.1 F3.2.2.2.2.1 F3.1.2.2
theorem zp_setall {w0 w : World} {h b g W X : Nat} {pc : List Value} (F3 : FF w0 w pc ∧ HO w h W none 0 0 ByteArray.empty 0 (.slice none 0 0) none ∧ w0.heap.size ≤ h ∧ w0.heap.size ≤ b ∧ w0.heap.size ≤ g ∧ RAt w b g 24 0 ByteArray.empty) (X3 : Blk w X [.int .i64 0, .string ⟨#[]⟩, .int .i64 0, .slice none 0 0] 61 ∧ w0.heap.size ≤ X) : ZP w0.heap.size w0 ((((w.setCell ⟨X, 0, none⟩ (.int .i64 W)).setCell ⟨X, 1, none⟩ (.string ⟨#[]⟩)).setCell ⟨X, 2, none⟩ (.int .i64 0)).setCell ⟨X, 3, none⟩ (.slice none 0 0)) X pc [.int .i64 W, .string ⟨#[]⟩, .int .i64 (0 : Nat), .slice none 0 0] none h b g 24 W (.slice none 0 0) none [] [] none (⟨#[]⟩ : ByteArray).size 0 ⟨#[]⟩ 0 0 ⟨#[]⟩ :=
  ((((zp_new F3.1 F3.2.1 F3.2.2.2.2.2 X3.1 F3.2.2.1 F3.2.2.2.1 F3.2.2.2.2.1 X3.2).setX 0 (.int .i64 W)).setX 1 (.string ⟨#[]⟩)).setX 2 (.int .i64 0)).setX 3 (.slice none 0 0)
theorem cut_bound (s : ByteArray) (q : Nat) : (s.extract 0 q).size ≤ q := by rw [ByteArray.size_extract]; omega
set_option maxRecDepth 20000 in
set_option maxHeartbeats 16000000 in

theorem walk (a0_Win : Int) (a0_Acts : Option Addr) (len0_Acts cap0_Acts : Nat) (w : World) (w0_Win : (Lit.int .i64 a0_Win).wf = true) (w0_Acts : IsAny Try.prog [3, 9, 65] w a0_Acts len0_Acts cap0_Acts) :
    Calls Try.prog 7 #[.agg #[.int .i64 a0_Win, .slice a0_Acts len0_Acts cap0_Acts]] w fun e w' => e = .returned (.bool true) ∧ Below w.heap.size w w' := by
  obtain ⟨hlc, hcm, hnil, hcell⟩ := w0_Acts
  have HCELL := Lib.hid hcell
  obtain ⟨W, hW⟩ : ∃ W : Nat, min (max a0_Win 1) 4096 = (W : Int) := ⟨(min (max a0_Win 1) 4096).toNat, by omega⟩
  have HWm := Lib.hid hW
  have hW1 : 1 ≤ W ∧ W ≤ 4096 := by omega
  have hlen : len0_Acts ≤ 9223372036854775807 := by unfold maxLen at hcm; omega
  clear hcell hnil hW
  go_enter Try.func7, Try.ntmps7
  go_upto_region 1 with fail
  have HF0 : Hid (FF w (w.alloc (.cells #[.int .i64 a0_Win, .slice a0_Acts len0_Acts cap0_Acts] 56)) [.int .i64 a0_Win, .slice a0_Acts len0_Acts cap0_Acts]) := Lib.hid ⟨Blk.newA w _ _, (Below.refl _ _).alloc (Nat.le_refl _) _, by simp⟩
  revert HF0
  generalize (w.alloc (.cells #[.int .i64 a0_Win, .slice a0_Acts len0_Acts cap0_Acts] 56)) = W0
  intro HF0
  obtain ⟨pc, hpc⟩ : ∃ pc : List Value, ([.int .i64 a0_Win, .slice a0_Acts len0_Acts cap0_Acts] : List Value) = pc := ⟨_, rfl⟩
  rw [hpc] at HF0
  have HPC := Lib.hid hpc
  clear hpc
  go_cut [3, 4, 5, 6] from 12 to 18 (fun s3 s4 s5 s6 wx => ∃ h b g X : Nat, s3 = .pointer (some ⟨h, 0, none⟩) ∧ s4 = .pointer (some ⟨X, 0, none⟩) ∧ s5 = .pointer (some ⟨b, 0, none⟩) ∧ s6 = .string ⟨#[]⟩ ∧ Hid (ZP w.heap.size w wx X pc [.int .i64 W, .string ⟨#[]⟩, .int .i64 (0 : Nat), .slice none 0 0] none h b g 24 W (.slice none 0 0) none [] [] none (⟨#[]⟩ : ByteArray).size 0 ⟨#[]⟩ 0 0 ⟨#[]⟩))
  case first =>
    have c0 : W0.cell? ⟨w.heap.size, 0, none⟩ = some (.int .i64 a0_Win) := HF0.out.1.cell (i := 0) (by rw [← HPC.out]; rfl)
    have l0 : w.heap.size < W0.heap.size := HF0.out.1.lt
    have n01 : ¬ w.heap.size = W0.heap.size := by omega
    have n02 : ¬ W0.heap.size = w.heap.size := by omega
    have c0d : W0.drew.cell? ⟨w.heap.size, 0, none⟩ = some (.int .i64 a0_Win) := HF0.out.drew.1.cell (i := 0) (by rw [← HPC.out]; rfl)
    go_region_law (first
      | (rw [if_pos (by simp [Region.wanted])]; unfold Oper.wp; go_simp; go_at_call 32; refine (hd_new_ex _ W HWm.out _).mono ?_; rintro e w1 ⟨h, hh, rfl, q1, q2⟩; have F1 : Hid (FF w w1 pc ∧ HO w1 h W none 0 0 ByteArray.empty 0 (.slice none 0 0) none ∧ w.heap.size ≤ h) := Lib.hid (by first | with_reducible exact ⟨HF0.out.drew.below q2, q1, Nat.le_trans HF0.out.drew.sz hh⟩ | with_reducible exact ⟨(HF0.out.drew.alloc _).below q2, q1, Nat.le_trans (HF0.out.drew.alloc _).sz hh⟩ | with_reducible exact ⟨(HF0.out.alloc _).drew.below q2, q1, Nat.le_trans (HF0.out.alloc _).drew.sz hh⟩ | (trace_state; fail)); have k1 : w1.cell? ⟨w.heap.size, 0, none⟩ = some (.int .i64 a0_Win) := F1.out.1.1.cell (i := 0) (by rw [← HPC.out]; rfl); have l1 := F1.out.1.1.lt; have n11 : ¬ w.heap.size = w1.heap.size := (by omega); have n12 : ¬ w1.heap.size = w.heap.size := (by omega); first | (have X1 : Hid (Blk w1 W0.heap.size [.int .i64 0, .string ⟨#[]⟩, .int .i64 0, .slice none 0 0] 61) := Lib.hid (by first | with_reducible exact new19 q2 | with_reducible exact new19c q2); have l3 := X1.out.lt) | skip)
      | (rw [if_pos (by simp [Region.wanted])]; unfold Oper.wp; go_simp; go_at_call 33; refine (rf_new19 _ W HWm.out _).mono ?_; rintro e w2 ⟨rfl, b2⟩; have F2 : Hid (FF w w2 pc ∧ HO w2 h W none 0 0 ByteArray.empty 0 (.slice none 0 0) none ∧ w.heap.size ≤ h) := Lib.hid (by first | with_reducible exact ⟨F1.out.1.below b2, F1.out.2.1.below b2, F1.out.2.2⟩ | with_reducible exact ⟨(F1.out.1.alloc _).below b2, (F1.out.2.1.below ((Below.refl _ _).alloc (Nat.le_refl _) _)).below b2, F1.out.2.2⟩); have k2 : w2.cell? ⟨w.heap.size, 0, none⟩ = some (.int .i64 a0_Win) := F2.out.1.1.cell (i := 0) (by rw [← HPC.out]; rfl); have l2 := F2.out.1.1.lt; have n21 : ¬ w.heap.size = w2.heap.size := (by omega); have n22 : ¬ w2.heap.size = w.heap.size := (by omega); first | (have X2 : Hid (Blk w2 w1.heap.size [.int .i64 0, .string ⟨#[]⟩, .int .i64 0, .slice none 0 0] 61 ∧ w.heap.size ≤ w1.heap.size) := Lib.hid (And.intro (by with_reducible exact new19b b2) F1.out.1.sz)) | (have X2 : Hid (Blk w2 W0.heap.size [.int .i64 0, .string ⟨#[]⟩, .int .i64 0, .slice none 0 0] 61 ∧ w.heap.size ≤ W0.heap.size) := Lib.hid ⟨X1.out.below b2 X1.out.lt, HF0.out.sz⟩) | skip)
      | (rw [if_pos (by simp [Region.wanted])]; unfold Oper.wp; go_simp; go_at_call 34; refine (rg_new_ex 24 24 _ (by decide)).mono ?_; rintro e w3 ⟨b, g, hb, hg, rfl, r1, b3⟩; have F3 : Hid (FF w w3 pc ∧ HO w3 h W none 0 0 ByteArray.empty 0 (.slice none 0 0) none ∧ w.heap.size ≤ h ∧ w.heap.size ≤ b ∧ w.heap.size ≤ g ∧ RAt w3 b g 24 0 ByteArray.empty) := Lib.hid (by first | with_reducible exact ⟨F2.out.1.below b3, F2.out.2.1.below b3, F2.out.2.2, Nat.le_trans F2.out.1.sz hb, Nat.le_trans F2.out.1.sz hg, r1⟩ | with_reducible exact ⟨(F2.out.1.alloc _).below b3, (F2.out.2.1.below ((Below.refl _ _).alloc (Nat.le_refl _) _)).below b3, F2.out.2.2, Nat.le_trans (F2.out.1.alloc _).sz hb, Nat.le_trans (F2.out.1.alloc _).sz hg, r1⟩); have k3 : w3.cell? ⟨w.heap.size, 0, none⟩ = some (.int .i64 a0_Win) := F3.out.1.1.cell (i := 0) (by rw [← HPC.out]; rfl); have l4 := F3.out.1.1.lt; have n31 : ¬ w.heap.size = w3.heap.size := (by omega); have n32 : ¬ w3.heap.size = w.heap.size := (by omega); first | (have X3 : Hid (Blk w3 w2.heap.size [.int .i64 0, .string ⟨#[]⟩, .int .i64 0, .slice none 0 0] 61 ∧ w.heap.size ≤ w2.heap.size) := Lib.hid (And.intro (by with_reducible exact new19b b3) F2.out.1.sz); have x0 := X3.out.1.cell (i := 0) rfl; have x1 := X3.out.1.cell (i := 1) rfl; have x2 := X3.out.1.cell (i := 2) rfl; have x3 := X3.out.1.cell (i := 3) rfl; have y0 := X3.out.1.free 0; have y1 := X3.out.1.free 1; have y2 := X3.out.1.free 2; have y3 := X3.out.1.free 3) | (have X3 := Lib.hid (And.intro (X2.out.1.below b3 X2.out.1.lt) X2.out.2); have x0 := X3.out.1.cell (i := 0) rfl; have x1 := X3.out.1.cell (i := 1) rfl; have x2 := X3.out.1.cell (i := 2) rfl; have x3 := X3.out.1.cell (i := 3) rfl; have y0 := X3.out.1.free 0; have y1 := X3.out.1.free 1; have y2 := X3.out.1.free 2; have y3 := X3.out.1.free 3) | skip))
    all_goals
      go_wp2_with fail
      go_meet
      first
        | with_reducible exact ⟨h, b, g, _, rfl, rfl, rfl, rfl, Lib.hid (zp_newall F3.out)⟩
        | with_reducible exact ⟨h, b, g, _, rfl, rfl, rfl, rfl, Lib.hid (zp_setall F3.out X3.out)⟩
  case rest =>
    obtain ⟨h, b, g, X, rfl, rfl, rfl, rfl, HZ⟩ := hcut
    clear HF0
    go_wp2_with fail
    go_loopw [6, 7] (fun sv iv wr => ∃ (j : Nat) (t : Option Addr) (ct : Nat) (S : ByteArray) (K f : Nat) (R : ByteArray) (pv : Value) (ap : Option Addr) (xs : List Nat) (Ls : List (List (Bool × BitVec 256))) (a : Option Addr) (n c : Nat), sv = .string R ∧ iv = .int .i64 j ∧ j ≤ 16 ∧ j ≤ len0_Acts ∧ S.size + R.size ≤ 12 * j ∧ n ≤ 8 ∧ Hid (Ls.length = n ∧ ∀ l ∈ Ls, l.length ≤ 62) ∧ Hid (ZP w.heap.size w wr X pc [.int .i64 W, .string S, .int .i64 (K : Nat), .slice a n c] a h b g 24 W pv ap xs Ls t S.size ct S K f R)) (fun _ i _ => 16 - (intOf i).toNat)
    case atStart => exact ⟨0, none, 0, ⟨#[]⟩, 0, 0, ⟨#[]⟩, .slice none 0 0, none, [], [], none, 0, 0, rfl, rfl, by omega, by omega, by decide, by omega, Lib.hid ⟨rfl, by simp⟩, HZ⟩
    case round =>
      clear HZ
      obtain ⟨j, t, ct, S, K, f, R, pv, ap, xs, Ls, a, n, c, rfl, rfl, hj16, hjl, hSR, hn8, HM, HS⟩ := hrel
      have p1 : wr.cell? ⟨w.heap.size, 1, none⟩ = some (.slice a0_Acts len0_Acts cap0_Acts) := HS.out.2.2.2.1.cell (i := 1) (by rw [← HPC.out]; rfl)
      by_cases hlt : j < len0_Acts
      · have i1 : (j : Int) < (len0_Acts : Int) := by omega
        by_cases h16 : j < 16
        · have i2 : (j : Int) < 16 := by omega
          have i2b : decide ((j : Int) < 16) = true := by simpa using i2
          have i3 : (0 : Int) ≤ (j : Int) := by omega
          have i4 : IntKind.i64.wrap ((j : Int) + 1) = (j : Int) + 1 := IntWalk.i64_in _ (by omega)
          obtain ⟨bb, off, hab, hbl, hcl⟩ := HCELL.out (by omega)
          subst hab
          obtain ⟨v0, e0, d0⟩ := hcl j hlt 0 _ rfl
          obtain ⟨v1, e1, d1⟩ := hcl j hlt 1 _ rfl
          obtain ⟨v2, e2, d2⟩ := hcl j hlt 2 _ rfl
          obtain ⟨kd, rfl, wkd⟩ := rd_int Try.underlying3 d0
          obtain ⟨sz, rfl, wsz⟩ := rd_string Try.underlying9 d1
          obtain ⟨pa, pl, pk, pz, rfl, wpz⟩ := rd_strs Try.underlying65 Try.underlying9 (by kernel_rfl) d2
          have y0 : wr.cell? ⟨bb, off + j * 3, none⟩ = some (.int .i64 kd) := by rw [HS.out.1.2.2.2.2.2.1.cell hbl]; simpa using e0
          have y1 : wr.cell? ⟨bb, off + j * 3 + 1, none⟩ = some (.string sz) := by rw [HS.out.1.2.2.2.2.2.1.cell hbl]; rw [Nat.add_assoc]; exact e1
          have y2 : wr.cell? ⟨bb, off + j * 3 + 2, none⟩ = some (.slice pa pl pk) := by rw [HS.out.1.2.2.2.2.2.1.cell hbl]; rw [Nat.add_assoc]; exact e2
          have HPZ := Lib.hid (And.intro wpz wsz)
          clear hcl e0 e1 e2 wkd d0 d1 d2 wsz wpz
          go_upto_block 2 with fail
          have H0 : Hid (ZP w.heap.size w (wr.alloc (.cells #[.int .i64 kd, .string sz, .slice pa pl pk] 67)) X pc [.int .i64 W, .string S, .int .i64 (K : Nat), .slice a n c] a h b g 24 W pv ap xs Ls t S.size ct S K f R ∧ Blk (wr.alloc (.cells #[.int .i64 kd, .string sz, .slice pa pl pk] 67)) wr.heap.size [.int .i64 kd, .string sz, .slice pa pl pk] 67) := Lib.hid ⟨HS.out.below ((Below.refl _ _).alloc (Nat.le_refl _) _), Blk.newA wr _ _⟩
          clear y0 y1 y2 HS p1
          revert H0
          generalize wr.alloc (.cells #[.int .i64 kd, .string sz, .slice pa pl pk] 67) = u0
          generalize wr.heap.size = A
          intro H0
          have hK : K ≤ S.size := H0.out.1.1.1.km
          have hSW : S.size ≤ W := H0.out.1.1.1.mw
          have hR24 : R.size ≤ 24 := H0.out.1.1.2.2.1.2.2.2.1
          go_cut [6, 9, 10, 11] from 19 to 111 (fun sv _ _ _ wx => ∃ (t : Option Addr) (ct : Nat) (S : ByteArray) (K f : Nat) (R : ByteArray) (pv : Value) (ap : Option Addr) (xs : List Nat) (Ls : List (List (Bool × BitVec 256))) (a : Option Addr) (n c : Nat), sv = .string R ∧ S.size + R.size ≤ 12 * (j + 1) ∧ n ≤ 8 ∧ Hid (Ls.length = n ∧ ∀ l ∈ Ls, l.length ≤ 62) ∧ Hid (ZP w.heap.size w wx X pc [.int .i64 W, .string S, .int .i64 (K : Nat), .slice a n c] a h b g 24 W pv ap xs Ls t S.size ct S K f R))
          case first =>
            have a0 := H0.out.2.cell (i := 0) rfl
            have a1 := H0.out.2.cell (i := 1) rfl
            have a2 := H0.out.2.cell (i := 2) rfl
            by_cases k0 : kd = 0
            · subst k0
              obtain ⟨bs, hbs⟩ : ∃ bs, cutT sz 12 = bs := ⟨_, rfl⟩
              have hb12 : bs.size ≤ 12 := by rw [← hbs]; exact cutT_le _ _
              obtain ⟨q, hq⟩ : ∃ q, min bs.size (24 - R.size) = q := ⟨_, rfl⟩
              obtain ⟨P1, hP1⟩ : ∃ P1, bs.extract 0 q = P1 := ⟨_, rfl⟩
              obtain ⟨R2, hR2⟩ : ∃ R2, R ++ P1 = R2 := ⟨_, rfl⟩
              have zP1 : P1.size ≤ 12 := by rw [← hP1, ByteArray.size_extract]; omega
              have zR2 : R2.size ≤ R.size + 12 := by rw [← hR2, ByteArray.size_append]; omega
              have u1 : ¬ (9223372036854775807 < R.size + P1.size) := by omega
              have u2 : (0 : Int) ≤ (q : Int) := by omega
              have u3 : (q : Int) ≤ (bs.size : Int) := by omega
              have u4 : q ≤ bs.size := by omega
              have HBS : Hid (cutT sz 12 = bs ∧ min bs.size (24 - R.size) = q ∧ R ++ bs.extract 0 q = R2 ∧ bs.size ≤ 100000) := Lib.hid ⟨hbs, hq, by rw [hP1]; exact hR2, by omega⟩
              clear hbs hq
              go_wp2_with (first
                | (go_at_call 35; refine (cut_m sz bs 12 (by omega) HPZ.out.2 HBS.out.1 12 rfl _).mono ?_; rintro e z1 ⟨rfl, hb1⟩; have H1 := Lib.hid (H0.out.1.below hb1); clear hb1)
                | (go_at_call 36; refine (ls_put3 H1.out.1 bs HBS.out.2.2.2 q HBS.out.2.1 R2 HBS.out.2.2.1).mono ?_; rintro e z2 ⟨rfl, q1, q2⟩; have H2 := Lib.hid (H1.out.step q1 q2); clear q1 q2)
                | fail)
              go_meet
              exact ⟨t, ct, S, K, f, R2, pv, ap, xs, Ls, a, n, c, rfl, by omega, hn8, HM, H2⟩
            · by_cases k1 : kd = 1
              · subst k1
                obtain ⟨res, hres⟩ : ∃ res, Hd.look Ls W ((S.size - K) + R.size + 1) S.data.toList K R.data.toList 0 = res := ⟨_, rfl⟩
                have HRES := Lib.hid hres
                have hSRt := hSR
                clear hres
                go_upto_region 12 with fail
                have HB : Hid (ZP w.heap.size w (u0.alloc (.cells #[.bool false, .bool false, .int .i64 0, .int .i64 0, .int .i64 0] 71)) X pc [.int .i64 W, .string S, .int .i64 (K : Nat), .slice a n c] a h b g 24 W pv ap xs Ls t S.size ct S K f R ∧ Blk (u0.alloc (.cells #[.bool false, .bool false, .int .i64 0, .int .i64 0, .int .i64 0] 71)) A [.int .i64 1, .string sz, .slice pa pl pk] 67 ∧ Blk (u0.alloc (.cells #[.bool false, .bool false, .int .i64 0, .int .i64 0, .int .i64 0] 71)) u0.heap.size [.bool false, .bool false, .int .i64 0, .int .i64 0, .int .i64 0] 71 ∧ w.heap.size ≤ u0.heap.size) := Lib.hid ⟨H0.out.1.below ((Below.refl _ _).alloc (Nat.le_refl _) _), H0.out.2.alloc _, Blk.newA u0 _ _, H0.out.1.1.2.2.2.2.2.2⟩
                revert HB
                generalize (u0.alloc (.cells #[.bool false, .bool false, .int .i64 0, .int .i64 0, .int .i64 0] 71)) = u1
                obtain ⟨Fb, hFb⟩ : ∃ Fb, u0.heap.size = Fb := ⟨_, rfl⟩
                rw [hFb]
                intro HB
                clear hFb a0 a1 a2 H0
                have xf : ¬ X = Fb := fun e => by
                  have h1 := HB.out.1.2.2.1
                  rw [e] at h1
                  exact absurd (blk_ty h1 HB.out.2.2.1) (by decide)
                have fx : ¬ Fb = X := fun e => xf e.symm
                have c0 := HB.out.1.2.2.1.cell (i := 0) rfl
                have c1 := HB.out.1.2.2.1.cell (i := 1) rfl
                have c2 := HB.out.1.2.2.1.cell (i := 2) rfl
                have c3 := HB.out.1.2.2.1.cell (i := 3) rfl
                go_upto_region 13 with (first
                  | (go_at_call 37; refine (rf_look19 W hW1.2 S R K a n c Ls HM.out.1 (by omega) HM.out.2 hK hSW (by omega) res HRES.out _ HB.out.1.2.1.ll).mono ?_; rintro e z1 ⟨S2, R2, rfl, q1, q2, hb1⟩; have HC := Lib.hid (And.intro (HB.out.1.below hb1) (And.intro (HB.out.2.1.below hb1 HB.out.2.1.lt) (HB.out.2.2.1.below hb1 HB.out.2.2.1.lt))); have HQ := Lib.hid (And.intro q1 q2); clear q1 q2 hb1 c0 c1 c2 c3; have c0 := HC.out.1.2.2.1.cell (i := 0) rfl; have c1 := HC.out.1.2.2.1.cell (i := 1) rfl; have c2 := HC.out.1.2.2.1.cell (i := 2) rfl; have c3 := HC.out.1.2.2.1.cell (i := 3) rfl; have d0 := HC.out.1.2.2.1.free 0; have d1 := HC.out.1.2.2.1.free 1; have d2 := HC.out.1.2.2.1.free 2; have d3 := HC.out.1.2.2.1.free 3; have f0 := HC.out.2.2.cell (i := 0) rfl; have f1 := HC.out.2.2.cell (i := 1) rfl; have f2 := HC.out.2.2.cell (i := 2) rfl; have f3 := HC.out.2.2.cell (i := 3) rfl; have f4 := HC.out.2.2.cell (i := 4) rfl; have g0 := HC.out.2.2.free 0; have g1 := HC.out.2.2.free 1; have g2 := HC.out.2.2.free 2; have g3 := HC.out.2.2.free 3; have g4 := HC.out.2.2.free 4)
                  | fail)
                clear c0 c1 c2 c3 d0 d1 d2 d3 f0 f1 f2 f3 f4 g0 g1 g2 g3 g4
                have HX : Hid (ZP w.heap.size w (((((((((z1.setCell ⟨X, 0, none⟩ (.int .i64 W)).setCell ⟨X, 1, none⟩ (.string S2)).setCell ⟨X, 2, none⟩ (.int .i64 res.K)).setCell ⟨X, 3, none⟩ (.slice a n c)).setCell ⟨Fb, 0, none⟩ (.bool res.hit)).setCell ⟨Fb, 1, none⟩ (.bool res.full)).setCell ⟨Fb, 2, none⟩ (.int .i64 res.arm)).setCell ⟨Fb, 3, none⟩ (.int .i64 res.gone)).setCell ⟨Fb, 4, none⟩ (.int .i64 res.rd)) X pc [.int .i64 W, .string S2, .int .i64 (res.K : Nat), .slice a n c] a h b g 24 W pv ap xs Ls t S.size ct S K f R ∧ Blk (((((((((z1.setCell ⟨X, 0, none⟩ (.int .i64 W)).setCell ⟨X, 1, none⟩ (.string S2)).setCell ⟨X, 2, none⟩ (.int .i64 res.K)).setCell ⟨X, 3, none⟩ (.slice a n c)).setCell ⟨Fb, 0, none⟩ (.bool res.hit)).setCell ⟨Fb, 1, none⟩ (.bool res.full)).setCell ⟨Fb, 2, none⟩ (.int .i64 res.arm)).setCell ⟨Fb, 3, none⟩ (.int .i64 res.gone)).setCell ⟨Fb, 4, none⟩ (.int .i64 res.rd)) Fb [.bool res.hit, .bool res.full, .int .i64 res.arm, .int .i64 res.gone, .int .i64 res.rd] 71 ∧ w.heap.size ≤ Fb) := Lib.hid ((ZP.setF (ZP.setF (ZP.setF (ZP.setF (ZP.setF ⟨((((HC.out.1.setX 0 (.int .i64 W)).setX 1 (.string S2)).setX 2 (.int .i64 res.K)).setX 3 (.slice a n c)), ((((HC.out.2.2.chg ((Chg.refl [X] _).set (b := X) (Or.inl (by simp)) 0 (.int .i64 W)) (by simpa using fx)).chg ((Chg.refl [X] _).set (b := X) (Or.inl (by simp)) 1 (.string S2)) (by simpa using fx)).chg ((Chg.refl [X] _).set (b := X) (Or.inl (by simp)) 2 (.int .i64 res.K)) (by simpa using fx)).chg ((Chg.refl [X] _).set (b := X) (Or.inl (by simp)) 3 (.slice a n c)) (by simpa using fx)), HB.out.2.2.2⟩ 0 (.bool res.hit)) 1 (.bool res.full)) 2 (.int .i64 res.arm)) 3 (.int .i64 res.gone)) 4 (.int .i64 res.rd)))
                revert HX
                generalize (((((((((z1.setCell ⟨X, 0, none⟩ (.int .i64 W)).setCell ⟨X, 1, none⟩ (.string S2)).setCell ⟨X, 2, none⟩ (.int .i64 res.K)).setCell ⟨X, 3, none⟩ (.slice a n c)).setCell ⟨Fb, 0, none⟩ (.bool res.hit)).setCell ⟨Fb, 1, none⟩ (.bool res.full)).setCell ⟨Fb, 2, none⟩ (.int .i64 res.arm)).setCell ⟨Fb, 3, none⟩ (.int .i64 res.gone)).setCell ⟨Fb, 4, none⟩ (.int .i64 res.rd)) = W5
                intro HX
                have HXD : Hid (ZP w.heap.size w W5.drew X pc [.int .i64 W, .string S2, .int .i64 (res.K : Nat), .slice a n c] a h b g 24 W pv ap xs Ls t S.size ct S K f R ∧ Blk W5.drew Fb [.bool res.hit, .bool res.full, .int .i64 res.arm, .int .i64 res.gone, .int .i64 res.rd] 71) := Lib.hid ⟨HX.out.1.below (Below.refl _ _).drew, HX.out.2.1.drew⟩
                have e0 := HXD.out.2.cell (i := 0) rfl
                have e1 := HXD.out.2.cell (i := 1) rfl
                have e2 := HXD.out.2.cell (i := 2) rfl
                have e3 := HXD.out.2.cell (i := 3) rfl
                have e4 := HXD.out.2.cell (i := 4) rfl
                go_region_law (first
                  | (rw [if_pos (by simp [Region.wanted])]
                     unfold Oper.wp
                     go_simp
                     go_at_call 39
                     refine (ls_look3 HXD.out.1.1 res HRES.out S2 R2 HQ.out.1 HQ.out.2 ).mono ?_
                     rintro e z2 ⟨rfl, t', m', ct', f', q1, q2⟩
                     obtain rfl : S2.size = m' := q1.1.tv.1
                     have H2 : Hid (ZP w.heap.size w z2 X pc [.int .i64 W, .string S2, .int .i64 (res.K : Nat), .slice a n c] a h b g 24 W pv ap xs Ls t' S2.size ct' S2 res.K f' R2) := Lib.hid (HXD.out.1.step q1 q2)
                     have HE2 := Lib.hid (q2.1 _ _ _ ht5_no.2.2.2 HXD.out.2)
                     have x0 := HE2.out.cell (i := 0) rfl
                     have x1 := HE2.out.cell (i := 1) rfl
                     have x2 := HE2.out.cell (i := 2) rfl
                     have x3 := HE2.out.cell (i := 3) rfl
                     have x4 := HE2.out.cell (i := 4) rfl
                     clear q1 q2)
                  | (rw [if_pos (by simp [Region.wanted])]
                     unfold Oper.wp
                     go_simp
                     go_at_call 38
                     refine (hd_same res.hit res.full res.arm res.gone res.rd _).mono ?_
                     rintro e z3 ⟨rfl, b2⟩
                     have H3 := Lib.hid (H2.out.below b2)
                     clear b2))
                all_goals
                  have hle : S2.size + R2.size ≤ S.size + R.size := by
                    have := look_le (Ls := Ls) (W := W) ((S.size - K) + R.size + 1) S.data.toList K R.data.toList 0
                    rw [HRES.out, ← HQ.out.1, ← HQ.out.2, bl_size, bl_size, bl_size, bl_size] at this
                    exact this
                  go_wp2_with fail
                  go_meet
                  exact ⟨t', ct', S2, res.K, f', R2, pv, ap, xs, Ls, a, n, c, rfl, by omega, hn8, HM, H3⟩
              · by_cases k2 : kd = 2
                · subst k2
                  obtain ⟨rs, hrs⟩ : ∃ rs, fewT pz 3 8 = rs := ⟨_, rfl⟩
                  obtain ⟨m3, hm3⟩ : ∃ m3, rs.length = m3 := ⟨_, rfl⟩
                  have hm33 : m3 ≤ 3 := by rw [← hm3, ← hrs]; exact fewT_len _ _ _
                  have hsz : ∀ s ∈ rs, s.size ≤ 8 := by rw [← hrs]; exact fewT_long
                  have HR3 : Hid (fewT pz 3 8 = rs ∧ rs.length = m3 ∧ (∀ s ∈ rs, s.size ≤ 1000000) ∧ (∀ s ∈ rs, s.size ≤ maxLen) ∧ pz.length = pl ∧ pl ≤ maxLen) := Lib.hid ⟨hrs, hm3, fun s hs => by have := hsz s hs; omega, fun s hs => by have := hsz s hs; unfold maxLen; omega, HPZ.out.1.1, Nat.le_trans HPZ.out.1.2.1 HPZ.out.1.2.2.1⟩
                  have hm8 : m3 ≤ 8 := by omega
                  clear hrs hm3 hsz
                  go_upto_region 17 with fail
                  have HD : Hid (ZP w.heap.size w u0.drew X pc [.int .i64 W, .string S, .int .i64 (K : Nat), .slice a n c] a h b g 24 W pv ap xs Ls t S.size ct S K f R ∧ Blk u0.drew A [.int .i64 2, .string sz, .slice pa pl pk] 67 ∧ Below w.heap.size w u0.drew) := Lib.hid ⟨H0.out.1.below (Below.refl _ _).drew, H0.out.2.drew, H0.out.1.1.2.2.2.2.2.1.drew⟩
                  clear a0 a1 a2
                  by_cases he0 : (Ar.nw rs m3).2 = 0
                  · obtain ⟨L9, hL9⟩ : ∃ L9, rs.map Ar.pat = L9 := ⟨_, rfl⟩
                    have hL9n : L9.length = m3 := by rw [← hL9, List.length_map]; exact HR3.out.2.1
                    have h629 : ∀ l ∈ L9, l.length ≤ 62 := by rw [← hL9]; exact (pats_ok HR3.out.2.1 he0).1
                    have HN := Lib.hid (And.intro he0 (And.intro hL9 (And.intro hL9n h629)))
                    clear he0 hL9 hL9n h629
                    have ax : ¬ A = X := fun e => by
                      have h1 := HD.out.1.2.2.1
                      rw [← e] at h1
                      exact absurd (blk_ty h1 HD.out.2.1) (by decide)
                    have xa : ¬ X = A := fun e => ax e.symm
                    go_cut [11] from 19 to 111 (fun ev wx => ev = .int .i64 0 ∧ ∃ (g2 c2 : Nat), Hid (ZP w.heap.size w wx X pc [.int .i64 W, .string S, .int .i64 (0 : Nat), .slice (some ⟨g2, 0, none⟩) m3 c2] a h b g 24 W pv ap xs Ls t S.size ct S K f R ∧ LLT wx (some ⟨g2, 0, none⟩) L9 ∧ Blk wx A [.int .i64 2, .string sz, .slice pa pl pk] 67))
                    case first =>
                      have b0 := HD.out.1.2.2.1.cell (i := 0) rfl
                      have b1 := HD.out.1.2.2.1.cell (i := 1) rfl
                      have b2 := HD.out.1.2.2.1.cell (i := 2) rfl
                      have b3 := HD.out.1.2.2.1.cell (i := 3) rfl
                      have b2 := HD.out.2.1.cell (i := 2) rfl
                      go_region_law (first
                        | (rw [if_pos (by simp [Region.wanted])]
                           unfold Oper.wp
                           go_simp
                           go_at_call 41
                           refine (fewt pz pl HR3.out.2.2.2.2.1 HR3.out.2.2.2.2.2 pa pk 3 8 (by omega) (by omega) rs HR3.out.1 m3 HR3.out.2.1 _ ((tx_in HPZ.out.1).below HD.out.2.2)).mono ?_
                           rintro e z1 ⟨g1, c1, rfl, q1, _, hb1⟩
                           have H1 := Lib.hid (And.intro (HD.out.1.below hb1) (And.intro (TX.of_rw q1 HR3.out.2.2.2.1) (HD.out.2.1.below hb1 HD.out.2.1.lt)))
                           have x0 := H1.out.1.2.2.1.cell (i := 0) rfl
                           have x1 := H1.out.1.2.2.1.cell (i := 1) rfl
                           have x2 := H1.out.1.2.2.1.cell (i := 2) rfl
                           have x3 := H1.out.1.2.2.1.cell (i := 3) rfl
                           clear q1 hb1)
                        | (rw [if_pos (by simp [Region.wanted])]
                           unfold Oper.wp
                           go_simp
                           go_at_call 40
                           refine (rf_begin19_yes W S K a n c rs m3 HR3.out.2.1 hm8 _ c1 HR3.out.2.2.1 HN.out.1 _ H1.out.2.1).mono ?_
                           rintro e z2 ⟨g2, c2, rfl, q1, hb1⟩
                           rw [HN.out.2.1] at q1
                           have H2 := Lib.hid (And.intro (H1.out.1.below hb1) (And.intro q1 (H1.out.2.2.below hb1 H1.out.2.2.lt)))
                           have r0 := H2.out.1.2.2.1.cell (i := 0) rfl
                           have r1 := H2.out.1.2.2.1.cell (i := 1) rfl
                           have r2 := H2.out.1.2.2.1.cell (i := 2) rfl
                           have r3 := H2.out.1.2.2.1.cell (i := 3) rfl
                           have s0 := H2.out.1.2.2.1.free 0
                           have s1 := H2.out.1.2.2.1.free 1
                           have s2 := H2.out.1.2.2.1.free 2
                           have s3 := H2.out.1.2.2.1.free 3
                           clear q1 hb1))
                      all_goals
                        go_wp2_with fail
                        go_meet
                        first
                          | exact ⟨rfl, g2, c2, Lib.hid ⟨((((H2.out.1.setX 0 (.int .i64 W)).setX 1 (.string S)).setX 2 (.int .i64 (0 : Nat))).setX 3 (.slice (some ⟨g2, 0, none⟩) m3 c2)), (ZP.llt (((H2.out.1.setX 0 (.int .i64 W)).setX 1 (.string S)).setX 2 (.int .i64 (0 : Nat))) (ZP.llt ((H2.out.1.setX 0 (.int .i64 W)).setX 1 (.string S)) (ZP.llt (H2.out.1.setX 0 (.int .i64 W)) (ZP.llt H2.out.1 H2.out.2.1 0 (.int .i64 W)) 1 (.string S)) 2 (.int .i64 (0 : Nat))) 3 (.slice (some ⟨g2, 0, none⟩) m3 c2)), ((((H2.out.2.2.chg ((Chg.refl [X] _).set (b := X) (Or.inl (by simp)) 0 (.int .i64 W)) (by simpa using ax)).chg ((Chg.refl [X] _).set (b := X) (Or.inl (by simp)) 1 (.string S)) (by simpa using ax)).chg ((Chg.refl [X] _).set (b := X) (Or.inl (by simp)) 2 (.int .i64 (0 : Nat))) (by simpa using ax)).chg ((Chg.refl [X] _).set (b := X) (Or.inl (by simp)) 3 (.slice (some ⟨g2, 0, none⟩) m3 c2)) (by simpa using ax))⟩⟩
                          | exact ⟨rfl, g2, c2, Lib.hid ⟨((((H2.out.1.setX 0 (.int .i64 W)).setX 1 (.string S)).setX 2 (.int .i64 (0 : Nat))).setX 3 (.slice (some ⟨g2, 0, none⟩) m3 c2)).below (Below.refl _ _).drew, (ZP.llt (((H2.out.1.setX 0 (.int .i64 W)).setX 1 (.string S)).setX 2 (.int .i64 (0 : Nat))) (ZP.llt ((H2.out.1.setX 0 (.int .i64 W)).setX 1 (.string S)) (ZP.llt (H2.out.1.setX 0 (.int .i64 W)) (ZP.llt H2.out.1 H2.out.2.1 0 (.int .i64 W)) 1 (.string S)) 2 (.int .i64 (0 : Nat))) 3 (.slice (some ⟨g2, 0, none⟩) m3 c2)).below (Below.refl _ _).drew, ((((H2.out.2.2.chg ((Chg.refl [X] _).set (b := X) (Or.inl (by simp)) 0 (.int .i64 W)) (by simpa using ax)).chg ((Chg.refl [X] _).set (b := X) (Or.inl (by simp)) 1 (.string S)) (by simpa using ax)).chg ((Chg.refl [X] _).set (b := X) (Or.inl (by simp)) 2 (.int .i64 (0 : Nat))) (by simpa using ax)).chg ((Chg.refl [X] _).set (b := X) (Or.inl (by simp)) 3 (.slice (some ⟨g2, 0, none⟩) m3 c2)) (by simpa using ax)).drew⟩⟩
                    case rest =>
                      obtain ⟨rfl, g2, c2, HE⟩ := hcut
                      clear H0 HD
                      have y2 := HE.out.2.2.cell (i := 2) rfl
                      go_wp2_with (first
                        | (go_at_call 41; refine (fewt pz pl HR3.out.2.2.2.2.1 HR3.out.2.2.2.2.2 pa pk 3 8 (by omega) (by omega) rs HR3.out.1 m3 HR3.out.2.1 _ ((tx_in HPZ.out.1).below HE.out.1.1.2.2.2.2.2.1)).mono ?_; rintro e z5 ⟨g5, c5, rfl, q1, _, hb1⟩; have HG := Lib.hid (And.intro (HE.out.1.below hb1) (And.intro (TX.of_rw q1 HR3.out.2.2.2.1) (HE.out.2.1.below hb1))); clear q1 hb1)
                        | (go_at_call 42; refine (ls_begin3 HG.out.1.1 rs m3 HR3.out.2.1 hm8 g5 c5 HR3.out.2.2.1 HN.out.1 HG.out.2.1 L9 HN.out.2.1).mono ?_; rintro e z6 ⟨x9, gp, cp, ys, rfl, q1, q2⟩; have HK9 := Lib.hid (HG.out.1.lists q1 q2 HG.out.2.2); clear q1 q2)
                        | fail)
                      go_meet
                      exact ⟨t, ct, S, 0, f, R, _, _, ys, L9, some ⟨g2, 0, none⟩, m3, c2, rfl, by omega, hm8, Lib.hid HN.out.2.2, HK9⟩
                  · obtain ⟨ni, ne, hnw⟩ : ∃ ni ne, Ar.nw rs m3 = (ni, ne) := ⟨_, _, rfl⟩
                    have hne : ne ≠ 0 := by rw [hnw] at he0; exact he0
                    have HN := Lib.hid (And.intro hnw hne)
                    clear he0 hnw hne
                    have ax : ¬ A = X := fun e => by
                      have h1 := HD.out.1.2.2.1
                      rw [← e] at h1
                      exact absurd (blk_ty h1 HD.out.2.1) (by decide)
                    have xa : ¬ X = A := fun e => ax e.symm
                    go_cut [11] from 19 to 111 (fun ev wx => ev = .int .i64 (ne : Nat) ∧ Hid (ZP w.heap.size w wx X pc [.int .i64 W, .string S, .int .i64 (K : Nat), .slice a n c] a h b g 24 W pv ap xs Ls t S.size ct S K f R ∧ Blk wx A [.int .i64 2, .string sz, .slice pa pl pk] 67))
                    case first =>
                      have b0 := HD.out.1.2.2.1.cell (i := 0) rfl
                      have b1 := HD.out.1.2.2.1.cell (i := 1) rfl
                      have b2 := HD.out.1.2.2.1.cell (i := 2) rfl
                      have b3 := HD.out.1.2.2.1.cell (i := 3) rfl
                      have b2 := HD.out.2.1.cell (i := 2) rfl
                      go_region_law (first
                        | (rw [if_pos (by simp [Region.wanted])]
                           unfold Oper.wp
                           go_simp
                           go_at_call 41
                           refine (fewt pz pl HR3.out.2.2.2.2.1 HR3.out.2.2.2.2.2 pa pk 3 8 (by omega) (by omega) rs HR3.out.1 m3 HR3.out.2.1 _ ((tx_in HPZ.out.1).below HD.out.2.2)).mono ?_
                           rintro e z1 ⟨g1, c1, rfl, q1, _, hb1⟩
                           have H1 := Lib.hid (And.intro (HD.out.1.below hb1) (And.intro (TX.of_rw q1 HR3.out.2.2.2.1) (HD.out.2.1.below hb1 HD.out.2.1.lt)))
                           have x0 := H1.out.1.2.2.1.cell (i := 0) rfl
                           have x1 := H1.out.1.2.2.1.cell (i := 1) rfl
                           have x2 := H1.out.1.2.2.1.cell (i := 2) rfl
                           have x3 := H1.out.1.2.2.1.cell (i := 3) rfl
                           clear q1 hb1)
                        | (rw [if_pos (by simp [Region.wanted])]
                           unfold Oper.wp
                           go_simp
                           go_at_call 40
                           refine (rf_begin19_no W S K a n c rs m3 HR3.out.2.1 hm8 _ c1 HR3.out.2.2.1 ni ne HN.out.1 HN.out.2 _ H1.out.2.1).mono ?_
                           rintro e z2 ⟨rfl, hb1⟩
                           have H2 := Lib.hid (And.intro (H1.out.1.below hb1) (H1.out.2.2.below hb1 H1.out.2.2.lt))
                           have r0 := H2.out.1.2.2.1.cell (i := 0) rfl
                           have r1 := H2.out.1.2.2.1.cell (i := 1) rfl
                           have r2 := H2.out.1.2.2.1.cell (i := 2) rfl
                           have r3 := H2.out.1.2.2.1.cell (i := 3) rfl
                           have s0 := H2.out.1.2.2.1.free 0
                           have s1 := H2.out.1.2.2.1.free 1
                           have s2 := H2.out.1.2.2.1.free 2
                           have s3 := H2.out.1.2.2.1.free 3
                           clear hb1))
                      all_goals
                        go_wp2_with fail
                        go_meet
                        first
                          | exact ⟨rfl, Lib.hid ⟨((((H2.out.1.setX 0 (.int .i64 W)).setX 1 (.string S)).setX 2 (.int .i64 K)).setX 3 (.slice a n c)), ((((H2.out.2.chg ((Chg.refl [X] _).set (b := X) (Or.inl (by simp)) 0 (.int .i64 W)) (by simpa using ax)).chg ((Chg.refl [X] _).set (b := X) (Or.inl (by simp)) 1 (.string S)) (by simpa using ax)).chg ((Chg.refl [X] _).set (b := X) (Or.inl (by simp)) 2 (.int .i64 K)) (by simpa using ax)).chg ((Chg.refl [X] _).set (b := X) (Or.inl (by simp)) 3 (.slice a n c)) (by simpa using ax))⟩⟩
                          | exact ⟨rfl, Lib.hid ⟨((((H2.out.1.setX 0 (.int .i64 W)).setX 1 (.string S)).setX 2 (.int .i64 K)).setX 3 (.slice a n c)).below (Below.refl _ _).drew, ((((H2.out.2.chg ((Chg.refl [X] _).set (b := X) (Or.inl (by simp)) 0 (.int .i64 W)) (by simpa using ax)).chg ((Chg.refl [X] _).set (b := X) (Or.inl (by simp)) 1 (.string S)) (by simpa using ax)).chg ((Chg.refl [X] _).set (b := X) (Or.inl (by simp)) 2 (.int .i64 K)) (by simpa using ax)).chg ((Chg.refl [X] _).set (b := X) (Or.inl (by simp)) 3 (.slice a n c)) (by simpa using ax)).drew⟩⟩
                    case rest =>
                      obtain ⟨rfl, HE⟩ := hcut
                      clear H0 HD
                      have y2 := HE.out.2.cell (i := 2) rfl
                      go_wp2_with (first
                        | (go_at_call 41; refine (fewt pz pl HR3.out.2.2.2.2.1 HR3.out.2.2.2.2.2 pa pk 3 8 (by omega) (by omega) rs HR3.out.1 m3 HR3.out.2.1 _ ((tx_in HPZ.out.1).below HE.out.1.1.2.2.2.2.2.1)).mono ?_; rintro e z5 ⟨g5, c5, rfl, q1, _, hb1⟩; have HG := Lib.hid (And.intro (HE.out.1.below hb1) (TX.of_rw q1 HR3.out.2.2.2.1)); clear q1 hb1)
                        | (go_at_call 42; refine (hd_begin_no h W S.size ct K t ap S pv rs m3 HR3.out.2.1 hm8 _ c5 HR3.out.2.2.1 ni ne HN.out.1 HN.out.2 _ HG.out.1.1.1 HG.out.2).mono ?_; rintro e z6 ⟨rfl, hb1⟩; have HK9 := Lib.hid (HG.out.1.below hb1); clear hb1)
                        | fail)
                      go_meet
                      exact ⟨t, ct, S, K, f, R, pv, ap, xs, Ls, a, n, c, rfl, by omega, hn8, HM, HK9⟩
                · have g0 : (kd == 0) = false := by simpa using k0
                  have g1 : (kd == 1) = false := by simpa using k1
                  have g2 : (kd == 2) = false := by simpa using k2
                  go_wp2_with fail
                  go_meet
                  exact ⟨t, ct, S, K, f, R, pv, ap, xs, Ls, a, n, c, rfl, by omega, hn8, HM, Lib.hid H0.out.1⟩
          case rest =>
            obtain ⟨t, ct, S, K, f, R, pv, ap, xs, Ls, a, n, c, rfl, hSR, hn8, HM, HS⟩ := hcut
            clear H0
            have hK : K ≤ S.size := HS.out.1.1.km
            have hSW : S.size ≤ W := HS.out.1.1.mw
            have HR24 : Hid (R.size ≤ 24) := Lib.hid HS.out.1.2.2.1.2.2.2.1
            have v1 : IntKind.i64.wrap ((S.size : Int) - (K : Int)) = (S.size : Int) - (K : Int) := IntWalk.i64_in _ (by omega)
            go_upto_region 20 with fail
            refine wp_region_class (fun w' => ZP w.heap.size w w' X pc [.int .i64 W, .string S, .int .i64 (K : Nat), .slice a n c] a h b g 24 W pv ap xs Ls t S.size ct S K f R) (by kernel_rfl) (by kernel_rfl) (HS.out.below (Below.refl _ _).drew) ?_
            repeat (first
                | go_big_quiet_skip
                | (go_big_quiet_want
                   unfold Oper.quiet
                   apply Exists.intro
                   refine ⟨fun wq hwq => ?_, ?_⟩
                   · (have c1 := hwq.2.2.1.cell (i := 1) rfl
                      have c2 := hwq.2.2.1.cell (i := 2) rfl
                      unfold Oper.quietAt
                      go_simp
                      first
                        | exact ⟨rfl, hwq⟩
                        | exact rfl
                        | (go_at_call 43; refine (hd_text hwq.1.1).mono ?_; rintro e w3 ⟨he, hb⟩; exact ⟨he, hwq.below hb⟩)
                        | (go_at_call 44; refine (hd_fresh hwq.1.1).mono ?_; rintro e w3 ⟨he, hb⟩; exact ⟨he, hwq.below hb⟩)
                        | (go_at_call 46; refine (ls_peek2 hwq.1 24 HR24.out 24 rfl).mono ?_; rintro e w3 ⟨he, hb⟩; exact ⟨he, hwq.below hb⟩)
                        | (go_at_call 45; refine (hd_len hwq.1.1).mono ?_; rintro e w3 ⟨he, rfl⟩; exact ⟨he, hwq⟩))
                   simp only [Act.put, List.setIfInBounds_toArray, List.set_cons_zero, List.set_cons_succ]
                   go_big_quiet_on))
            refine wpQuiet_nil ?_
            intro w4 hw4
            have HX := Lib.hid hw4
            clear hw4 HS
            go_wp2_with fail
            go_roundw
            case rel => exact ⟨j + 1, t, ct, S, K, f, R, pv, ap, xs, Ls, a, n, c, rfl, by go_num, by omega, by omega, hSR, hn8, HM, HX⟩
            case measure => simp [intOf]; omega
        · have i2 : ¬ (j : Int) < 16 := by omega
          have i2b : decide ((j : Int) < 16) = false := by simpa using i2
          go_wp2_with (first
            | (go_at_call 47; refine (hd_lives _).mono ?_; rintro e w3 ⟨rfl, q⟩; have HL := Lib.hid (HS.out.1.2.2.2.2.2.1.trans (q.mono HS.out.1.2.2.2.2.2.2)); clear q)
            | fail)
          go_ret
          exact ⟨rfl, HL.out⟩
      · have i1 : ¬ (j : Int) < (len0_Acts : Int) := by omega
        go_wp2_with (first
          | (go_at_call 47; refine (hd_lives _).mono ?_; rintro e w3 ⟨rfl, q⟩; have HL := Lib.hid (HS.out.1.2.2.2.2.2.1.trans (q.mono HS.out.1.2.2.2.2.2.2)); clear q)
          | fail)
        go_ret
        exact ⟨rfl, HL.out⟩

set_option maxRecDepth 100000 in
theorem lifted (os : Os) (started : os.Started) (H : Type) (enc : TypeId × Value → H) :
    ReturnsInHanded {} Try.checked os 7 .any (Rows.holdPlaysSpec.pre6 enc Try.prog Try.f7 Rows.holdPlaysRow.domain false) (Rows.holdPlaysSpec.post enc Try.prog Try.f7 false true false false) := by
  refine returnsInHanded_of_change (C := Try.checked) ownKn started (by kernel_rfl) Try.func7
    (ChangeSpec.witness6 (enc := enc) (C := Try.checked) false ⟨#[], #[.agg #[.int .i64 0, .slice none 0 0]], []⟩ 8 (by kernel_rfl) (by kernel_rfl) (by kernel_rfl) (by kernel_rfl)) ?_
  intro W base args ds gs before hval0 hW hcnd _
  have hval : ∀ (j : Nat) t v, Try.f7.params[j]? = some t → args[j]? = some v → Value.okWide Try.prog W .any base t v := hval0
  have hW' := hW
  obtain ⟨p, q, hA0, hV, rfl, hfz, hnd⟩ := hW
  have hA : DataW.TrodAll enc Try.prog W 0 (fun _ => true) true Try.f7.params.toList args.toList ds p := hA0
  rw [Try.params7] at hA hval
  obtain ⟨v0, vs0, d0, ds0, p0, q0, hargs, rfl, rfl, h0, r0⟩ := trodAll_cons hA
  obtain ⟨rfl, rfl, rfl⟩ := trodAll_nil r0
  obtain rfl : args = #[v0] := by cases args; simp_all
  obtain ⟨rfl, rfl⟩ := trodVars_none hV
  have k0 := h0
  have lt0 : ∀ x ∈ p0, x.block < W.heap.size := by obtain ⟨m, hm⟩ := k0; exact DataW.trod_lt m _ _ _ hm
  obtain ⟨u0_0, u0_1, y0_0, y0_1, nn0, rfl, _, _, g0_0, g0_1⟩ := open_flat2 Try.underlying56 (by kernel_rfl) (by kernel_rfl) (hval 0 56 v0 rfl rfl) h0
  obtain ⟨a0_Win, rfl, w0_Win⟩ := fld_int Try.underlying3 g0_0
  obtain ⟨a0_Acts, len0_Acts, cap0_Acts, rfl, w0_Acts⟩ := fld_any [3, 9, 65] Try.underlying54 Try.underlying67 (by kernel_rfl) (by kernel_rfl) rfl (by decide) g0_1
  clear hA0 hval0
  refine (walk a0_Win a0_Acts len0_Acts cap0_Acts W w0_Win w0_Acts).mono fun e W' ⟨he, bel⟩ => ?_
  subst he
  exact ⟨_, rfl, _, _, _, [], _, [], hW', trodAll_mk1 (shut_bool Try.underlying4 _), (trodAll_cons_mk (Below.trod laidOut (by kernel_rfl) (of_decide_eq_true (by kernel_rfl)) k0 bel lt0) trodAll_mk0), rfl, bel.frame _, fun h => by cases h⟩

theorem over : Rows.holdPlaysRow.holds Try.pinned (OpenSpec.ofChange Rows.holdPlaysSpec) :=
  OpenClaim.holds_of_wide 7 Try.f7 rfl rfl rfl rfl rfl rfl rfl ⟨rfl, rfl, rfl, rfl, rfl⟩ rfl rfl rfl rfl rfl (by kernel_rfl) Try.func7 (by kernel_rfl)
    (of_decide_eq_true (by kernel_rfl)) (by unfold Func.isWrapper; first | (rw [if_pos (by decide +kernel)]; kernel_rfl) | (rw [if_neg (by decide +kernel)]; exact ⟨rfl, rfl⟩))
    (fun os started H enc _ => lifted os started H enc)

/-- The statement. -/
theorem proved : Rows.HoldPlaysSaid := over
#print axioms proved
end Go.Proofs.Ytbdjcppkfihonaa.holdPlays
