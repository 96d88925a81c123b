/- P3.1 to P3.3: for every room, calls, place and number: what a ring tells of them, and what it holds behind each, is as the page says. No condition. -/
import Derived.Test.YtbgheljihjajdaaOpen
import Derived.Test.YtbgheljihjajdaaMix
import Derived.WalkKit
import Derived.ProofKit
import Derived.OpenShut
import Derived.Test.YtbgheljihjajdaaRingTold
import Derived.Test.YtbgheljihjajdaaMix
import Derived.Deep.CutRange
import Derived.Deep.LoopGhost
namespace Go.Proofs.Ytbgheljihjajdaa.ringPlays
open Go.Joins Go.ChangeShapes Go.WideShapes Go.ChangeAt Go.RowKit Go.Deep
open Go.ChangeMaps (open_string)
set_option linter.unusedSimpArgs false
set_option linter.unusedVariables false

section
variable {H : Type} {enc : TypeId × Value → H} {P : Program} {w : World} {base : Nat} {spare : Nat → Bool} {held : Bool}
theorem open_flat4 {r : Reach} {b0 : Nat} {t : TypeId} {f0 f1 f2 f3 : Field} {v : Value} {d : DataW H} {p : List MemPlace} (hs : P.underlying t = some (.struct #[f0, f1, f2, f3])) (hone : oneCellFields P #[f0, f1, f2, f3] = true) (hC : P.cellsOf t = 4)
    (hv : Value.okWide P w r b0 t v) (h : DataW.Trod enc P w base spare held t v d p) :
    ∃ (v0 v1 v2 v3 : Value) (y0 y1 y2 y3 : DataW H × List MemPlace) (n : Nat), v = .agg #[v0, v1, v2, v3] ∧ d = .agg [y0.1, y1.1, y2.1, y3.1] ∧ True ∧
      DataW.trod enc P w base spare held n f0.type [v0] = some y0 ∧ DataW.trod enc P w base spare held n f1.type [v1] = some y1 ∧ DataW.trod enc P w base spare held n f2.type [v2] = some y2 ∧ DataW.trod enc P w base spare held n f3.type [v3] = some y3 := by
  obtain ⟨cs, rfl, hsz⟩ := okWide_struct hs hv
  obtain ⟨l⟩ := cs
  match l, hsz.trans hC with
  | [c0, c1, c2, c3], _ =>
    obtain ⟨fuel, hf⟩ := h
    obtain ⟨xs, n, _, hx, _, hlen, hg⟩ := DataW.trod_struct hs hf
    obtain ⟨o0, k0⟩ := hone_of hone 0 f0 rfl
    obtain ⟨o1, k1⟩ := hone_of hone 1 f1 rfl
    obtain ⟨o2, k2⟩ := hone_of hone 2 f2 rfl
    obtain ⟨o3, k3⟩ := hone_of hone 3 f3 rfl
    match xs, hlen with
    | [y0, y1, y2, y3], _ =>
      simp only [Prod.mk.injEq] at hx
      exact ⟨c0, c1, c2, c3, y0, y1, y2, y3, n, rfl, by simpa using hx.1, trivial, by simpa [Value.cells, o0, k0] using hg 0 f0 rfl, by simpa [Value.cells, o1, k1] using hg 1 f1 rfl, by simpa [Value.cells, o2, k2] using hg 2 f2 rfl, by simpa [Value.cells, o3, k3] using hg 3 f3 rfl⟩
end
theorem clamp_min (x : Int) (n : Nat) (h : min (max x 1) 4096 = (n : Int)) : clampI x 1 4096 = n := by
  unfold clampI; split <;> (try split) <;> omega
theorem new_ex (n : Nat) (x : Int) (w : World) (hn : min (max x 1) 4096 = (n : Int)) :
    Calls Try.prog 7 #[.int .i64 x] w fun e w' => ∃ b g, w.heap.size ≤ b ∧ w.heap.size ≤ g ∧ e = .returned (.pointer (some ⟨b, 0, none⟩)) ∧ RAt w' b g n 0 ByteArray.empty ∧ Below w.heap.size w w' :=
  (new_any n x w hn).mono fun e w' ⟨he, hr, hb⟩ => ⟨_, _, by omega, Nat.le_refl _, he, hr, hb⟩
theorem RAt.lts {w : World} {b g n f : Nat} {S : ByteArray} (h : RAt w b g n f S) : b < w.heap.size ∧ g < w.heap.size := by
  obtain ⟨h1, h2, h3, h4, h5, h6, R, h7, h8, h9⟩ := h
  exact ⟨h6.lt, h8.lt⟩
/-- What holds all the time: the ring, the document's own answer, the statement's argument, and that nothing elder has changed. -/
def Inv (w0 w : World) (P : Nat) (pc : List Value) (b g n X : Nat) (Sr Sx : ByteArray) : Prop :=
  (∃ f, RAt w b g n f Sr) ∧ Blk w X [.string Sx, .int .i64 n] 28 ∧ Blk w P pc 24 ∧ Below P w0 w ∧ b ≠ X ∧ g ≠ X ∧ b ≠ P ∧ g ≠ P ∧ X ≠ P ∧ P ≤ b ∧ P ≤ g ∧ P ≤ X
theorem inv_new {w0 w : World} {P : Nat} {pc : List Value} {b g n : Nat} (hP : Blk w P pc 24) (hB : Below P w0 w) (hr : RAt w b g n 0 ByteArray.empty) (hb : P < b) (hg : P < g) :
    Inv w0 (w.alloc (Obj.cells #[Value.string ⟨#[]⟩, Value.int .i64 n] 28)) P pc b g n w.heap.size ⟨#[]⟩ ⟨#[]⟩ := by
  have hl := RAt.lts hr
  have hp := hP.lt
  exact ⟨⟨0, hr.fresh ((Below.refl _ _).alloc (Nat.le_refl _) _)⟩, Blk.newA w _ _, hP.alloc _, hB.alloc (by omega) _, by omega, by omega, by omega, by omega, by omega, by omega, by omega, by omega⟩
theorem inv_set {w0 w : World} {P : Nat} {pc : List Value} {b g n X : Nat} {S : ByteArray} (Sr S' : ByteArray) {m : Int} (hX : Blk w X [.string S, .int .i64 m] 28) (hP : Blk w P pc 24) (hB : Below P w0 w) (hr : ∃ f, RAt w b g n f Sr) (hb : P < b) (hg : P < g) (hx : P < X) (h1 : b ≠ X) (h2 : g ≠ X) :
    Inv w0 ((w.setCell ⟨X, 0, none⟩ (.string S')).setCell ⟨X, 1, none⟩ (.int .i64 n)) P pc b g n X Sr S' := by
  obtain ⟨f, hr⟩ := hr
  have kc : Chg [X] w ((w.setCell ⟨X, 0, none⟩ (.string S')).setCell ⟨X, 1, none⟩ (.int .i64 n)) := ((Chg.refl _ _).set (Or.inl (by simp)) _ _).set (Or.inl (by simp)) _ _
  have hp := hP.lt
  exact ⟨⟨f, hr.chg kc (by simpa using h1) (by simpa using h2)⟩, (hX.set 0 _).set 1 _, hP.chg kc (by simp; omega), kc.onto hB (by omega) (by simp; omega), h1, h2, by omega, by omega, by omega, by omega, by omega, by omega⟩
theorem Inv.fresh {w0 w w' : World} {P : Nat} {pc : List Value} {b g n X : Nat} {Sr Sx : ByteArray} (h : Inv w0 w P pc b g n X Sr Sx) (k : Below w.heap.size w w') : Inv w0 w' P pc b g n X Sr Sx := by
  obtain ⟨⟨f, k1⟩, k2, k3, k4, k5⟩ := h
  exact ⟨⟨f, k1.fresh k⟩, k2.below k k2.lt, k3.below k k3.lt, k4.trans (k.mono (Nat.le_of_lt k3.lt)), k5⟩
theorem Inv.setX {w0 w : World} {P : Nat} {pc : List Value} {b g n X : Nat} {Sr Sx : ByteArray} (h : Inv w0 w P pc b g n X Sr Sx) (S' : ByteArray) : Inv w0 ((w.setCell ⟨X, 0, none⟩ (.string S')).setCell ⟨X, 1, none⟩ (.int .i64 n)) P pc b g n X Sr S' := by
  obtain ⟨k1, k2, k3, k4, k5, k6, k7, k8, k9, k10, k11, k12⟩ := h
  exact inv_set Sr S' k2 k3 k4 k1 (by omega) (by omega) (by omega) k5 k6
theorem Inv.ring {w0 w w' : World} {P : Nat} {pc : List Value} {b g n X : Nat} {Sr Sx : ByteArray} (h : Inv w0 w P pc b g n X Sr Sx) {f : Nat} {S' : ByteArray} (hr : RAt w' b g n f S') (k : Chg [b, g] w w') : Inv w0 w' P pc b g n X S' Sx := by
  obtain ⟨k1, k2, k3, k4, k5, k6, k7, k8, k9, k10, k11, k12⟩ := h
  have hp := k3.lt
  exact ⟨⟨f, hr⟩, k2.chg k (by simp; omega), k3.chg k (by simp; omega), k.onto k4 (by omega) (by simp; omega), k5, k6, k7, k8, k9, k10, k11, k12⟩
theorem Inv.lts {w0 w : World} {P : Nat} {pc : List Value} {b g n X : Nat} {Sr Sx : ByteArray} (h : Inv w0 w P pc b g n X Sr Sx) : b < w.heap.size ∧ g < w.heap.size ∧ X < w.heap.size ∧ P < w.heap.size := by
  obtain ⟨⟨f, k1⟩, k2, k3, _⟩ := h
  exact ⟨(RAt.lts k1).1, (RAt.lts k1).2, k2.lt, k3.lt⟩
set_option maxRecDepth 20000 in
set_option maxHeartbeats 4000000 in

theorem walk (a0_Most : Int) (a0_Acts : Option Addr) (len0_Acts cap0_Acts : Nat) (a0_At : Int) (a0_N : Int) (w : World) (w0_Most : (Lit.int .i64 a0_Most).wf = true) (w0_Acts : IsMix Try.prog [3, 9, 3] w a0_Acts len0_Acts cap0_Acts) (w0_At : (Lit.int .i64 a0_At).wf = true) (w0_N : (Lit.int .i64 a0_N).wf = true) :
    Calls Try.prog 3 #[.agg #[.int .i64 a0_Most, .slice a0_Acts len0_Acts cap0_Acts, .int .i64 a0_At, .int .i64 a0_N]] w fun e w' => e = .returned (.bool true) ∧ Below w.heap.size w w' := by
  obtain ⟨n, hn⟩ : ∃ n : Nat, min (max a0_Most 1) 4096 = (n : Int) := ⟨(min (max a0_Most 1) 4096).toNat, by omega⟩
  have HN := Lib.hid hn
  have HC := Lib.hid (clamp_min _ _ hn)
  have hn1 : 1 ≤ n ∧ n ≤ 4096 := by omega
  obtain ⟨hlc, hcm, hnil, hcell⟩ := w0_Acts
  unfold maxLen at hcm
  have HCELL := Lib.hid hcell
  clear hcell hnil hn
  go_enter Try.func3, Try.ntmps3
  go_upto_region 1 with fail
  have hW : Hid (Blk (w.alloc (Obj.cells #[Value.int .i64 a0_Most, Value.slice a0_Acts len0_Acts cap0_Acts, Value.int .i64 a0_At, Value.int .i64 a0_N] 24)) w.heap.size [Value.int .i64 a0_Most, Value.slice a0_Acts len0_Acts cap0_Acts, Value.int .i64 a0_At, Value.int .i64 a0_N] 24 ∧
      Below w.heap.size w (w.alloc (Obj.cells #[Value.int .i64 a0_Most, Value.slice a0_Acts len0_Acts cap0_Acts, Value.int .i64 a0_At, Value.int .i64 a0_N] 24))) := ⟨Blk.newA w _ _, (Below.refl _ _).alloc (Nat.le_refl _) _⟩
  revert hW
  generalize (w.alloc (Obj.cells #[Value.int .i64 a0_Most, Value.slice a0_Acts len0_Acts cap0_Acts, Value.int .i64 a0_At, Value.int .i64 a0_N] 24)) = W0
  intro hW
  obtain ⟨pc, hpc⟩ : ∃ pc, [Value.int .i64 a0_Most, Value.slice a0_Acts len0_Acts cap0_Acts, Value.int .i64 a0_At, Value.int .i64 a0_N] = pc := ⟨_, rfl⟩
  rw [hpc] at hW
  have HPC := Lib.hid hpc
  clear hpc
  go_cut [3, 4] from 9 to 14 (fun s3 s4 wx => ∃ b g X : Nat, s3 = .pointer (some ⟨b, 0, none⟩) ∧ s4 = .pointer (some ⟨X, 0, none⟩) ∧ Hid (Inv w wx w.heap.size pc b g n X ⟨#[]⟩ ⟨#[]⟩))
  case first =>
    have c0 : W0.cell? ⟨w.heap.size, 0, none⟩ = some (.int .i64 a0_Most) := hW.out.1.cell (i := 0) (by rw [← HPC.out]; rfl)
    go_region_held3 (fun w' => w'.cell? ⟨w.heap.size, 0, none⟩ = some (.int .i64 a0_Most)) (first | go_keep | assumption | (rw [World.cell?_setCell_other _ _ _ _ (by first | (simp; done) | (simp; omega)), World.cell?_setCell_other _ _ _ _ (by first | (simp; done) | (simp; omega))]; assumption)) (first
      | (go_at_call 7; refine (new_ex n _ _ HN.out).mono ?_; rintro e w1 ⟨b, g, hb, hg, rfl, r1, b1⟩; have F1 : Hid (Blk w1 w.heap.size pc 24 ∧ Below w.heap.size w w1 ∧ RAt w1 b g n 0 ByteArray.empty) := ⟨(by first | exact hW.out.1.drew.below b1 (by first | exact hW.out.1.lt | (have := hW.out.1.lt; simp; omega)) | exact (hW.out.1.drew.alloc _).below b1 (by have := hW.out.1.lt; simp; omega)), (by first | exact hW.out.2.drew.trans (b1.mono hW.out.2.size) | exact (hW.out.2.drew.alloc hW.out.2.size _).trans (b1.mono (by have := hW.out.2.size; simp; omega))), r1⟩; have k1 : w1.cell? ⟨w.heap.size, 0, none⟩ = some (.int .i64 a0_Most) := F1.out.1.cell (i := 0) (by rw [← HPC.out]; rfl); have l1 := F1.out.1.lt; have l0 := hW.out.1.lt; first | (have X1 : Hid (Blk w1 W0.heap.size [.string ⟨#[]⟩, .int .i64 0] 28) := (Blk.newA W0.drew #[.string ⟨#[]⟩, .int .i64 0] 28).below b1 (by simp); have l3 := X1.out.lt) | skip)
      | (go_at_call 8; refine (ref_new _ n HC.out _).mono ?_; rintro e w2 ⟨rfl, b2⟩; have F2 : Hid (Blk w2 w.heap.size pc 24 ∧ Below w.heap.size w w2 ∧ RAt w2 b g n 0 ByteArray.empty) := (by first | exact ⟨F1.out.1.below b2 F1.out.1.lt, F1.out.2.1.trans (b2.mono F1.out.2.1.size), F1.out.2.2.fresh b2⟩ | exact ⟨(F1.out.1.alloc _).below b2 (by have := F1.out.1.lt; simp; omega), (F1.out.2.1.alloc F1.out.2.1.size _).trans (b2.mono (by have := F1.out.2.1.size; simp; omega)), (F1.out.2.2.fresh ((Below.refl _ _).alloc (Nat.le_refl _) _)).fresh b2⟩); have k2 : w2.cell? ⟨w.heap.size, 0, none⟩ = some (.int .i64 a0_Most) := F2.out.1.cell (i := 0) (by rw [← HPC.out]; rfl); have l2 := F2.out.1.lt; first | (have X2 : Hid (Blk w2 w1.heap.size [.string ⟨#[]⟩, .int .i64 0] 28) := (Blk.newA w1 #[.string ⟨#[]⟩, .int .i64 0] 28).below b2 (by simp); have x0 := X2.out.cell (i := 0) rfl; have x1 := X2.out.cell (i := 1) rfl; have y0 := X2.out.free 0; have y1 := X2.out.free 1; skip) | (have X2 : Hid (Blk w2 W0.heap.size [.string ⟨#[]⟩, .int .i64 0] 28) := X1.out.below b2 X1.out.lt; have x0 := X2.out.cell (i := 0) rfl; have x1 := X2.out.cell (i := 1) rfl; have y0 := X2.out.free 0; have y1 := X2.out.free 1) | skip))
    all_goals
      go_wp2_with fail
      go_meet
      first
        | exact ⟨b, g, _, rfl, rfl, inv_new F2.out.1 F2.out.2.1 F2.out.2.2 (by simp at hb; omega) (by simp at hg; omega)⟩
        | exact ⟨b, g, _, rfl, rfl, inv_set ⟨#[]⟩ ⟨#[]⟩ X2.out F2.out.1 F2.out.2.1 ⟨0, F2.out.2.2⟩ (by simp at hb; omega) (by simp at hg; omega) (by omega) (by have := RAt.lts F1.out.2.2; simp at hb; omega) (by have := RAt.lts F1.out.2.2; simp at hg; omega)⟩
  case rest =>
    obtain ⟨b, g, X, rfl, rfl, HI⟩ := hcut
    clear hW
    have x0 := HI.out.2.1.cell (i := 0) rfl
    have x1 := HI.out.2.1.cell (i := 1) rfl
    have p2 : wc.cell? ⟨w.heap.size, 2, none⟩ = some (.int .i64 a0_At) := HI.out.2.2.1.cell (i := 2) (by rw [← HPC.out]; rfl)
    have p3 : wc.cell? ⟨w.heap.size, 3, none⟩ = some (.int .i64 a0_N) := HI.out.2.2.1.cell (i := 3) (by rw [← HPC.out]; rfl)
    obtain ⟨f0, hf0⟩ := HI.out.1
    go_wp2_with fail
    refine (told_any b g n f0 ⟨#[]⟩ a0_At a0_N _ hf0).mono ?_
    rintro e w3 ⟨rfl, b3⟩
    have HJ := Lib.hid (Inv.fresh HI.out b3)
    clear b3 HI x0 x1 p2 p3 hf0
    have hkind : True := trivial
    go_wp2_with fail
    go_loopw [5] (fun i wr => ∃ (k : Nat) (S : ByteArray), k ≤ 24 ∧ k ≤ len0_Acts ∧ i = .int .i64 k ∧ Hid (Inv w wr w.heap.size pc b g n X S S)) (fun i _ => 24 - (intOf i).toNat)
    case atStart => exact ⟨0, _, by omega, by omega, rfl, HJ⟩
    case round =>
      clear HJ
      obtain ⟨k, S, hk24, hkl, rfl, HI⟩ := hrel
      have p1 : wr.cell? ⟨w.heap.size, 1, none⟩ = some (.slice a0_Acts len0_Acts cap0_Acts) := HI.out.2.2.1.cell (i := 1) (by rw [← HPC.out]; rfl)
      have hSn : S.size ≤ n := by
        obtain ⟨f, hf⟩ := HI.out.1
        exact hf.2.2.2.1
      by_cases hlt : k < len0_Acts
      · by_cases h24 : k < 24
        · obtain ⟨bb, off, hab, hbl, hcl⟩ := HCELL.out (by omega)
          subst hab
          obtain ⟨v0, e0, i0⟩ := hcl k hlt 0 _ rfl
          obtain ⟨kd, rfl, wkd⟩ := isK_int Try.underlying3 i0
          obtain ⟨v1, e1, i1⟩ := hcl k hlt 1 _ rfl
          obtain ⟨s0, rfl, ws0⟩ := isK_string Try.underlying9 i1
          obtain ⟨v2, e2, i2⟩ := hcl k hlt 2 _ rfl
          obtain ⟨m0, rfl, wm0⟩ := isK_int Try.underlying3 i2
          have y0 : wr.cell? ⟨bb, off + k * 3, none⟩ = some (.int .i64 kd) := by rw [HI.out.2.2.2.1.cell (by simpa using hbl)]; exact e0
          have y1 : wr.cell? ⟨bb, off + k * 3 + 1, none⟩ = some (.string s0) := by rw [HI.out.2.2.2.1.cell (by simpa using hbl)]; exact e1
          have y2 : wr.cell? ⟨bb, off + k * 3 + 1 + 1, none⟩ = some (.int .i64 m0) := by rw [HI.out.2.2.2.1.cell (by simpa using hbl)]; exact e2
          have hsl : s0.size ≤ 9223372036854775807 := by unfold maxLen at ws0; omega
          obtain ⟨T, hT⟩ : ∃ T, s0.extract 0 20 = T := ⟨_, rfl⟩
          have zT : T.size ≤ 20 := by rw [← hT, ByteArray.size_extract]; omega
          have HT := Lib.hid hT
          have hlts := Inv.lts HI.out
          have z0 := HI.out.2.1.cell (i := 0) rfl
          have z1 := HI.out.2.1.cell (i := 1) rfl
          clear hcl e0 e1 e2 i0 i1 i2 hT ws0
          go_wp2_with fail
          refine (cut_any _ hsl 20 (by omega) _).mono ?_
          rintro e w' ⟨rfl, rfl⟩
          rw [HT.out]
          by_cases k0 : kd = 0
          · subst k0
            obtain ⟨m, hm⟩ : ∃ m, min T.size (n - S.size) = m := ⟨_, rfl⟩
            obtain ⟨S2, hS2⟩ : ∃ S2, S ++ T.extract 0 m = S2 := ⟨_, rfl⟩
            go_wp2_with fail
            have H0 : Hid (Inv w (wr.alloc (Obj.cells #[Value.int .i64 0, Value.string T, Value.int .i64 m0] 32)) w.heap.size pc b g n X S S ∧ Blk (wr.alloc (Obj.cells #[Value.int .i64 0, Value.string T, Value.int .i64 m0] 32)) wr.heap.size [Value.int .i64 0, Value.string T, Value.int .i64 m0] 32) := ⟨Inv.fresh HI.out ((Below.refl _ _).alloc (Nat.le_refl _) _), Blk.newA wr _ _⟩
            clear p1 y0 y1 y2 HI z0 z1
            revert H0
            generalize (wr.alloc (Obj.cells #[Value.int .i64 0, Value.string T, Value.int .i64 m0] 32)) = u0
            intro H0
            refine (ref_put S T n m _ (by omega) (by omega) (by omega) hm).mono ?_
            rintro e u1 ⟨rfl, b1⟩
            rw [hS2]
            have H1 := Lib.hid (Inv.fresh H0.out.1 b1)
            have A1 := Lib.hid (H0.out.2.below b1 H0.out.2.lt)
            clear b1 H0
            have x0 := H1.out.2.1.cell (i := 0) rfl
            have x1 := H1.out.2.1.cell (i := 1) rfl
            have f0 := H1.out.2.1.free 0
            have f1 := H1.out.2.1.free 1
            have y1 := A1.out.cell (i := 1) rfl
            go_wp2_with fail
            have H2 := Lib.hid (Inv.setX H1.out S2)
            clear x0 x1 f0 f1 y1 H1
            revert H2
            generalize ((u1.setCell ⟨X, 0, none⟩ (.string S2)).setCell ⟨X, 1, none⟩ (.int .i64 n)) = u2
            intro H2
            obtain ⟨f7, hf7⟩ := H2.out.1
            refine (put_any b g n f7 S T _ (by omega) hf7).mono ?_
            rintro e u3 ⟨rfl, r3, c3⟩
            rw [hm] at r3
            rw [hS2] at r3
            rw [hm]
            have HQ := Lib.hid (Inv.ring H2.out r3 c3)
            clear r3 c3 H2 hm hS2 hf7
            have x0 := HQ.out.2.1.cell (i := 0) rfl
            have x1 := HQ.out.2.1.cell (i := 1) rfl
            have p2 : u3.cell? ⟨w.heap.size, 2, none⟩ = some (.int .i64 a0_At) := HQ.out.2.2.1.cell (i := 2) (by rw [← HPC.out]; rfl)
            have p3 : u3.cell? ⟨w.heap.size, 3, none⟩ = some (.int .i64 a0_N) := HQ.out.2.2.1.cell (i := 3) (by rw [← HPC.out]; rfl)
            obtain ⟨f9, hf9⟩ := HQ.out.1
            go_wp2_with fail
            refine (told_any b g n f9 S2 a0_At a0_N _ hf9).mono ?_
            rintro e u9 ⟨rfl, b9⟩
            have H9 := Lib.hid (Inv.fresh HQ.out b9)
            clear b9 HQ x0 x1 p2 p3 hf9
            go_wp2
            refine ⟨?_, ?measure⟩
            case measure => simp [intOf]; omega
            first
              | exact ⟨k + 1, S2, by omega, by omega, by go_num, H9⟩
              | ((repeat apply Exists.intro); exact ⟨⟨k + 1, S2, by omega, by omega, by go_num, H9⟩, rfl⟩)
          · by_cases k1 : kd = 1
            · subst k1
              obtain ⟨m, hm⟩ : ∃ m, clN m0 S.size = m := ⟨_, rfl⟩
              obtain ⟨S2, hS2⟩ : ∃ S2, S.extract m S.size = S2 := ⟨_, rfl⟩
              obtain ⟨D, hD⟩ : ∃ D, S.extract 0 m = D := ⟨_, rfl⟩
              have hmS : m ≤ S.size := by rw [← hm]; exact clN_le _ _
              have zD : D.size = m := by rw [← hD, ByteArray.size_extract]; omega
              go_wp2_with fail
              have H0 : Hid (Inv w (wr.alloc (Obj.cells #[Value.int .i64 1, Value.string T, Value.int .i64 m0] 32)) w.heap.size pc b g n X S S ∧ Blk (wr.alloc (Obj.cells #[Value.int .i64 1, Value.string T, Value.int .i64 m0] 32)) wr.heap.size [Value.int .i64 1, Value.string T, Value.int .i64 m0] 32) := ⟨Inv.fresh HI.out ((Below.refl _ _).alloc (Nat.le_refl _) _), Blk.newA wr _ _⟩
              clear p1 y0 y1 y2 HI z0 z1
              revert H0
              generalize (wr.alloc (Obj.cells #[Value.int .i64 1, Value.string T, Value.int .i64 m0] 32)) = u0
              intro H0
              refine (ref_take S n m0 m _ (by omega) hm).mono ?_
              rintro e u1 ⟨rfl, b1⟩
              rw [hS2, hD]
              have H1 := Lib.hid (Inv.fresh H0.out.1 b1)
              have A1 := Lib.hid (H0.out.2.below b1 H0.out.2.lt)
              clear b1 H0
              have x0 := H1.out.2.1.cell (i := 0) rfl
              have x1 := H1.out.2.1.cell (i := 1) rfl
              have f0 := H1.out.2.1.free 0
              have f1 := H1.out.2.1.free 1
              have y1 := A1.out.cell (i := 2) rfl
              go_wp2_with fail
              have H2 := Lib.hid (Inv.setX H1.out S2)
              clear x0 x1 f0 f1 y1 H1
              revert H2
              generalize ((u1.setCell ⟨X, 0, none⟩ (.string S2)).setCell ⟨X, 1, none⟩ (.int .i64 n)) = u2
              intro H2
              obtain ⟨f7, hf7⟩ := H2.out.1
              refine (take_any b g n f7 S m0 _ hf7).mono ?_
              rintro e u3 ⟨f8, rfl, r3, c3⟩
              rw [hm, hS2] at r3
              rw [hm, hD]
              have HQ := Lib.hid (Inv.ring H2.out r3 (c3.mono (by simp)))
              clear r3 c3 H2 hm hS2 hD hf7
              have x0 := HQ.out.2.1.cell (i := 0) rfl
              have x1 := HQ.out.2.1.cell (i := 1) rfl
              have p2 : u3.cell? ⟨w.heap.size, 2, none⟩ = some (.int .i64 a0_At) := HQ.out.2.2.1.cell (i := 2) (by rw [← HPC.out]; rfl)
              have p3 : u3.cell? ⟨w.heap.size, 3, none⟩ = some (.int .i64 a0_N) := HQ.out.2.2.1.cell (i := 3) (by rw [← HPC.out]; rfl)
              obtain ⟨f9, hf9⟩ := HQ.out.1
              go_wp2_with fail
              refine (told_any b g n f9 S2 a0_At a0_N _ hf9).mono ?_
              rintro e u9 ⟨rfl, b9⟩
              have H9 := Lib.hid (Inv.fresh HQ.out b9)
              clear b9 HQ x0 x1 p2 p3 hf9
              go_wp2
              refine ⟨?_, ?measure⟩
              case measure => simp [intOf]; omega
              first
                | exact ⟨k + 1, S2, by omega, by omega, by go_num, H9⟩
                | ((repeat apply Exists.intro); exact ⟨⟨k + 1, S2, by omega, by omega, by go_num, H9⟩, rfl⟩)
            · by_cases k2 : kd = 2
              · subst k2
                obtain ⟨m, hm⟩ : ∃ m, clN m0 S.size = m := ⟨_, rfl⟩
                obtain ⟨S2, hS2⟩ : ∃ S2, S.extract m S.size = S2 := ⟨_, rfl⟩
                obtain ⟨D, hD⟩ : ∃ D, S.extract 0 m = D := ⟨_, rfl⟩
                have hmS : m ≤ S.size := by rw [← hm]; exact clN_le _ _
                have zD : D.size = m := by rw [← hD, ByteArray.size_extract]; omega
                go_wp2_with fail
                have H0 : Hid (Inv w (wr.alloc (Obj.cells #[Value.int .i64 2, Value.string T, Value.int .i64 m0] 32)) w.heap.size pc b g n X S S ∧ Blk (wr.alloc (Obj.cells #[Value.int .i64 2, Value.string T, Value.int .i64 m0] 32)) wr.heap.size [Value.int .i64 2, Value.string T, Value.int .i64 m0] 32) := ⟨Inv.fresh HI.out ((Below.refl _ _).alloc (Nat.le_refl _) _), Blk.newA wr _ _⟩
                clear p1 y0 y1 y2 HI z0 z1
                revert H0
                generalize (wr.alloc (Obj.cells #[Value.int .i64 2, Value.string T, Value.int .i64 m0] 32)) = u0
                intro H0
                refine (ref_take S n m0 m _ (by omega) hm).mono ?_
                rintro e u1 ⟨rfl, b1⟩
                rw [hS2, hD]
                have H1 := Lib.hid (Inv.fresh H0.out.1 b1)
                have A1 := Lib.hid (H0.out.2.below b1 H0.out.2.lt)
                clear b1 H0
                have x0 := H1.out.2.1.cell (i := 0) rfl
                have x1 := H1.out.2.1.cell (i := 1) rfl
                have f0 := H1.out.2.1.free 0
                have f1 := H1.out.2.1.free 1
                have y1 := A1.out.cell (i := 2) rfl
                go_wp2_with fail
                have H2 := Lib.hid (Inv.setX H1.out S2)
                clear x0 x1 f0 f1 y1 H1
                revert H2
                generalize ((u1.setCell ⟨X, 0, none⟩ (.string S2)).setCell ⟨X, 1, none⟩ (.int .i64 n)) = u2
                intro H2
                obtain ⟨f7, hf7⟩ := H2.out.1
                refine (drop_any b g n f7 S m0 _ hf7).mono ?_
                rintro e u3 ⟨f8, rfl, r3, c3⟩
                rw [hm, hS2] at r3
                rw [hm]
                have HQ := Lib.hid (Inv.ring H2.out r3 (c3.mono (by simp)))
                clear r3 c3 H2 hm hS2 hD hf7
                have x0 := HQ.out.2.1.cell (i := 0) rfl
                have x1 := HQ.out.2.1.cell (i := 1) rfl
                have p2 : u3.cell? ⟨w.heap.size, 2, none⟩ = some (.int .i64 a0_At) := HQ.out.2.2.1.cell (i := 2) (by rw [← HPC.out]; rfl)
                have p3 : u3.cell? ⟨w.heap.size, 3, none⟩ = some (.int .i64 a0_N) := HQ.out.2.2.1.cell (i := 3) (by rw [← HPC.out]; rfl)
                obtain ⟨f9, hf9⟩ := HQ.out.1
                go_wp2_with fail
                refine (told_any b g n f9 S2 a0_At a0_N _ hf9).mono ?_
                rintro e u9 ⟨rfl, b9⟩
                have H9 := Lib.hid (Inv.fresh HQ.out b9)
                clear b9 HQ x0 x1 p2 p3 hf9
                go_wp2
                refine ⟨?_, ?measure⟩
                case measure => simp [intOf]; omega
                first
                  | exact ⟨k + 1, S2, by omega, by omega, by go_num, H9⟩
                  | ((repeat apply Exists.intro); exact ⟨⟨k + 1, S2, by omega, by omega, by go_num, H9⟩, rfl⟩)
              · have HQ0 := Lib.hid (Inv.fresh HI.out ((Below.refl wr.heap.size wr).alloc (Nat.le_refl _) (Obj.cells #[Value.int .i64 kd, Value.string T, Value.int .i64 m0] 32)))
                have p2 : wr.cell? ⟨w.heap.size, 2, none⟩ = some (.int .i64 a0_At) := HI.out.2.2.1.cell (i := 2) (by rw [← HPC.out]; rfl)
                have p3 : wr.cell? ⟨w.heap.size, 3, none⟩ = some (.int .i64 a0_N) := HI.out.2.2.1.cell (i := 3) (by rw [← HPC.out]; rfl)
                obtain ⟨f9, hf9⟩ := HQ0.out.1
                go_wp2_with fail
                refine (told_any b g n f9 S a0_At a0_N _ hf9).mono ?_
                rintro e u9 ⟨rfl, b9⟩
                have H9 := Lib.hid (Inv.fresh HQ0.out b9)
                clear b9 HQ0 hf9 p1 p2 p3 y0 y1 y2 z0 z1 HI
                go_wp2
                refine ⟨?_, ?measure⟩
                case measure => simp [intOf]; omega
                first
                  | exact ⟨k + 1, S, by omega, by omega, by go_num, H9⟩
                  | ((repeat apply Exists.intro); exact ⟨⟨k + 1, S, by omega, by omega, by go_num, H9⟩, rfl⟩)
        · go_wp2_with (go_at_call 16; refine (lives_any _).mono ?_; rintro e w9 ⟨rfl, hb⟩)
          go_ret
          exact ⟨rfl, HI.out.2.2.2.1.trans (Below.mono (by assumption) (Nat.le_of_lt HI.out.2.2.1.lt))⟩
      · go_wp2_with (go_at_call 16; refine (lives_any _).mono ?_; rintro e w9 ⟨rfl, hb⟩)
        go_ret
        exact ⟨rfl, HI.out.2.2.2.1.trans (Below.mono (by assumption) (Nat.le_of_lt HI.out.2.2.1.lt))⟩

set_option maxRecDepth 100000 in
theorem lifted (os : Os) (started : os.Started) (H : Type) (enc : TypeId × Value → H) :
    ReturnsInHanded {} Try.checked os 3 .any (Rows.ringPlaysSpec.pre6 enc Try.prog Try.f3 Rows.ringPlaysRow.domain false) (Rows.ringPlaysSpec.post enc Try.prog Try.f3 false true false false) := by
  refine returnsInHanded_of_change (C := Try.checked) ownKn started (by kernel_rfl) Try.func3
    (ChangeSpec.witness6 (enc := enc) (C := Try.checked) false ⟨#[], #[.agg #[.int .i64 0, .slice none 0 0, .int .i64 0, .int .i64 0]], []⟩ 8 (by kernel_rfl) (by kernel_rfl) (by kernel_rfl) (by kernel_rfl)) ?_
  intro W base args ds gs before hval0 hW hcnd _
  have hval : ∀ (j : Nat) t v, Try.f3.params[j]? = some t → args[j]? = some v → Value.okWide Try.prog W .any base t v := hval0
  have hW' := hW
  obtain ⟨p, q, hA0, hV, rfl, hfz, hnd⟩ := hW
  have hA : DataW.TrodAll enc Try.prog W 0 (fun _ => true) true Try.f3.params.toList args.toList ds p := hA0
  rw [Try.params3] at hA hval
  obtain ⟨v0, vs0, d0, ds0, p0, q0, hargs, rfl, rfl, h0, r0⟩ := trodAll_cons hA
  obtain ⟨rfl, rfl, rfl⟩ := trodAll_nil r0
  obtain rfl : args = #[v0] := by cases args; simp_all
  obtain ⟨rfl, rfl⟩ := trodVars_none hV
  have k0 := h0
  have lt0 : ∀ x ∈ p0, x.block < W.heap.size := by obtain ⟨m, hm⟩ := k0; exact DataW.trod_lt m _ _ _ hm
  obtain ⟨u0_0, u0_1, u0_2, u0_3, y0_0, y0_1, y0_2, y0_3, nn0, rfl, _, _, g0_0, g0_1, g0_2, g0_3⟩ := open_flat4 Try.underlying24 (by kernel_rfl) (by kernel_rfl) (hval 0 24 v0 rfl rfl) h0
  obtain ⟨a0_Most, rfl, w0_Most⟩ := fld_int Try.underlying3 g0_0
  obtain ⟨a0_Acts, len0_Acts, cap0_Acts, rfl, w0_Acts⟩ := fld_mix [3, 9, 3] Try.underlying22 Try.underlying32 (by kernel_rfl) (by kernel_rfl) rfl (by intro t ht; simp only [List.mem_cons, List.not_mem_nil, or_false] at ht; obtain rfl | rfl | rfl := ht; all_goals (first | exact Or.inl ⟨_, Try.underlying3⟩ | exact Or.inr (Or.inl Try.underlying9))) (by decide) g0_1
  obtain ⟨a0_At, rfl, w0_At⟩ := fld_int Try.underlying3 g0_2
  obtain ⟨a0_N, rfl, w0_N⟩ := fld_int Try.underlying3 g0_3
  clear hA0 hval0
  refine (walk a0_Most a0_Acts len0_Acts cap0_Acts a0_At a0_N W w0_Most w0_Acts w0_At w0_N).mono fun e W' ⟨he, bel⟩ => ?_
  subst he
  exact ⟨_, rfl, _, _, _, [], _, [], hW', trodAll_mk1 (shut_bool Try.underlying4 _), (trodAll_cons_mk (Below.trod laidOut (by kernel_rfl) (of_decide_eq_true (by kernel_rfl)) k0 bel lt0) trodAll_mk0), rfl, bel.frame _, fun h => by cases h⟩

theorem over : Rows.ringPlaysRow.holds Try.pinned (OpenSpec.ofChange Rows.ringPlaysSpec) :=
  OpenClaim.holds_of_wide 3 Try.f3 rfl rfl rfl rfl rfl rfl rfl ⟨rfl, rfl, rfl, rfl, rfl⟩ rfl rfl rfl rfl rfl (by kernel_rfl) Try.func3 (by kernel_rfl)
    (of_decide_eq_true (by kernel_rfl)) (by unfold Func.isWrapper; first | (rw [if_pos (by decide +kernel)]; kernel_rfl) | (rw [if_neg (by decide +kernel)]; exact ⟨rfl, rfl⟩))
    (fun os started H enc _ => lifted os started H enc)

/-- The statement. -/
theorem proved : Rows.RingPlaysSaid := over
#print axioms proved
end Go.Proofs.Ytbgheljihjajdaa.ringPlays
