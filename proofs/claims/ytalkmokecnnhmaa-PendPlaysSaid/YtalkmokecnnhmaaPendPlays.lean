/- P20.1, P20.2: for every room, calls and place of a copy: what a writer tells of them, and all that it tells behind each, is as the page says; a copy tells the same. No condition. -/
import Derived.Test.YtalkmokecnnhmaaOpen
import Derived.Test.YtalkmokecnnhmaaMix
import Derived.WalkKit
import Derived.ProofKit
import Derived.OpenShut
import Derived.Test.YtalkmokecnnhmaaPend3
import Derived.Test.YtalkmokecnnhmaaMix
import Derived.Deep.CutRange
import Derived.Deep.CutBlock
import Derived.Deep.LoopGhost
namespace Go.Proofs.Ytalkmokecnnhmaa.pendPlays
open Go.Joins Go.ChangeShapes Go.WideShapes Go.ChangeAt Go.RowKit Go.Deep
open Go.ChangeMaps (open_string)
set_option linter.unusedSimpArgs false
set_option linter.unusedVariables false

theorem cut_at (s : ByteArray) (hs : s.size ≤ 9223372036854775807) (w : World) :
    Calls Try.prog 8 #[.string s, .int .i64 20] w fun e w' => ∃ T : ByteArray, T.size ≤ 20 ∧ e = .returned (.string T) ∧ w = w' := by
  by_cases h : 20 < s.size
  · go_enter Try.func8, Try.ntmps8
    go_wp2
    go_ret
    exact ⟨s.extract 0 20, by rw [ByteArray.size_extract]; omega, rfl, rfl⟩
  · go_enter Try.func8, Try.ntmps8
    go_wp2
    go_ret
    exact ⟨s, by omega, rfl, rfl⟩
/-- The three texts that the document's own answer holds are the three parts of the writer's one. -/
def Rel (T : ByteArray) (s l : Nat) (D O R : ByteArray) : Prop := T.extract 0 s = D ∧ T.extract s (s + l) = O ∧ T.extract (s + l) T.size = R ∧ s + l ≤ T.size
theorem Rel.sizes {T : ByteArray} {s l : Nat} {D O R : ByteArray} (h : Rel T s l D O R) : s + l ≤ T.size ∧ D.size = s ∧ O.size = l ∧ R.size = T.size - s - l := by
  obtain ⟨h1, h2, h3, h4⟩ := h
  refine ⟨h4, ?_, ?_, ?_⟩
  · rw [← h1, ByteArray.size_extract]; omega
  · rw [← h2, ByteArray.size_extract]; omega
  · rw [← h3, ByteArray.size_extract]; omega
theorem none_of {G : ByteArray} (h : G.size = 0) : G = ⟨#[]⟩ := ByteArray.ext (Array.eq_empty_of_size_eq_zero (by simpa using h))
theorem Rel.begin (S : ByteArray) : Rel S 0 0 ⟨#[]⟩ ⟨#[]⟩ S := ⟨none_of (by simp), none_of (by simp), by simp, by omega⟩
theorem Rel.load {T : ByteArray} {s k : Nat} {D O R : ByteArray} (h : Rel T s 0 D O R) (hk : k ≤ R.size) : Rel T s k D (R.extract 0 k) (R.extract k R.size) := by
  have hz := h.sizes
  obtain ⟨h1, h2, h3, h4⟩ := h
  refine ⟨h1, ?_, ?_, by omega⟩
  · rw [← h3, ByteArray.extract_extract]; congr 1 <;> omega
  · have hR : R.size = T.size - s := by omega
    rw [hR, ← h3, ByteArray.extract_extract]; congr 1 <;> omega
theorem Rel.take {T : ByteArray} {s l j : Nat} {D O R : ByteArray} (h : Rel T s l D O R) (hj : j ≤ l) : Rel T (s + j) (l - j) (D ++ O.extract 0 j) (O.extract j O.size) R := by
  have hz := h.sizes
  obtain ⟨h1, h2, h3, h4⟩ := h
  refine ⟨?_, ?_, ?_, by omega⟩
  · rw [← h1, ← h2, ByteArray.extract_extract, Nat.add_zero, show min (s + j) (s + l) = s + j by omega, ByteArray.extract_append_extract]; congr 1 <;> omega
  · rw [hz.2.2.1, ← h2, ByteArray.extract_extract]; congr 1 <;> omega
  · rw [← h3]; congr 1; omega
theorem Rel.drop {T : ByteArray} {s l : Nat} {D O R : ByteArray} (h : Rel T s l D O R) : Rel (T.extract 0 s) s 0 D ⟨#[]⟩ ⟨#[]⟩ := by
  obtain ⟨h1, h2, h3, h4⟩ := h
  refine ⟨?_, none_of ?_, none_of ?_, ?_⟩
  · rw [← h1, ByteArray.extract_extract]; congr 1 <;> omega
  · simp only [ByteArray.size_extract]; omega
  · simp only [ByteArray.size_extract]; omega
  · simp only [ByteArray.size_extract]; omega
theorem Rel.part {T : ByteArray} {s l j : Nat} {D O R : ByteArray} (h : Rel T s l D O R) (hj : j ≤ l) : T.extract s (s + j) = O.extract 0 j := by
  have hz := h.sizes
  obtain ⟨h1, h2, h3, h4⟩ := h
  rw [← h2, ByteArray.extract_extract]; congr 1 <;> omega
/-- How the copy stands: there is none, or it tells what y tells. -/
def Cst (w : World) (Y : Nat) (o : Int) (c : Value) : Prop :=
  (c = .pointer none ∧ ∃ y0 y1 y2 y3 y4, Blk w Y [y0, y1, y2, y3, y4] 26) ∨
  ∃ (C : Nat) (T : ByteArray) (s l t : Nat) (D O R : ByteArray), c = .pointer (some ⟨C, 0, none⟩) ∧ Y < C ∧ T.size ≤ 20 ∧ PB w C o T s l t ∧ Rel T s l D O R ∧ Blk w Y [.string D, .string O, .string R, .int .i64 o, .int .i64 t] 26
/-- What holds all the time. -/
def Inv (w0 w : World) (P X Y : Nat) (o : Int) (T : ByteArray) (s l t : Nat) (x : List Value) (c : Value) : Prop :=
  PB w P o T s l t ∧ Blk w X x 26 ∧ Cst w Y o c ∧ Below P w0 w ∧ P < X ∧ X < Y ∧ Y < w.heap.size
theorem Cst.chg {w w' : World} {Y : Nat} {o : Int} {c : Value} (h : Cst w Y o c) {B : Nat} {l : List Nat} (k : Chg l w w') (hl : ∀ x ∈ l, x < B) (hB : B ≤ Y) : Cst w' Y o c := by
  rcases h with ⟨h, y0, y1, y2, y3, y4, hy⟩ | ⟨C, T, s, l, t, D, O, R, h1, h2, h3, h4, h5, h6⟩
  · exact Or.inl ⟨h, y0, y1, y2, y3, y4, hy.chg k (fun hm => by have := hl _ hm; omega)⟩
  · exact Or.inr ⟨C, T, s, l, t, D, O, R, h1, h2, h3, Blk.chg h4 k (fun hm => by have := hl _ hm; omega), h5, h6.chg k (fun hm => by have := hl _ hm; omega)⟩
theorem Inv.fresh {w0 w w' : World} {P X Y : Nat} {o : Int} {T : ByteArray} {s l t : Nat} {x : List Value} {c : Value} (h : Inv w0 w P X Y o T s l t x c) (k : Below w.heap.size w w') : Inv w0 w' P X Y o T s l t x c := by
  obtain ⟨h1, h2, h3, h4, h5, h6, h7⟩ := h
  exact ⟨Blk.below h1 k (Blk.lt h1), h2.below k h2.lt, h3.chg (B := 0) (Chg.of_fresh k (l := [])) (by simp) (by omega), h4.trans (k.mono (by omega)), h5, h6, Nat.lt_of_lt_of_le h7 k.size⟩
theorem Inv.pend {w0 w w' : World} {P X Y : Nat} {o : Int} {T T' : ByteArray} {s l t s' l' t' : Nat} {x : List Value} {c : Value} (h : Inv w0 w P X Y o T s l t x c) (k : Chg [P] w w') (hp : PB w' P o T' s' l' t') : Inv w0 w' P X Y o T' s' l' t' x c := by
  obtain ⟨h1, h2, h3, h4, h5, h6, h7⟩ := h
  exact ⟨hp, h2.chg k (by simp; omega), h3.chg (B := X) k (by simp; omega) (by omega), k.onto h4 (by omega) (by simp), h5, h6, Nat.lt_of_lt_of_le h7 k.size⟩
theorem Inv.setX {w0 w w' : World} {P X Y : Nat} {o : Int} {T : ByteArray} {s l t : Nat} {x x' : List Value} {c : Value} (h : Inv w0 w P X Y o T s l t x c) (k : Chg [X] w w') (hx : Blk w' X x' 26) : Inv w0 w' P X Y o T s l t x' c := by
  obtain ⟨h1, h2, h3, h4, h5, h6, h7⟩ := h
  exact ⟨Blk.chg h1 k (by simp; omega), hx, h3.chg (B := Y) k (by simp; omega) (by omega), k.onto h4 (by omega) (by simp; omega), h5, h6, Nat.lt_of_lt_of_le h7 k.size⟩
theorem set5 {w : World} {X : Nat} {a0 a1 a2 a3 a4 : Value} (h : Blk w X [a0, a1, a2, a3, a4] 26) (b0 b1 b2 b3 b4 : Value) :
    Blk (((((w.setCell ⟨X, 0, none⟩ b0).setCell ⟨X, 1, none⟩ b1).setCell ⟨X, 2, none⟩ b2).setCell ⟨X, 3, none⟩ b3).setCell ⟨X, 4, none⟩ b4) X [b0, b1, b2, b3, b4] 26 := ((((h.set 0 b0).set 1 b1).set 2 b2).set 3 b3).set 4 b4
theorem chg5 (w : World) (X : Nat) (b0 b1 b2 b3 b4 : Value) : Chg [X] w (((((w.setCell ⟨X, 0, none⟩ b0).setCell ⟨X, 1, none⟩ b1).setCell ⟨X, 2, none⟩ b2).setCell ⟨X, 3, none⟩ b3).setCell ⟨X, 4, none⟩ b4) :=
  (((((Chg.refl _ _).set (Or.inl (by simp)) _ _).set (Or.inl (by simp)) _ _).set (Or.inl (by simp)) _ _).set (Or.inl (by simp)) _ _).set (Or.inl (by simp)) _ _
theorem keep5 {W : World} {X Y : Nat} (h : X ≠ Y) {v0 v1 v2 v3 v4 : Value} (b0 b1 b2 b3 b4 : Value) (k : W.cell? ⟨X, 0, none⟩ = some v0 ∧ W.cell? ⟨X, 1, none⟩ = some v1 ∧ W.cell? ⟨X, 2, none⟩ = some v2 ∧ W.cell? ⟨X, 3, none⟩ = some v3 ∧ W.cell? ⟨X, 4, none⟩ = some v4) :
    (((((W.setCell ⟨Y, 0, none⟩ b0).setCell ⟨Y, 1, none⟩ b1).setCell ⟨Y, 2, none⟩ b2).setCell ⟨Y, 3, none⟩ b3).setCell ⟨Y, 4, none⟩ b4).cell? ⟨X, 0, none⟩ = some v0 ∧ (((((W.setCell ⟨Y, 0, none⟩ b0).setCell ⟨Y, 1, none⟩ b1).setCell ⟨Y, 2, none⟩ b2).setCell ⟨Y, 3, none⟩ b3).setCell ⟨Y, 4, none⟩ b4).cell? ⟨X, 1, none⟩ = some v1 ∧
    (((((W.setCell ⟨Y, 0, none⟩ b0).setCell ⟨Y, 1, none⟩ b1).setCell ⟨Y, 2, none⟩ b2).setCell ⟨Y, 3, none⟩ b3).setCell ⟨Y, 4, none⟩ b4).cell? ⟨X, 2, none⟩ = some v2 ∧ (((((W.setCell ⟨Y, 0, none⟩ b0).setCell ⟨Y, 1, none⟩ b1).setCell ⟨Y, 2, none⟩ b2).setCell ⟨Y, 3, none⟩ b3).setCell ⟨Y, 4, none⟩ b4).cell? ⟨X, 3, none⟩ = some v3 ∧
    (((((W.setCell ⟨Y, 0, none⟩ b0).setCell ⟨Y, 1, none⟩ b1).setCell ⟨Y, 2, none⟩ b2).setCell ⟨Y, 3, none⟩ b3).setCell ⟨Y, 4, none⟩ b4).cell? ⟨X, 4, none⟩ = some v4 := by
  have hc := chg5 W Y b0 b1 b2 b3 b4
  obtain ⟨k0, k1, k2, k3, k4⟩ := k
  have hl : X < W.heap.size := World.block_lt_of_cell? _ _ k0
  have hx : X ∉ [Y] := by simpa using h
  exact ⟨(hc.cell (p := ⟨X, 0, none⟩) hl hx).trans k0, (hc.cell (p := ⟨X, 1, none⟩) hl hx).trans k1, (hc.cell (p := ⟨X, 2, none⟩) hl hx).trans k2, (hc.cell (p := ⟨X, 3, none⟩) hl hx).trans k3, (hc.cell (p := ⟨X, 4, none⟩) hl hx).trans k4⟩
theorem copy_ex (b : Nat) (o : Int) (T : ByteArray) (s l t : Nat) (w : World) (h : PB w b o T s l t) :
    Calls Try.prog 16 #[.pointer (some ⟨b, 0, none⟩)] w fun e w' => ∃ C, w.heap.size ≤ C ∧ e = .returned (.pointer (some ⟨C, 0, none⟩)) ∧ PB w' C o T s l t ∧ Below w.heap.size w w' :=
  (copy_any b o T s l t w h).mono fun e w' ⟨he, hp, hb⟩ => ⟨_, Nat.le_refl _, he, hp, hb⟩
set_option maxRecDepth 20000 in
set_option maxHeartbeats 8000000 in

theorem walk (a0 : Int) (a1 : Option Addr) (len1 cap1 : Nat) (a2 : Int) (w : World) (w0 : (Lit.int .i64 a0).wf = true) (w1 : IsMix Try.prog [3, 9, 3] w a1 len1 cap1) (w2 : (Lit.int .u8 a2).wf = true) :
    Calls Try.prog 3 #[.int .i64 a0, .slice a1 len1 cap1, .int .u8 a2] w fun e w' => e = .returned (.bool true) ∧ Below w.heap.size w w' := by
  have b2 : 0 ≤ a2 ∧ a2 ≤ 255 := bounds_u8 w2
  obtain ⟨hlc, hcm, hnil, hcell⟩ := w1
  unfold maxLen at hcm
  have HCELL := Lib.hid hcell
  clear hcell hnil
  obtain ⟨o, ho⟩ : ∃ o : Int, min (max a0 1) 4096 = o := ⟨_, rfl⟩
  have ho1 : 1 ≤ o ∧ o ≤ 4096 := by omega
  have hoc : clampI a0 1 4096 = o := by unfold clampI; split <;> (try split) <;> omega
  have HOC := Lib.hid hoc
  have ht20 : a2.tmod 20 = a2 % 20 := Int.tmod_eq_emod_of_nonneg b2.1
  clear hoc
  go_enter Try.func3, Try.ntmps3
  go_wp2_with (go_at_call 6; go_in)
  refine (ref_new a0 o HOC.out _).mono ?_
  rintro e u1 ⟨rfl, c1⟩
  have HP1 : Hid (PB u1 w.heap.size o ⟨#[]⟩ 0 0 0 ∧ Below w.heap.size w u1) := by
    have hb := (Below.refl w.heap.size w).alloc (Nat.le_refl _) (Obj.cells #[.int .i64 o, .string ⟨#[]⟩, .int .i64 0, .int .i64 0, .int .i64 0] 48)
    exact ⟨(Blk.newA w #[.int .i64 o, .string ⟨#[]⟩, .int .i64 0, .int .i64 0, .int .i64 0] 48).below c1 (by simp), hb.trans (c1.mono (by simp))⟩
  clear c1
  go_wp2_with fail
  have HI0 : Hid (Inv w ((u1.alloc (Obj.cells #[.string ⟨#[]⟩, .string ⟨#[]⟩, .string ⟨#[]⟩, .int .i64 o, .int .i64 0] 26)).alloc (Obj.cells #[.string ⟨#[]⟩, .string ⟨#[]⟩, .string ⟨#[]⟩, .int .i64 o, .int .i64 0] 26)) w.heap.size u1.heap.size (u1.heap.size + 1) o ⟨#[]⟩ 0 0 0 [.string ⟨#[]⟩, .string ⟨#[]⟩, .string ⟨#[]⟩, .int .i64 o, .int .i64 0] (.pointer none)) := by
    have hl := Blk.lt HP1.out.1
    have hx := (Blk.newA u1 #[.string ⟨#[]⟩, .string ⟨#[]⟩, .string ⟨#[]⟩, .int .i64 o, .int .i64 0] 26).alloc (Obj.cells #[.string ⟨#[]⟩, .string ⟨#[]⟩, .string ⟨#[]⟩, .int .i64 o, .int .i64 0] 26)
    have hy := Blk.newA (u1.alloc (Obj.cells #[.string ⟨#[]⟩, .string ⟨#[]⟩, .string ⟨#[]⟩, .int .i64 o, .int .i64 0] 26)) #[.string ⟨#[]⟩, .string ⟨#[]⟩, .string ⟨#[]⟩, .int .i64 o, .int .i64 0] 26
    rw [World.size_alloc] at hy
    exact ⟨Blk.alloc (Blk.alloc HP1.out.1 _) _, hx, Or.inl ⟨rfl, _, _, _, _, _, hy⟩, (HP1.out.2.alloc (by omega) _).alloc (by simp; omega) _, hl, by omega, by simp⟩
  clear HP1
  revert HI0
  generalize ((u1.alloc (Obj.cells #[.string ⟨#[]⟩, .string ⟨#[]⟩, .string ⟨#[]⟩, .int .i64 o, .int .i64 0] 26)).alloc (Obj.cells #[.string ⟨#[]⟩, .string ⟨#[]⟩, .string ⟨#[]⟩, .int .i64 o, .int .i64 0] 26)) = W0
  obtain ⟨Y, hY⟩ : ∃ Y, u1.heap.size + 1 = Y := ⟨_, rfl⟩
  rw [hY]
  clear hY
  generalize u1.heap.size = X
  obtain ⟨P, hP⟩ : ∃ P, w.heap.size = P := ⟨_, rfl⟩
  rw [hP]
  have HPE := Lib.hid hP
  clear hP
  intro HI0
  go_loopw [9, 11] (fun c i wr => ∃ (k : Nat) (T : ByteArray) (s l t : Nat) (D O R : ByteArray), k ≤ 20 ∧ k ≤ len1 ∧ i = .int .i64 k ∧ T.size ≤ 20 ∧ t ≤ k ∧ Rel T s l D O R ∧ Hid (Inv w wr P X Y o T s l t [.string D, .string O, .string R, .int .i64 o, .int .i64 t] c)) (fun _ i _ => 20 - (intOf i).toNat)
  case atStart => exact ⟨0, ⟨#[]⟩, 0, 0, 0, ⟨#[]⟩, ⟨#[]⟩, ⟨#[]⟩, by omega, by omega, rfl, Nat.zero_le _, by omega, Rel.begin _, HI0⟩
  case round =>
    clear HI0
    obtain ⟨k, T, s, l, t, D, O, R, hk20, hkl, rfl, zS, zt, hR, HI⟩ := hrel
    have zz := Rel.sizes hR
    by_cases hlt : k < len1
    · by_cases h20 : k < 20
      · obtain ⟨bb, off, hab, hbl, hcl⟩ := HCELL.out (by omega)
        subst hab
        obtain ⟨v0, e0, i0⟩ := hcl k hlt 0 _ rfl
        obtain ⟨kd, rfl, wkd⟩ := isK_int Try.underlying3 i0
        obtain ⟨v1, e1, i1⟩ := hcl k hlt 1 _ rfl
        obtain ⟨s0, rfl, ws0⟩ := isK_string Try.underlying9 i1
        obtain ⟨v2, e2, i2⟩ := hcl k hlt 2 _ rfl
        obtain ⟨m0, rfl, wm0⟩ := isK_int Try.underlying3 i2
        have hbl2 : bb < P := by rw [← HPE.out]; simpa using hbl
        have y0 : wr.cell? ⟨bb, off + k * 3, none⟩ = some (.int .i64 kd) := by rw [HI.out.2.2.2.1.cell hbl2]; exact e0
        have y1 : wr.cell? ⟨bb, off + k * 3 + 1, none⟩ = some (.string s0) := by rw [HI.out.2.2.2.1.cell hbl2]; exact e1
        have y2 : wr.cell? ⟨bb, off + k * 3 + 1 + 1, none⟩ = some (.int .i64 m0) := by rw [HI.out.2.2.2.1.cell hbl2]; exact e2
        have hsl : s0.size ≤ 9223372036854775807 := by unfold maxLen at ws0; omega
        have hPX : P < X ∧ X < Y := ⟨HI.out.2.2.2.2.1, HI.out.2.2.2.2.2.1⟩
        clear hcl e0 e1 e2 i0 i1 i2 ws0
        go_wp2_with fail
        refine (cut_at _ hsl _).mono ?_
        rintro e w' ⟨S1, zT, rfl, rfl⟩
        go_upto_block 2 with fail
        have H0 : Hid (Inv w (wr.alloc (Obj.cells #[Value.int .i64 kd, Value.string S1, Value.int .i64 m0] 29)) P X Y o T s l t [.string D, .string O, .string R, .int .i64 o, .int .i64 t] u9 ∧ Blk (wr.alloc (Obj.cells #[Value.int .i64 kd, Value.string S1, Value.int .i64 m0] 29)) wr.heap.size [Value.int .i64 kd, Value.string S1, Value.int .i64 m0] 29) := ⟨Inv.fresh HI.out ((Below.refl _ _).alloc (Nat.le_refl _) _), Blk.newA wr _ _⟩
        have hYA : Y < wr.heap.size := HI.out.2.2.2.2.2.2
        clear y0 y1 y2 HI
        revert H0
        generalize (wr.alloc (Obj.cells #[Value.int .i64 kd, Value.string S1, Value.int .i64 m0] 29)) = u0
        intro H0
        go_cut [13, 14] from 20 to 94 (fun _ _ wx => ∃ (T : ByteArray) (s l t : Nat) (D O R : ByteArray), T.size ≤ 20 ∧ t ≤ k + 1 ∧ Rel T s l D O R ∧ Hid (Inv w wx P X Y o T s l t [.string D, .string O, .string R, .int .i64 o, .int .i64 t] u9))
        case first =>
          by_cases k0 : kd = 0
          · subst k0
            have y1 := H0.out.2.cell (i := 1) rfl
            have x0 := H0.out.1.2.1.cell (i := 0) rfl
            go_wp2_with fail
            refine (begin_any P o T S1 s l t _ H0.out.1.1).mono ?_
            rintro e v1 ⟨rfl, p1, c1⟩
            have H1 := Lib.hid (Inv.pend H0.out.1 c1 p1)
            have A1 := Lib.hid (H0.out.2.chg c1 (by simp; omega))
            clear p1 c1 H0 x0 y1
            have y1 := A1.out.cell (i := 1) rfl
            have x0 := H1.out.2.1.cell (i := 0) rfl
            have x1 := H1.out.2.1.cell (i := 1) rfl
            have x2 := H1.out.2.1.cell (i := 2) rfl
            have x3 := H1.out.2.1.cell (i := 3) rfl
            have x4 := H1.out.2.1.cell (i := 4) rfl
            go_wp2_with fail
            refine (ref_begin D O R S1 o t _).mono ?_
            rintro e v2 ⟨rfl, c2⟩
            have H2 := Lib.hid (Inv.fresh H1.out c2)
            clear c2 H1 A1 x0 x1 x2 x3 x4 y1
            have x0 := H2.out.2.1.cell (i := 0) rfl
            have x1 := H2.out.2.1.cell (i := 1) rfl
            have x2 := H2.out.2.1.cell (i := 2) rfl
            have x3 := H2.out.2.1.cell (i := 3) rfl
            have x4 := H2.out.2.1.cell (i := 4) rfl
            have f0 := H2.out.2.1.free 0
            have f1 := H2.out.2.1.free 1
            have f2 := H2.out.2.1.free 2
            have f3 := H2.out.2.1.free 3
            have f4 := H2.out.2.1.free 4
            go_wp2_with fail
            have H3 := Lib.hid (Inv.setX H2.out (chg5 v2 X (.string ⟨#[]⟩) (.string ⟨#[]⟩) (.string S1) (.int .i64 o) (.int .i64 0)) (set5 H2.out.2.1 (.string ⟨#[]⟩) (.string ⟨#[]⟩) (.string S1) (.int .i64 o) (.int .i64 0)))
            clear x0 x1 x2 x3 x4 f0 f1 f2 f3 f4 H2
            revert H3
            generalize (((((v2.setCell ⟨X, 0, none⟩ (.string ⟨#[]⟩)).setCell ⟨X, 1, none⟩ (.string ⟨#[]⟩)).setCell ⟨X, 2, none⟩ (.string S1)).setCell ⟨X, 3, none⟩ (.int .i64 o)).setCell ⟨X, 4, none⟩ (.int .i64 0)) = v3
            intro H3
            go_meet
            exact ⟨S1, 0, 0, 0, ⟨#[]⟩, ⟨#[]⟩, S1, zT, by omega, Rel.begin S1, H3⟩
          · by_cases k1 : kd = 1
            · subst k1
              by_cases hl0 : l = 0
              · subst hl0
                obtain ⟨m, hm⟩ : ∃ m : Nat, min o ((T.size : Int) - (s : Int)) = (m : Int) := ⟨(min o ((T.size : Int) - (s : Int))).toNat, by omega⟩
                have HM1 := Lib.hid hm
                have HM2 : Hid (clampI (R.size : Int) 0 o = (m : Int)) := by unfold clampI; rw [Hid]; split <;> (try split) <;> omega
                have hmR : m ≤ R.size := by omega
                obtain ⟨O2, hO2⟩ : ∃ O2, R.extract 0 m = O2 := ⟨_, rfl⟩
                obtain ⟨R2, hR2⟩ : ∃ R2, R.extract m R.size = R2 := ⟨_, rfl⟩
                clear hm
                have x0 := H0.out.1.2.1.cell (i := 0) rfl
                have x1 := H0.out.1.2.1.cell (i := 1) rfl
                have x2 := H0.out.1.2.1.cell (i := 2) rfl
                have x3 := H0.out.1.2.1.cell (i := 3) rfl
                have x4 := H0.out.1.2.1.cell (i := 4) rfl
                go_wp2_with fail
                refine (ref_load_yes D O R o t m _ zz.2.2.1 HM2.out (by omega)).mono ?_
                rintro e v1 ⟨rfl, b1⟩
                rw [hO2, hR2]
                have H1 := Lib.hid (Inv.fresh H0.out.1 b1)
                clear b1 H0 x0 x1 x2 x3 x4
                have x0 := H1.out.2.1.cell (i := 0) rfl
                have x1 := H1.out.2.1.cell (i := 1) rfl
                have x2 := H1.out.2.1.cell (i := 2) rfl
                have x3 := H1.out.2.1.cell (i := 3) rfl
                have x4 := H1.out.2.1.cell (i := 4) rfl
                have f0 := H1.out.2.1.free 0
                have f1 := H1.out.2.1.free 1
                have f2 := H1.out.2.1.free 2
                have f3 := H1.out.2.1.free 3
                have f4 := H1.out.2.1.free 4
                go_wp2_with fail
                have H3 := Lib.hid (Inv.setX H1.out (chg5 v1 X (.string D) (.string O2) (.string R2) (.int .i64 o) (.int .i64 t)) (set5 H1.out.2.1 (.string D) (.string O2) (.string R2) (.int .i64 o) (.int .i64 t)))
                clear x0 x1 x2 x3 x4 f0 f1 f2 f3 f4 H1
                revert H3
                generalize (((((v1.setCell ⟨X, 0, none⟩ (.string D)).setCell ⟨X, 1, none⟩ (.string O2)).setCell ⟨X, 2, none⟩ (.string R2)).setCell ⟨X, 3, none⟩ (.int .i64 o)).setCell ⟨X, 4, none⟩ (.int .i64 t)) = v3
                intro H3
                refine (load_yes P o T s t m _ ho1 (by omega) (by omega) HM1.out H3.out.1).mono ?_
                rintro e v4 ⟨rfl, p4, c4⟩
                have H4 := Lib.hid (Inv.pend H3.out c4 p4)
                clear p4 c4 H3
                go_wp2_with fail
                go_meet
                have hR5 := Rel.load hR (k := m) (by omega)
                rw [hO2, hR2] at hR5
                exact ⟨T, s, m, t, D, O2, R2, zS, by omega, hR5, H4⟩
              · skip
                have x0 := H0.out.1.2.1.cell (i := 0) rfl
                have x1 := H0.out.1.2.1.cell (i := 1) rfl
                have x2 := H0.out.1.2.1.cell (i := 2) rfl
                have x3 := H0.out.1.2.1.cell (i := 3) rfl
                have x4 := H0.out.1.2.1.cell (i := 4) rfl
                go_wp2_with fail
                refine (ref_load_no D O R o t _ (by omega)).mono ?_
                rintro e v1 ⟨rfl, b1⟩
                have H1 := Lib.hid (Inv.fresh H0.out.1 b1)
                clear b1 H0 x0 x1 x2 x3 x4
                have x0 := H1.out.2.1.cell (i := 0) rfl
                have x1 := H1.out.2.1.cell (i := 1) rfl
                have x2 := H1.out.2.1.cell (i := 2) rfl
                have x3 := H1.out.2.1.cell (i := 3) rfl
                have x4 := H1.out.2.1.cell (i := 4) rfl
                have f0 := H1.out.2.1.free 0
                have f1 := H1.out.2.1.free 1
                have f2 := H1.out.2.1.free 2
                have f3 := H1.out.2.1.free 3
                have f4 := H1.out.2.1.free 4
                go_wp2_with fail
                have H3 := Lib.hid (Inv.setX H1.out (chg5 v1 X (.string D) (.string O) (.string R) (.int .i64 o) (.int .i64 t)) (set5 H1.out.2.1 (.string D) (.string O) (.string R) (.int .i64 o) (.int .i64 t)))
                clear x0 x1 x2 x3 x4 f0 f1 f2 f3 f4 H1
                revert H3
                generalize (((((v1.setCell ⟨X, 0, none⟩ (.string D)).setCell ⟨X, 1, none⟩ (.string O)).setCell ⟨X, 2, none⟩ (.string R)).setCell ⟨X, 3, none⟩ (.int .i64 o)).setCell ⟨X, 4, none⟩ (.int .i64 t)) = v3
                intro H3
                refine (load_no P o T s l t _ (by omega) H3.out.1).mono ?_
                rintro e v4 ⟨rfl, rfl⟩
                go_wp2_with fail
                go_meet
                exact ⟨T, s, l, t, D, O, R, zS, by omega, hR, H3⟩
            · by_cases k2 : kd = 2
              · subst k2
                by_cases hl0 : l = 0
                · subst hl0
                  have y2 := H0.out.2.cell (i := 2) rfl
                  have x0 := H0.out.1.2.1.cell (i := 0) rfl
                  have x1 := H0.out.1.2.1.cell (i := 1) rfl
                  have x2 := H0.out.1.2.1.cell (i := 2) rfl
                  have x3 := H0.out.1.2.1.cell (i := 3) rfl
                  have x4 := H0.out.1.2.1.cell (i := 4) rfl
                  go_wp2_with fail
                  refine (ref_take_no D O R o m0 t _ zz.2.2.1).mono ?_
                  rintro e v1 ⟨rfl, b1⟩
                  have H1 := Lib.hid (Inv.fresh H0.out.1 b1)
                  have A1 := Lib.hid (H0.out.2.below b1 H0.out.2.lt)
                  clear b1 H0 x0 x1 x2 x3 x4 y2
                  have y2 := A1.out.cell (i := 2) rfl
                  have x0 := H1.out.2.1.cell (i := 0) rfl
                  have x1 := H1.out.2.1.cell (i := 1) rfl
                  have x2 := H1.out.2.1.cell (i := 2) rfl
                  have x3 := H1.out.2.1.cell (i := 3) rfl
                  have x4 := H1.out.2.1.cell (i := 4) rfl
                  have f0 := H1.out.2.1.free 0
                  have f1 := H1.out.2.1.free 1
                  have f2 := H1.out.2.1.free 2
                  have f3 := H1.out.2.1.free 3
                  have f4 := H1.out.2.1.free 4
                  go_wp2_with fail
                  have H3 := Lib.hid (Inv.setX H1.out (chg5 v1 X (.string D) (.string O) (.string R) (.int .i64 o) (.int .i64 t)) (set5 H1.out.2.1 (.string D) (.string O) (.string R) (.int .i64 o) (.int .i64 t)))
                  clear y2 x0 x1 x2 x3 x4 f0 f1 f2 f3 f4 H1
                  revert H3
                  generalize (((((v1.setCell ⟨X, 0, none⟩ (.string D)).setCell ⟨X, 1, none⟩ (.string O)).setCell ⟨X, 2, none⟩ (.string R)).setCell ⟨X, 3, none⟩ (.int .i64 o)).setCell ⟨X, 4, none⟩ (.int .i64 t)) = v3
                  intro H3
                  refine (take_no P o T s t m0 _ (by omega) (by omega) H3.out.1).mono ?_
                  rintro e v4 ⟨rfl, q4, rfl⟩
                  have H4 := Lib.hid (Inv.fresh H3.out (below_drewN (Below.refl _ _) q4))
                  clear H3
                  go_wp2_with fail
                  go_meet
                  exact ⟨T, s, 0, t, D, O, R, zS, by omega, hR, H4⟩
                · obtain ⟨m, hm⟩ : ∃ m : Nat, min (max m0 0) (l : Int) = (m : Int) := ⟨(min (max m0 0) (l : Int)).toNat, by omega⟩
                  have HM2 : Hid (clampI m0 0 (O.size : Int) = (m : Int)) := by unfold clampI; rw [Hid]; split <;> (try split) <;> omega
                  by_cases hml : m < l
                  · have HM1 := Lib.hid hm
                    clear hm
                    obtain ⟨O1, hO1⟩ : ∃ O1, O.extract 0 m = O1 := ⟨_, rfl⟩
                    obtain ⟨O2, hO2⟩ : ∃ O2, O.extract m O.size = O2 := ⟨_, rfl⟩
                    obtain ⟨D2, hD2⟩ : ∃ D2, D ++ O1 = D2 := ⟨_, rfl⟩
                    have hp := Rel.part hR (j := m) (by omega)
                    rw [hO1] at hp
                    have HPP := Lib.hid hp
                    clear hp
                    have y2 := H0.out.2.cell (i := 2) rfl
                    have x0 := H0.out.1.2.1.cell (i := 0) rfl
                    have x1 := H0.out.1.2.1.cell (i := 1) rfl
                    have x2 := H0.out.1.2.1.cell (i := 2) rfl
                    have x3 := H0.out.1.2.1.cell (i := 3) rfl
                    have x4 := H0.out.1.2.1.cell (i := 4) rfl
                    go_wp2_with fail
                    refine (ref_take_part D O R o m0 t m _ (by omega) HM2.out (by omega) (by omega) (by omega) (by omega)).mono ?_
                    rintro e v1 ⟨rfl, b1⟩
                    rw [hO1, hO2, hD2]
                    have H1 := Lib.hid (Inv.fresh H0.out.1 b1)
                    have A1 := Lib.hid (H0.out.2.below b1 H0.out.2.lt)
                    clear b1 H0 x0 x1 x2 x3 x4 y2
                    have y2 := A1.out.cell (i := 2) rfl
                    have x0 := H1.out.2.1.cell (i := 0) rfl
                    have x1 := H1.out.2.1.cell (i := 1) rfl
                    have x2 := H1.out.2.1.cell (i := 2) rfl
                    have x3 := H1.out.2.1.cell (i := 3) rfl
                    have x4 := H1.out.2.1.cell (i := 4) rfl
                    have f0 := H1.out.2.1.free 0
                    have f1 := H1.out.2.1.free 1
                    have f2 := H1.out.2.1.free 2
                    have f3 := H1.out.2.1.free 3
                    have f4 := H1.out.2.1.free 4
                    go_wp2_with fail
                    have H3 := Lib.hid (Inv.setX H1.out (chg5 v1 X (.string D2) (.string O2) (.string R) (.int .i64 o) (.int .i64 ((t : Int) + 1))) (set5 H1.out.2.1 (.string D2) (.string O2) (.string R) (.int .i64 o) (.int .i64 ((t : Int) + 1))))
                    clear y2 x0 x1 x2 x3 x4 f0 f1 f2 f3 f4 H1
                    revert H3
                    generalize (((((v1.setCell ⟨X, 0, none⟩ (.string D2)).setCell ⟨X, 1, none⟩ (.string O2)).setCell ⟨X, 2, none⟩ (.string R)).setCell ⟨X, 3, none⟩ (.int .i64 o)).setCell ⟨X, 4, none⟩ (.int .i64 ((t : Int) + 1))) = v3
                    intro H3
                    refine (take_part P o T s l t m m0 _ (by omega) (by omega) (by omega) (by omega) HM1.out (by omega) H3.out.1).mono ?_
                    rintro e v4 ⟨rfl, p4, c4⟩
                    rw [HPP.out]
                    have H4 := Lib.hid (Inv.pend H3.out c4 p4)
                    clear p4 c4 H3
                    go_wp2_with fail
                    go_meet
                    have hR5 := Rel.take hR (j := m) (by omega)
                    rw [hO1, hO2, hD2] at hR5
                    exact ⟨T, s + m, l - m, t + 1, D2, O2, R, zS, by omega, hR5, H4⟩
                  · obtain rfl : l = m := by omega
                    have HM1 := Lib.hid hm
                    clear hm
                    obtain ⟨O1, hO1⟩ : ∃ O1, O.extract 0 l = O1 := ⟨_, rfl⟩
                    obtain ⟨O2, hO2⟩ : ∃ O2, O.extract l O.size = O2 := ⟨_, rfl⟩
                    obtain ⟨D2, hD2⟩ : ∃ D2, D ++ O1 = D2 := ⟨_, rfl⟩
                    have hp := Rel.part hR (j := l) (by omega)
                    rw [hO1] at hp
                    have HPP := Lib.hid hp
                    clear hp
                    have y2 := H0.out.2.cell (i := 2) rfl
                    have x0 := H0.out.1.2.1.cell (i := 0) rfl
                    have x1 := H0.out.1.2.1.cell (i := 1) rfl
                    have x2 := H0.out.1.2.1.cell (i := 2) rfl
                    have x3 := H0.out.1.2.1.cell (i := 3) rfl
                    have x4 := H0.out.1.2.1.cell (i := 4) rfl
                    go_wp2_with fail
                    refine (ref_take_whole D O R o m0 t l _ (by omega) HM2.out (by omega) (by omega) (by omega)).mono ?_
                    rintro e v1 ⟨rfl, b1⟩
                    rw [hO1, hO2, hD2]
                    have H1 := Lib.hid (Inv.fresh H0.out.1 b1)
                    have A1 := Lib.hid (H0.out.2.below b1 H0.out.2.lt)
                    clear b1 H0 x0 x1 x2 x3 x4 y2
                    have y2 := A1.out.cell (i := 2) rfl
                    have x0 := H1.out.2.1.cell (i := 0) rfl
                    have x1 := H1.out.2.1.cell (i := 1) rfl
                    have x2 := H1.out.2.1.cell (i := 2) rfl
                    have x3 := H1.out.2.1.cell (i := 3) rfl
                    have x4 := H1.out.2.1.cell (i := 4) rfl
                    have f0 := H1.out.2.1.free 0
                    have f1 := H1.out.2.1.free 1
                    have f2 := H1.out.2.1.free 2
                    have f3 := H1.out.2.1.free 3
                    have f4 := H1.out.2.1.free 4
                    go_wp2_with fail
                    have H3 := Lib.hid (Inv.setX H1.out (chg5 v1 X (.string D2) (.string O2) (.string R) (.int .i64 o) (.int .i64 t)) (set5 H1.out.2.1 (.string D2) (.string O2) (.string R) (.int .i64 o) (.int .i64 t)))
                    clear y2 x0 x1 x2 x3 x4 f0 f1 f2 f3 f4 H1
                    revert H3
                    generalize (((((v1.setCell ⟨X, 0, none⟩ (.string D2)).setCell ⟨X, 1, none⟩ (.string O2)).setCell ⟨X, 2, none⟩ (.string R)).setCell ⟨X, 3, none⟩ (.int .i64 o)).setCell ⟨X, 4, none⟩ (.int .i64 t)) = v3
                    intro H3
                    refine (take_whole P o T s l t m0 _ (by omega) (by omega) (by omega) (by omega) HM1.out H3.out.1).mono ?_
                    rintro e v4 ⟨rfl, p4, c4⟩
                    rw [HPP.out]
                    have H4 := Lib.hid (Inv.pend H3.out c4 p4)
                    clear p4 c4 H3
                    go_wp2_with fail
                    go_meet
                    have hR5 := Rel.take hR (j := l) (by omega)
                    rw [hO1, hO2, hD2] at hR5
                    exact ⟨T, s + l, l - l, t, D2, O2, R, zS, by omega, hR5, H4⟩
              · by_cases k3 : kd = 3
                · subst k3
                  have x1 := H0.out.1.2.1.cell (i := 1) rfl
                  have x2 := H0.out.1.2.1.cell (i := 2) rfl
                  have e4 : ((T.size - s : Nat) : Int) = (l : Int) + ((T.size - s - l : Nat) : Int) := by omega
                  have HE4 := Lib.hid e4
                  have e5 : IntKind.i64.wrap ((l : Int) + ((T.size - s - l : Nat) : Int)) = (l : Int) + ((T.size - s - l : Nat) : Int) := IntWalk.i64_in _ (by omega)
                  clear e4
                  go_wp2_with fail
                  go_region_held3 (fun w' => w'.cell? ⟨X, 1, none⟩ = some (.string O) ∧ w'.cell? ⟨X, 2, none⟩ = some (.string R)) (first | go_keep | ((try dsimp only); (repeat' apply And.intro) <;> first | assumption | go_keep)) (first
                    | (go_at_call 15; refine (drop_any P o T s l t _ (by omega) (by omega) H0.out.1.1.drew).mono ?_; rintro e v1 ⟨rfl, p1, c1⟩; rw [HE4.out]; have H1 := Lib.hid (Inv.pend (Inv.fresh H0.out.1 (Below.refl _ _).drew) c1 p1); have k1 : v1.cell? ⟨X, 1, none⟩ = some (.string O) := H1.out.2.1.cell (i := 1) rfl; have k2 : v1.cell? ⟨X, 2, none⟩ = some (.string R) := H1.out.2.1.cell (i := 2) rfl; clear p1 c1))
                  clear H0 x1 x2
                  have x1 := H1.out.2.1.cell (i := 1) rfl
                  have x2 := H1.out.2.1.cell (i := 2) rfl
                  have f1 := H1.out.2.1.free 1
                  have f2 := H1.out.2.1.free 2
                  go_wp2_with fail
                  have H2 := Lib.hid (Inv.setX H1.out (((Chg.refl [X] v1).set (Or.inl (by simp)) 1 (.string ⟨#[]⟩)).set (Or.inl (by simp)) 2 (.string ⟨#[]⟩)) ((H1.out.2.1.set 1 (.string ⟨#[]⟩)).set 2 (.string ⟨#[]⟩)))
                  go_meet
                  exact ⟨T.extract 0 s, s, 0, t, D, ⟨#[]⟩, ⟨#[]⟩, by rw [ByteArray.size_extract]; omega, by omega, Rel.drop hR, H2⟩
                · skip
                  go_wp2_with fail
                  go_meet
                  exact ⟨T, s, l, t, D, O, R, zS, by omega, hR, Lib.hid H0.out.1⟩
        case rest =>
          clear H0 hR zz zS zt
          obtain ⟨T, s, l, t, D, O, R, zS, zt, hR, HQ⟩ := hcut
          have zz := Rel.sizes hR
          have hPX : P < X ∧ X < Y := ⟨HQ.out.2.2.2.2.1, HQ.out.2.2.2.2.2.1⟩
          have hXY : X < Y := hPX.2
          have hXY' : ¬ X = Y := by omega
          by_cases hat : (k : Int) = a2 % 20
          · have HAT : ((k : Int) == a2 % 20) = true := by simpa using hat
            have HATH := Lib.hid hat
            clear hat
            have x0 := HQ.out.2.1.cell (i := 0) rfl
            have x1 := HQ.out.2.1.cell (i := 1) rfl
            have x2 := HQ.out.2.1.cell (i := 2) rfl
            have x3 := HQ.out.2.1.cell (i := 3) rfl
            have x4 := HQ.out.2.1.cell (i := 4) rfl
            obtain ⟨y0, y1, y2, y3, y4, hyy⟩ : ∃ y0 y1 y2 y3 y4, Blk wc Y [y0, y1, y2, y3, y4] 26 := by
              rcases HQ.out.2.2.1 with ⟨_, h⟩ | ⟨C, Tc, sc, lc, tc, Dc, Oc, Rc, h1, h2, h3, h4, h5, h6⟩
              · exact h
              · exact ⟨_, _, _, _, _, h6⟩
            have HY := Lib.hid hyy
            clear hyy
            have d0 : wc.drew.cell? ⟨X, 0, none⟩ = some (.string D) := x0
            have d1 : wc.drew.cell? ⟨X, 1, none⟩ = some (.string O) := x1
            have d2 : wc.drew.cell? ⟨X, 2, none⟩ = some (.string R) := x2
            have d3 : wc.drew.cell? ⟨X, 3, none⟩ = some (.int .i64 o) := x3
            have d4 : wc.drew.cell? ⟨X, 4, none⟩ = some (.int .i64 t) := x4
            go_wp2_with fail
            go_region_held3 (fun w' => w'.cell? ⟨X, 0, none⟩ = some (.string D) ∧ w'.cell? ⟨X, 1, none⟩ = some (.string O) ∧ w'.cell? ⟨X, 2, none⟩ = some (.string R) ∧ w'.cell? ⟨X, 3, none⟩ = some (.int .i64 o) ∧ w'.cell? ⟨X, 4, none⟩ = some (.int .i64 t)) (first | with_reducible exact ⟨k0, k1, k2, k3, k4⟩ | with_reducible exact keep5 hXY' _ _ _ _ _ ⟨k0, k1, k2, k3, k4⟩ | with_reducible exact ⟨d0, d1, d2, d3, d4⟩) (first
              | (go_at_call 16; refine (copy_ex P o T s l t _ HQ.out.1.drew).mono ?_; rintro e v1 ⟨C, hC, rfl, p1, c1⟩; have H1 := Lib.hid (Inv.fresh HQ.out ((Below.refl _ _).drew.trans (c1.mono (by simp)))); have hCY : Y < C := Nat.lt_of_lt_of_le HQ.out.2.2.2.2.2.2 hC; have k0 : v1.cell? ⟨X, 0, none⟩ = some (.string D) := H1.out.2.1.cell (i := 0) rfl; have k1 : v1.cell? ⟨X, 1, none⟩ = some (.string O) := H1.out.2.1.cell (i := 1) rfl; have k2 : v1.cell? ⟨X, 2, none⟩ = some (.string R) := H1.out.2.1.cell (i := 2) rfl; have k3 : v1.cell? ⟨X, 3, none⟩ = some (.int .i64 o) := H1.out.2.1.cell (i := 3) rfl; have k4 : v1.cell? ⟨X, 4, none⟩ = some (.int .i64 t) := H1.out.2.1.cell (i := 4) rfl; have HY1 := Lib.hid (HY.out.drew.below c1 (by have := HQ.out.2.2.2.2.2.2; simpa using this)); have HC1 := Lib.hid p1; have z0 := HY1.out.cell (i := 0) rfl; have z1 := HY1.out.cell (i := 1) rfl; have z2 := HY1.out.cell (i := 2) rfl; have z3 := HY1.out.cell (i := 3) rfl; have z4 := HY1.out.cell (i := 4) rfl; have f0 := HY1.out.free 0; have f1 := HY1.out.free 1; have f2 := HY1.out.free 2; have f3 := HY1.out.free 3; have f4 := HY1.out.free 4; clear p1 c1))
            have HQ2 : Hid (Inv w (((((v1.setCell ⟨Y, 0, none⟩ (.string D)).setCell ⟨Y, 1, none⟩ (.string O)).setCell ⟨Y, 2, none⟩ (.string R)).setCell ⟨Y, 3, none⟩ (.int .i64 o)).setCell ⟨Y, 4, none⟩ (.int .i64 t)) P X Y o T s l t [.string D, .string O, .string R, .int .i64 o, .int .i64 t] (.pointer (some ⟨C, 0, none⟩))) := by
              have kc := chg5 v1 Y (.string D) (.string O) (.string R) (.int .i64 o) (.int .i64 t)
              obtain ⟨h1, h2, h3, h4, h5, h6, h7⟩ := H1.out
              exact ⟨Blk.chg h1 kc (by simp; omega), h2.chg kc (by simp; omega), Or.inr ⟨C, T, s, l, t, D, O, R, rfl, hCY, zS, Blk.chg HC1.out kc (by simp; omega), hR, set5 HY1.out _ _ _ _ _⟩, kc.onto h4 (by omega) (by simp; omega), h5, h6, by simpa using h7⟩
            rename_i hheld
            clear hheld H1 HC1 HY1 HQ HY k0 k1 k2 k3 k4 z0 z1 z2 z3 z4 f0 f1 f2 f3 f4 x0 x1 x2 x3 x4 d0 d1 d2 d3 d4
            revert HQ2
            generalize (((((v1.setCell ⟨Y, 0, none⟩ (.string D)).setCell ⟨Y, 1, none⟩ (.string O)).setCell ⟨Y, 2, none⟩ (.string R)).setCell ⟨Y, 3, none⟩ (.int .i64 o)).setCell ⟨Y, 4, none⟩ (.int .i64 t)) = v2
            intro HQ
            have x0 := HQ.out.2.1.cell (i := 0) rfl
            have x1 := HQ.out.2.1.cell (i := 1) rfl
            have x2 := HQ.out.2.1.cell (i := 2) rfl
            have x3 := HQ.out.2.1.cell (i := 3) rfl
            have x4 := HQ.out.2.1.cell (i := 4) rfl
            go_wp2_with fail
            refine (told_any P o T D O R s l t _ (by omega) (by omega) hR.2.1 zz.2.1 zz.2.2.1 zz.2.2.2 HQ.out.1).mono ?_
            rintro e u9_w ⟨rfl, b9⟩
            have HQ1 := Lib.hid (Inv.fresh HQ.out b9)
            clear b9 HQ x0 x1 x2 x3 x4
            obtain ⟨Cc, Tc, sc, lc, tc, Dc, Oc, Rc, hc0, hYC, zTc, hpc, hRc, hy⟩ : ∃ (C' : Nat) (T : ByteArray) (s l t : Nat) (D O R : ByteArray), Value.pointer (some ⟨C, 0, none⟩) = .pointer (some ⟨C', 0, none⟩) ∧ Y < C' ∧ T.size ≤ 20 ∧ PB u9_w C' o T s l t ∧ Rel T s l D O R ∧ Blk u9_w Y [.string D, .string O, .string R, .int .i64 o, .int .i64 t] 26 := by
              rcases HQ1.out.2.2.1 with ⟨hc0, _⟩ | h
              · cases hc0
              · exact h
            obtain rfl : C = Cc := by simpa using hc0
            have zc := Rel.sizes hRc
            have HQ0 := HQ1
            clear HQ1
            have yy0 := hy.cell (i := 0) rfl
            have yy1 := hy.cell (i := 1) rfl
            have yy2 := hy.cell (i := 2) rfl
            have yy3 := hy.cell (i := 3) rfl
            have yy4 := hy.cell (i := 4) rfl
            go_wp2_with fail
            refine (told_any C o Tc Dc Oc Rc sc lc tc _ (by omega) zc.1 hRc.2.1 zc.2.1 zc.2.2.1 zc.2.2.2 hpc).mono ?_
            rintro e u8_ ⟨rfl, b8⟩
            have HQ1 := Lib.hid (Inv.fresh HQ0.out b8)
            clear b8 HQ0 yy0 yy1 yy2 yy3 yy4 hy hpc
            go_wp2
            refine ⟨?_, ?measure⟩
            case measure => simp [intOf]; omega
            first
              | exact ⟨k + 1, T, s, l, t, D, O, R, by omega, by omega, by go_num, zS, by omega, hR, HQ1⟩
              | ((repeat apply Exists.intro); exact ⟨⟨k + 1, T, s, l, t, D, O, R, by omega, by omega, by go_num, zS, by omega, hR, HQ1⟩, rfl⟩)
          · have HAT : ((k : Int) == a2 % 20) = false := by simpa using hat
            have HATH := Lib.hid hat
            clear hat
            have x0 := HQ.out.2.1.cell (i := 0) rfl
            have x1 := HQ.out.2.1.cell (i := 1) rfl
            have x2 := HQ.out.2.1.cell (i := 2) rfl
            have x3 := HQ.out.2.1.cell (i := 3) rfl
            have x4 := HQ.out.2.1.cell (i := 4) rfl
            go_wp2_with fail
            refine (told_any P o T D O R s l t _ (by omega) (by omega) hR.2.1 zz.2.1 zz.2.2.1 zz.2.2.2 HQ.out.1).mono ?_
            rintro e u9_w ⟨rfl, b9⟩
            have HQ1 := Lib.hid (Inv.fresh HQ.out b9)
            clear b9 HQ x0 x1 x2 x3 x4
            rcases HQ1.out.2.2.1 with ⟨hc0, _⟩ | ⟨C, Tc, sc, lc, tc, Dc, Oc, Rc, hc0, hYC, zTc, hpc, hRc, hy⟩
            · subst hc0
              go_wp2
              refine ⟨?_, ?measure⟩
              case measure => simp [intOf]; omega
              first
                | exact ⟨k + 1, T, s, l, t, D, O, R, by omega, by omega, by go_num, zS, by omega, hR, HQ1⟩
                | ((repeat apply Exists.intro); exact ⟨⟨k + 1, T, s, l, t, D, O, R, by omega, by omega, by go_num, zS, by omega, hR, HQ1⟩, rfl⟩)
            · subst hc0
              have zc := Rel.sizes hRc
              have HQ0 := HQ1
              clear HQ1
              have yy0 := hy.cell (i := 0) rfl
              have yy1 := hy.cell (i := 1) rfl
              have yy2 := hy.cell (i := 2) rfl
              have yy3 := hy.cell (i := 3) rfl
              have yy4 := hy.cell (i := 4) rfl
              go_wp2_with fail
              refine (told_any C o Tc Dc Oc Rc sc lc tc _ (by omega) zc.1 hRc.2.1 zc.2.1 zc.2.2.1 zc.2.2.2 hpc).mono ?_
              rintro e u8_ ⟨rfl, b8⟩
              have HQ1 := Lib.hid (Inv.fresh HQ0.out b8)
              clear b8 HQ0 yy0 yy1 yy2 yy3 yy4 hy hpc
              go_wp2
              refine ⟨?_, ?measure⟩
              case measure => simp [intOf]; omega
              first
                | exact ⟨k + 1, T, s, l, t, D, O, R, by omega, by omega, by go_num, zS, by omega, hR, HQ1⟩
                | ((repeat apply Exists.intro); exact ⟨⟨k + 1, T, s, l, t, D, O, R, by omega, by omega, by go_num, zS, by omega, hR, HQ1⟩, rfl⟩)
      · go_wp2_with (go_at_call 18; refine (lives_any _).mono ?_; rintro e w9 ⟨rfl, hb⟩)
        go_ret
        exact ⟨rfl, by rw [HPE.out]; exact HI.out.2.2.2.1.trans (Below.mono (by assumption) (by have := HI.out.2.2.2.2; omega))⟩
    · go_wp2_with (go_at_call 18; refine (lives_any _).mono ?_; rintro e w9 ⟨rfl, hb⟩)
      go_ret
      exact ⟨rfl, by rw [HPE.out]; exact HI.out.2.2.2.1.trans (Below.mono (by assumption) (by have := HI.out.2.2.2.2; omega))⟩

set_option maxRecDepth 100000 in
theorem lifted (os : Os) (started : os.Started) (H : Type) (enc : TypeId × Value → H) :
    ReturnsInHanded {} Try.checked os 3 .any (Rows.pendPlaysSpec.pre6 enc Try.prog Try.f3 Rows.pendPlaysRow.domain false) (Rows.pendPlaysSpec.post enc Try.prog Try.f3 false true false false) := by
  refine returnsInHanded_of_change (C := Try.checked) ownKn started (by kernel_rfl) Try.func3
    (ChangeSpec.witness6 (enc := enc) (C := Try.checked) false ⟨#[], #[.int .i64 0, .slice none 0 0, .int .u8 0], []⟩ 8 (by kernel_rfl) (by kernel_rfl) (by kernel_rfl) (by kernel_rfl)) ?_
  intro W base args ds gs before hval0 hW hcnd _
  have hval : ∀ (j : Nat) t v, Try.f3.params[j]? = some t → args[j]? = some v → Value.okWide Try.prog W .any base t v := hval0
  have hW' := hW
  obtain ⟨p, q, hA0, hV, rfl, hfz, hnd⟩ := hW
  have hA : DataW.TrodAll enc Try.prog W 0 (fun _ => true) true Try.f3.params.toList args.toList ds p := hA0
  rw [Try.params3] at hA hval
  obtain ⟨v0, vs0, d0, ds0, p0, q0, hargs, rfl, rfl, h0, r0⟩ := trodAll_cons hA
  obtain ⟨v1, vs1, d1, ds1, p1, q1, rfl, rfl, rfl, h1, r1⟩ := trodAll_cons r0
  obtain ⟨v2, vs2, d2, ds2, p2, q2, rfl, rfl, rfl, h2, r2⟩ := trodAll_cons r1
  obtain ⟨rfl, rfl, rfl⟩ := trodAll_nil r2
  obtain rfl : args = #[v0, v1, v2] := by cases args; simp_all
  obtain ⟨rfl, rfl⟩ := trodVars_none hV
  have k0 := h0
  have lt0 : ∀ x ∈ p0, x.block < W.heap.size := by obtain ⟨m, hm⟩ := k0; exact DataW.trod_lt m _ _ _ hm
  obtain ⟨a0, rfl, rfl, rfl, w0⟩ := open_int Try.underlying3 (hval 0 3 v0 rfl rfl) h0
  have k1 := h1
  have lt1 : ∀ x ∈ p1, x.block < W.heap.size := by obtain ⟨m, hm⟩ := k1; exact DataW.trod_lt m _ _ _ hm
  obtain ⟨b1, lb1, cb1, rfl⟩ := okWide_slice Try.underlying22 (hval 1 22 v1 rfl rfl)
  obtain ⟨fu1, hf1⟩ := h1
  simp only [Value.cells] at hf1
  obtain ⟨a1, len1, cap1, e1, w1⟩ := fld_mix [3, 9, 3] Try.underlying22 Try.underlying29 (by kernel_rfl) (by kernel_rfl) rfl (by intro t ht; simp only [List.mem_cons, List.not_mem_nil, or_false] at ht; obtain rfl | rfl | rfl := ht; all_goals (first | exact Or.inl ⟨_, Try.underlying3⟩ | exact Or.inr (Or.inl Try.underlying9))) (by decide) hf1
  obtain ⟨rfl, rfl, rfl⟩ : b1 = a1 ∧ lb1 = len1 ∧ cb1 = cap1 := by simpa using e1
  have k2 := h2
  have lt2 : ∀ x ∈ p2, x.block < W.heap.size := by obtain ⟨m, hm⟩ := k2; exact DataW.trod_lt m _ _ _ hm
  obtain ⟨a2, rfl, rfl, rfl, w2⟩ := open_int Try.underlying5 (hval 2 5 v2 rfl rfl) h2
  clear hA0 hval0
  refine (walk a0 b1 lb1 cb1 a2 W w0 w1 w2).mono fun e W' ⟨he, bel⟩ => ?_
  subst he
  exact ⟨_, rfl, _, _, _, [], _, [], hW', trodAll_mk1 (shut_bool Try.underlying4 _), (trodAll_cons_mk (Below.trod laidOut (by kernel_rfl) (of_decide_eq_true (by kernel_rfl)) k0 bel lt0) (trodAll_cons_mk (Below.trod laidOut (by kernel_rfl) (of_decide_eq_true (by kernel_rfl)) k1 bel lt1) (trodAll_cons_mk (Below.trod laidOut (by kernel_rfl) (of_decide_eq_true (by kernel_rfl)) k2 bel lt2) trodAll_mk0))), rfl, bel.frame _, fun h => by cases h⟩

theorem over : Rows.pendPlaysRow.holds Try.pinned (OpenSpec.ofChange Rows.pendPlaysSpec) :=
  OpenClaim.holds_of_wide 3 Try.f3 rfl rfl rfl rfl rfl rfl rfl ⟨rfl, rfl, rfl, rfl, rfl⟩ rfl rfl rfl rfl rfl (by kernel_rfl) Try.func3 (by kernel_rfl)
    (of_decide_eq_true (by kernel_rfl)) (by unfold Func.isWrapper; first | (rw [if_pos (by decide +kernel)]; kernel_rfl) | (rw [if_neg (by decide +kernel)]; exact ⟨rfl, rfl⟩))
    (fun os started H enc _ => lifted os started H enc)

/-- The statement. -/
theorem proved : Rows.PendPlaysSaid := over
#print axioms proved
end Go.Proofs.Ytalkmokecnnhmaa.pendPlays
