/- What slots tell, held against the document's own answer. -/
import Derived.Test.YthofnpcaeopojaaSlKit
import Derived.Test.YthofnpcaeopojaaSlRef2
import Derived.Deep.RegionHeld3
namespace Go.Proofs.Ythofnpcaeopojaa
open Go.ChangeShapes Go.WideShapes Go.ChangeAt Go.RowKit
set_option linter.unusedSimpArgs false
set_option linter.unusedVariables false

/-- A list of numbers in memory, maybe none. -/
def LV (w : World) (a : Option Addr) (L : List Int) : Prop := L = [] ∨ ∃ g, a = some ⟨g, 0, none⟩ ∧ g < w.heap.size ∧ ∀ j v, L[j]? = some v → w.cell? ⟨g, j, none⟩ = some (.int .i64 v)
theorem LV.below {w w' : World} {a : Option Addr} {L : List Int} (h : LV w a L) (k : Below w.heap.size w w') : LV w' a L := by
  rcases h with h | ⟨g, e, h1, h2⟩
  · exact Or.inl h
  · exact Or.inr ⟨g, e, Nat.lt_of_lt_of_le h1 k.size, fun j v hv => (k.cell (p := ⟨g, j, none⟩) h1).trans (h2 j v hv)⟩
theorem LV.of_own {w : World} {base n : Nat} {v : Value} {L : List Int} (h : w.ownsRow base 3 1 v n (L.map iw)) (hn : L.length = n) : ∃ a c, v = .slice a n c ∧ LV w a L := by
  by_cases hv : v = .slice none 0 0
  · subst hv
    have h0 : n = 0 := by
      rcases h with ⟨_, ⟨_, h2⟩ | ⟨g', cap, cur, h2, _⟩⟩
      · exact h2
      · cases h2
    subst h0
    exact ⟨none, 0, rfl, Or.inl (by cases L with | nil => rfl | cons x r => simp at hn)⟩
  · obtain ⟨g3, c3, rfl, k4, k5, k6⟩ := Rw.of_own h hv
    refine ⟨some ⟨g3, 0, none⟩, c3, rfl, Or.inr ⟨g3, rfl, k5.lt, fun j u hu => ?_⟩⟩
    exact k5.cell (by rw [List.getElem?_map, hu]; rfl)
/-- The slots, the document's slots in a box, and its list. -/
def TO (w0 w : World) (s g m n : Nat) (W : List Int) (M : List (Int × Int × Nat)) (c : Nat) (nx : Int) (lo : Nat) (a : Option Addr) (B : Nat) (bc : List Value) : Prop :=
  SA w s g m n W M c nx ∧ Blk w B bc 27 ∧ RL w lo a (DM M) ∧ Below w0.heap.size w0 w
theorem TO.on {w0 w w' : World} {s g m n : Nat} {W : List Int} {M : List (Int × Int × Nat)} {c : Nat} {nx : Int} {lo : Nat} {a : Option Addr} {B : Nat} {bc : List Value} (h : TO w0 w s g m n W M c nx lo a B bc) (k : Below w.heap.size w w') : TO w0 w' s g m n W M c nx lo a B bc :=
  ⟨h.1.fresh k, h.2.1.below k h.2.1.lt, h.2.2.1.fresh k, h.2.2.2.trans (k.mono h.2.2.2.size)⟩
set_option maxRecDepth 20000 in
set_option maxHeartbeats 8000000 in
theorem told_core (s g m n : Nat) (W : List Int) (M : List (Int × Int × Nat)) (c : Nat) (nx : Int) (lo : Nat) (a : Option Addr) (cp : Nat) (ask sv ra wv rb : Int) (b1 b2 : Bool) (w : World) (hn : n ≤ 1024) (hM : M.length ≤ 1000) (hnx : 0 ≤ nx ∧ nx ≤ 4096) (hmk : MOk M c)
    (h : SA w s g m n W M c nx) (hl : RL w lo a (DM M))
    (hs1 : ((mIdx M ask).map (·.2)).getD 0 = sv) (hs2 : (mIdx M ask).isSome = b1) (hs3 : rSlot (DM M) ask = ra)
    (hw1 : ∀ w, SA w s g m n W M c nx → Calls Try.prog 17 #[.pointer (some ⟨s, 0, none⟩), .int .i64 ask] w fun e w' => e = .returned (.tuple #[.int .i64 wv, .bool b2]) ∧ w = w') (hw2 : rWho (DM M) ask = rb)
    (c1 : (b1 = true ∧ decide (0 ≤ ra) = true ∧ sv = ra) ∨ (b1 = false ∧ ra = -1 ∧ sv = 0)) (c2 : (b2 = true ∧ decide (0 ≤ rb) = true ∧ wv = rb) ∨ (b2 = false ∧ rb = -1 ∧ wv = 0)) :
    Calls Try.prog 15 #[.pointer (some ⟨s, 0, none⟩), .agg #[.slice a M.length cp, .int .i64 n, .int .i64 nx], .int .i64 ask] w fun e w' => e = .returned (.bool true) ∧ Below w.heap.size w w' := by
  have HM : Hid (M.length ≤ 1000 ∧ MOk M c ∧ (DM M).length = M.length) := Lib.hid ⟨hM, hmk, DM_length M⟩
  have HA := Lib.hid (And.intro h hl)
  have HS := Lib.hid (And.intro hs1 (And.intro hs2 hs3))
  have HW := Lib.hid (And.intro hw1 hw2)
  obtain ⟨l, hlen⟩ : ∃ l, M.length = l := ⟨_, rfl⟩
  have HL := Lib.hid hlen
  rw [hlen] at hM ⊢
  clear h hl hs1 hs2 hs3 hw1 hw2 hmk hlen
  rcases c1 with ⟨rfl, d1, rfl⟩ | ⟨rfl, rfl, rfl⟩ <;> rcases c2 with ⟨rfl, d2, rfl⟩ | ⟨rfl, rfl, rfl⟩
  all_goals
    go_enter Try.func15, Try.ntmps15
    go_upto_region 1 with fail
    have HT : Hid (TO w (w.alloc (Obj.cells #[.slice a l cp, .int .i64 n, .int .i64 nx] 27)) s g m n W M c nx lo a w.heap.size [.slice a l cp, .int .i64 n, .int .i64 nx]) := Lib.hid ⟨HA.out.1.fresh ((Below.refl _ _).alloc (Nat.le_refl _) _), Blk.newA w _ _, HA.out.2.fresh ((Below.refl _ _).alloc (Nat.le_refl _) _), (Below.refl _ _).alloc (Nat.le_refl _) _⟩
    revert HT
    generalize w.alloc (Obj.cells #[.slice a l cp, .int .i64 n, .int .i64 nx] 27) = V
    intro HT
    go_upto_region 3 with (first
      | (go_at_call 22; refine (sl_slot s g m n W M c nx ask _ _ _ HT.out.1 HS.out.1 HS.out.2.1).mono ?_; rintro e w' ⟨rfl, rfl⟩)
      | (go_at_call 17; refine (HW.out.1 _ HT.out.1).mono ?_; rintro e w' ⟨rfl, rfl⟩))
    have HD := Lib.hid (HT.out.on (Below.refl _ V).drew)
    have c0 : V.drew.cell? ⟨w.heap.size, 0, none⟩ = some (.slice a l cp) := HD.out.2.1.cell (i := 0) rfl
    have c1 : V.drew.cell? ⟨w.heap.size, 1, none⟩ = some (.int .i64 n) := HD.out.2.1.cell (i := 1) rfl
    have c2 : V.drew.cell? ⟨w.heap.size, 2, none⟩ = some (.int .i64 nx) := HD.out.2.1.cell (i := 2) rfl
    clear HT
    go_region_held3 (fun w' => w'.cell? ⟨w.heap.size, 0, none⟩ = some (.slice a l cp) ∧ w'.cell? ⟨w.heap.size, 1, none⟩ = some (.int .i64 n) ∧ w'.cell? ⟨w.heap.size, 2, none⟩ = some (.int .i64 nx)) (first | with_reducible exact ⟨c0, c1, c2⟩ | with_reducible exact ⟨d0, d1, d2⟩ | with_reducible exact ⟨e0, e1, e2⟩ | with_reducible exact ⟨f0, f1, f2⟩) (first
      | (go_at_call 13; rw [← HL.out, ← HM.out.2.2]; refine (ref_slot n nx lo a (DM M) cp ask _ (by have := HM.out.1; have := HM.out.2.2; omega) HD.out.2.2.1).mono ?_; rintro e w1 ⟨rfl, k3⟩; rw [HM.out.2.2, HL.out, HS.out.2.2]; have H1 := Lib.hid (HD.out.on k3); clear k3; have d0 := H1.out.2.1.cell (i := 0) rfl; have d1 := H1.out.2.1.cell (i := 1) rfl; have d2 := H1.out.2.1.cell (i := 2) rfl)
      | (go_at_call 24; rw [← HL.out, ← HM.out.2.2]; refine (ref_who n nx lo a (DM M) cp ask _ (by have := HM.out.1; have := HM.out.2.2; omega) H1.out.2.2.1).mono ?_; rintro e w2 ⟨rfl, k3⟩; rw [HM.out.2.2, HL.out, HW.out.2]; have H2 := Lib.hid (H1.out.on k3); clear k3; have e0 := H2.out.2.1.cell (i := 0) rfl; have e1 := H2.out.2.1.cell (i := 1) rfl; have e2 := H2.out.2.1.cell (i := 2) rfl)
      | (go_at_call 19; refine (sl_live s g m n W M c nx _ H2.out.1 HM.out.2.1).mono ?_; rintro e w3 ⟨v3, rfl, k1, k2⟩; obtain ⟨a4, c4, rfl, k4⟩ := LV.of_own (L := M.map (·.1)) (by rw [List.map_map]; exact k1) (by rw [List.length_map]); rw [HL.out]; have H3 := Lib.hid (H2.out.on k2); have HV := Lib.hid k4; clear k1 k2 k4; have f0 := H3.out.2.1.cell (i := 0) rfl; have f1 := H3.out.2.1.cell (i := 1) rfl; have f2 := H3.out.2.1.cell (i := 2) rfl))
    clear c0 c1 c2 d0 d1 d2 e0 e1 e2 HD H1 H2
    have f0 := H3.out.2.1.cell (i := 0) rfl
    go_wp2_with fail
    go_loopw [14] (fun i wr => ∃ k : Nat, i = .int .i64 k ∧ k ≤ l ∧ Hid (TO w wr s g m n W M c nx lo a w.heap.size [.slice a l cp, .int .i64 n, .int .i64 nx]) ∧ Hid (LV wr a4 (M.map (·.1)))) (fun i _ => l - (intOf i).toNat)
    case atStart => exact ⟨0, rfl, by omega, H3, HV⟩
    case round =>
      clear H3 HV f0
      obtain ⟨k, rfl, hk, H4, HV⟩ := hrel
      have H5 := Lib.hid (H4.out.on (Below.refl _ wr).drew)
      have x0 := H4.out.2.1.cell (i := 0) rfl
      have x1 := H4.out.2.1.cell (i := 1) rfl
      have x2 := H4.out.2.1.cell (i := 2) rfl
      have i0 : (0 : Int) ≤ (k : Int) := by omega
      by_cases hkl : k < l
      · have i1 : (k : Int) < (l : Int) := by omega
        have hkM : k < M.length := by rw [HL.out]; exact hkl
        obtain ⟨g5, e5, r1, r2, hg5⟩ := H4.out.2.2.1.cells (j := k) (by rw [HM.out.2.2]; exact hkM)
        subst e5
        have hy1 : (DM M)[k]'(by rw [HM.out.2.2]; exact hkM) = ((M[k]'hkM).1, (M[k]'hkM).2.1) := by simp [DM]
        rw [hy1] at r1
        have hv := HV.out
        rcases hv with hv | ⟨g6, e6, hg6, hv⟩
        · exfalso; have := congrArg List.length hv; simp at this; subst this; simp at hkM
        subst e6
        have r6 := hv k (M[k]'hkM).1 (by rw [List.getElem?_map, List.getElem?_eq_getElem hkM]; rfl)
        simp only at r1
        obtain ⟨y, hy⟩ : ∃ y, (M[k]'hkM).1 = y := ⟨_, rfl⟩
        rw [hy] at r1 r6
        clear hy hy1 hv r2
        have r1d : wr.drew.cell? ⟨g5, k * 2, none⟩ = some (.int .i64 y) := r1
        have r6d : wr.drew.cell? ⟨g6, k, none⟩ = some (.int .i64 y) := r6
        have x0d : wr.drew.cell? ⟨w.heap.size, 0, none⟩ = _ := x0
        go_wp2_with fail
        go_region
        all_goals
          go_wp2_with fail
          refine ⟨?_, ?measure⟩
          case measure => simp [intOf]; omega
          first
            | exact ⟨k + 1, by go_num, by omega, H5, Lib.hid (HV.out.below (Below.refl _ wr).drew)⟩
            | ((repeat apply Exists.intro); exact ⟨⟨k + 1, by go_num, by omega, H5, Lib.hid (HV.out.below (Below.refl _ wr).drew)⟩, rfl⟩)
      · obtain rfl : k = l := by omega
        have s1 : IntKind.i64.wrap ((n : Int) - (k : Int)) = (n : Int) - (k : Int) := IntWalk.i64_in _ (by omega)
        have y0 : wr.drew.cell? ⟨w.heap.size, 0, none⟩ = some (.slice a k cp) := H5.out.2.1.cell (i := 0) rfl
        have y1 : wr.drew.cell? ⟨w.heap.size, 1, none⟩ = some (.int .i64 n) := H5.out.2.1.cell (i := 1) rfl
        have y2 : wr.drew.cell? ⟨w.heap.size, 2, none⟩ = some (.int .i64 nx) := H5.out.2.1.cell (i := 2) rfl
        go_wp2_with fail
        clear x0 x1 x2
        go_region_held3 (fun w' => w'.cell? ⟨w.heap.size, 0, none⟩ = some (.slice a k cp) ∧ w'.cell? ⟨w.heap.size, 1, none⟩ = some (.int .i64 n) ∧ w'.cell? ⟨w.heap.size, 2, none⟩ = some (.int .i64 nx)) (first | with_reducible exact ⟨y0, y1, y2⟩ | with_reducible exact ⟨z0, z1, z2⟩) (first
          | (go_at_call 20; refine (sl_free s g m n W M c nx _ hn HM.out.2.1.2.2.2 H5.out.1).mono ?_; rintro e w6 ⟨rfl, q6, hw6⟩; rw [HL.out]; have H6 := Lib.hid (H5.out.on (by rw [hw6]; exact below_drewN (Below.refl _ _) q6 : Below wr.drew.heap.size wr.drew w6)); clear hw6; have z0 := H6.out.2.1.cell (i := 0) rfl; have z1 := H6.out.2.1.cell (i := 1) rfl; have z2 := H6.out.2.1.cell (i := 2) rfl)
          | (go_at_call 21; refine (sl_next s g m n W M c nx _ H6.out.1).mono ?_; rintro e w7 ⟨rfl, rfl⟩))
        all_goals
          go_wp2_with fail
          go_ret
          exact ⟨rfl, H6.out.2.2.2⟩
end Go.Proofs.Ythofnpcaeopojaa
