/- P28.1, P28.2: for every most, acts and ask: what slots tell of any calls, and who is in which one, is as the page says. No condition. -/
import Derived.Test.YthofnpcaeopojaaOpen
import Derived.WalkKit
import Derived.ProofKit
import Derived.OpenShut
import Derived.Test.YthofnpcaeopojaaSlZ
import Derived.Test.YthofnpcaeopojaaMix
import Derived.Deep.CutRange
import Derived.Deep.CutBlock
import Derived.Deep.LoopGhost
import Derived.Deep.RegionHeld3
namespace Go.Proofs.Ythofnpcaeopojaa.slotsPlay
open Go.Joins Go.ChangeShapes Go.WideShapes Go.ChangeAt Go.RowKit Go.Deep
open Go.ChangeMaps (open_string)
set_option linter.unusedSimpArgs false
set_option linter.unusedVariables false

theorem two_new (w : World) (y o : Array Value) (T T' : TypeId) : Blk ((w.alloc (.cells y T)).alloc (.cells o T')) w.heap.size y.toList T ∧ Blk ((w.alloc (.cells y T)).alloc (.cells o T')) (w.heap.size + 1) o.toList T' ∧ Below w.heap.size w ((w.alloc (.cells y T)).alloc (.cells o T')) := by
  refine ⟨(Blk.newA w y T).alloc _, ?_, ((Below.refl _ _).alloc (Nat.le_refl _) _).alloc (by simp) _⟩
  have h := Blk.newA (w.alloc (.cells y T)) o T'
  rw [World.size_alloc] at h
  exact h
/-- The slots, the call at hand, and what the document's Open told. -/
def OS (w0 w : World) (s g m n : Nat) (W : List Int) (M : List (Int × Int × Nat)) (c nx : Nat) (X lo : Nat) (a : Option Addr) (cp : Nat) (N : List (Int × Int)) (q : Int) (A : Nat) (ac : List Value) (Y : Nat) (yc oc : List Value) : Prop :=
  YS w0 w s g m n W M c nx X lo a cp N q ∧ Blk w A ac 30 ∧ Blk w Y yc 27 ∧ Blk w (Y + 1) oc 32 ∧ (s < A ∧ g < A ∧ m < A ∧ X < A ∧ A < Y)
section
variable {w0 w w' : World} {s g m n : Nat} {W : List Int} {M : List (Int × Int × Nat)} {c nx : Nat} {X lo : Nat} {a : Option Addr} {cp : Nat} {N : List (Int × Int)} {q : Int} {A : Nat} {ac : List Value} {Y : Nat} {yc oc : List Value}
theorem OS.new (z : YS w0 w s g m n W M c nx X lo a cp N q) (h : Blk w A ac 30) (hA : s < A ∧ g < A ∧ m < A ∧ X < A) (y o : Array Value) :
    OS w0 ((w.alloc (.cells y 27)).alloc (.cells o 32)) s g m n W M c nx X lo a cp N q A ac w.heap.size y.toList o.toList := by
  obtain ⟨k1, k2, k3⟩ := two_new w y o 27 32
  have := h.lt
  exact ⟨z.fresh k3, h.below k3 h.lt, k1, k2, by omega⟩
theorem OS.doc (z : OS w0 w s g m n W M c nx X lo a cp N q A ac Y yc oc) {lo9 : Nat} {a9 : Option Addr} {N9 : List (Int × Int)} (r : RL w lo9 a9 N9) (hlo : lo ≤ lo9) (n9 : Nat) (hn9 : N9.length = n9) (c9 : Nat) (q9 : Int) :
    OS w0 (((w.setCell ⟨X, 0, none⟩ (.slice a9 n9 c9)).setCell ⟨X, 1, none⟩ (.int .i64 n)).setCell ⟨X, 2, none⟩ (.int .i64 q9)) s g m n W M c nx X lo a9 c9 N9 q9 A ac Y yc oc := by
  obtain ⟨z1, z2, z3, z4, z5⟩ := z
  have k := (((Chg.refl [X] w).set (b := X) (Or.inl (by simp)) 0 (.slice a9 n9 c9)).set (b := X) (Or.inl (by simp)) 1 (.int .i64 n)).set (b := X) (Or.inl (by simp)) 2 (.int .i64 q9)
  exact ⟨z1.doc r hlo n9 hn9 c9 q9, z2.chg k (by simp; omega), z3.chg k (by simp; omega), z4.chg k (by simp; omega), z5⟩
theorem OS.prog (z : OS w0 w s g m n W M c nx X lo a cp N q A ac Y yc oc) {W' : List Int} {M' : List (Int × Int × Nat)} {c' nx' : Nat} (h : SL w0 w' s g m n W' M' c' nx') (k : Chg [s, g, m] w w') : OS w0 w' s g m n W' M' c' nx' X lo a cp N q A ac Y yc oc := by
  obtain ⟨z1, z2, z3, z4, z5⟩ := z
  exact ⟨z1.prog h k, z2.chg k (by simp; omega), z3.chg k (by simp; omega), z4.chg k (by simp; omega), z5⟩
/-- The slots and the call at hand. -/
def AS (w0 w : World) (s g m n : Nat) (W : List Int) (M : List (Int × Int × Nat)) (c nx : Nat) (X lo : Nat) (a : Option Addr) (cp : Nat) (N : List (Int × Int)) (q : Int) (A : Nat) (ac : List Value) : Prop :=
  YS w0 w s g m n W M c nx X lo a cp N q ∧ Blk w A ac 30 ∧ (s < A ∧ g < A ∧ m < A ∧ X < A)
theorem AS.fresh (z : AS w0 w s g m n W M c nx X lo a cp N q A ac) (k : Below w.heap.size w w') : AS w0 w' s g m n W M c nx X lo a cp N q A ac := ⟨z.1.fresh k, z.2.1.below k z.2.1.lt, z.2.2⟩
theorem AS.prog (z : AS w0 w s g m n W M c nx X lo a cp N q A ac) {W' : List Int} {M' : List (Int × Int × Nat)} {c' nx' : Nat} (h : SL w0 w' s g m n W' M' c' nx') (k : Chg [s, g, m] w w') : AS w0 w' s g m n W' M' c' nx' X lo a cp N q A ac :=
  ⟨z.1.prog h k, z.2.1.chg k (by have := z.2.2; simp; omega), z.2.2⟩
theorem AS.doc (z : AS w0 w s g m n W M c nx X lo a cp N q A ac) {lo9 : Nat} {a9 : Option Addr} {N9 : List (Int × Int)} (r : RL w lo9 a9 N9) (hlo : lo ≤ lo9) (n9 : Nat) (hn9 : N9.length = n9) (c9 : Nat) (q9 : Int) :
    AS w0 (((w.setCell ⟨X, 0, none⟩ (.slice a9 n9 c9)).setCell ⟨X, 1, none⟩ (.int .i64 n)).setCell ⟨X, 2, none⟩ (.int .i64 q9)) s g m n W M c nx X lo a9 c9 N9 q9 A ac :=
  ⟨z.1.doc r hlo n9 hn9 c9 q9, z.2.1.chg ((((Chg.refl [X] w).set (b := X) (Or.inl (by simp)) 0 (.slice a9 n9 c9)).set (b := X) (Or.inl (by simp)) 1 (.int .i64 n)).set (b := X) (Or.inl (by simp)) 2 (.int .i64 q9)) (by have := z.2.2; simp; omega), z.2.2⟩
theorem AS.next (z : AS w0 w s g m n W M c nx X lo a cp N q A ac) (q9 : Int) : AS w0 (w.setCell ⟨X, 2, none⟩ (.int .i64 q9)) s g m n W M c nx X lo a cp N q9 A ac :=
  ⟨z.1.next q9, z.2.1.chg ((Chg.refl [X] w).set (b := X) (Or.inl (by simp)) 2 (.int .i64 q9)) (by have := z.2.2; simp; omega), z.2.2⟩
end
set_option maxRecDepth 20000 in
set_option maxHeartbeats 16000000 in

theorem walk (a0 : Int) (a1 : Option Addr) (len1 cap1 : Nat) (a2 : Int) (w : World) (w0 : (Lit.int .i64 a0).wf = true) (w1 : IsRecs .i64 2 w a1 len1 cap1) (w2 : (Lit.int .i64 a2).wf = true) :
    Calls Try.prog 3 #[.int .i64 a0, .slice a1 len1 cap1, .int .i64 a2] w fun e w' => e = .returned (.bool true) ∧ Below w.heap.size w w' := by
  obtain ⟨hlc, hcm, hnil, hcell⟩ := w1
  unfold maxLen at hcm
  obtain ⟨n, hn⟩ : ∃ n : Nat, min (max a0 1) 1024 = (n : Int) := ⟨(min (max a0 1) 1024).toNat, by omega⟩
  have HN := Lib.hid hn
  have n1 : 1 ≤ n ∧ n ≤ 1024 := by omega
  clear hn
  have HCELL := Lib.hid hcell
  clear hcell hnil
  go_enter Try.func3, Try.ntmps3
  go_upto_region 2 with (first
    | (go_at_call 7; refine (sb_new a0 n _ HN.out).mono ?_; rintro e wn ⟨s, g, m, rfl, k1⟩; have H0 : Hid (SL w wn s g m n (List.replicate n (-1)) [] 0 0) := Lib.hid ⟨k1, SOk.new n⟩; clear k1)
    | (go_at_call 8; refine (ref_new a0 n _ HN.out).mono ?_; rintro e w2 ⟨rfl, k1⟩; have H1 := Lib.hid (H0.out.fresh k1); clear k1))
  have HS0 := Lib.hid (YS.start H1.out (a := none))
  clear H0 H1
  revert HS0
  generalize w2.alloc (Obj.cells #[.slice none 0 0, .int .i64 n, .int .i64 0] 27) = W0
  generalize w2.heap.size + 1 = lo
  generalize w2.heap.size = X
  intro HS0
  go_wp2_with fail
  go_loopw [9] (fun i wr => ∃ (k c nx cp : Nat) (W : List Int) (M : List (Int × Int × Nat)) (a : Option Addr), i = .int .i64 k ∧ k ≤ 30 ∧ k ≤ len1 ∧ nx ≤ k ∧ M.length ≤ k ∧ Hid (SJ n W M) ∧ Hid (YS w wr s g m n W M c nx X lo a cp (DM M) nx)) (fun i _ => 40 - (intOf i).toNat)
  case atStart => exact ⟨0, 0, 0, 0, _, [], none, rfl, by omega, by omega, by omega, by simp, Lib.hid (SJ.new n), HS0⟩
  case round =>
    clear HS0
    obtain ⟨k, c, nx, cp, W, M, a, rfl, hk30, hkl, hnx, hMk, HJ, HS⟩ := hrel
    by_cases hlt : k < len1
    · by_cases h40 : k < 30
      · have i1 : (k : Int) < (len1 : Int) := by omega
        have i2 : (k : Int) < 30 := by omega
        obtain ⟨bb, off, hab, hbl, hcl⟩ := HCELL.out (by omega)
        subst hab
        obtain ⟨kd, e0, wkd⟩ := hcl k hlt 0 (by omega)
        obtain ⟨id, e1, wid⟩ := hcl k hlt 1 (by omega)
        have y0 : wr.cell? ⟨bb, off + k * 2, none⟩ = some (.int .i64 kd) := by rw [HS.out.1.1.2.1.cell hbl]; simpa using e0
        have y1 : wr.cell? ⟨bb, off + k * 2 + 1, none⟩ = some (.int .i64 id) := by rw [HS.out.1.1.2.1.cell hbl]; rw [Nat.add_assoc]; exact e1
        clear hcl e0 e1 wkd wid
        go_upto_block 2 with fail
        have H0 : Hid (YS w (wr.alloc (Obj.cells #[Value.int .i64 kd, Value.int .i64 id] 30)) s g m n W M c nx X lo a cp (DM M) nx ∧ Blk (wr.alloc (Obj.cells #[Value.int .i64 kd, Value.int .i64 id] 30)) wr.heap.size [.int .i64 kd, .int .i64 id] 30) := Lib.hid ⟨HS.out.fresh ((Below.refl _ _).alloc (Nat.le_refl _) _), Blk.newA wr _ _⟩
        have hX := HS.out.lts
        clear y0 y1 HS
        revert H0 hX
        generalize wr.alloc (Obj.cells #[Value.int .i64 kd, Value.int .i64 id] 30) = u0
        generalize wr.heap.size = A
        intro H0 hX
        obtain ⟨l, hl⟩ : ∃ l, (DM M).length = l := ⟨_, rfl⟩
        have HL := Lib.hid hl
        have hlk : l ≤ k := by rw [← hl, DM_length]; exact hMk
        clear hl
        have hq : ((nx : Int) == 4096) = false := by rw [beq_eq_false_iff_ne]; omega
        go_cut [11, 12, 13, 14, 15, 16] from 37 to 93 (fun _ _ _ _ _ _ wx => ∃ (c nx cp : Nat) (W : List Int) (M : List (Int × Int × Nat)) (a : Option Addr), nx ≤ k + 1 ∧ M.length ≤ k + 1 ∧ Hid (SJ n W M) ∧ Hid (YS w wx s g m n W M c nx X lo a cp (DM M) nx ∧ Blk wx A [.int .i64 kd, .int .i64 id] 30))
        case first =>
          have x0 := H0.out.1.x0
          have x1 := H0.out.1.x1
          have x2 := H0.out.1.x2
          have xf0 := H0.out.1.free 0
          have xf1 := H0.out.1.free 1
          have xf2 := H0.out.1.free 2
          rw [HL.out] at x0
          have a1 := H0.out.2.cell (i := 1) rfl
          have hlM : M.length = l := by rw [← DM_length]; exact HL.out
          have HLM := Lib.hid hlM
          clear hlM
          by_cases k0 : kd = 0
          · subst k0
            have hix := idxOf_ge W (-1)
            by_cases hi : ix W (-1) = -1
            · have HI := Lib.hid hi
              have HT := Lib.hid (all_taken H0.out.1.1.2 HJ.out hi)
              have HO := Lib.hid (DM_who_out H0.out.1.1.2 (n : Int) (Or.inr (Int.le_refl _)))
              clear hi hix
              go_upto_region 9 with (go_at_call 9; rw [← HL.out]; refine (ref_open_no n nx lo a (DM M) cp n _ (by have := HL.out; omega) n1.2 HT.out HO.out hq (by simp) H0.out.1.2.2.1).mono ?_; rintro e w3 ⟨rfl, k3⟩; rw [HL.out]; have H3 := Lib.hid (OS.new (H0.out.1.fresh k3) (H0.out.2.below k3 H0.out.2.lt) hX #[.slice a l cp, .int .i64 n, .int .i64 nx] #[.int .i64 0, .int .i64 0]); clear k3)
              clear x0 x1 x2 xf0 xf1 xf2 a1 H0
              revert H3
              generalize (w3.alloc (Obj.cells #[.slice a l cp, .int .i64 n, .int .i64 nx] 27)).alloc (Obj.cells #[.int .i64 0, .int .i64 0] 32) = V
              generalize w3.heap.size = Y
              intro H3
              have x0 := H3.out.1.x0
              rw [HL.out] at x0
              have x1 := H3.out.1.x1
              have x2 := H3.out.1.x2
              have xf0 := H3.out.1.free 0
              have xf1 := H3.out.1.free 1
              have xf2 := H3.out.1.free 2
              have y0 := H3.out.2.2.1.cell (i := 0) rfl
              have y1 := H3.out.2.2.1.cell (i := 1) rfl
              have y2 := H3.out.2.2.1.cell (i := 2) rfl
              go_upto_region 10 with fail
              have H4 := Lib.hid (H3.out.doc H3.out.1.2.2.1 (Nat.le_refl _) l HL.out cp nx)
              clear x0 x1 x2 xf0 xf1 xf2 y0 y1 y2 H3
              revert H4
              generalize ((V.setCell ⟨X, 0, none⟩ (.slice a l cp)).setCell ⟨X, 1, none⟩ (.int .i64 n)).setCell ⟨X, 2, none⟩ (.int .i64 nx) = V4
              intro H4
              have o0 := H4.out.2.2.2.1.cell (i := 0) rfl
              have o1 := H4.out.2.2.2.1.cell (i := 1) rfl
              go_wp2_with (go_at_call 10; refine (op_no n1.2 (by omega) HI.out H4.out.1.1).mono ?_; rintro e w5 ⟨rfl, rfl⟩)
              go_meet
              exact ⟨c, nx, cp, W, M, a, by omega, by omega, HJ, Lib.hid ⟨H4.out.1, H4.out.2.1⟩⟩
            · obtain ⟨j, hj⟩ : ∃ j : Nat, ix W (-1) = (j : Int) := ⟨(ix W (-1)).toNat, by omega⟩
              have HI := Lib.hid hj
              have HT := Lib.hid (ahead H0.out.1.1.2 HJ.out hj)
              have hjn := HT.out.2.2
              have hjm : ((j : Int) == (n : Int)) = false := by rw [beq_eq_false_iff_ne]; omega
              obtain ⟨N9, hN9⟩ : ∃ N9, DM M ++ [((nx : Int), (j : Int))] = N9 := ⟨_, rfl⟩
              have HN9 : Hid (DM M ++ [((nx : Int), (j : Int))] = N9 ∧ N9.length = l + 1) := Lib.hid ⟨hN9, by rw [← hN9, List.length_append, HL.out]; rfl⟩
              clear hi hj hix hN9
              go_upto_region 9 with (go_at_call 9; rw [← HL.out]; refine (ref_open_yes n nx lo a (DM M) cp j _ (by have := HL.out; omega) (by omega) HT.out.1 HT.out.2.1 hq hjm (by omega) H0.out.1.2.2.1).mono ?_; rintro e w3 ⟨g9, c9, rfl, k1, k3⟩; rw [HL.out]; rw [HN9.out.1] at k1; have H3 := Lib.hid (OS.new (H0.out.1.fresh k3) (H0.out.2.below k3 H0.out.2.lt) hX #[.slice (some ⟨g9, 0, none⟩) (l + 1) c9, .int .i64 n, .int .i64 ((nx : Int) + 1)] #[.int .i64 nx, .int .i64 j]); have HR : Hid (RL _ lo _ N9) := Lib.hid ((k1.down H0.out.1.2.2.1.1).fresh (two_new w3 #[.slice (some ⟨g9, 0, none⟩) (l + 1) c9, .int .i64 n, .int .i64 ((nx : Int) + 1)] #[.int .i64 nx, .int .i64 j] 27 32).2.2); clear k1 k3)
              clear x0 x1 x2 xf0 xf1 xf2 a1 H0
              revert H3 HR
              generalize (w3.alloc (Obj.cells #[.slice (some ⟨g9, 0, none⟩) (l + 1) c9, .int .i64 n, .int .i64 ((nx : Int) + 1)] 27)).alloc (Obj.cells #[.int .i64 nx, .int .i64 j] 32) = V
              generalize w3.heap.size = Y
              intro H3 HR
              have x0 := H3.out.1.x0
              rw [HL.out] at x0
              have x1 := H3.out.1.x1
              have x2 := H3.out.1.x2
              have xf0 := H3.out.1.free 0
              have xf1 := H3.out.1.free 1
              have xf2 := H3.out.1.free 2
              have y0 := H3.out.2.2.1.cell (i := 0) rfl
              have y1 := H3.out.2.2.1.cell (i := 1) rfl
              have y2 := H3.out.2.2.1.cell (i := 2) rfl
              go_upto_region 10 with fail
              have H4 := Lib.hid (H3.out.doc HR.out (Nat.le_refl _) (l + 1) HN9.out.2 c9 ((nx : Int) + 1))
              clear x0 x1 x2 xf0 xf1 xf2 y0 y1 y2 H3 HR
              revert H4
              generalize ((V.setCell ⟨X, 0, none⟩ (.slice (some ⟨g9, 0, none⟩) (l + 1) c9)).setCell ⟨X, 1, none⟩ (.int .i64 n)).setCell ⟨X, 2, none⟩ (.int .i64 ((nx : Int) + 1)) = V4
              intro H4
              go_wp2_with (go_at_call 10; refine (opn_yes n1.2 (by omega) HI.out H4.out.1.1).mono ?_; rintro e w5 ⟨rfl, k1, k2⟩; have H5 := Lib.hid (H4.out.prog k1 k2); have o0 := H5.out.2.2.2.1.cell (i := 0) rfl; have o1 := H5.out.2.2.2.1.cell (i := 1) rfl; clear k1 k2)
              go_meet
              refine ⟨c + 1, nx + 1, c9, W.set j nx, M ++ [((nx : Int), (j : Int), c)], some ⟨g9, 0, none⟩, by omega, by rw [List.length_append]; simp; omega, Lib.hid HJ.out.open, Lib.hid ⟨?_, H5.out.2.1⟩⟩
              have h5 := H5.out.1
              rw [← HN9.out.1, ← DM_snoc M _ _ c] at h5
              rw [Int.natCast_add]
              exact h5
          · have HA0 : Hid (AS w u0 s g m n W M c nx X lo a cp (DM M) nx A [.int .i64 kd, .int .i64 id]) := Lib.hid ⟨H0.out.1, H0.out.2, hX⟩
            have HAD := Lib.hid (HA0.out.fresh (Below.refl _ u0).drew)
            have d0 : u0.drew.cell? ⟨X, 0, none⟩ = some (.slice a l cp) := x0
            have d1 : u0.drew.cell? ⟨X, 1, none⟩ = some (.int .i64 n) := x1
            have d2 : u0.drew.cell? ⟨X, 2, none⟩ = some (.int .i64 nx) := x2
            have d3 : u0.drew.cell? ⟨A, 1, none⟩ = some (.int .i64 id) := a1
            by_cases k1 : kd = 1
            · subst k1
              have s1 : IntKind.i64.wrap ((nx : Int) + 1) = (nx : Int) + 1 := IntWalk.i64_in _ (by omega)
              go_wp2_with fail
              go_region_held3 (fun w' => w'.cell? ⟨X, 2, none⟩ = some (.int .i64 nx)) (first | with_reducible exact d2 | with_reducible exact e2) (first
                | (go_at_call 11; refine (skp (by omega) HAD.out.1.1).mono ?_; rintro e w3 ⟨rfl, k1, k2⟩; have H3 := Lib.hid (HAD.out.prog k1 k2); have e2 := H3.out.1.x2; have f2 := H3.out.1.free 2; clear k1 k2))
              all_goals
                go_wp2_with fail
                go_meet
                refine ⟨c, nx + 1, cp, W, M, a, by omega, by omega, HJ, Lib.hid ⟨?_, (H3.out.next ((nx : Int) + 1)).2.1⟩⟩
                rw [Int.natCast_add]
                exact (H3.out.next ((nx : Int) + 1)).1
            · by_cases k2 : kd = 2
              · subst k2
                have hrs := DM_slot id M
                have cellX : ∀ {w' : World} {W' : List Int} {M' : List (Int × Int × Nat)} {c' nx' : Nat}, AS w w' s g m n W' M' c' nx' X lo a cp (DM M) nx A [.int .i64 2, .int .i64 id] → w'.cell? ⟨X, 0, none⟩ = some (.slice a l cp) ∧ w'.cell? ⟨X, 1, none⟩ = some (.int .i64 n) ∧ w'.cell? ⟨X, 2, none⟩ = some (.int .i64 nx) ∧ w'.cell? ⟨A, 1, none⟩ = some (.int .i64 id) := fun h => ⟨by have := h.1.x0; rwa [HL.out] at this, h.1.x1, h.1.x2, h.2.1.cell (i := 1) rfl⟩
                have CX : Hid (∀ (w' : World) (W' : List Int) (M' : List (Int × Int × Nat)) (c' nx' : Nat), AS w w' s g m n W' M' c' nx' X lo a cp (DM M) nx A [.int .i64 2, .int .i64 id] → w'.cell? ⟨X, 0, none⟩ = some (.slice a l cp) ∧ w'.cell? ⟨X, 1, none⟩ = some (.int .i64 n) ∧ w'.cell? ⟨X, 2, none⟩ = some (.int .i64 nx) ∧ w'.cell? ⟨A, 1, none⟩ = some (.int .i64 id)) := Lib.hid fun w' W' M' c' nx' h => cellX h
                clear cellX
                cases hm : mIdx M id with
                | none =>
                  have HM := Lib.hid hm
                  have HR : Hid (rSlot (DM M) id = -1) := Lib.hid (by rw [hrs, hm]; rfl)
                  have HN9 := Lib.hid (lOut_none hm)
                  clear hm hrs
                  go_wp2_with fail
                  go_region_held3 (fun w' => w'.cell? ⟨X, 0, none⟩ = some (.slice a l cp) ∧ w'.cell? ⟨X, 1, none⟩ = some (.int .i64 n) ∧ w'.cell? ⟨X, 2, none⟩ = some (.int .i64 nx) ∧ w'.cell? ⟨A, 1, none⟩ = some (.int .i64 id)) (first | with_reducible exact ⟨d0, d1, d2, d3⟩ | with_reducible exact e0) (first
                    | (go_at_call 12; refine (cls_no id HM.out HAD.out.1.1).mono ?_; rintro e w3 ⟨rfl, rfl⟩)
                    | (go_at_call 13; rw [← HL.out]; refine (ref_slot n nx lo a (DM M) cp id _ (by have := HL.out; omega) HAD.out.1.2.2.1).mono ?_; rintro e w4 ⟨rfl, k3⟩; rw [HL.out, HR.out]; have H4 := Lib.hid (HAD.out.fresh k3); have e0 := CX.out _ _ _ _ _ H4.out; clear k3))
                  all_goals
                    obtain ⟨f0, f1, f2, f3⟩ := CX.out _ _ _ _ _ H4.out
                    go_wp2_with (go_at_call 14; rw [← HL.out]; refine (ref_close n nx lo a (DM M) cp id _ (by have := HL.out; omega) H4.out.1.2.2.1).mono ?_; rintro e w6 ⟨g9, c9, rfl, k1, k3⟩; rw [HN9.out] at k1 ⊢; rw [HL.out]; have HR6 := Lib.hid (k1.down H4.out.1.2.2.1.1); have H6 := Lib.hid (H4.out.fresh k3); obtain ⟨i0, i1, i2, i3⟩ := CX.out _ _ _ _ _ H6.out; have xf0 := H6.out.1.free 0; have xf1 := H6.out.1.free 1; have xf2 := H6.out.1.free 2; clear k1 k3 f0 f1 f2 f3 e0)
                    go_meet
                    have h7 := H6.out.doc HR6.out (Nat.le_refl _) l HL.out c9 nx
                    exact ⟨c, nx, c9, W, M, some ⟨g9, 0, none⟩, by omega, by omega, HJ, Lib.hid ⟨h7.1, h7.2.1⟩⟩
                | some p =>
                  obtain ⟨i, v⟩ := p
                  obtain ⟨j, b, hvj, hb, hv0, hjl⟩ := at_idx H0.out.1.1.2 hm
                  subst hvj
                  have HM : Hid (mIdx M id = some (i, (j : Int)) ∧ M[i]? = some (id, (j : Int), b)) := Lib.hid ⟨hm, hb⟩
                  have HR : Hid (rSlot (DM M) id = (j : Int)) := Lib.hid (by rw [hrs, hm]; rfl)
                  obtain ⟨l9, hl9⟩ : ∃ l9, (DM (M.eraseIdx i)).length = l9 := ⟨_, rfl⟩
                  have HN9 : Hid (lOut (DM M) id = DM (M.eraseIdx i) ∧ (DM (M.eraseIdx i)).length = l9 ∧ (M.eraseIdx i).length ≤ M.length) := Lib.hid ⟨lOut_some H0.out.1.1.2.1.1 hm, hl9, List.length_eraseIdx_le M i⟩
                  have HJ9 : Hid (SJ n (W.set j (-1)) (M.eraseIdx i)) := Lib.hid (HJ.out.close hb hjl)
                  clear hm hrs hb hl9
                  go_wp2_with fail
                  go_region_held3 (fun w' => w'.cell? ⟨X, 0, none⟩ = some (.slice a l cp) ∧ w'.cell? ⟨X, 1, none⟩ = some (.int .i64 n) ∧ w'.cell? ⟨X, 2, none⟩ = some (.int .i64 nx) ∧ w'.cell? ⟨A, 1, none⟩ = some (.int .i64 id)) (first | with_reducible exact ⟨d0, d1, d2, d3⟩ | with_reducible exact e0 | with_reducible exact e9) (first
                    | (go_at_call 12; refine (cls_yes id n1.2 HM.out.1 HM.out.2 HAD.out.1.1).mono ?_; rintro e w3 ⟨rfl, k1, k2⟩; have H3 := Lib.hid (HAD.out.prog k1 k2); have e9 := CX.out _ _ _ _ _ H3.out; clear k1 k2)
                    | (go_at_call 13; rw [← HL.out]; refine (ref_slot n nx lo a (DM M) cp id _ (by have := HL.out; omega) H3.out.1.2.2.1).mono ?_; rintro e w4 ⟨rfl, k3⟩; rw [HL.out, HR.out]; have H4 := Lib.hid (H3.out.fresh k3); have e0 := CX.out _ _ _ _ _ H4.out; clear k3))
                  all_goals
                    obtain ⟨f0, f1, f2, f3⟩ := CX.out _ _ _ _ _ H4.out
                    go_wp2_with (go_at_call 14; rw [← HL.out]; refine (ref_close n nx lo a (DM M) cp id _ (by have := HL.out; omega) H4.out.1.2.2.1).mono ?_; rintro e w6 ⟨g9, c9, rfl, k1, k3⟩; rw [HN9.out.1] at k1 ⊢; rw [HL.out, HN9.out.2.1]; have HR6 := Lib.hid (k1.down H4.out.1.2.2.1.1); have H6 := Lib.hid (H4.out.fresh k3); obtain ⟨i0, i1, i2, i3⟩ := CX.out _ _ _ _ _ H6.out; have xf0 := H6.out.1.free 0; have xf1 := H6.out.1.free 1; have xf2 := H6.out.1.free 2; clear k1 k3 f0 f1 f2 f3 e0 e9)
                    go_meet
                    have h7 := H6.out.doc HR6.out (Nat.le_refl _) l9 HN9.out.2.1 c9 nx
                    exact ⟨c, nx, c9, W.set j (-1), M.eraseIdx i, some ⟨g9, 0, none⟩, by omega, by have := HN9.out.2.2; omega, HJ9, Lib.hid ⟨h7.1, h7.2.1⟩⟩
              · go_wp2
                go_meet
                exact ⟨c, nx, cp, W, M, a, by omega, by omega, HJ, H0⟩
        case rest =>
          clear H0 HL hq hlk HJ hnx hMk
          obtain ⟨c, nx, cp, W, M, a, hnx, hMk, HJ, HQ⟩ := hcut
          obtain ⟨l, hl⟩ : ∃ l, M.length = l := ⟨_, rfl⟩
          have HLM := Lib.hid hl
          clear hl
          have x0 := HQ.out.1.x0
          rw [DM_length, HLM.out] at x0
          have x1 := HQ.out.1.x1
          have x2 := HQ.out.1.x2
          go_wp2_with (first
            | (go_at_call 15; rw [← HLM.out]; refine (told_any cp a2 n1.2 (by omega) (by omega) HQ.out.1.1 HJ.out HQ.out.1.2.2.1).mono ?_; rintro e v9 ⟨rfl, b9⟩; rw [HLM.out]; have HQ1 : Hid (YS w v9 s g m n W M c nx X lo a cp (DM M) nx ∧ Blk v9 A [.int .i64 kd, .int .i64 id] 30) := Lib.hid ⟨HQ.out.1.fresh b9, HQ.out.2.below b9 HQ.out.2.lt⟩; have z0 := HQ1.out.1.x0; rw [DM_length, HLM.out] at z0; have z1 := HQ1.out.1.x1; have z2 := HQ1.out.1.x2; have z3 := HQ1.out.2.cell (i := 1) rfl; clear b9 x0 x1 x2 HQ)
            | (go_at_call 15; rw [← HLM.out]; refine (told_any cp id n1.2 (by omega) (by omega) HQ1.out.1.1 HJ.out HQ1.out.1.2.2.1).mono ?_; rintro e v10 ⟨rfl, b9⟩; rw [HLM.out]; have HQ2 := Lib.hid (HQ1.out.1.fresh b9); clear b9))
          refine ⟨?_, ?measure⟩
          case measure => simp [intOf]; omega
          first
            | exact ⟨k + 1, c, nx, cp, W, M, a, by go_num, by omega, by omega, hnx, hMk, HJ, HQ2⟩
            | ((repeat apply Exists.intro); exact ⟨⟨k + 1, c, nx, cp, W, M, a, by go_num, by omega, by omega, hnx, hMk, HJ, HQ2⟩, rfl⟩)
      · go_wp2_with (go_at_call 16; refine (sl_lives _).mono ?_; rintro e w9 ⟨rfl, hb⟩)
        go_ret
        exact ⟨rfl, HS.out.1.1.2.1.trans (Below.mono (by assumption) HS.out.1.1.2.1.size)⟩
    · go_wp2_with (go_at_call 16; refine (sl_lives _).mono ?_; rintro e w9 ⟨rfl, hb⟩)
      go_ret
      exact ⟨rfl, HS.out.1.1.2.1.trans (Below.mono (by assumption) HS.out.1.1.2.1.size)⟩

set_option maxRecDepth 100000 in
theorem lifted (os : Os) (started : os.Started) (H : Type) (enc : TypeId × Value → H) :
    ReturnsInHanded {} Try.checked os 3 .any (Rows.slotsPlaySpec.pre6 enc Try.prog Try.f3 Rows.slotsPlayRow.domain false) (Rows.slotsPlaySpec.post enc Try.prog Try.f3 false true false false) := by
  refine returnsInHanded_of_change (C := Try.checked) ownKn started (by kernel_rfl) Try.func3
    (ChangeSpec.witness6 (enc := enc) (C := Try.checked) false ⟨#[], #[.int .i64 0, .slice none 0 0, .int .i64 0], []⟩ 8 (by kernel_rfl) (by kernel_rfl) (by kernel_rfl) (by kernel_rfl)) ?_
  intro W base args ds gs before hval0 hW hcnd _
  have hval : ∀ (j : Nat) t v, Try.f3.params[j]? = some t → args[j]? = some v → Value.okWide Try.prog W .any base t v := hval0
  have hW' := hW
  obtain ⟨p, q, hA0, hV, rfl, hfz, hnd⟩ := hW
  have hA : DataW.TrodAll enc Try.prog W 0 (fun _ => true) true Try.f3.params.toList args.toList ds p := hA0
  rw [Try.params3] at hA hval
  obtain ⟨v0, vs0, d0, ds0, p0, q0, hargs, rfl, rfl, h0, r0⟩ := trodAll_cons hA
  obtain ⟨v1, vs1, d1, ds1, p1, q1, rfl, rfl, rfl, h1, r1⟩ := trodAll_cons r0
  obtain ⟨v2, vs2, d2, ds2, p2, q2, rfl, rfl, rfl, h2, r2⟩ := trodAll_cons r1
  obtain ⟨rfl, rfl, rfl⟩ := trodAll_nil r2
  obtain rfl : args = #[v0, v1, v2] := by cases args; simp_all
  obtain ⟨rfl, rfl⟩ := trodVars_none hV
  have k0 := h0
  have lt0 : ∀ x ∈ p0, x.block < W.heap.size := by obtain ⟨m, hm⟩ := k0; exact DataW.trod_lt m _ _ _ hm
  obtain ⟨a0, rfl, rfl, rfl, w0⟩ := open_int Try.underlying3 (hval 0 3 v0 rfl rfl) h0
  have k1 := h1
  have lt1 : ∀ x ∈ p1, x.block < W.heap.size := by obtain ⟨m, hm⟩ := k1; exact DataW.trod_lt m _ _ _ hm
  obtain ⟨b1, lb1, cb1, rfl⟩ := okWide_slice Try.underlying22 (hval 1 22 v1 rfl rfl)
  obtain ⟨fu1, hf1⟩ := h1
  simp only [Value.cells] at hf1
  obtain ⟨a1, len1, cap1, e1, w1⟩ := fld_recs (k := .i64) Try.underlying22 Try.underlying30 (by kernel_rfl) (by kernel_rfl) (by intro j f h; obtain rfl | rfl | hj : j = 0 ∨ j = 1 ∨ 2 ≤ j := (by omega); all_goals (first | (simp at h; subst h; exact Try.underlying3) | (rw [Array.getElem?_eq_none (by simpa using hj)] at h; cases h))) (by decide) hf1
  obtain ⟨rfl, rfl, rfl⟩ : b1 = a1 ∧ lb1 = len1 ∧ cb1 = cap1 := by simpa using e1
  have k2 := h2
  have lt2 : ∀ x ∈ p2, x.block < W.heap.size := by obtain ⟨m, hm⟩ := k2; exact DataW.trod_lt m _ _ _ hm
  obtain ⟨a2, rfl, rfl, rfl, w2⟩ := open_int Try.underlying3 (hval 2 3 v2 rfl rfl) h2
  clear hA0 hval0
  refine (walk a0 b1 lb1 cb1 a2 W w0 w1 w2).mono fun e W' ⟨he, bel⟩ => ?_
  subst he
  exact ⟨_, rfl, _, _, _, [], _, [], hW', trodAll_mk1 (shut_bool Try.underlying4 _), (trodAll_cons_mk (Below.trod laidOut (by kernel_rfl) (of_decide_eq_true (by kernel_rfl)) k0 bel lt0) (trodAll_cons_mk (Below.trod laidOut (by kernel_rfl) (of_decide_eq_true (by kernel_rfl)) k1 bel lt1) (trodAll_cons_mk (Below.trod laidOut (by kernel_rfl) (of_decide_eq_true (by kernel_rfl)) k2 bel lt2) trodAll_mk0))), rfl, bel.frame _, fun h => by cases h⟩

theorem over : Rows.slotsPlayRow.holds Try.pinned (OpenSpec.ofChange Rows.slotsPlaySpec) :=
  OpenClaim.holds_of_wide 3 Try.f3 rfl rfl rfl rfl rfl rfl rfl ⟨rfl, rfl, rfl, rfl, rfl⟩ rfl rfl rfl rfl rfl (by kernel_rfl) Try.func3 (by kernel_rfl)
    (of_decide_eq_true (by kernel_rfl)) (by unfold Func.isWrapper; first | (rw [if_pos (by decide +kernel)]; kernel_rfl) | (rw [if_neg (by decide +kernel)]; exact ⟨rfl, rfl⟩))
    (fun os started H enc _ => lifted os started H enc)

/-- The statement. -/
theorem proved : Rows.SlotsPlaySaid := over
#print axioms proved
end Go.Proofs.Ythofnpcaeopojaa.slotsPlay
