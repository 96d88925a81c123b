/- The document's own answer for slots: Open. -/
import Derived.Test.YthofnpcaeopojaaSlRef2
import Derived.Test.YthofnpcaeopojaaRnStep
import Derived.Test.YthofnpcaeopojaaEnv
namespace Go.Proofs.Ythofnpcaeopojaa
open Go.ChangeShapes Go.WideShapes Go.ChangeAt Go.RowKit
set_option linter.unusedSimpArgs false
set_option linter.unusedVariables false

theorem prs_two (M : List (Int × Int)) : ∀ u ∈ prs M, u.oneCell' = true := by
  induction M with
  | nil => intro u hu; simp [prs] at hu
  | cons x M ih =>
    intro u hu
    simp only [prs, List.mem_cons] at hu
    rcases hu with rfl | rfl | hu
    · rfl
    · rfl
    · exact ih u hu
theorem prs_get : ∀ (M : List (Int × Int)) (i : Nat) (u : Value), (prs M)[i]? = some u → ∃ (j : Nat) (x : Int × Int), M[j]? = some x ∧ ((i = j * 2 ∧ u = pv x.1) ∨ (i = j * 2 + 1 ∧ u = pv x.2))
  | [], i, u, h => by simp [prs] at h
  | x :: M, 0, u, h => ⟨0, x, rfl, Or.inl ⟨rfl, by simpa [prs] using h.symm⟩⟩
  | x :: M, 1, u, h => ⟨0, x, rfl, Or.inr ⟨rfl, by simpa [prs] using h.symm⟩⟩
  | x :: M, i + 2, u, h => by
    obtain ⟨j, y, h1, h2⟩ := prs_get M i u (by simpa [prs] using h)
    rcases h2 with ⟨h2, h3⟩ | ⟨h2, h3⟩
    · exact ⟨j + 1, y, by simpa using h1, Or.inl ⟨by omega, h3⟩⟩
    · exact ⟨j + 1, y, by simpa using h1, Or.inr ⟨by omega, h3⟩⟩
/-- A list by value, maybe nil, as what is appended. -/
theorem RL.src {w : World} {lo : Nat} {a : Option Addr} {M : List (Int × Int)} {n c : Nat} (h : RL w lo a M) (hn : M.length = n) : Src Try.prog 2 25 (.slice a n c) n (prs M) w := by
  subst hn
  rcases a with _ | ⟨g, o, s⟩
  · rcases h.2 with e | ⟨g, e, _⟩
    · subst e; exact Src.ofNil _ Try.underlying25 c
    · cases e
  · refine Src.ofSlice _ Try.underlying25 ⟨g, o, s⟩ M.length c (prs M) (prs_length M) (fun i u hu => ?_) (prs_two M)
    rcases h.2 with e | ⟨g', e, h3, h4, h5⟩
    · subst e; simp [prs] at hu
    · cases e
      obtain ⟨j, x, h6, h7⟩ := prs_get M i u hu
      obtain ⟨c1, c2⟩ := h5 j x h6
      have e2 : (({ block := g, off := 0, spot := none } : Addr).add i) = ⟨g, i, none⟩ := by simp [Addr.add]; omega
      rw [e2]
      rcases h7 with ⟨rfl, rfl⟩ | ⟨rfl, rfl⟩
      · exact c1
      · exact c2
/-- The box of the slots that were handed over, the cells of the two results. -/
def OB (w0 w : World) (lo : Nat) (a : Option Addr) (M : List (Int × Int)) (bc : List Value) : Prop :=
  Blk w w0.heap.size bc 27 ∧ Blk w (w0.heap.size + 1) [.slice none 0 0, .int .i64 0, .int .i64 0] 27 ∧ Blk w (w0.heap.size + 1 + 1) [.int .i64 0, .int .i64 0] 32 ∧ RL w lo a M ∧ Below w0.heap.size w0 w
theorem OB.start {w0 : World} {lo : Nat} {a : Option Addr} {M : List (Int × Int)} (h : RL w0 lo a M) (bc : Array Value) : OB w0 (((w0.alloc (.cells bc 27)).alloc (.cells #[.slice none 0 0, .int .i64 0, .int .i64 0] 27)).alloc (.cells #[.int .i64 0, .int .i64 0] 32)) lo a M bc.toList := by
  have k : Below w0.heap.size w0 (((w0.alloc (.cells bc 27)).alloc (.cells #[.slice none 0 0, .int .i64 0, .int .i64 0] 27)).alloc (.cells #[.int .i64 0, .int .i64 0] 32)) := (((Below.refl _ _).alloc (Nat.le_refl _) _).alloc (by simp) _).alloc (by simp; omega) _
  refine ⟨((Blk.newA w0 _ _).alloc _).alloc _, ?_, ?_, h.fresh k, k⟩
  · have h := Blk.newA (w0.alloc (.cells bc 27)) #[.slice none 0 0, .int .i64 0, .int .i64 0] 27
    rw [World.size_alloc] at h
    exact h.alloc _
  · have h := Blk.newA ((w0.alloc (.cells bc 27)).alloc (.cells #[.slice none 0 0, .int .i64 0, .int .i64 0] 27)) #[.int .i64 0, .int .i64 0] 32
    rw [World.size_alloc, World.size_alloc] at h
    exact h
theorem OB.on {w0 w w' : World} {lo : Nat} {a : Option Addr} {M : List (Int × Int)} {bc : List Value} (s : OB w0 w lo a M bc) (k : Below w.heap.size w w') : OB w0 w' lo a M bc :=
  ⟨s.1.below k s.1.lt, s.2.1.below k s.2.1.lt, s.2.2.1.below k s.2.2.1.lt, s.2.2.2.1.fresh k, s.2.2.2.2.trans (k.mono s.2.2.2.2.size)⟩
/-- The results are written. -/
theorem OB.res {w0 w : World} {lo : Nat} {a : Option Addr} {M : List (Int × Int)} {bc : List Value} (s : OB w0 w lo a M bc) (x y z u v : Value) :
    Below w0.heap.size w0 (((((w.setCell ⟨w0.heap.size + 1, 0, none⟩ x).setCell ⟨w0.heap.size + 1, 1, none⟩ y).setCell ⟨w0.heap.size + 1, 2, none⟩ z).setCell ⟨w0.heap.size + 1 + 1, 0, none⟩ u).setCell ⟨w0.heap.size + 1 + 1, 1, none⟩ v) ∧
    Blk (((((w.setCell ⟨w0.heap.size + 1, 0, none⟩ x).setCell ⟨w0.heap.size + 1, 1, none⟩ y).setCell ⟨w0.heap.size + 1, 2, none⟩ z).setCell ⟨w0.heap.size + 1 + 1, 0, none⟩ u).setCell ⟨w0.heap.size + 1 + 1, 1, none⟩ v) (w0.heap.size + 1) [x, y, z] 27 ∧
    Blk (((((w.setCell ⟨w0.heap.size + 1, 0, none⟩ x).setCell ⟨w0.heap.size + 1, 1, none⟩ y).setCell ⟨w0.heap.size + 1, 2, none⟩ z).setCell ⟨w0.heap.size + 1 + 1, 0, none⟩ u).setCell ⟨w0.heap.size + 1 + 1, 1, none⟩ v) (w0.heap.size + 1 + 1) [u, v] 32 := by
  obtain ⟨s1, s2, s3, s4, s5⟩ := s
  have k : Chg [w0.heap.size + 1, w0.heap.size + 1 + 1] w (((((w.setCell ⟨w0.heap.size + 1, 0, none⟩ x).setCell ⟨w0.heap.size + 1, 1, none⟩ y).setCell ⟨w0.heap.size + 1, 2, none⟩ z).setCell ⟨w0.heap.size + 1 + 1, 0, none⟩ u).setCell ⟨w0.heap.size + 1 + 1, 1, none⟩ v) :=
    ((((((Chg.refl _ w).set (b := w0.heap.size + 1) (Or.inl (by simp)) 0 x).set (b := w0.heap.size + 1) (Or.inl (by simp)) 1 y).set (b := w0.heap.size + 1) (Or.inl (by simp)) 2 z).set (b := w0.heap.size + 1 + 1) (Or.inl (by simp)) 0 u).set (b := w0.heap.size + 1 + 1) (Or.inl (by simp)) 1 v)
  exact ⟨k.onto s5 s5.size (by simp; omega), ((((s2.set 0 x).set 1 y).set 2 z).other (by omega) 0 u).other (by omega) 1 v, ((((s3.other (by omega) 0 x).other (by omega) 1 y).other (by omega) 2 z).set 0 u).set 1 v⟩
theorem two_blk {w : World} {b : Nat} {y z : Int} {T : TypeId} (h : Blk w b [.int .i64 y, .int .i64 z] T) (j : Nat) (u : Value) (hj : [pv y, pv z][j]? = some u) : w.cell? ((⟨b, 0, none⟩ : Addr).add j) = some u := by
  cases j with
  | zero => simp at hj; subst hj; exact h.cell (i := 0) rfl
  | succ j =>
    cases j with
    | zero => simp at hj; subst hj; exact h.cell (i := 1) rfl
    | succ j => simp at hj
/-- .. and the one that comes, in block D. -/
def PB (w0 w : World) (lo : Nat) (a : Option Addr) (M : List (Int × Int)) (bc : List Value) (D : Nat) (q f : Int) : Prop :=
  Blk w w0.heap.size bc 27 ∧ Blk w (w0.heap.size + 1) [.slice none 0 0, .int .i64 0, .int .i64 0] 27 ∧ Blk w (w0.heap.size + 1 + 1) [.int .i64 0, .int .i64 0] 32 ∧ Blk w D [.int .i64 q, .int .i64 f] 32 ∧ RL w lo a M ∧ Below w0.heap.size w0 w
theorem PB.start {w0 w : World} {lo : Nat} {a : Option Addr} {M : List (Int × Int)} {bc : List Value} (s : OB w0 w lo a M bc) (q f : Int) : PB w0 (w.alloc (.cells #[.int .i64 q, .int .i64 f] 32)) lo a M bc w.heap.size q f := by
  obtain ⟨s1, s2, s3, s4, s5⟩ := s
  have k : Chg [] w (w.alloc (.cells #[.int .i64 q, .int .i64 f] 32)) := (Chg.refl [] w).alloc _
  exact ⟨s1.chg k (by simp), s2.chg k (by simp), s3.chg k (by simp), Blk.newA w #[.int .i64 q, .int .i64 f] 32, s4.chg k (by simp), k.onto s5 s5.size (by simp)⟩
theorem PB.on {w0 w w' : World} {lo : Nat} {a : Option Addr} {M : List (Int × Int)} {bc : List Value} {D : Nat} {q f : Int} (s : PB w0 w lo a M bc D q f) (k : Below w.heap.size w w') : PB w0 w' lo a M bc D q f :=
  ⟨s.1.below k s.1.lt, s.2.1.below k s.2.1.lt, s.2.2.1.below k s.2.2.1.lt, s.2.2.2.1.below k s.2.2.2.1.lt, s.2.2.2.2.1.fresh k, s.2.2.2.2.2.trans (k.mono s.2.2.2.2.2.size)⟩
set_option maxRecDepth 20000 in
set_option maxHeartbeats 4000000 in
theorem ref_open_no (Mo q : Int) (lo : Nat) (a : Option Addr) (M : List (Int × Int)) (c f : Nat) (w : World) (hl : M.length ≤ 1000) (hf : f ≤ 1024) (h1 : ∀ j < f, 0 ≤ rWho M (j : Int)) (h2 : rWho M (f : Int) = -1) (hq : (q == 4096) = false) (hm : ((f : Int) == Mo) = true) (h : RL w lo a M) :
    Calls Try.prog 9 #[.agg #[.slice a M.length c, .int .i64 Mo, .int .i64 q]] w fun e w' => e = .returned (.tuple #[.agg #[.slice a M.length c, .int .i64 Mo, .int .i64 q], .agg #[.int .i64 0, .int .i64 0], .bool false]) ∧ Below w.heap.size w w' := by
  have HF := Lib.hid (And.intro h1 h2)
  obtain ⟨n, hn⟩ : ∃ n, M.length = n := ⟨_, rfl⟩
  have HN := Lib.hid (And.intro hn (show M.length ≤ 1000000 by omega))
  have HB0 := Lib.hid (OB.start h #[.slice a n c, .int .i64 Mo, .int .i64 q])
  rw [hn] at hl ⊢
  clear hn h h1 h2
  go_enter Try.func9, Try.ntmps9
  go_upto_region 1 with fail
  revert HB0
  generalize ((w.alloc (.cells #[.slice a n c, .int .i64 Mo, .int .i64 q] 27)).alloc (.cells #[.slice none 0 0, .int .i64 0, .int .i64 0] 27)).alloc (.cells #[.int .i64 0, .int .i64 0] 32) = W
  intro HB0
  go_wp2_with fail
  go_loopw [5] (fun i wr => ∃ k : Nat, i = .int .i64 k ∧ k ≤ f ∧ Hid (OB w wr lo a M [.slice a n c, .int .i64 Mo, .int .i64 q])) (fun i _ => f - (intOf i).toNat)
  case atStart => exact ⟨0, rfl, by omega, HB0⟩
  case round =>
    clear HB0
    obtain ⟨k, rfl, hk, HB⟩ := hrel
    have b0 := HB.out.1.cell (i := 0) rfl
    have b1 := HB.out.1.cell (i := 1) rfl
    have b2 := HB.out.1.cell (i := 2) rfl
    have i0 : (0 : Int) ≤ (k : Int) := by omega
    by_cases hkf : k < f
    · obtain ⟨v, hv⟩ : ∃ v, rWho M (k : Int) = v := ⟨_, rfl⟩
      have hv0 := HF.out.1 k hkf
      rw [hv] at hv0
      have HV := Lib.hid hv
      have j1 : decide ((0 : Int) ≤ v) = true := by rw [decide_eq_true_eq]; exact hv0
      clear hv
      go_wp2_with (go_at_call 24; rw [← HN.out.1]; refine (ref_who Mo q lo a M c k _ HN.out.2 HB.out.2.2.2.1).mono ?_; rintro e w1 ⟨rfl, k1⟩; rw [HV.out, HN.out.1]; have HB1 := Lib.hid (HB.out.on k1); clear k1)
      refine ⟨?_, ?measure⟩
      case measure => simp [intOf]; omega
      first
        | exact ⟨k + 1, by go_num, by omega, HB1⟩
        | ((repeat apply Exists.intro); exact ⟨⟨k + 1, by go_num, by omega, HB1⟩, rfl⟩)
    · obtain rfl : k = f := by omega
      go_upto_region 4 with (go_at_call 24; rw [← HN.out.1]; refine (ref_who Mo q lo a M c k _ HN.out.2 HB.out.2.2.2.1).mono ?_; rintro e w1 ⟨rfl, k1⟩; rw [HF.out.2, HN.out.1]; have HB1 := Lib.hid (HB.out.on k1); clear k1)
      clear b0 b1 b2 HB
      have b0 := HB1.out.1.cell (i := 0) rfl
      have b1 := HB1.out.1.cell (i := 1) rfl
      have b2 := HB1.out.1.cell (i := 2) rfl
      have f0 := HB1.out.2.1.free 0
      have f1 := HB1.out.2.1.free 1
      have f2 := HB1.out.2.1.free 2
      have g0 := HB1.out.2.2.1.free 0
      have g1 := HB1.out.2.2.1.free 1
      have r0 := HB1.out.2.1.cell (i := 0) rfl
      have r1 := HB1.out.2.1.cell (i := 1) rfl
      have r2 := HB1.out.2.1.cell (i := 2) rfl
      have o0 := HB1.out.2.2.1.cell (i := 0) rfl
      have o1 := HB1.out.2.2.1.cell (i := 1) rfl
      go_wp2_with fail
      have H5 := Lib.hid (HB1.out.res (.slice a n c) (.int .i64 Mo) (.int .i64 q) (.int .i64 0) (.int .i64 0))
      clear b0 b1 b2 f0 f1 f2 g0 g1 r0 r1 r2 o0 o1
      revert H5
      generalize (((((w1.setCell ⟨w.heap.size + 1, 0, none⟩ (.slice a n c)).setCell ⟨w.heap.size + 1, 1, none⟩ (.int .i64 Mo)).setCell ⟨w.heap.size + 1, 2, none⟩ (.int .i64 q)).setCell ⟨w.heap.size + 1 + 1, 0, none⟩ (.int .i64 0)).setCell ⟨w.heap.size + 1 + 1, 1, none⟩ (.int .i64 0)) = W5
      intro H5
      have r0 := H5.out.2.1.cell (i := 0) rfl
      have r1 := H5.out.2.1.cell (i := 1) rfl
      have r2 := H5.out.2.1.cell (i := 2) rfl
      have o0 := H5.out.2.2.cell (i := 0) rfl
      have o1 := H5.out.2.2.cell (i := 1) rfl
      refine bodyPost_ret (v := .tuple #[.agg #[.slice a n c, .int .i64 Mo, .int .i64 q], .agg #[.int .i64 0, .int .i64 0], .bool false]) (by simp [results, Try.results9, go_sem, r0, r1, r2, o0, o1]) rfl ?_
      exact ⟨rfl, H5.out.1⟩
/-- The list stands at g4; the boxes, and the results' cells. -/
def FB (w0 w : World) (bc rc oc : List Value) (D : Nat) (q f : Int) (g4 c4 : Nat) (N : List (Int × Int)) : Prop :=
  Blk w w0.heap.size bc 27 ∧ Blk w (w0.heap.size + 1) rc 27 ∧ Blk w (w0.heap.size + 1 + 1) oc 32 ∧ Blk w D [.int .i64 q, .int .i64 f] 32 ∧ Rn w g4 c4 2 (prs N) 32 ∧ Below w0.heap.size w0 w ∧ (w0.heap.size + 1 + 1 < D ∧ D < g4)
theorem PB.fin {w0 w : World} {lo : Nat} {a : Option Addr} {M : List (Int × Int)} {x y z : Value} {D : Nat} {q f : Int} {g4 c4 : Nat} {N : List (Int × Int)} (s : PB w0 w lo a M [x, y, z] D q f) (hD : w0.heap.size + 1 + 1 < D) (r : Rn w g4 c4 2 (prs N) 32) (hg : D < g4) (u v : Value) :
    FB w0 ((w.setCell ⟨w0.heap.size, 0, none⟩ u).setCell ⟨w0.heap.size, 2, none⟩ v) [u, y, v] [.slice none 0 0, .int .i64 0, .int .i64 0] [.int .i64 0, .int .i64 0] D q f g4 c4 N := by
  obtain ⟨s1, s2, s3, s4, s5, s6⟩ := s
  have k := ((Chg.refl [w0.heap.size] w).set (b := w0.heap.size) (Or.inl (by simp)) 0 u).set (b := w0.heap.size) (Or.inl (by simp)) 2 v
  exact ⟨(s1.set 0 u).set 2 v, s2.chg k (by simp), s3.chg k (by simp; omega), s4.chg k (by simp; omega), r.chg k (by simp; omega), k.onto s6 s6.size (by simp), hD, hg⟩
theorem FB.drew {w0 w : World} {bc rc oc : List Value} {D : Nat} {q f : Int} {g4 c4 : Nat} {N : List (Int × Int)} (s : FB w0 w bc rc oc D q f g4 c4 N) : FB w0 w.drew bc rc oc D q f g4 c4 N :=
  ⟨s.1.drew, s.2.1.drew, s.2.2.1.drew, s.2.2.2.1.drew, s.2.2.2.2.1.chg ((Chg.refl [] w).drew) (by simp), s.2.2.2.2.2.1.drew, s.2.2.2.2.2.2⟩
theorem FB.res {w0 w : World} {bc : List Value} {x y z u v a b c d e : Value} {D : Nat} {q f : Int} {g4 c4 : Nat} {N : List (Int × Int)} (s : FB w0 w bc [x, y, z] [u, v] D q f g4 c4 N) :
    FB w0 (((((w.setCell ⟨w0.heap.size + 1, 0, none⟩ a).setCell ⟨w0.heap.size + 1, 1, none⟩ b).setCell ⟨w0.heap.size + 1, 2, none⟩ c).setCell ⟨w0.heap.size + 1 + 1, 0, none⟩ d).setCell ⟨w0.heap.size + 1 + 1, 1, none⟩ e) bc [a, b, c] [d, e] D q f g4 c4 N := by
  obtain ⟨s1, s2, s3, s4, s5, s6, s7⟩ := s
  have k : Chg [w0.heap.size + 1, w0.heap.size + 1 + 1] w (((((w.setCell ⟨w0.heap.size + 1, 0, none⟩ a).setCell ⟨w0.heap.size + 1, 1, none⟩ b).setCell ⟨w0.heap.size + 1, 2, none⟩ c).setCell ⟨w0.heap.size + 1 + 1, 0, none⟩ d).setCell ⟨w0.heap.size + 1 + 1, 1, none⟩ e) :=
    ((((((Chg.refl _ w).set (b := w0.heap.size + 1) (Or.inl (by simp)) 0 a).set (b := w0.heap.size + 1) (Or.inl (by simp)) 1 b).set (b := w0.heap.size + 1) (Or.inl (by simp)) 2 c).set (b := w0.heap.size + 1 + 1) (Or.inl (by simp)) 0 d).set (b := w0.heap.size + 1 + 1) (Or.inl (by simp)) 1 e)
  exact ⟨s1.chg k (by simp; omega), ((((s2.set 0 a).set 1 b).set 2 c).other (by omega) 0 d).other (by omega) 1 e, ((((s3.other (by omega) 0 a).other (by omega) 1 b).other (by omega) 2 c).set 0 d).set 1 e, s4.chg k (by simp; omega), s5.chg k (by simp; omega), k.onto s6 s6.size (by simp; omega), s7⟩
/-- A list by value, below. -/
def RB (w : World) (hi : Nat) (a : Option Addr) (M : List (Int × Int)) : Prop := M = [] ∧ (a = none ∨ ∃ x, a = some x) ∨ ∃ g, a = some ⟨g, 0, none⟩ ∧ g < hi ∧ ∀ j x, M[j]? = some x → w.cell? ⟨g, j * 2, none⟩ = some (pv x.1) ∧ w.cell? ⟨g, j * 2 + 1, none⟩ = some (pv x.2)
theorem RB.of {w : World} {lo : Nat} {a : Option Addr} {M : List (Int × Int)} (h : RL w lo a M) : RB w w.heap.size a M := by
  rcases h.2 with e | ⟨g, e, h3, h4, h5⟩
  · exact Or.inl ⟨e, by cases a with | none => exact Or.inl rfl | some x => exact Or.inr ⟨x, rfl⟩⟩
  · exact Or.inr ⟨g, e, h4, h5⟩
theorem RB.chg {w w' : World} {hi : Nat} {a : Option Addr} {M : List (Int × Int)} (h : RB w hi a M) {l : List Nat} (k : Chg l w w') (hw : hi ≤ w.heap.size) (hl : ∀ x ∈ l, hi ≤ x) : RB w' hi a M := by
  rcases h with h | ⟨g, e, h4, h5⟩
  · exact Or.inl h
  · refine Or.inr ⟨g, e, h4, fun j x hx => ?_⟩
    obtain ⟨c1, c2⟩ := h5 j x hx
    have hn : g ∉ l := fun hm => absurd (hl g hm) (by omega)
    exact ⟨by rw [k.cell (Nat.lt_of_lt_of_le h4 hw) hn]; exact c1, by rw [k.cell (Nat.lt_of_lt_of_le h4 hw) hn]; exact c2⟩
theorem RB.src {w : World} {hi : Nat} {a : Option Addr} {M : List (Int × Int)} {n c : Nat} (h : RB w hi a M) (hn : M.length = n) (hs : hi ≤ w.heap.size) : Src Try.prog 2 25 (.slice a n c) n (prs M) w := by
  rcases h with ⟨e, ha⟩ | ⟨g, e, h4, h5⟩
  · exact RL.src (lo := 0) ⟨Nat.zero_le _, Or.inl e⟩ hn
  · exact RL.src (lo := 0) ⟨Nat.zero_le _, Or.inr ⟨g, e, Nat.zero_le _, by omega, h5⟩⟩ hn
/-- What the operations of Open's last assignment leave: the boxes, the one that comes, the list of before. -/
def K7 (w0 w : World) (a : Option Addr) (M : List (Int × Int)) (u Mo' v : Value) (D : Nat) (q f : Int) (vs : Nat) : Prop :=
  Blk w w0.heap.size [u, Mo', v] 27 ∧ Blk w (w0.heap.size + 1) [.slice none 0 0, .int .i64 0, .int .i64 0] 27 ∧ Blk w (w0.heap.size + 1 + 1) [.int .i64 0, .int .i64 0] 32 ∧ Blk w D [.int .i64 q, .int .i64 f] 32 ∧ RB w w0.heap.size a M ∧ Below w0.heap.size w0 w ∧ (w0.heap.size + 1 + 1 < D ∧ D < vs ∧ vs ≤ w.heap.size)
section
variable {w0 w w' : World} {a : Option Addr} {M : List (Int × Int)} {u Mo' v : Value} {D : Nat} {q f : Int} {vs : Nat}
theorem K7.chg (h : K7 w0 w a M u Mo' v D q f vs) {x : Nat} (k : Chg [x] w w') (hx : vs ≤ x) : K7 w0 w' a M u Mo' v D q f vs := by
  obtain ⟨h1, h2, h3, h4, h5, h6, h7⟩ := h
  have hs := h6.size
  exact ⟨h1.chg k (by simp; omega), h2.chg k (by simp; omega), h3.chg k (by simp; omega), h4.chg k (by simp; omega), h5.chg k (by omega) (by simp; omega), k.onto h6 hs (by simp; omega), h7.1, h7.2.1, Nat.le_trans h7.2.2 k.size⟩
theorem K7.alloc (h : K7 w0 w a M u Mo' v D q f vs) (o : Obj) : K7 w0 (w.alloc o) a M u Mo' v D q f vs := by
  obtain ⟨h1, h2, h3, h4, h5, h6, h7⟩ := h
  have hs := h6.size
  have k : Chg [] w (w.alloc o) := (Chg.refl [] w).alloc o
  exact ⟨h1.alloc o, h2.alloc o, h3.alloc o, h4.alloc o, h5.chg k (by omega) (by simp), h6.alloc hs o, h7.1, h7.2.1, Nat.le_trans h7.2.2 k.size⟩
theorem K7.st0 (h : K7 w0 w a M u Mo' v D q f vs) (u' : Value) : K7 w0 (w.setCell ⟨w0.heap.size, 0, none⟩ u') a M u' Mo' v D q f vs := by
  obtain ⟨h1, h2, h3, h4, h5, h6, h7⟩ := h
  have hs := h6.size
  have k : Chg [w0.heap.size] w (w.setCell ⟨w0.heap.size, 0, none⟩ u') := (Chg.refl _ w).set (b := w0.heap.size) (Or.inl (by simp)) 0 u'
  exact ⟨h1.set 0 u', h2.chg k (by simp), h3.chg k (by simp; omega), h4.chg k (by simp; omega), h5.chg k hs (by simp), k.onto h6 hs (by simp), h7.1, h7.2.1, Nat.le_trans h7.2.2 k.size⟩
theorem K7.st2 (h : K7 w0 w a M u Mo' v D q f vs) (v' : Value) : K7 w0 (w.setCell ⟨w0.heap.size, 2, none⟩ v') a M u Mo' v' D q f vs := by
  obtain ⟨h1, h2, h3, h4, h5, h6, h7⟩ := h
  have hs := h6.size
  have k : Chg [w0.heap.size] w (w.setCell ⟨w0.heap.size, 2, none⟩ v') := (Chg.refl _ w).set (b := w0.heap.size) (Or.inl (by simp)) 2 v'
  exact ⟨h1.set 2 v', h2.chg k (by simp), h3.chg k (by simp; omega), h4.chg k (by simp; omega), h5.chg k hs (by simp), k.onto h6 hs (by simp), h7.1, h7.2.1, Nat.le_trans h7.2.2 k.size⟩
end
/-- The values that hang on no order. -/
def G7 (B : Nat) (a : Option Addr) (n c : Nat) (q f : Int) : Nat → Value → Prop
  | 1, v => v = .pointer (some ⟨B, 0, none⟩)
  | 2, v => v = .slice a n c
  | 4, v => v = .agg #[.int .i64 q, .int .i64 f]
  | 7, v => v = .pointer (some ⟨B, 2, none⟩)
  | 8, v => v = .int .i64 q
  | 9, v => v = .int .i64 (q + 1)
  | 10, v => v = .pointer (some ⟨B, 0, none⟩)
  | 12, v => v = .pointer (some ⟨B, 2, none⟩)
  | 11, v => v = undef
  | 13, v => v = undef
  | _, _ => True
/-- The rows, by which of the operations have come up. -/
def R7 (w : World) (M N : List (Int × Int)) (n : Nat) (q f : Int) (vs : Nat) (l0 l3 l5 l6 : Bool) (e0 e3 e5 e6 : Value) : Prop :=
  (l0 = true → l3 = false → ∃ g, e0 = .slice (some ⟨g, 0, none⟩) 0 0 ∧ Rn w g 0 2 (prs []) 32 ∧ vs ≤ g ∧ (l5 = true → ∀ b, e5 = .slice (some ⟨b, 0, none⟩) 1 1 → g ≠ b)) ∧
  (l3 = true → l6 = false → ∃ g cp, e3 = .slice (some ⟨g, 0, none⟩) n cp ∧ Rn w g cp 2 (prs M) 32 ∧ vs ≤ g ∧ (l5 = true → ∀ b, e5 = .slice (some ⟨b, 0, none⟩) 1 1 → g ≠ b)) ∧
  (l5 = true → l6 = false → ∃ b, e5 = .slice (some ⟨b, 0, none⟩) 1 1 ∧ Blk w b [.int .i64 q, .int .i64 f] 32 ∧ vs ≤ b) ∧
  (l6 = true → ∃ g cp, e6 = .slice (some ⟨g, 0, none⟩) (n + 1) cp ∧ Rn w g cp 2 (prs N) 32 ∧ vs ≤ g)
theorem R7.set {w : World} {M N : List (Int × Int)} {n : Nat} {q f : Int} {vs : Nat} {l0 l3 l5 l6 : Bool} {e0 e3 e5 e6 : Value} (h : R7 w M N n q f vs l0 l3 l5 l6 e0 e3 e5 e6) {b : Nat} (hb : b < vs) (i : Nat) (v : Value) : R7 (w.setCell ⟨b, i, none⟩ v) M N n q f vs l0 l3 l5 l6 e0 e3 e5 e6 := by
  obtain ⟨h0, h1, h2, h3⟩ := h
  have k : Chg [b] w (w.setCell ⟨b, i, none⟩ v) := (Chg.refl [b] w).set (b := b) (Or.inl (by simp)) i v
  refine ⟨fun x y => ?_, fun x y => ?_, fun x y => ?_, fun x => ?_⟩
  · obtain ⟨g, a1, a2, a3, a4⟩ := h0 x y
    exact ⟨g, a1, a2.chg k (by simp; omega), a3, a4⟩
  · obtain ⟨g, cp, a1, a2, a3, a4⟩ := h1 x y
    exact ⟨g, cp, a1, a2.chg k (by simp; omega), a3, a4⟩
  · obtain ⟨g, a1, a2, a3⟩ := h2 x y
    exact ⟨g, a1, a2.chg k (by simp; omega), a3⟩
  · obtain ⟨g, cp, a1, a2, a3⟩ := h3 x
    exact ⟨g, cp, a1, a2.chg k (by simp; omega), a3⟩
theorem K7.of {w0 w : World} {lo : Nat} {a : Option Addr} {M : List (Int × Int)} {u Mo' v : Value} {D : Nat} {q f : Int} (s : PB w0 w lo a M [u, Mo', v] D q f) (hD : w0.heap.size + 1 + 1 < D) (r : RB w0 w0.heap.size a M) : K7 w0 w.drew a M u Mo' v D q f w.heap.size := by
  have hl := s.2.2.2.1.lt
  have s' := s.on (Below.refl _ w).drew
  exact ⟨s'.1, s'.2.1, s'.2.2.1, s'.2.2.2.1, r.chg (l := []) (Chg.of_fresh s'.2.2.2.2.2) (Nat.le_refl _) (by simp), s'.2.2.2.2.2, hD, hl, Nat.le_refl _⟩
set_option maxRecDepth 20000 in
set_option maxHeartbeats 4000000 in
theorem ref_open_yes (Mo q : Int) (lo : Nat) (a : Option Addr) (M : List (Int × Int)) (c f : Nat) (w : World) (hl : M.length ≤ 1000) (hf : f ≤ 1024) (h1 : ∀ j < f, 0 ≤ rWho M (j : Int)) (h2 : rWho M (f : Int) = -1) (hq : (q == 4096) = false) (hm : ((f : Int) == Mo) = false) (hq2 : 0 ≤ q ∧ q ≤ 4096) (h : RL w lo a M) :
    Calls Try.prog 9 #[.agg #[.slice a M.length c, .int .i64 Mo, .int .i64 q]] w fun e w' => ∃ g c', e = .returned (.tuple #[.agg #[.slice (some ⟨g, 0, none⟩) (M.length + 1) c', .int .i64 Mo, .int .i64 (q + 1)], .agg #[.int .i64 q, .int .i64 f], .bool true]) ∧ RL w' w.heap.size (some ⟨g, 0, none⟩) (M ++ [(q, (f : Int))]) ∧ Below w.heap.size w w' := by
  have HF := Lib.hid (And.intro h1 h2)
  have s1 : IntKind.i64.wrap (q + 1) = q + 1 := IntWalk.i64_in _ (by omega)
  obtain ⟨n, hn⟩ : ∃ n, M.length = n := ⟨_, rfl⟩
  have HN := Lib.hid (And.intro hn (show M.length ≤ 1000000 by omega))
  have HRB0 := Lib.hid (RB.of h)
  have HB0 := Lib.hid (OB.start h #[.slice a n c, .int .i64 Mo, .int .i64 q])
  rw [hn] at hl ⊢
  clear hn h h1 h2
  go_enter Try.func9, Try.ntmps9
  go_upto_region 1 with fail
  revert HB0
  generalize ((w.alloc (.cells #[.slice a n c, .int .i64 Mo, .int .i64 q] 27)).alloc (.cells #[.slice none 0 0, .int .i64 0, .int .i64 0] 27)).alloc (.cells #[.int .i64 0, .int .i64 0] 32) = W
  intro HB0
  go_wp2_with fail
  go_loopw [5] (fun i wr => ∃ k : Nat, i = .int .i64 k ∧ k ≤ f ∧ Hid (OB w wr lo a M [.slice a n c, .int .i64 Mo, .int .i64 q])) (fun i _ => f - (intOf i).toNat)
  case atStart => exact ⟨0, rfl, by omega, HB0⟩
  case round =>
    clear HB0
    obtain ⟨k, rfl, hk, HB⟩ := hrel
    have b0 := HB.out.1.cell (i := 0) rfl
    have b1 := HB.out.1.cell (i := 1) rfl
    have b2 := HB.out.1.cell (i := 2) rfl
    have i0 : (0 : Int) ≤ (k : Int) := by omega
    by_cases hkf : k < f
    · obtain ⟨v, hv⟩ : ∃ v, rWho M (k : Int) = v := ⟨_, rfl⟩
      have hv0 := HF.out.1 k hkf
      rw [hv] at hv0
      have HV := Lib.hid hv
      have j1 : decide ((0 : Int) ≤ v) = true := by rw [decide_eq_true_eq]; exact hv0
      clear hv
      go_wp2_with (go_at_call 24; rw [← HN.out.1]; refine (ref_who Mo q lo a M c k _ HN.out.2 HB.out.2.2.2.1).mono ?_; rintro e w1 ⟨rfl, k1⟩; rw [HV.out, HN.out.1]; have HB1 := Lib.hid (HB.out.on k1); clear k1)
      refine ⟨?_, ?measure⟩
      case measure => simp [intOf]; omega
      first
        | exact ⟨k + 1, by go_num, by omega, HB1⟩
        | ((repeat apply Exists.intro); exact ⟨⟨k + 1, by go_num, by omega, HB1⟩, rfl⟩)
    · obtain rfl : k = f := by omega
      go_upto_region 4 with (go_at_call 24; rw [← HN.out.1]; refine (ref_who Mo q lo a M c k _ HN.out.2 HB.out.2.2.2.1).mono ?_; rintro e w1 ⟨rfl, k1⟩; rw [HF.out.2, HN.out.1]; have HB1 := Lib.hid (HB.out.on k1); clear k1)
      clear b0 b1 b2 HB
      have b0 := HB1.out.1.cell (i := 0) rfl
      have b1 := HB1.out.1.cell (i := 1) rfl
      have b2 := HB1.out.1.cell (i := 2) rfl
      go_upto_region 7 with fail
      have HRB := Lib.hid HRB0.out
      have HP := Lib.hid (PB.start HB1.out q (k : Int))
      have lD := HB1.out.2.2.1.lt
      clear b0 b1 b2 HB1
      revert HP
      generalize w1.alloc (.cells #[.int .i64 q, .int .i64 k] 32) = v1
      revert lD
      generalize w1.heap.size = D
      intro lD HP
      have b0 : v1.drew.cell? ⟨w.heap.size, 0, none⟩ = some (.slice a n c) := HP.out.1.cell (i := 0) rfl
      have b2 : v1.drew.cell? ⟨w.heap.size, 2, none⟩ = some (.int .i64 q) := HP.out.1.cell (i := 2) rfl
      have e0 : v1.drew.cell? ⟨D, 0, none⟩ = some (.int .i64 q) := HP.out.2.2.2.1.cell (i := 0) rfl
      have e1 : v1.drew.cell? ⟨D, 1, none⟩ = some (.int .i64 k) := HP.out.2.2.2.1.cell (i := 1) rfl
      have b0n := HP.out.1.cell (i := 0) rfl
      have b2n := HP.out.1.cell (i := 2) rfl
      have e0n := HP.out.2.2.2.1.cell (i := 0) rfl
      have e1n := HP.out.2.2.2.1.cell (i := 1) rfl
      have l0 := HP.out.1.lt
      have l1 := HP.out.2.2.2.1.lt
      have HK0 := Lib.hid (K7.of HP.out lD HRB.out)
      refine Code.wp_mono (Q := fun e a' w' => match e with | Exit.normal => ∃ (g4 c4 : Nat) (v28 v31 v33 : Value), FB w w' [.slice (some ⟨g4, 0, none⟩) (n + 1) c4, .int .i64 Mo, .int .i64 (q + 1)] [.slice none 0 0, .int .i64 0, .int .i64 0] [.int .i64 0, .int .i64 0] D q k g4 c4 (M ++ [(q, (k : Int))]) ∧ a' = { tmps := #[.agg #[.slice a n c, .int .i64 Mo, .int .i64 q], .pointer (some ⟨w.heap.size, 0, none⟩), .pointer (some ⟨w.heap.size + 1, 0, none⟩), .pointer (some ⟨w.heap.size + 1 + 1, 0, none⟩), .bool false, .int .i64 k, .pointer (some ⟨D, 0, none⟩), .agg #[.slice a n c, .int .i64 Mo, .int .i64 q], .int .i64 k, .int .i64 (-1), .bool false, u11, u12, .pointer (some ⟨w.heap.size, 2, none⟩), .int .i64 q, .bool false, .bool false, .int .i64 k, .pointer (some ⟨w.heap.size, 1, none⟩), .int .i64 Mo, .bool false, .bool false, undef, undef, .pointer (some ⟨w.heap.size, 2, none⟩), .int .i64 q, .int .i64 k, .agg #[.int .i64 q, .int .i64 k], v28, .pointer (some ⟨w.heap.size, 0, none⟩), .slice a n c, v31, .agg #[.int .i64 q, .int .i64 k], v33, .slice (some ⟨g4, 0, none⟩) (n + 1) c4, .pointer (some ⟨w.heap.size, 2, none⟩), .int .i64 q, .int .i64 (q + 1), .pointer (some ⟨w.heap.size, 0, none⟩), .pointer (some ⟨w.heap.size, 2, none⟩), undef, undef], defers := [] } | _ => False) ?_ ?_
      case refine_2 =>
        clear HF hkf hk hq hm i0 hf
        refine wp_region_env (fun env L w' => (∀ j, L j = true → G7 w.heap.size a n c q k j (env j)) ∧ K7 w w' a M (if L 11 = true then env 6 else .slice a n c) (.int .i64 Mo) (if L 13 = true then .int .i64 (q + 1) else .int .i64 q) D q k v1.heap.size ∧ R7 w' M (M ++ [(q, (k : Int))]) n q k v1.heap.size (L 0) (L 3) (L 5) (L 6) (env 0) (env 3) (env 5) (env 6)) (fun _ => undef) (by kernel_rfl) (by kernel_rfl) (by kernel_rfl) (by kernel_rfl) ?h0 ?hstep ?hend
        case h0 => exact ⟨by simp, HK0.out, by simp [R7]⟩
        case hstep =>
          refine ⟨?o0, ?o1, ?o2, ?o3, ?o4, ?o5, ?o6, ?o7, ?o8, ?o9, ?o10, ?o11, ?o12, ?o13, trivial⟩
          case o0 =>
            intro E env L w' hcl hL hp hd ho2 ⟨hG, hK, hR⟩
            have hL3 : L 3 = false := by
              cases h0 : L 3 with
              | false => rfl
              | true =>
                have h0 := hcl 3 _ rfl h0 ⟨0, .data⟩ (by simp) rfl
                exact absurd (h0.symm.trans hL) (by simp)
            have hL6 : L 6 = false := by
              cases h0 : L 6 with
              | false => rfl
              | true =>
                have h3 := hcl 6 _ rfl h0 ⟨3, .data⟩ (by simp) rfl
                have h0 := hcl 3 _ rfl h3 ⟨0, .data⟩ (by simp) rfl
                exact absurd (h0.symm.trans hL) (by simp)
            obtain ⟨hR0, hR1, hR2, hR3⟩ := hR
            have hs := hK.2.2.2.2.2.2.2.2
            refine wp_val (v := .slice (some ⟨w'.heap.size, 0, none⟩) 0 0) (w' := w'.alloc (.cells #[] 32)) ?_ ⟨_, rfl, envG hG trivial, hK.alloc _, fun _ _ => ⟨w'.heap.size, rfl, Rn.empty w' 2 32, hs, fun h5 b hb => ?_⟩, fun h3 => absurd (h3.symm.trans hL3) (by simp), fun h5 h6 => ?_, fun h6 => absurd (h6.symm.trans hL6) (by simp)⟩
            · simp only [execOp]
              go_simp
            · obtain ⟨b', e5, hb', _⟩ := hR2 h5 hL6
              have e6 : env 5 = .slice (some ⟨b, 0, none⟩) 1 1 := hb
              rw [e5] at e6
              cases e6
              exact Nat.ne_of_gt hb'.lt
            · obtain ⟨b', e5, hb', hv⟩ := hR2 h5 h6
              exact ⟨b', e5, hb'.alloc _, hv⟩
          case o1 =>
            intro E env L w' hcl hL hp hd ho2 ⟨hG, hK, hR⟩
            have x1 : E.eval (.tmp 1) = .pointer (some ⟨w.heap.size, 0, none⟩) := ho2 1 (by kernel_rfl)
            refine wp_val (v := .pointer (some ⟨w.heap.size, 0, none⟩)) (w' := w') ?_ ⟨_, rfl, envG hG rfl, hK, hR⟩
            simp only [execOp, x1]
            go_simp
          case o2 =>
            intro E env L w' hcl hL hp hd ho2 ⟨hG, hK, hR⟩
            have d1 : L 1 = true := hp ⟨1, .data⟩ (by simp) rfl
            have x1 : E.eval (.tmp 29) = .pointer (some ⟨w.heap.size, 0, none⟩) := (hd 1 29 d1 rfl (by simp)).trans (hG 1 d1)
            have hL11 : L 11 = false := by
              cases h0 : L 11 with
              | false => rfl
              | true =>
                have h6 := hcl 11 _ rfl h0 ⟨6, .data⟩ (by simp) rfl
                have h3 := hcl 6 _ rfl h6 ⟨3, .data⟩ (by simp) rfl
                have h2 := hcl 3 _ rfl h3 ⟨2, .data⟩ (by simp) rfl
                exact absurd (h2.symm.trans hL) (by simp)
            have hK' := hK
            rw [hL11] at hK'
            have b0' := hK'.1.cell (i := 0) rfl
            refine wp_val (v := .slice a n c) (w' := w') ?_ ⟨_, rfl, envG hG rfl, hK, hR⟩
            simp only [execOp, x1]
            go_simp
          case o3 =>
            intro E env L w' hcl hL hp hd ho2 ⟨hG, hK, hR⟩
            have d0 : L 0 = true := hp ⟨0, .data⟩ (by simp) rfl
            have d2 : L 2 = true := hp ⟨2, .data⟩ (by simp) rfl
            have hL6 : L 6 = false := by
              cases h0 : L 6 with
              | false => rfl
              | true =>
                have h3 := hcl 6 _ rfl h0 ⟨3, .data⟩ (by simp) rfl
                exact absurd (h3.symm.trans hL) (by simp)
            obtain ⟨hR0, hR1, hR2, hR3⟩ := hR
            obtain ⟨g, eg, hrn, hvg, hgb⟩ := hR0 d0 hL
            have x28 : E.eval (.tmp 28) = .slice (some ⟨g, 0, none⟩) 0 0 := (hd 0 28 d0 rfl (by simp)).trans eg
            have x30 : E.eval (.tmp 30) = .slice a n c := (hd 2 30 d2 rfl (by simp)).trans (hG 2 d2)
            have hs := hK.2.2.2.2.2.2.2.2
            have hb := hK.2.2.2.2.2.1.size
            refine wp_append_rn w' (.tmp 28) (.tmp 30) 25 25 rfl 32 (.agg #[.int .i64 0, .int .i64 0]) 2 16 Try.underlying25 infoo rfl g 0 0 (prs []) x28 rfl hrn _ x30 n (prs M) (hK.2.2.2.2.1.src HN.out.1 hb) (by omega) (by omega) ?_
            intro g' cap' w'' r1 r2 r3
            refine ⟨_, rfl, envG hG trivial, hK.chg r3 hvg, fun _ h3 => absurd h3 (by simp [doneL]), fun _ _ => ⟨g', cap', by simp [upd], r1, by omega, fun h5 b hb => ?_⟩, fun h5 h6 => ?_, fun h6 => absurd (h6.symm.trans hL6) (by simp)⟩
            · obtain ⟨b', e5, hb', _⟩ := hR2 h5 hL6
              have e6 : env 5 = .slice (some ⟨b, 0, none⟩) 1 1 := hb
              have hne := hgb h5 b e6
              rw [e5] at e6
              cases e6
              have := hb'.lt
              omega
            · obtain ⟨b', e5, hb', hv⟩ := hR2 h5 h6
              exact ⟨b', e5, hb'.chg r3 (by have := hgb h5 b' e5; simp; omega), hv⟩
          case o4 =>
            intro E env L w' hcl hL hp hd ho2 ⟨hG, hK, hR⟩
            have x6 : E.eval (.tmp 6) = .pointer (some ⟨D, 0, none⟩) := ho2 6 (by kernel_rfl)
            have c0' := hK.2.2.2.1.cell (i := 0) rfl
            have c1' := hK.2.2.2.1.cell (i := 1) rfl
            refine wp_val (v := .agg #[.int .i64 q, .int .i64 k]) (w' := w') ?_ ⟨_, rfl, envG hG rfl, hK, hR⟩
            simp only [execOp, x6]
            go_simp
          case o5 =>
            intro E env L w' hcl hL hp hd ho2 ⟨hG, hK, hR⟩
            have d4 : L 4 = true := hp ⟨4, .data⟩ (by simp) rfl
            have x32 : E.eval (.tmp 32) = .agg #[.int .i64 q, .int .i64 k] := (hd 4 32 d4 rfl (by simp)).trans (hG 4 d4)
            have hL6 : L 6 = false := by
              cases h0 : L 6 with
              | false => rfl
              | true =>
                have h5 := hcl 6 _ rfl h0 ⟨5, .data⟩ (by simp) rfl
                exact absurd (h5.symm.trans hL) (by simp)
            obtain ⟨hR0, hR1, hR2, hR3⟩ := hR
            have hs := hK.2.2.2.2.2.2.2.2
            refine wp_val (v := .slice (some ⟨w'.heap.size, 0, none⟩) 1 1) (w' := w'.alloc (.cells #[.int .i64 q, .int .i64 k] 32)) ?_ ⟨_, rfl, envG hG trivial, hK.alloc _, fun h0 h3 => ?_, fun h3 h6 => ?_, fun _ _ => ⟨w'.heap.size, by simp [upd], Blk.newA w' #[.int .i64 q, .int .i64 k] 32, hs⟩, fun h6 => absurd (h6.symm.trans hL6) (by simp)⟩
            · simp only [execOp, x32, List.map_toArray, List.map_cons, List.map_nil]
              go_simp
            · obtain ⟨g, eg, hrn, hvg, _⟩ := hR0 h0 h3
              refine ⟨g, eg, hrn.chg ((Chg.refl [] w').alloc _) (by simp), hvg, fun _ b hb => ?_⟩
              have hb' : (Value.slice (some ⟨w'.heap.size, 0, none⟩) 1 1) = .slice (some ⟨b, 0, none⟩) 1 1 := by simpa [upd] using hb
              cases hb'
              exact Nat.ne_of_lt hrn.lt
            · obtain ⟨g, cp, eg, hrn, hvg, _⟩ := hR1 h3 h6
              refine ⟨g, cp, eg, hrn.chg ((Chg.refl [] w').alloc _) (by simp), hvg, fun _ b hb => ?_⟩
              have hb' : (Value.slice (some ⟨w'.heap.size, 0, none⟩) 1 1) = .slice (some ⟨b, 0, none⟩) 1 1 := by simpa [upd] using hb
              cases hb'
              exact Nat.ne_of_lt hrn.lt
          case o6 =>
            intro E env L w' hcl hL hp hd ho2 ⟨hG, hK, hR⟩
            have d3 : L 3 = true := hp ⟨3, .data⟩ (by simp) rfl
            have d5 : L 5 = true := hp ⟨5, .data⟩ (by simp) rfl
            have hL11 : L 11 = false := by
              cases h0 : L 11 with
              | false => rfl
              | true =>
                have h6 := hcl 11 _ rfl h0 ⟨6, .data⟩ (by simp) rfl
                exact absurd (h6.symm.trans hL) (by simp)
            obtain ⟨hR0, hR1, hR2, hR3⟩ := hR
            obtain ⟨g, cp, eg, hrn, hvg, hgb⟩ := hR1 d3 hL
            obtain ⟨b, eb, hb, hvb⟩ := hR2 d5 hL
            have x31 : E.eval (.tmp 31) = .slice (some ⟨g, 0, none⟩) n cp := (hd 3 31 d3 rfl (by simp)).trans eg
            have x33 : E.eval (.tmp 33) = .slice (some ⟨b, 0, none⟩) 1 1 := (hd 5 33 d5 rfl (by simp)).trans eb
            have hs := hK.2.2.2.2.2.2.2.2
            rw [hL11] at hK
            refine wp_append_rn w' (.tmp 31) (.tmp 33) 25 25 rfl 32 (.agg #[.int .i64 0, .int .i64 0]) 2 16 Try.underlying25 infoo rfl g n cp (prs M) x31 ((prs_length M).trans (by rw [HN.out.1])) hrn _ x33 1 [pv q, pv k] (Src.ofSlice _ Try.underlying25 ⟨b, 0, none⟩ 1 1 [pv q, pv k] rfl (two_blk hb) (two_one q k)) (by omega) (by omega) ?_
            intro g' cap' w'' r1 r2 r3
            refine ⟨_, rfl, envG hG trivial, ?_, fun _ h3 => absurd (d3.symm.trans h3) (by simp), fun _ h6 => absurd h6 (by simp [doneL]), fun _ h6 => absurd h6 (by simp [doneL]), fun _ => ⟨g', cap', by simp [upd], by rw [prs_append]; exact r1, by omega⟩⟩
            have hx : doneL L 6 11 = false := hL11
            rw [hx]
            exact hK.chg r3 hvg
          case o7 =>
            intro E env L w' hcl hL hp hd ho2 ⟨hG, hK, hR⟩
            have x1 : E.eval (.tmp 1) = .pointer (some ⟨w.heap.size, 0, none⟩) := ho2 1 (by kernel_rfl)
            refine wp_val (v := .pointer (some ⟨w.heap.size, 2, none⟩)) (w' := w') ?_ ⟨_, rfl, envG hG rfl, hK, hR⟩
            simp only [execOp, x1]
            go_simp
          case o8 =>
            intro E env L w' hcl hL hp hd ho2 ⟨hG, hK, hR⟩
            have d7 : L 7 = true := hp ⟨7, .data⟩ (by simp) rfl
            have x35 : E.eval (.tmp 35) = .pointer (some ⟨w.heap.size, 2, none⟩) := (hd 7 35 d7 rfl (by simp)).trans (hG 7 d7)
            have hL13 : L 13 = false := by
              cases h0 : L 13 with
              | false => rfl
              | true =>
                have h9 := hcl 13 _ rfl h0 ⟨9, .data⟩ (by simp) rfl
                have h8 := hcl 9 _ rfl h9 ⟨8, .data⟩ (by simp) rfl
                exact absurd (h8.symm.trans hL) (by simp)
            have hK' := hK
            rw [hL13] at hK'
            have b2' := hK'.1.cell (i := 2) rfl
            refine wp_val (v := .int .i64 q) (w' := w') ?_ ⟨_, rfl, envG hG rfl, hK, hR⟩
            simp only [execOp, x35]
            go_simp
          case o9 =>
            intro E env L w' hcl hL hp hd ho2 ⟨hG, hK, hR⟩
            have d8 : L 8 = true := hp ⟨8, .data⟩ (by simp) rfl
            have x36 : E.eval (.tmp 36) = .int .i64 q := (hd 8 36 d8 rfl (by simp)).trans (hG 8 d8)
            have x1 : E.eval (.const (.int .i64 1)) = .int .i64 1 := rfl
            refine wp_val (v := .int .i64 (q + 1)) (w' := w') ?_ ⟨_, rfl, envG hG rfl, hK, hR⟩
            simp only [execOp, x36, x1]
            go_simp
          case o10 =>
            intro E env L w' hcl hL hp hd ho2 ⟨hG, hK, hR⟩
            have x1 : E.eval (.tmp 1) = .pointer (some ⟨w.heap.size, 0, none⟩) := ho2 1 (by kernel_rfl)
            refine wp_val (v := .pointer (some ⟨w.heap.size, 0, none⟩)) (w' := w') ?_ ⟨_, rfl, envG hG rfl, hK, hR⟩
            simp only [execOp, x1]
            go_simp
          case o11 =>
            intro E env L w' hcl hL hp hd ho2 ⟨hG, hK, hR⟩
            have d10 : L 10 = true := hp ⟨10, .data⟩ (by simp) rfl
            have d6 : L 6 = true := hp ⟨6, .data⟩ (by simp) rfl
            have d3 : L 3 = true := hcl 6 _ rfl d6 ⟨3, .data⟩ (by simp) rfl
            have x38 : E.eval (.tmp 38) = .pointer (some ⟨w.heap.size, 0, none⟩) := (hd 10 38 d10 rfl (by simp)).trans (hG 10 d10)
            have x34 : E.eval (.tmp 34) = env 6 := hd 6 34 d6 rfl (by simp)
            obtain ⟨hR0, hR1, hR2, hR3⟩ := hR
            obtain ⟨g, cp, eg, hrn, hvg⟩ := hR3 d6
            rw [hL] at hK
            have hlt := hK.2.2.2.2.2.2
            have b0' := hK.1.cell (i := 0) rfl
            have f0' := hK.1.free 0
            refine wp_skp (w' := w'.setCell ⟨w.heap.size, 0, none⟩ (env 6)) ?_ ⟨_, rfl, envG hG rfl, hK.st0 (env 6), fun _ h3 => absurd (d3.symm.trans h3) (by simp), fun _ h6 => absurd (d6.symm.trans h6) (by simp), fun _ h6 => absurd (d6.symm.trans h6) (by simp), fun _ => ⟨g, cp, eg, hrn.chg ((Chg.refl [w.heap.size] w').set (b := w.heap.size) (Or.inl (by simp)) 0 (env 6)) (by simp; omega), hvg⟩⟩
            simp only [execOp, x38, x34, eg]
            go_simp
          case o12 =>
            intro E env L w' hcl hL hp hd ho2 ⟨hG, hK, hR⟩
            have x1 : E.eval (.tmp 1) = .pointer (some ⟨w.heap.size, 0, none⟩) := ho2 1 (by kernel_rfl)
            refine wp_val (v := .pointer (some ⟨w.heap.size, 2, none⟩)) (w' := w') ?_ ⟨_, rfl, envG hG rfl, hK, hR⟩
            simp only [execOp, x1]
            go_simp
          case o13 =>
            intro E env L w' hcl hL hp hd ho2 ⟨hG, hK, hR⟩
            have d12 : L 12 = true := hp ⟨12, .data⟩ (by simp) rfl
            have d9 : L 9 = true := hp ⟨9, .data⟩ (by simp) rfl
            have x39 : E.eval (.tmp 39) = .pointer (some ⟨w.heap.size, 2, none⟩) := (hd 12 39 d12 rfl (by simp)).trans (hG 12 d12)
            have x37 : E.eval (.tmp 37) = .int .i64 (q + 1) := (hd 9 37 d9 rfl (by simp)).trans (hG 9 d9)
            rw [hL] at hK
            have hlt := hK.2.2.2.2.2.2
            have b2' := hK.1.cell (i := 2) rfl
            have f2' := hK.1.free 2
            refine wp_skp (w' := w'.setCell ⟨w.heap.size, 2, none⟩ (.int .i64 (q + 1))) ?_ ⟨_, rfl, envG hG rfl, hK.st2 _, R7.set hR (by omega) 2 _⟩
            simp only [execOp, x39, x37]
            go_simp
        case hend =>
          intro env w' ⟨hG, hK, hR⟩
          obtain ⟨g4, c4, e6, hrn, hv⟩ := hR.2.2.2 rfl
          have hK' : K7 w w' a M (env 6) (.int .i64 Mo) (.int .i64 (q + 1)) D q k v1.heap.size := hK
          rw [e6] at hK'
          refine ⟨g4, c4, env 0, env 3, env 5, ⟨hK'.1, hK'.2.1, hK'.2.2.1, hK'.2.2.2.1, hrn, hK'.2.2.2.2.2.1, hK'.2.2.2.2.2.2.1, Nat.lt_of_lt_of_le hK'.2.2.2.2.2.2.2.1 hv⟩, ?_⟩
          have h1 := hG 1 rfl
          have h2 := hG 2 rfl
          have h4 := hG 4 rfl
          have h7 := hG 7 rfl
          have h8 := hG 8 rfl
          have h9 := hG 9 rfl
          have h10 := hG 10 rfl
          have h12 := hG 12 rfl
          simp only [G7] at h1 h2 h4 h7 h8 h9 h10 h12
          simp only [putsE, Act.put, List.setIfInBounds_toArray, List.set_cons_zero, List.set_cons_succ]
          rw [h1, h2, h4, h7, h8, h9, h10, h12, e6]
      case refine_1 =>
        intro e a' w' hpost
        cases e with
        | normal =>
          obtain ⟨g4, c4, v28, v31, v33, hq4, rfl⟩ := hpost
          have HF7 := Lib.hid hq4
          clear b0 b2 e0 e1 b0n b2n e0n e1n hq4
          revert HF7
          generalize w' = W7
          intro HF7
          have H8 := Lib.hid HF7.out.drew
          have p0 : W7.drew.cell? ⟨w.heap.size, 0, none⟩ = some (.slice (some ⟨g4, 0, none⟩) (n + 1) c4) := H8.out.1.cell (i := 0) rfl
          have p1 : W7.drew.cell? ⟨w.heap.size, 1, none⟩ = some (.int .i64 Mo) := H8.out.1.cell (i := 1) rfl
          have p2 : W7.drew.cell? ⟨w.heap.size, 2, none⟩ = some (.int .i64 (q + 1)) := H8.out.1.cell (i := 2) rfl
          have d0 : W7.drew.cell? ⟨D, 0, none⟩ = some (.int .i64 q) := H8.out.2.2.2.1.cell (i := 0) rfl
          have d1 : W7.drew.cell? ⟨D, 1, none⟩ = some (.int .i64 k) := H8.out.2.2.2.1.cell (i := 1) rfl
          have d0n := HF7.out.2.2.2.1.cell (i := 0) rfl
          have d1n := HF7.out.2.2.2.1.cell (i := 1) rfl
          have p0n := HF7.out.1.cell (i := 0) rfl
          have p1n := HF7.out.1.cell (i := 1) rfl
          have p2n := HF7.out.1.cell (i := 2) rfl
          have ne1 : w.heap.size + 1 ≠ D := by omega
          have ne2 : D ≠ w.heap.size + 1 := by omega
          have ne3 : w.heap.size + 1 + 1 ≠ D := by omega
          have ne4 : D ≠ w.heap.size + 1 + 1 := by omega
          have r0 := HF7.out.2.1.cell (i := 0) rfl
          have r1 := HF7.out.2.1.cell (i := 1) rfl
          have r2 := HF7.out.2.1.cell (i := 2) rfl
          have o0 := HF7.out.2.2.1.cell (i := 0) rfl
          have o1 := HF7.out.2.2.1.cell (i := 1) rfl
          have f0 := HF7.out.2.1.free 0
          have f1 := HF7.out.2.1.free 1
          have f2 := HF7.out.2.1.free 2
          have j0 := HF7.out.2.2.1.free 0
          have j1 := HF7.out.2.2.1.free 1
          have H9 := Lib.hid (FB.drew (HF7.out.res (a := .slice (some ⟨g4, 0, none⟩) (n + 1) c4) (b := .int .i64 Mo) (c := .int .i64 (q + 1)) (d := .int .i64 q) (e := .int .i64 k)))
          clear HP HF7 l0 l1 HK0
          go_wp2_with fail
          go_region
          all_goals
            go_wp2_with fail
            clear p0n p1n p2n d0n d1n p0 p1 p2 d0 d1 r0 r1 r2 o0 o1 f0 f1 f2 j0 j1 H8
            revert H9
            generalize (((((W7.setCell ⟨w.heap.size + 1, 0, none⟩ (.slice (some ⟨g4, 0, none⟩) (n + 1) c4)).setCell ⟨w.heap.size + 1, 1, none⟩ (.int .i64 Mo)).setCell ⟨w.heap.size + 1, 2, none⟩ (.int .i64 (q + 1))).setCell ⟨w.heap.size + 1 + 1, 0, none⟩ (.int .i64 q)).setCell ⟨w.heap.size + 1 + 1, 1, none⟩ (.int .i64 k)).drew = W9
            intro H9
            have r0 := H9.out.2.1.cell (i := 0) rfl
            have r1 := H9.out.2.1.cell (i := 1) rfl
            have r2 := H9.out.2.1.cell (i := 2) rfl
            have o0 := H9.out.2.2.1.cell (i := 0) rfl
            have o1 := H9.out.2.2.1.cell (i := 1) rfl
            refine bodyPost_ret (v := .tuple #[.agg #[.slice (some ⟨g4, 0, none⟩) (n + 1) c4, .int .i64 Mo, .int .i64 (q + 1)], .agg #[.int .i64 q, .int .i64 k], .bool true]) (by simp [results, Try.results9, go_sem, r0, r1, r2, o0, o1]) rfl ?_
            exact ⟨g4, c4, rfl, RL.of_rn H9.out.2.2.2.2.1 (by have := H9.out.2.2.2.2.2.2; omega), H9.out.2.2.2.2.2.1⟩
        | _ => exact absurd hpost (by simp)
end Go.Proofs.Ythofnpcaeopojaa
