/- The document's own answers for purses: Clear, Give, Pay, New. -/
import Derived.Test.YticdpcbmnahenaaPurRef2
namespace Go.Proofs.Yticdpcbmnahenaa
open Go.ChangeShapes Go.WideShapes Go.ChangeAt Go.RowKit
set_option linter.unusedSimpArgs false
set_option linter.unusedVariables false

/-- The list that was made stands from lo on; the result's cells are one's own. -/
def RR (w0 w : World) (Rb : Nat) (rc : List Value) (lo g cap : Nat) (N : List (Int × Int)) : Prop :=
  Blk w Rb rc 30 ∧ RL w lo (some ⟨g, 0, none⟩) N ∧ Below w0.heap.size w0 w ∧ w0.heap.size ≤ Rb ∧ Rb < lo ∧ w0.heap.size ≤ lo ∧ N.length ≤ cap ∧ cap ≤ 9223372036854775807
theorem RR.result {w0 w : World} {Rb : Nat} {x y v a b c : Value} {lo g cap : Nat} {N : List (Int × Int)} (s : RR w0 w Rb [x, y, v] lo g cap N) : RR w0 (((w.setCell ⟨Rb, 0, none⟩ a).setCell ⟨Rb, 1, none⟩ b).setCell ⟨Rb, 2, none⟩ c) Rb [a, b, c] lo g cap N := by
  obtain ⟨s1, s2, s3, s4, s5, s6⟩ := s
  have k := (((Chg.refl [Rb] w).set (b := Rb) (Or.inl (by simp)) 0 a).set (b := Rb) (Or.inl (by simp)) 1 b).set (b := Rb) (Or.inl (by simp)) 2 c
  exact ⟨((s1.set 0 a).set 1 b).set 2 c, s2.chg k (by simp; omega), k.onto s3 s3.size (by simp; omega), s4, s5, s6⟩
/-- What a call of the document's purses gives back. -/
def RPost (w0 : World) (Mo q : Int) (N : List (Int × Int)) (v : Value) (w' : World) : Prop :=
  ∃ g c', v = .agg #[.int .i64 Mo, .int .i64 q, .slice (some ⟨g, 0, none⟩) N.length c'] ∧ RL w' w0.heap.size (some ⟨g, 0, none⟩) N ∧ Below w0.heap.size w0 w' ∧ N.length ≤ c' ∧ c' ≤ 9223372036854775807
theorem RR.post {w0 w : World} {Rb : Nat} {rc : List Value} {lo g cap : Nat} {N : List (Int × Int)} {Mo q : Int} {n9 : Nat} (s : RR w0 w Rb rc lo g cap N) (hn : N.length = n9) : RPost w0 Mo q N (.agg #[.int .i64 Mo, .int .i64 q, .slice (some ⟨g, 0, none⟩) n9 cap]) w := by
  obtain ⟨s1, s2, s3, s4, s5, s6, s7, s8⟩ := s
  subst hn
  exact ⟨g, cap, rfl, s2.down s6, s3, s7, s8⟩
/-- The box of the purses that were handed over, and the result's cells. -/
def BX (w0 w : World) (lo : Nat) (a : Option Addr) (M : List (Int × Int)) (bc : List Value) : Prop :=
  Blk w w0.heap.size bc 30 ∧ Blk w (w0.heap.size + 1) [.int .i64 0, .int .i64 0, .slice none 0 0] 30 ∧ RL w lo a M ∧ Below w0.heap.size w0 w
theorem BX.start {w0 : World} {lo : Nat} {a : Option Addr} {M : List (Int × Int)} (h : RL w0 lo a M) (bc : Array Value) : BX w0 ((w0.alloc (.cells bc 30)).alloc (.cells #[.int .i64 0, .int .i64 0, .slice none 0 0] 30)) lo a M bc.toList := by
  have k : Below w0.heap.size w0 ((w0.alloc (.cells bc 30)).alloc (.cells #[.int .i64 0, .int .i64 0, .slice none 0 0] 30)) := ((Below.refl _ _).alloc (Nat.le_refl _) _).alloc (by simp) _
  refine ⟨(Blk.newA w0 _ _).alloc _, ?_, h.fresh k, k⟩
  have h := Blk.newA (w0.alloc (.cells bc 30)) #[.int .i64 0, .int .i64 0, .slice none 0 0] 30
  rw [World.size_alloc] at h
  exact h
theorem BX.on {w0 w w' : World} {lo : Nat} {a : Option Addr} {M : List (Int × Int)} {bc : List Value} (s : BX w0 w lo a M bc) (k : Below w.heap.size w w') : BX w0 w' lo a M bc :=
  ⟨s.1.below k s.1.lt, s.2.1.below k s.2.1.lt, s.2.2.1.fresh k, s.2.2.2.trans (k.mono s.2.2.2.size)⟩
theorem BX.drew {w0 w : World} {lo : Nat} {a : Option Addr} {M : List (Int × Int)} {bc : List Value} (s : BX w0 w lo a M bc) : BX w0 w.drew lo a M bc := s.on (Below.refl _ _).drew
theorem BX.rr {w0 w w' : World} {lo : Nat} {a : Option Addr} {M N : List (Int × Int)} {bc : List Value} {g cap : Nat} (s : BX w0 w lo a M bc) (r : RL w' w.heap.size (some ⟨g, 0, none⟩) N) (k : Below w.heap.size w w') (h1 : N.length ≤ cap) (h2 : cap ≤ 9223372036854775807) : RR w0 w' (w0.heap.size + 1) [.int .i64 0, .int .i64 0, .slice none 0 0] w.heap.size g cap N := by
  have hl := s.2.1.lt
  exact ⟨s.2.1.below k s.2.1.lt, r, s.2.2.2.trans (k.mono s.2.2.2.size), by omega, hl, by omega, h1, h2⟩
set_option maxRecDepth 20000 in
set_option maxHeartbeats 4000000 in
theorem ref_clear (Mo q : Int) (lo : Nat) (a : Option Addr) (M : List (Int × Int)) (c : Nat) (id : Int) (w : World) (hl : M.length ≤ 1000) (hc : M.length ≤ c ∧ c ≤ 9223372036854775807) (h : RL w lo a M) :
    Calls Try.prog 37 #[.agg #[.int .i64 Mo, .int .i64 q, .slice a M.length c], .int .i64 id] w fun e w' => ∃ v, e = .returned v ∧ RPost w Mo q (lSet Mo M id 0) v w' := by
  obtain ⟨n, hn⟩ : ∃ n, M.length = n := ⟨_, rfl⟩
  have HN := Lib.hid hn
  obtain ⟨N9, hN9⟩ : ∃ N9, lSet Mo M id 0 = N9 := ⟨_, rfl⟩
  have H9 := Lib.hid hN9
  rw [hN9]
  obtain ⟨n9, hn9⟩ : ∃ n9, N9.length = n9 := ⟨_, rfl⟩
  have HN9 := Lib.hid hn9
  have hl' : Hid (M.length ≤ 1000 ∧ M.length ≤ c ∧ c ≤ 9223372036854775807) := Lib.hid ⟨hl, hc⟩
  rw [hn] at hl hc ⊢
  have HB0 := Lib.hid (BX.start h #[.int .i64 Mo, .int .i64 q, .slice a n c])
  clear hn h hN9 hn9
  go_enter Try.func37, Try.ntmps37
  go_upto_region 1 with fail
  revert HB0
  generalize (w.alloc (.cells #[.int .i64 Mo, .int .i64 q, .slice a n c] 30)).alloc (.cells #[.int .i64 0, .int .i64 0, .slice none 0 0] 30) = W
  intro HB0
  have b0 := HB0.out.1.cell (i := 0) rfl
  have b1 := HB0.out.1.cell (i := 1) rfl
  have b2 := HB0.out.1.cell (i := 2) rfl
  go_wp2_with (go_at_call 49; rw [← HN.out]; refine (ref_set Mo q lo a M c id 0 _ hl'.out.1 hl'.out.2 HB0.out.2.2.1).mono ?_; rintro e w2 ⟨g9, c9, rfl, k1, k2, k3, k4⟩; rw [H9.out] at k1 k3 ⊢; rw [HN9.out]; have HR2 := Lib.hid (HB0.out.rr k1 k2 k3 k4); have r0 := HR2.out.1.cell (i := 0) rfl; have r1 := HR2.out.1.cell (i := 1) rfl; have r2 := HR2.out.1.cell (i := 2) rfl; have f0 := HR2.out.1.free 0; have f1 := HR2.out.1.free 1; have f2 := HR2.out.1.free 2; clear k1 k2 k3 k4)
  have HS11 := Lib.hid (RR.result (a := .int .i64 Mo) (b := .int .i64 q) (c := .slice (some ⟨g9, 0, none⟩) n9 c9) HR2.out)
  clear r0 r1 r2 f0 f1 f2
  revert HS11
  generalize ((w2.setCell ⟨w.heap.size + 1, 0, none⟩ (.int .i64 Mo)).setCell ⟨w.heap.size + 1, 1, none⟩ (.int .i64 q)).setCell ⟨w.heap.size + 1, 2, none⟩ (.slice (some ⟨g9, 0, none⟩) n9 c9) = W11
  intro HS11
  have r0 := HS11.out.1.cell (i := 0) rfl
  have r1 := HS11.out.1.cell (i := 1) rfl
  have r2 := HS11.out.1.cell (i := 2) rfl
  refine bodyPost_ret (v := .agg #[.int .i64 Mo, .int .i64 q, .slice (some ⟨g9, 0, none⟩) n9 c9]) (by simp [results, Try.results37, go_sem, r0, r1, r2]) rfl ?_
  exact ⟨_, rfl, HS11.out.post HN9.out⟩
set_option maxRecDepth 20000 in
set_option maxHeartbeats 4000000 in
theorem ref_give (Mo q : Int) (lo : Nat) (a : Option Addr) (M : List (Int × Int)) (c : Nat) (id : Int) (w : World) (hl : M.length ≤ 1000) (hc : M.length ≤ c ∧ c ≤ 9223372036854775807) (h : RL w lo a M) (hq : 0 ≤ q ∧ q ≤ 1000000) (hb : 0 ≤ lHas M id ∧ lHas M id ≤ 2000000000) :
    Calls Try.prog 32 #[.agg #[.int .i64 Mo, .int .i64 q, .slice a M.length c], .int .i64 id] w fun e w' => ∃ v, e = .returned v ∧ RPost w Mo q (lSet Mo M id (lHas M id + q)) v w' := by
  obtain ⟨hv, hhv⟩ : ∃ hv, lHas M id = hv := ⟨_, rfl⟩
  have HHV := Lib.hid hhv
  rw [hhv] at hb ⊢
  clear hhv
  have s1 : IntKind.i64.wrap (hv + q) = hv + q := IntWalk.i64_in _ (by omega)
  obtain ⟨n, hn⟩ : ∃ n, M.length = n := ⟨_, rfl⟩
  have HN := Lib.hid hn
  obtain ⟨N9, hN9⟩ : ∃ N9, lSet Mo M id (hv + q) = N9 := ⟨_, rfl⟩
  have H9 := Lib.hid hN9
  rw [hN9]
  obtain ⟨n9, hn9⟩ : ∃ n9, N9.length = n9 := ⟨_, rfl⟩
  have HN9 := Lib.hid hn9
  have hl' : Hid (M.length ≤ 1000 ∧ M.length ≤ c ∧ c ≤ 9223372036854775807) := Lib.hid ⟨hl, hc⟩
  rw [hn] at hl hc ⊢
  have HB0 := Lib.hid (BX.start h #[.int .i64 Mo, .int .i64 q, .slice a n c])
  clear hn h hN9 hn9
  go_enter Try.func32, Try.ntmps32
  go_upto_region 1 with fail
  revert HB0
  generalize (w.alloc (.cells #[.int .i64 Mo, .int .i64 q, .slice a n c] 30)).alloc (.cells #[.int .i64 0, .int .i64 0, .slice none 0 0] 30) = W
  intro HB0
  have b0 := HB0.out.1.cell (i := 0) rfl
  have b1 := HB0.out.1.cell (i := 1) rfl
  have b2 := HB0.out.1.cell (i := 2) rfl
  go_region_with (first
    | (go_at_call 43; rw [← HN.out]; refine (ref_has Mo q lo a M c id _ (by have := hl'.out.1; omega) HB0.out.drew.2.2.1).mono ?_; rintro e w1 ⟨rfl, k1⟩; rw [HN.out, HHV.out]; have HB1 := Lib.hid (HB0.out.drew.on k1); clear k1; have d0 := HB1.out.1.cell (i := 0) rfl; have d1 := HB1.out.1.cell (i := 1) rfl; have d2 := HB1.out.1.cell (i := 2) rfl)
    | (go_at_call 49; rw [← HN.out]; refine (ref_set Mo q lo a M c id (hv + q) _ hl'.out.1 hl'.out.2 HB1.out.2.2.1).mono ?_; rintro e w2 ⟨g9, c9, rfl, k1, k2, k3, k4⟩; rw [H9.out] at k1 k3 ⊢; rw [HN9.out]; have HR2 := Lib.hid (HB1.out.rr k1 k2 k3 k4); have r0 := HR2.out.1.cell (i := 0) rfl; have r1 := HR2.out.1.cell (i := 1) rfl; have r2 := HR2.out.1.cell (i := 2) rfl; have f0 := HR2.out.1.free 0; have f1 := HR2.out.1.free 1; have f2 := HR2.out.1.free 2; clear k1 k2 k3 k4))
  all_goals
    go_wp2
    have HS11 := Lib.hid (RR.result (a := .int .i64 Mo) (b := .int .i64 q) (c := .slice (some ⟨g9, 0, none⟩) n9 c9) HR2.out)
    clear r0 r1 r2 f0 f1 f2
    revert HS11
    generalize ((w2.setCell ⟨w.heap.size + 1, 0, none⟩ (.int .i64 Mo)).setCell ⟨w.heap.size + 1, 1, none⟩ (.int .i64 q)).setCell ⟨w.heap.size + 1, 2, none⟩ (.slice (some ⟨g9, 0, none⟩) n9 c9) = W11
    intro HS11
    have r0 := HS11.out.1.cell (i := 0) rfl
    have r1 := HS11.out.1.cell (i := 1) rfl
    have r2 := HS11.out.1.cell (i := 2) rfl
    refine bodyPost_ret (v := .agg #[.int .i64 Mo, .int .i64 q, .slice (some ⟨g9, 0, none⟩) n9 c9]) (by simp [results, Try.results32, go_sem, r0, r1, r2]) rfl ?_
    exact ⟨_, rfl, HS11.out.post HN9.out⟩
end Go.Proofs.Yticdpcbmnahenaa
