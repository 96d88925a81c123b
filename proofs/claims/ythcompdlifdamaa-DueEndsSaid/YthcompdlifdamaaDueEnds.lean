/- P21.2, P21.3: for every deadlines and ticks: how a dialogue ends, whether it is woken, and which deadline is the first, are as the document's own answers say; who is over stays so. No condition. -/
import Derived.Test.YthcompdlifdamaaOpen
import Derived.WalkKit
import Derived.ProofKit
import Derived.OpenShut
import Derived.Test.YthcompdlifdamaaDueSame
import Derived.Deep.RegionHeld3
namespace Go.Proofs.Ythcompdlifdamaa.dueEnds
open Go.Joins Go.ChangeShapes Go.WideShapes Go.ChangeAt Go.RowKit Go.Deep
set_option linter.unusedSimpArgs false
set_option linter.unusedVariables false

section
variable {H : Type} {enc : TypeId × Value → H} {P : Program} {w : World} {base : Nat} {spare : Nat → Bool} {held : Bool}
theorem open_flat5 {r : Reach} {b0 : Nat} {t : TypeId} {f0 f1 f2 f3 f4 : Field} {v : Value} {d : DataW H} {p : List MemPlace} (hs : P.underlying t = some (.struct #[f0, f1, f2, f3, f4])) (hone : oneCellFields P #[f0, f1, f2, f3, f4] = true) (hC : P.cellsOf t = 5)
    (hv : Value.okWide P w r b0 t v) (h : DataW.Trod enc P w base spare held t v d p) :
    ∃ (v0 v1 v2 v3 v4 : Value) (y0 y1 y2 y3 y4 : DataW H × List MemPlace) (n : Nat), v = .agg #[v0, v1, v2, v3, v4] ∧ d = .agg [y0.1, y1.1, y2.1, y3.1, y4.1] ∧ True ∧
      DataW.trod enc P w base spare held n f0.type [v0] = some y0 ∧ DataW.trod enc P w base spare held n f1.type [v1] = some y1 ∧ DataW.trod enc P w base spare held n f2.type [v2] = some y2 ∧ DataW.trod enc P w base spare held n f3.type [v3] = some y3 ∧ DataW.trod enc P w base spare held n f4.type [v4] = some y4 := by
  obtain ⟨cs, rfl, hsz⟩ := okWide_struct hs hv
  obtain ⟨l⟩ := cs
  match l, hsz.trans hC with
  | [c0, c1, c2, c3, c4], _ =>
    obtain ⟨fuel, hf⟩ := h
    obtain ⟨xs, n, _, hx, _, hlen, hg⟩ := DataW.trod_struct hs hf
    obtain ⟨o0, k0⟩ := hone_of hone 0 f0 rfl
    obtain ⟨o1, k1⟩ := hone_of hone 1 f1 rfl
    obtain ⟨o2, k2⟩ := hone_of hone 2 f2 rfl
    obtain ⟨o3, k3⟩ := hone_of hone 3 f3 rfl
    obtain ⟨o4, k4⟩ := hone_of hone 4 f4 rfl
    match xs, hlen with
    | [y0, y1, y2, y3, y4], _ =>
      simp only [Prod.mk.injEq] at hx
      exact ⟨c0, c1, c2, c3, c4, y0, y1, y2, y3, y4, n, rfl, by simpa using hx.1, trivial, by simpa [Value.cells, o0, k0] using hg 0 f0 rfl, by simpa [Value.cells, o1, k1] using hg 1 f1 rfl, by simpa [Value.cells, o2, k2] using hg 2 f2 rfl, by simpa [Value.cells, o3, k3] using hg 3 f3 rfl, by simpa [Value.cells, o4, k4] using hg 4 f4 rfl⟩
end
def Ends (W W' : World) (b : Nat) (a0 a1 a2_From a2_Last a2_N a2_At a2_Now : Int) : Prop := Below (b + 3) W W' ∧ W'.cell? ⟨b, 0, none⟩ = some (.int .i64 a2_From) ∧ W'.cell? ⟨b, 1, none⟩ = some (.int .i64 a2_Last) ∧ W'.cell? ⟨b, 2, none⟩ = some (.int .i64 a2_N) ∧ W'.cell? ⟨b, 3, none⟩ = some (.int .i64 a2_At) ∧ W'.cell? ⟨b, 4, none⟩ = some (.int .i64 a2_Now) ∧ W'.cell? ⟨b + 1, 0, none⟩ = some (.int .i64 a0) ∧ W'.cell? ⟨b + 1, 1, none⟩ = some (.int .i64 a1) ∧ W'.cell? ⟨b + 1, 2, none⟩ = some (.int .i64 a2_At) ∧ W'.cell? ⟨b + 1 + 1, 0, none⟩ = some (.int .i64 a0) ∧ W'.cell? ⟨b + 1 + 1, 1, none⟩ = some (.int .i64 a1) ∧ W'.cell? ⟨b + 1 + 1, 2, none⟩ = some (.int .i64 a2_At)
def EndsAt (W : World) (b : Nat) (a0 a1 a2_From a2_Last a2_N a2_At a2_Now : Int) : Prop := W.cell? ⟨b, 0, none⟩ = some (.int .i64 a2_From) ∧ W.cell? ⟨b, 1, none⟩ = some (.int .i64 a2_Last) ∧ W.cell? ⟨b, 2, none⟩ = some (.int .i64 a2_N) ∧ W.cell? ⟨b, 3, none⟩ = some (.int .i64 a2_At) ∧ W.cell? ⟨b, 4, none⟩ = some (.int .i64 a2_Now) ∧ W.cell? ⟨b + 1, 0, none⟩ = some (.int .i64 a0) ∧ W.cell? ⟨b + 1, 1, none⟩ = some (.int .i64 a1) ∧ W.cell? ⟨b + 1, 2, none⟩ = some (.int .i64 a2_At) ∧ W.cell? ⟨b + 1 + 1, 0, none⟩ = some (.int .i64 a0) ∧ W.cell? ⟨b + 1 + 1, 1, none⟩ = some (.int .i64 a1) ∧ W.cell? ⟨b + 1 + 1, 2, none⟩ = some (.int .i64 a2_At)
theorem ends_S {W W' : World} {b : Nat} {a0 a1 a2_From a2_Last a2_N a2_At a2_Now : Int} (h : EndsAt W b a0 a1 a2_From a2_Last a2_N a2_At a2_Now) (_ : True ∨ b = b) (hb : Below (b + 3) W W') : Ends W W' b a0 a1 a2_From a2_Last a2_N a2_At a2_Now := by
  obtain ⟨h0, h1, h2, h3, h4, h5, h6, h7, h8, h9, h10⟩ := h
  exact ⟨hb, (hb.cell (by simp)).trans h0, (hb.cell (by simp)).trans h1, (hb.cell (by simp)).trans h2, (hb.cell (by simp)).trans h3, (hb.cell (by simp)).trans h4, (hb.cell (by simp)).trans h5, (hb.cell (by simp)).trans h6, (hb.cell (by simp)).trans h7, (hb.cell (by simp)).trans h8, (hb.cell (by simp)).trans h9, (hb.cell (by simp)).trans h10⟩
theorem over_as (u l c n m : Int) (b : Bool) (hm : Du.over l c n = m) (hb : decide (0 < m) = b) (hu : u ≤ 9223372036854775807) (hl : l ≤ 9223372036854775807) (hc : c ≤ 9223372036854775807) (hn : n ≤ 9223372036854775807) (w : World) :
    Calls Try.prog 15 #[.agg #[.int .i64 u, .int .i64 l, .int .i64 c], .int .i64 n] w fun e w' => e = .returned (.tuple #[.int .i64 m, .bool b]) ∧ Below w.heap.size w w' := by
  subst hm hb; exact over_any u l c n hu hl hc hn w
theorem rover_as (u l c n m : Int) (hm : Du.over l c n = m) (hu : u ≤ 9223372036854775807) (hl : l ≤ 9223372036854775807) (hc : c ≤ 9223372036854775807) (hn : n ≤ 9223372036854775807) (w : World) :
    Calls Try.prog 17 #[.agg #[.int .i64 u, .int .i64 l, .int .i64 c], .int .i64 n] w fun e w' => e = .returned (.int .i64 m) ∧ Below w.heap.size w w' := by
  subst hm; exact rover_any u l c n hu hl hc hn w
theorem woken_as (u l c n : Int) (b : Bool) (hb : Tk.dueB u n = b) (hu : u ≤ 9223372036854775807) (hn : n ≤ 9223372036854775807) (w : World) :
    Calls Try.prog 16 #[.agg #[.int .i64 u, .int .i64 l, .int .i64 c], .int .i64 n] w fun e w' => e = .returned (.bool b) ∧ Below w.heap.size w w' := by
  subst hb; exact woken_any u l c n hu hn w
theorem rdue_as (u n : Int) (b : Bool) (hb : Tk.dueB u n = b) (hu : u ≤ 9223372036854775807) (hn : n ≤ 9223372036854775807) (w : World) :
    Calls Try.prog 18 #[.int .i64 u, .int .i64 n] w fun e w' => e = .returned (.bool b) ∧ w = w' := by
  subst hb; exact rdue_any u n hu hn w
set_option maxHeartbeats 1000000 in
theorem leaf0 (a0 a1 a2_From a2_Last a2_N a2_At a2_Now m m2 : Int) (st : Bool) (w : World) (b0 : a0 ≤ 9223372036854775807) (b1 : a1 ≤ 9223372036854775807) (bA : a2_At ≤ 9223372036854775807) (bN : a2_Now ≤ 9223372036854775807) (bn : a2_N ≤ 9223372036854775807)
    (HM : Hid (Du.over a1 a2_At a2_Now = m)) (HOV : Hid (decide (0 < m) = true)) (hov : 0 < m) (HWK : Hid (Tk.dueB a0 a2_Now = true)) (HLB : Hid (Tk.dueB (Tk.least [a0, a1, a2_At]) a2_Now = true)) (HM2 : Hid (Du.over a1 a2_At (Tk.add a2_Now a2_N) = m)) (HST : Hid (decide (0 < m) = true)) :
    Calls Try.prog 4 #[.int .i64 a0, .int .i64 a1, .agg #[.int .i64 a2_From, .int .i64 a2_Last, .int .i64 a2_N, .int .i64 a2_At, .int .i64 a2_Now]] w fun e w' => e = .returned (.bool true) ∧ Below w.heap.size w w' := by
  have lb := Tk.least_bd [a0, a1, a2_At]
  have ab := Tk.add_le a2_Now a2_N
  go_enter Try.func4, Try.ntmps4
  go_wp2
  go_region_held3 (fun w' => w'.cell? ⟨w.heap.size, 0, none⟩ = some (.int .i64 a2_From) ∧ w'.cell? ⟨w.heap.size, 1, none⟩ = some (.int .i64 a2_Last) ∧ w'.cell? ⟨w.heap.size, 2, none⟩ = some (.int .i64 a2_N) ∧ w'.cell? ⟨w.heap.size, 3, none⟩ = some (.int .i64 a2_At) ∧ w'.cell? ⟨w.heap.size, 4, none⟩ = some (.int .i64 a2_Now)) (go_keep) (fail)
  all_goals
    go_wp2_with fail
    refine (over_as _ _ _ _ _ _ HM.out HOV.out (by omega) (by omega) (by omega) (by omega) _).mono ?_
    rintro e w1 ⟨rfl, hb⟩
    have HC1 : Hid (EndsAt w1 w.heap.size a0 a1 a2_From a2_Last a2_N a2_At a2_Now) := by
      refine Lib.hid ⟨?_, ?_, ?_, ?_, ?_, ?_, ?_, ?_, ?_, ?_, ?_⟩
      all_goals (rw [hb.cell (by simp; try omega)]; simp [go_sem])
    have HB1 : Hid (Below w.heap.size w w1) := Lib.hid (below_via (Nat.le_refl _) (by go_grown) hb)
    have hs1 : w.heap.size + 3 ≤ w1.heap.size := by have := hb.size; simp at this; omega
    clear hb
    obtain ⟨h0, h1, h2, h3, h4, h5, h6, h7, h8, h9, h10⟩ := HC1.out
    go_wp2_with (go_at_call 16; refine (woken_as _ _ _ _ _ HWK.out (by omega) (by omega) _).mono ?_; rintro e w2 ⟨rfl, hb⟩)
    have HC : Hid (EndsAt w2 w.heap.size a0 a1 a2_From a2_Last a2_N a2_At a2_Now) := by
      refine Lib.hid ⟨?_, ?_, ?_, ?_, ?_, ?_, ?_, ?_, ?_, ?_, ?_⟩
      all_goals (rw [hb.cell (by simp; try omega)]; assumption)
    have HB : Hid (Below w.heap.size w w2) := Lib.hid (below_via (Nat.le_refl _) HB1.out hb)
    have hs : w.heap.size + 3 ≤ w2.heap.size := by have := hb.size; omega
    clear h0 h1 h2 h3 h4 h5 h6 h7 h8 h9 h10 hb HC1 HB1 hs1
    refine wp_region_class (fun w' => Below (w.heap.size + 3) w2 w' ∧ w'.cell? ⟨w.heap.size, 0, none⟩ = some (.int .i64 a2_From) ∧ w'.cell? ⟨w.heap.size, 1, none⟩ = some (.int .i64 a2_Last) ∧ w'.cell? ⟨w.heap.size, 2, none⟩ = some (.int .i64 a2_N) ∧ w'.cell? ⟨w.heap.size, 3, none⟩ = some (.int .i64 a2_At) ∧ w'.cell? ⟨w.heap.size, 4, none⟩ = some (.int .i64 a2_Now) ∧ w'.cell? ⟨w.heap.size + 1, 0, none⟩ = some (.int .i64 a0) ∧ w'.cell? ⟨w.heap.size + 1, 1, none⟩ = some (.int .i64 a1) ∧ w'.cell? ⟨w.heap.size + 1, 2, none⟩ = some (.int .i64 a2_At) ∧ w'.cell? ⟨w.heap.size + 1 + 1, 0, none⟩ = some (.int .i64 a0) ∧ w'.cell? ⟨w.heap.size + 1 + 1, 1, none⟩ = some (.int .i64 a1) ∧ w'.cell? ⟨w.heap.size + 1 + 1, 2, none⟩ = some (.int .i64 a2_At)) (by kernel_rfl) (by kernel_rfl) (ends_S HC.out (by omega) (Below.refl _ _).drew) ?_
    repeat (first
        | go_big_quiet_skip
        | (go_big_quiet_want
           unfold Oper.quiet
           apply Exists.intro
           refine ⟨fun wq hwq => ?_, ?_⟩
           · (obtain ⟨hbq, c0, c1, c2, c3, c4, c5, c6, c7, c8, c9, c10⟩ := hwq
              unfold Oper.quietAt
              go_simp
              first
                | exact ⟨rfl, rfl⟩
                | exact rfl
                | (go_at_call 15; (with_reducible refine (over_as _ _ _ _ _ _ HM2.out HST.out (by omega) (by omega) (by omega) (by omega) _).mono ?_); rintro e w3 ⟨he, hb2⟩; exact ⟨he, ends_S HC.out (by omega) (below_via hs hbq hb2)⟩)
                | (go_at_call 17; (with_reducible refine (rover_as _ _ _ _ _ HM.out (by omega) (by omega) (by omega) (by omega) _).mono ?_); rintro e w3 ⟨he, hb2⟩; exact ⟨he, ends_S HC.out (by omega) (below_via hs hbq hb2)⟩)
                | (go_at_call 18; (with_reducible refine (rdue_as _ _ _ HWK.out (by omega) (by omega) _).mono ?_); rintro e w3 ⟨he, rfl⟩; exact ⟨he, ends_S HC.out (by omega) hbq⟩)
                | (go_at_call 18; (with_reducible refine (rdue_as _ _ _ HLB.out (by omega) (by omega) _).mono ?_); rintro e w3 ⟨he, rfl⟩; exact ⟨he, ends_S HC.out (by omega) hbq⟩)
                | (go_at_call 21; refine (radd_any _ _ (by omega) (by omega) _).mono ?_; rintro e w3 ⟨he, rfl⟩; exact ⟨he, ends_S HC.out (by omega) hbq⟩)
                | (go_at_call 19; refine (first_any _ _ _ (by omega) (by omega) (by omega) _).mono ?_; rintro e w3 ⟨he, hb2⟩; exact ⟨he, ends_S HC.out (by omega) (below_via hs hbq hb2)⟩)
                | (go_at_call 20; refine (rfirst_any _ _ _ (by omega) (by omega) (by omega) _).mono ?_; rintro e w3 ⟨he, hb2⟩; exact ⟨he, ends_S HC.out (by omega) (below_via hs hbq hb2)⟩))
           simp only [Act.put, List.setIfInBounds_toArray, List.set_cons_zero, List.set_cons_succ]
           go_big_quiet_on))
    refine wpQuiet_nil ?_
    intro w4 hw4
    obtain ⟨hb4, h0, h1, h2, h3, h4, h5, h6, h7, h8, h9, h10⟩ := hw4
    go_wp2_with fail
    refine wp_region_class (fun w' => Below (w.heap.size + 3) w2 w' ∧ w'.cell? ⟨w.heap.size, 0, none⟩ = some (.int .i64 a2_From) ∧ w'.cell? ⟨w.heap.size, 1, none⟩ = some (.int .i64 a2_Last) ∧ w'.cell? ⟨w.heap.size, 2, none⟩ = some (.int .i64 a2_N) ∧ w'.cell? ⟨w.heap.size, 3, none⟩ = some (.int .i64 a2_At) ∧ w'.cell? ⟨w.heap.size, 4, none⟩ = some (.int .i64 a2_Now) ∧ w'.cell? ⟨w.heap.size + 1, 0, none⟩ = some (.int .i64 a0) ∧ w'.cell? ⟨w.heap.size + 1, 1, none⟩ = some (.int .i64 a1) ∧ w'.cell? ⟨w.heap.size + 1, 2, none⟩ = some (.int .i64 a2_At) ∧ w'.cell? ⟨w.heap.size + 1 + 1, 0, none⟩ = some (.int .i64 a0) ∧ w'.cell? ⟨w.heap.size + 1 + 1, 1, none⟩ = some (.int .i64 a1) ∧ w'.cell? ⟨w.heap.size + 1 + 1, 2, none⟩ = some (.int .i64 a2_At)) (by kernel_rfl) (by kernel_rfl) (ends_S HC.out (by omega) hb4.drew) ?_
    clear h0 h1 h2 h3 h4 h5 h6 h7 h8 h9 h10 hb4
    repeat (first
        | go_big_quiet_skip
        | (go_big_quiet_want
           unfold Oper.quiet
           apply Exists.intro
           refine ⟨fun wq hwq => ?_, ?_⟩
           · (obtain ⟨hbq, c0, c1, c2, c3, c4, c5, c6, c7, c8, c9, c10⟩ := hwq
              unfold Oper.quietAt
              go_simp
              first
                | exact ⟨rfl, rfl⟩
                | exact rfl
                | (go_at_call 15; (with_reducible refine (over_as _ _ _ _ _ _ HM2.out HST.out (by omega) (by omega) (by omega) (by omega) _).mono ?_); rintro e w3 ⟨he, hb2⟩; exact ⟨he, ends_S HC.out (by omega) (below_via hs hbq hb2)⟩)
                | (go_at_call 17; (with_reducible refine (rover_as _ _ _ _ _ HM.out (by omega) (by omega) (by omega) (by omega) _).mono ?_); rintro e w3 ⟨he, hb2⟩; exact ⟨he, ends_S HC.out (by omega) (below_via hs hbq hb2)⟩)
                | (go_at_call 18; (with_reducible refine (rdue_as _ _ _ HWK.out (by omega) (by omega) _).mono ?_); rintro e w3 ⟨he, rfl⟩; exact ⟨he, ends_S HC.out (by omega) hbq⟩)
                | (go_at_call 18; (with_reducible refine (rdue_as _ _ _ HLB.out (by omega) (by omega) _).mono ?_); rintro e w3 ⟨he, rfl⟩; exact ⟨he, ends_S HC.out (by omega) hbq⟩)
                | (go_at_call 21; refine (radd_any _ _ (by omega) (by omega) _).mono ?_; rintro e w3 ⟨he, rfl⟩; exact ⟨he, ends_S HC.out (by omega) hbq⟩)
                | (go_at_call 19; refine (first_any _ _ _ (by omega) (by omega) (by omega) _).mono ?_; rintro e w3 ⟨he, hb2⟩; exact ⟨he, ends_S HC.out (by omega) (below_via hs hbq hb2)⟩)
                | (go_at_call 20; refine (rfirst_any _ _ _ (by omega) (by omega) (by omega) _).mono ?_; rintro e w3 ⟨he, hb2⟩; exact ⟨he, ends_S HC.out (by omega) (below_via hs hbq hb2)⟩))
           simp only [Act.put, List.setIfInBounds_toArray, List.set_cons_zero, List.set_cons_succ]
           go_big_quiet_on))
    refine wpQuiet_nil ?_
    intro w6 hw6
    obtain ⟨hb6, h0, h1, h2, h3, h4, h5, h6, h7, h8, h9, h10⟩ := hw6
    go_wp2_with (go_at_call 14; refine (lives_any _).mono ?_; rintro e w7 ⟨rfl, hb7⟩)
    go_ret
    exact ⟨rfl, HB.out.trans (below_via (by omega) (hb6.mono (by omega)) hb7)⟩
set_option maxHeartbeats 1000000 in
theorem leaf1 (a0 a1 a2_From a2_Last a2_N a2_At a2_Now m m2 : Int) (st : Bool) (w : World) (b0 : a0 ≤ 9223372036854775807) (b1 : a1 ≤ 9223372036854775807) (bA : a2_At ≤ 9223372036854775807) (bN : a2_Now ≤ 9223372036854775807) (bn : a2_N ≤ 9223372036854775807)
    (HM : Hid (Du.over a1 a2_At a2_Now = m)) (HOV : Hid (decide (0 < m) = true)) (hov : 0 < m) (HWK : Hid (Tk.dueB a0 a2_Now = false)) (HLB : Hid (Tk.dueB (Tk.least [a0, a1, a2_At]) a2_Now = true)) (HM2 : Hid (Du.over a1 a2_At (Tk.add a2_Now a2_N) = m)) (HST : Hid (decide (0 < m) = true)) :
    Calls Try.prog 4 #[.int .i64 a0, .int .i64 a1, .agg #[.int .i64 a2_From, .int .i64 a2_Last, .int .i64 a2_N, .int .i64 a2_At, .int .i64 a2_Now]] w fun e w' => e = .returned (.bool true) ∧ Below w.heap.size w w' := by
  have lb := Tk.least_bd [a0, a1, a2_At]
  have ab := Tk.add_le a2_Now a2_N
  go_enter Try.func4, Try.ntmps4
  go_wp2
  go_region_held3 (fun w' => w'.cell? ⟨w.heap.size, 0, none⟩ = some (.int .i64 a2_From) ∧ w'.cell? ⟨w.heap.size, 1, none⟩ = some (.int .i64 a2_Last) ∧ w'.cell? ⟨w.heap.size, 2, none⟩ = some (.int .i64 a2_N) ∧ w'.cell? ⟨w.heap.size, 3, none⟩ = some (.int .i64 a2_At) ∧ w'.cell? ⟨w.heap.size, 4, none⟩ = some (.int .i64 a2_Now)) (go_keep) (fail)
  all_goals
    go_wp2_with fail
    refine (over_as _ _ _ _ _ _ HM.out HOV.out (by omega) (by omega) (by omega) (by omega) _).mono ?_
    rintro e w1 ⟨rfl, hb⟩
    have HC1 : Hid (EndsAt w1 w.heap.size a0 a1 a2_From a2_Last a2_N a2_At a2_Now) := by
      refine Lib.hid ⟨?_, ?_, ?_, ?_, ?_, ?_, ?_, ?_, ?_, ?_, ?_⟩
      all_goals (rw [hb.cell (by simp; try omega)]; simp [go_sem])
    have HB1 : Hid (Below w.heap.size w w1) := Lib.hid (below_via (Nat.le_refl _) (by go_grown) hb)
    have hs1 : w.heap.size + 3 ≤ w1.heap.size := by have := hb.size; simp at this; omega
    clear hb
    obtain ⟨h0, h1, h2, h3, h4, h5, h6, h7, h8, h9, h10⟩ := HC1.out
    go_wp2_with (go_at_call 16; refine (woken_as _ _ _ _ _ HWK.out (by omega) (by omega) _).mono ?_; rintro e w2 ⟨rfl, hb⟩)
    have HC : Hid (EndsAt w2 w.heap.size a0 a1 a2_From a2_Last a2_N a2_At a2_Now) := by
      refine Lib.hid ⟨?_, ?_, ?_, ?_, ?_, ?_, ?_, ?_, ?_, ?_, ?_⟩
      all_goals (rw [hb.cell (by simp; try omega)]; assumption)
    have HB : Hid (Below w.heap.size w w2) := Lib.hid (below_via (Nat.le_refl _) HB1.out hb)
    have hs : w.heap.size + 3 ≤ w2.heap.size := by have := hb.size; omega
    clear h0 h1 h2 h3 h4 h5 h6 h7 h8 h9 h10 hb HC1 HB1 hs1
    refine wp_region_class (fun w' => Below (w.heap.size + 3) w2 w' ∧ w'.cell? ⟨w.heap.size, 0, none⟩ = some (.int .i64 a2_From) ∧ w'.cell? ⟨w.heap.size, 1, none⟩ = some (.int .i64 a2_Last) ∧ w'.cell? ⟨w.heap.size, 2, none⟩ = some (.int .i64 a2_N) ∧ w'.cell? ⟨w.heap.size, 3, none⟩ = some (.int .i64 a2_At) ∧ w'.cell? ⟨w.heap.size, 4, none⟩ = some (.int .i64 a2_Now) ∧ w'.cell? ⟨w.heap.size + 1, 0, none⟩ = some (.int .i64 a0) ∧ w'.cell? ⟨w.heap.size + 1, 1, none⟩ = some (.int .i64 a1) ∧ w'.cell? ⟨w.heap.size + 1, 2, none⟩ = some (.int .i64 a2_At) ∧ w'.cell? ⟨w.heap.size + 1 + 1, 0, none⟩ = some (.int .i64 a0) ∧ w'.cell? ⟨w.heap.size + 1 + 1, 1, none⟩ = some (.int .i64 a1) ∧ w'.cell? ⟨w.heap.size + 1 + 1, 2, none⟩ = some (.int .i64 a2_At)) (by kernel_rfl) (by kernel_rfl) (ends_S HC.out (by omega) (Below.refl _ _).drew) ?_
    repeat (first
        | go_big_quiet_skip
        | (go_big_quiet_want
           unfold Oper.quiet
           apply Exists.intro
           refine ⟨fun wq hwq => ?_, ?_⟩
           · (obtain ⟨hbq, c0, c1, c2, c3, c4, c5, c6, c7, c8, c9, c10⟩ := hwq
              unfold Oper.quietAt
              go_simp
              first
                | exact ⟨rfl, rfl⟩
                | exact rfl
                | (go_at_call 15; (with_reducible refine (over_as _ _ _ _ _ _ HM2.out HST.out (by omega) (by omega) (by omega) (by omega) _).mono ?_); rintro e w3 ⟨he, hb2⟩; exact ⟨he, ends_S HC.out (by omega) (below_via hs hbq hb2)⟩)
                | (go_at_call 17; (with_reducible refine (rover_as _ _ _ _ _ HM.out (by omega) (by omega) (by omega) (by omega) _).mono ?_); rintro e w3 ⟨he, hb2⟩; exact ⟨he, ends_S HC.out (by omega) (below_via hs hbq hb2)⟩)
                | (go_at_call 18; (with_reducible refine (rdue_as _ _ _ HWK.out (by omega) (by omega) _).mono ?_); rintro e w3 ⟨he, rfl⟩; exact ⟨he, ends_S HC.out (by omega) hbq⟩)
                | (go_at_call 18; (with_reducible refine (rdue_as _ _ _ HLB.out (by omega) (by omega) _).mono ?_); rintro e w3 ⟨he, rfl⟩; exact ⟨he, ends_S HC.out (by omega) hbq⟩)
                | (go_at_call 21; refine (radd_any _ _ (by omega) (by omega) _).mono ?_; rintro e w3 ⟨he, rfl⟩; exact ⟨he, ends_S HC.out (by omega) hbq⟩)
                | (go_at_call 19; refine (first_any _ _ _ (by omega) (by omega) (by omega) _).mono ?_; rintro e w3 ⟨he, hb2⟩; exact ⟨he, ends_S HC.out (by omega) (below_via hs hbq hb2)⟩)
                | (go_at_call 20; refine (rfirst_any _ _ _ (by omega) (by omega) (by omega) _).mono ?_; rintro e w3 ⟨he, hb2⟩; exact ⟨he, ends_S HC.out (by omega) (below_via hs hbq hb2)⟩))
           simp only [Act.put, List.setIfInBounds_toArray, List.set_cons_zero, List.set_cons_succ]
           go_big_quiet_on))
    refine wpQuiet_nil ?_
    intro w4 hw4
    obtain ⟨hb4, h0, h1, h2, h3, h4, h5, h6, h7, h8, h9, h10⟩ := hw4
    go_wp2_with fail
    refine wp_region_class (fun w' => Below (w.heap.size + 3) w2 w' ∧ w'.cell? ⟨w.heap.size, 0, none⟩ = some (.int .i64 a2_From) ∧ w'.cell? ⟨w.heap.size, 1, none⟩ = some (.int .i64 a2_Last) ∧ w'.cell? ⟨w.heap.size, 2, none⟩ = some (.int .i64 a2_N) ∧ w'.cell? ⟨w.heap.size, 3, none⟩ = some (.int .i64 a2_At) ∧ w'.cell? ⟨w.heap.size, 4, none⟩ = some (.int .i64 a2_Now) ∧ w'.cell? ⟨w.heap.size + 1, 0, none⟩ = some (.int .i64 a0) ∧ w'.cell? ⟨w.heap.size + 1, 1, none⟩ = some (.int .i64 a1) ∧ w'.cell? ⟨w.heap.size + 1, 2, none⟩ = some (.int .i64 a2_At) ∧ w'.cell? ⟨w.heap.size + 1 + 1, 0, none⟩ = some (.int .i64 a0) ∧ w'.cell? ⟨w.heap.size + 1 + 1, 1, none⟩ = some (.int .i64 a1) ∧ w'.cell? ⟨w.heap.size + 1 + 1, 2, none⟩ = some (.int .i64 a2_At)) (by kernel_rfl) (by kernel_rfl) (ends_S HC.out (by omega) hb4.drew) ?_
    clear h0 h1 h2 h3 h4 h5 h6 h7 h8 h9 h10 hb4
    repeat (first
        | go_big_quiet_skip
        | (go_big_quiet_want
           unfold Oper.quiet
           apply Exists.intro
           refine ⟨fun wq hwq => ?_, ?_⟩
           · (obtain ⟨hbq, c0, c1, c2, c3, c4, c5, c6, c7, c8, c9, c10⟩ := hwq
              unfold Oper.quietAt
              go_simp
              first
                | exact ⟨rfl, rfl⟩
                | exact rfl
                | (go_at_call 15; (with_reducible refine (over_as _ _ _ _ _ _ HM2.out HST.out (by omega) (by omega) (by omega) (by omega) _).mono ?_); rintro e w3 ⟨he, hb2⟩; exact ⟨he, ends_S HC.out (by omega) (below_via hs hbq hb2)⟩)
                | (go_at_call 17; (with_reducible refine (rover_as _ _ _ _ _ HM.out (by omega) (by omega) (by omega) (by omega) _).mono ?_); rintro e w3 ⟨he, hb2⟩; exact ⟨he, ends_S HC.out (by omega) (below_via hs hbq hb2)⟩)
                | (go_at_call 18; (with_reducible refine (rdue_as _ _ _ HWK.out (by omega) (by omega) _).mono ?_); rintro e w3 ⟨he, rfl⟩; exact ⟨he, ends_S HC.out (by omega) hbq⟩)
                | (go_at_call 18; (with_reducible refine (rdue_as _ _ _ HLB.out (by omega) (by omega) _).mono ?_); rintro e w3 ⟨he, rfl⟩; exact ⟨he, ends_S HC.out (by omega) hbq⟩)
                | (go_at_call 21; refine (radd_any _ _ (by omega) (by omega) _).mono ?_; rintro e w3 ⟨he, rfl⟩; exact ⟨he, ends_S HC.out (by omega) hbq⟩)
                | (go_at_call 19; refine (first_any _ _ _ (by omega) (by omega) (by omega) _).mono ?_; rintro e w3 ⟨he, hb2⟩; exact ⟨he, ends_S HC.out (by omega) (below_via hs hbq hb2)⟩)
                | (go_at_call 20; refine (rfirst_any _ _ _ (by omega) (by omega) (by omega) _).mono ?_; rintro e w3 ⟨he, hb2⟩; exact ⟨he, ends_S HC.out (by omega) (below_via hs hbq hb2)⟩))
           simp only [Act.put, List.setIfInBounds_toArray, List.set_cons_zero, List.set_cons_succ]
           go_big_quiet_on))
    refine wpQuiet_nil ?_
    intro w6 hw6
    obtain ⟨hb6, h0, h1, h2, h3, h4, h5, h6, h7, h8, h9, h10⟩ := hw6
    go_wp2_with (go_at_call 14; refine (lives_any _).mono ?_; rintro e w7 ⟨rfl, hb7⟩)
    go_ret
    exact ⟨rfl, HB.out.trans (below_via (by omega) (hb6.mono (by omega)) hb7)⟩
set_option maxHeartbeats 1000000 in
theorem leaf2 (a0 a1 a2_From a2_Last a2_N a2_At a2_Now m m2 : Int) (st : Bool) (w : World) (b0 : a0 ≤ 9223372036854775807) (b1 : a1 ≤ 9223372036854775807) (bA : a2_At ≤ 9223372036854775807) (bN : a2_Now ≤ 9223372036854775807) (bn : a2_N ≤ 9223372036854775807)
    (HM : Hid (Du.over a1 a2_At a2_Now = m)) (HOV : Hid (decide (0 < m) = false)) (hov : decide (0 < m) = false) (HWK : Hid (Tk.dueB a0 a2_Now = true)) (HLB : Hid (Tk.dueB (Tk.least [a0, a1, a2_At]) a2_Now = true)) (HM2 : Hid (Du.over a1 a2_At (Tk.add a2_Now a2_N) = m2)) (HST : Hid (decide (0 < m2) = st)) :
    Calls Try.prog 4 #[.int .i64 a0, .int .i64 a1, .agg #[.int .i64 a2_From, .int .i64 a2_Last, .int .i64 a2_N, .int .i64 a2_At, .int .i64 a2_Now]] w fun e w' => e = .returned (.bool true) ∧ Below w.heap.size w w' := by
  have lb := Tk.least_bd [a0, a1, a2_At]
  have ab := Tk.add_le a2_Now a2_N
  go_enter Try.func4, Try.ntmps4
  go_wp2
  go_region_held3 (fun w' => w'.cell? ⟨w.heap.size, 0, none⟩ = some (.int .i64 a2_From) ∧ w'.cell? ⟨w.heap.size, 1, none⟩ = some (.int .i64 a2_Last) ∧ w'.cell? ⟨w.heap.size, 2, none⟩ = some (.int .i64 a2_N) ∧ w'.cell? ⟨w.heap.size, 3, none⟩ = some (.int .i64 a2_At) ∧ w'.cell? ⟨w.heap.size, 4, none⟩ = some (.int .i64 a2_Now)) (go_keep) (fail)
  all_goals
    go_wp2_with fail
    refine (over_as _ _ _ _ _ _ HM.out HOV.out (by omega) (by omega) (by omega) (by omega) _).mono ?_
    rintro e w1 ⟨rfl, hb⟩
    have HC1 : Hid (EndsAt w1 w.heap.size a0 a1 a2_From a2_Last a2_N a2_At a2_Now) := by
      refine Lib.hid ⟨?_, ?_, ?_, ?_, ?_, ?_, ?_, ?_, ?_, ?_, ?_⟩
      all_goals (rw [hb.cell (by simp; try omega)]; simp [go_sem])
    have HB1 : Hid (Below w.heap.size w w1) := Lib.hid (below_via (Nat.le_refl _) (by go_grown) hb)
    have hs1 : w.heap.size + 3 ≤ w1.heap.size := by have := hb.size; simp at this; omega
    clear hb
    obtain ⟨h0, h1, h2, h3, h4, h5, h6, h7, h8, h9, h10⟩ := HC1.out
    go_wp2_with (go_at_call 16; refine (woken_as _ _ _ _ _ HWK.out (by omega) (by omega) _).mono ?_; rintro e w2 ⟨rfl, hb⟩)
    have HC : Hid (EndsAt w2 w.heap.size a0 a1 a2_From a2_Last a2_N a2_At a2_Now) := by
      refine Lib.hid ⟨?_, ?_, ?_, ?_, ?_, ?_, ?_, ?_, ?_, ?_, ?_⟩
      all_goals (rw [hb.cell (by simp; try omega)]; assumption)
    have HB : Hid (Below w.heap.size w w2) := Lib.hid (below_via (Nat.le_refl _) HB1.out hb)
    have hs : w.heap.size + 3 ≤ w2.heap.size := by have := hb.size; omega
    clear h0 h1 h2 h3 h4 h5 h6 h7 h8 h9 h10 hb HC1 HB1 hs1
    refine wp_region_class (fun w' => Below (w.heap.size + 3) w2 w' ∧ w'.cell? ⟨w.heap.size, 0, none⟩ = some (.int .i64 a2_From) ∧ w'.cell? ⟨w.heap.size, 1, none⟩ = some (.int .i64 a2_Last) ∧ w'.cell? ⟨w.heap.size, 2, none⟩ = some (.int .i64 a2_N) ∧ w'.cell? ⟨w.heap.size, 3, none⟩ = some (.int .i64 a2_At) ∧ w'.cell? ⟨w.heap.size, 4, none⟩ = some (.int .i64 a2_Now) ∧ w'.cell? ⟨w.heap.size + 1, 0, none⟩ = some (.int .i64 a0) ∧ w'.cell? ⟨w.heap.size + 1, 1, none⟩ = some (.int .i64 a1) ∧ w'.cell? ⟨w.heap.size + 1, 2, none⟩ = some (.int .i64 a2_At) ∧ w'.cell? ⟨w.heap.size + 1 + 1, 0, none⟩ = some (.int .i64 a0) ∧ w'.cell? ⟨w.heap.size + 1 + 1, 1, none⟩ = some (.int .i64 a1) ∧ w'.cell? ⟨w.heap.size + 1 + 1, 2, none⟩ = some (.int .i64 a2_At)) (by kernel_rfl) (by kernel_rfl) (ends_S HC.out (by omega) (Below.refl _ _).drew) ?_
    repeat (first
        | go_big_quiet_skip
        | (go_big_quiet_want
           unfold Oper.quiet
           apply Exists.intro
           refine ⟨fun wq hwq => ?_, ?_⟩
           · (obtain ⟨hbq, c0, c1, c2, c3, c4, c5, c6, c7, c8, c9, c10⟩ := hwq
              unfold Oper.quietAt
              go_simp
              first
                | exact ⟨rfl, rfl⟩
                | exact rfl
                | (go_at_call 15; (with_reducible refine (over_as _ _ _ _ _ _ HM2.out HST.out (by omega) (by omega) (by omega) (by omega) _).mono ?_); rintro e w3 ⟨he, hb2⟩; exact ⟨he, ends_S HC.out (by omega) (below_via hs hbq hb2)⟩)
                | (go_at_call 17; (with_reducible refine (rover_as _ _ _ _ _ HM.out (by omega) (by omega) (by omega) (by omega) _).mono ?_); rintro e w3 ⟨he, hb2⟩; exact ⟨he, ends_S HC.out (by omega) (below_via hs hbq hb2)⟩)
                | (go_at_call 18; (with_reducible refine (rdue_as _ _ _ HWK.out (by omega) (by omega) _).mono ?_); rintro e w3 ⟨he, rfl⟩; exact ⟨he, ends_S HC.out (by omega) hbq⟩)
                | (go_at_call 18; (with_reducible refine (rdue_as _ _ _ HLB.out (by omega) (by omega) _).mono ?_); rintro e w3 ⟨he, rfl⟩; exact ⟨he, ends_S HC.out (by omega) hbq⟩)
                | (go_at_call 21; refine (radd_any _ _ (by omega) (by omega) _).mono ?_; rintro e w3 ⟨he, rfl⟩; exact ⟨he, ends_S HC.out (by omega) hbq⟩)
                | (go_at_call 19; refine (first_any _ _ _ (by omega) (by omega) (by omega) _).mono ?_; rintro e w3 ⟨he, hb2⟩; exact ⟨he, ends_S HC.out (by omega) (below_via hs hbq hb2)⟩)
                | (go_at_call 20; refine (rfirst_any _ _ _ (by omega) (by omega) (by omega) _).mono ?_; rintro e w3 ⟨he, hb2⟩; exact ⟨he, ends_S HC.out (by omega) (below_via hs hbq hb2)⟩))
           simp only [Act.put, List.setIfInBounds_toArray, List.set_cons_zero, List.set_cons_succ]
           go_big_quiet_on))
    refine wpQuiet_nil ?_
    intro w4 hw4
    obtain ⟨hb4, h0, h1, h2, h3, h4, h5, h6, h7, h8, h9, h10⟩ := hw4
    go_wp2_with fail
    refine wp_region_class (fun w' => Below (w.heap.size + 3) w2 w' ∧ w'.cell? ⟨w.heap.size, 0, none⟩ = some (.int .i64 a2_From) ∧ w'.cell? ⟨w.heap.size, 1, none⟩ = some (.int .i64 a2_Last) ∧ w'.cell? ⟨w.heap.size, 2, none⟩ = some (.int .i64 a2_N) ∧ w'.cell? ⟨w.heap.size, 3, none⟩ = some (.int .i64 a2_At) ∧ w'.cell? ⟨w.heap.size, 4, none⟩ = some (.int .i64 a2_Now) ∧ w'.cell? ⟨w.heap.size + 1, 0, none⟩ = some (.int .i64 a0) ∧ w'.cell? ⟨w.heap.size + 1, 1, none⟩ = some (.int .i64 a1) ∧ w'.cell? ⟨w.heap.size + 1, 2, none⟩ = some (.int .i64 a2_At) ∧ w'.cell? ⟨w.heap.size + 1 + 1, 0, none⟩ = some (.int .i64 a0) ∧ w'.cell? ⟨w.heap.size + 1 + 1, 1, none⟩ = some (.int .i64 a1) ∧ w'.cell? ⟨w.heap.size + 1 + 1, 2, none⟩ = some (.int .i64 a2_At)) (by kernel_rfl) (by kernel_rfl) (ends_S HC.out (by omega) hb4.drew) ?_
    clear h0 h1 h2 h3 h4 h5 h6 h7 h8 h9 h10 hb4
    repeat (first
        | go_big_quiet_skip
        | (go_big_quiet_want
           unfold Oper.quiet
           apply Exists.intro
           refine ⟨fun wq hwq => ?_, ?_⟩
           · (obtain ⟨hbq, c0, c1, c2, c3, c4, c5, c6, c7, c8, c9, c10⟩ := hwq
              unfold Oper.quietAt
              go_simp
              first
                | exact ⟨rfl, rfl⟩
                | exact rfl
                | (go_at_call 15; (with_reducible refine (over_as _ _ _ _ _ _ HM2.out HST.out (by omega) (by omega) (by omega) (by omega) _).mono ?_); rintro e w3 ⟨he, hb2⟩; exact ⟨he, ends_S HC.out (by omega) (below_via hs hbq hb2)⟩)
                | (go_at_call 17; (with_reducible refine (rover_as _ _ _ _ _ HM.out (by omega) (by omega) (by omega) (by omega) _).mono ?_); rintro e w3 ⟨he, hb2⟩; exact ⟨he, ends_S HC.out (by omega) (below_via hs hbq hb2)⟩)
                | (go_at_call 18; (with_reducible refine (rdue_as _ _ _ HWK.out (by omega) (by omega) _).mono ?_); rintro e w3 ⟨he, rfl⟩; exact ⟨he, ends_S HC.out (by omega) hbq⟩)
                | (go_at_call 18; (with_reducible refine (rdue_as _ _ _ HLB.out (by omega) (by omega) _).mono ?_); rintro e w3 ⟨he, rfl⟩; exact ⟨he, ends_S HC.out (by omega) hbq⟩)
                | (go_at_call 21; refine (radd_any _ _ (by omega) (by omega) _).mono ?_; rintro e w3 ⟨he, rfl⟩; exact ⟨he, ends_S HC.out (by omega) hbq⟩)
                | (go_at_call 19; refine (first_any _ _ _ (by omega) (by omega) (by omega) _).mono ?_; rintro e w3 ⟨he, hb2⟩; exact ⟨he, ends_S HC.out (by omega) (below_via hs hbq hb2)⟩)
                | (go_at_call 20; refine (rfirst_any _ _ _ (by omega) (by omega) (by omega) _).mono ?_; rintro e w3 ⟨he, hb2⟩; exact ⟨he, ends_S HC.out (by omega) (below_via hs hbq hb2)⟩))
           simp only [Act.put, List.setIfInBounds_toArray, List.set_cons_zero, List.set_cons_succ]
           go_big_quiet_on))
    refine wpQuiet_nil ?_
    intro w6 hw6
    obtain ⟨hb6, h0, h1, h2, h3, h4, h5, h6, h7, h8, h9, h10⟩ := hw6
    go_wp2_with (go_at_call 14; refine (lives_any _).mono ?_; rintro e w7 ⟨rfl, hb7⟩)
    go_ret
    exact ⟨rfl, HB.out.trans (below_via (by omega) (hb6.mono (by omega)) hb7)⟩
set_option maxHeartbeats 1000000 in
theorem leaf3 (a0 a1 a2_From a2_Last a2_N a2_At a2_Now m m2 : Int) (st : Bool) (w : World) (b0 : a0 ≤ 9223372036854775807) (b1 : a1 ≤ 9223372036854775807) (bA : a2_At ≤ 9223372036854775807) (bN : a2_Now ≤ 9223372036854775807) (bn : a2_N ≤ 9223372036854775807)
    (HM : Hid (Du.over a1 a2_At a2_Now = m)) (HOV : Hid (decide (0 < m) = false)) (hov : decide (0 < m) = false) (HWK : Hid (Tk.dueB a0 a2_Now = false)) (HLB : Hid (Tk.dueB (Tk.least [a0, a1, a2_At]) a2_Now = false)) (HM2 : Hid (Du.over a1 a2_At (Tk.add a2_Now a2_N) = m2)) (HST : Hid (decide (0 < m2) = st)) :
    Calls Try.prog 4 #[.int .i64 a0, .int .i64 a1, .agg #[.int .i64 a2_From, .int .i64 a2_Last, .int .i64 a2_N, .int .i64 a2_At, .int .i64 a2_Now]] w fun e w' => e = .returned (.bool true) ∧ Below w.heap.size w w' := by
  have lb := Tk.least_bd [a0, a1, a2_At]
  have ab := Tk.add_le a2_Now a2_N
  go_enter Try.func4, Try.ntmps4
  go_wp2
  go_region_held3 (fun w' => w'.cell? ⟨w.heap.size, 0, none⟩ = some (.int .i64 a2_From) ∧ w'.cell? ⟨w.heap.size, 1, none⟩ = some (.int .i64 a2_Last) ∧ w'.cell? ⟨w.heap.size, 2, none⟩ = some (.int .i64 a2_N) ∧ w'.cell? ⟨w.heap.size, 3, none⟩ = some (.int .i64 a2_At) ∧ w'.cell? ⟨w.heap.size, 4, none⟩ = some (.int .i64 a2_Now)) (go_keep) (fail)
  all_goals
    go_wp2_with fail
    refine (over_as _ _ _ _ _ _ HM.out HOV.out (by omega) (by omega) (by omega) (by omega) _).mono ?_
    rintro e w1 ⟨rfl, hb⟩
    have HC1 : Hid (EndsAt w1 w.heap.size a0 a1 a2_From a2_Last a2_N a2_At a2_Now) := by
      refine Lib.hid ⟨?_, ?_, ?_, ?_, ?_, ?_, ?_, ?_, ?_, ?_, ?_⟩
      all_goals (rw [hb.cell (by simp; try omega)]; simp [go_sem])
    have HB1 : Hid (Below w.heap.size w w1) := Lib.hid (below_via (Nat.le_refl _) (by go_grown) hb)
    have hs1 : w.heap.size + 3 ≤ w1.heap.size := by have := hb.size; simp at this; omega
    clear hb
    obtain ⟨h0, h1, h2, h3, h4, h5, h6, h7, h8, h9, h10⟩ := HC1.out
    go_wp2_with (go_at_call 16; refine (woken_as _ _ _ _ _ HWK.out (by omega) (by omega) _).mono ?_; rintro e w2 ⟨rfl, hb⟩)
    have HC : Hid (EndsAt w2 w.heap.size a0 a1 a2_From a2_Last a2_N a2_At a2_Now) := by
      refine Lib.hid ⟨?_, ?_, ?_, ?_, ?_, ?_, ?_, ?_, ?_, ?_, ?_⟩
      all_goals (rw [hb.cell (by simp; try omega)]; assumption)
    have HB : Hid (Below w.heap.size w w2) := Lib.hid (below_via (Nat.le_refl _) HB1.out hb)
    have hs : w.heap.size + 3 ≤ w2.heap.size := by have := hb.size; omega
    clear h0 h1 h2 h3 h4 h5 h6 h7 h8 h9 h10 hb HC1 HB1 hs1
    refine wp_region_class (fun w' => Below (w.heap.size + 3) w2 w' ∧ w'.cell? ⟨w.heap.size, 0, none⟩ = some (.int .i64 a2_From) ∧ w'.cell? ⟨w.heap.size, 1, none⟩ = some (.int .i64 a2_Last) ∧ w'.cell? ⟨w.heap.size, 2, none⟩ = some (.int .i64 a2_N) ∧ w'.cell? ⟨w.heap.size, 3, none⟩ = some (.int .i64 a2_At) ∧ w'.cell? ⟨w.heap.size, 4, none⟩ = some (.int .i64 a2_Now) ∧ w'.cell? ⟨w.heap.size + 1, 0, none⟩ = some (.int .i64 a0) ∧ w'.cell? ⟨w.heap.size + 1, 1, none⟩ = some (.int .i64 a1) ∧ w'.cell? ⟨w.heap.size + 1, 2, none⟩ = some (.int .i64 a2_At) ∧ w'.cell? ⟨w.heap.size + 1 + 1, 0, none⟩ = some (.int .i64 a0) ∧ w'.cell? ⟨w.heap.size + 1 + 1, 1, none⟩ = some (.int .i64 a1) ∧ w'.cell? ⟨w.heap.size + 1 + 1, 2, none⟩ = some (.int .i64 a2_At)) (by kernel_rfl) (by kernel_rfl) (ends_S HC.out (by omega) (Below.refl _ _).drew) ?_
    repeat (first
        | go_big_quiet_skip
        | (go_big_quiet_want
           unfold Oper.quiet
           apply Exists.intro
           refine ⟨fun wq hwq => ?_, ?_⟩
           · (obtain ⟨hbq, c0, c1, c2, c3, c4, c5, c6, c7, c8, c9, c10⟩ := hwq
              unfold Oper.quietAt
              go_simp
              first
                | exact ⟨rfl, rfl⟩
                | exact rfl
                | (go_at_call 15; (with_reducible refine (over_as _ _ _ _ _ _ HM2.out HST.out (by omega) (by omega) (by omega) (by omega) _).mono ?_); rintro e w3 ⟨he, hb2⟩; exact ⟨he, ends_S HC.out (by omega) (below_via hs hbq hb2)⟩)
                | (go_at_call 17; (with_reducible refine (rover_as _ _ _ _ _ HM.out (by omega) (by omega) (by omega) (by omega) _).mono ?_); rintro e w3 ⟨he, hb2⟩; exact ⟨he, ends_S HC.out (by omega) (below_via hs hbq hb2)⟩)
                | (go_at_call 18; (with_reducible refine (rdue_as _ _ _ HWK.out (by omega) (by omega) _).mono ?_); rintro e w3 ⟨he, rfl⟩; exact ⟨he, ends_S HC.out (by omega) hbq⟩)
                | (go_at_call 18; (with_reducible refine (rdue_as _ _ _ HLB.out (by omega) (by omega) _).mono ?_); rintro e w3 ⟨he, rfl⟩; exact ⟨he, ends_S HC.out (by omega) hbq⟩)
                | (go_at_call 21; refine (radd_any _ _ (by omega) (by omega) _).mono ?_; rintro e w3 ⟨he, rfl⟩; exact ⟨he, ends_S HC.out (by omega) hbq⟩)
                | (go_at_call 19; refine (first_any _ _ _ (by omega) (by omega) (by omega) _).mono ?_; rintro e w3 ⟨he, hb2⟩; exact ⟨he, ends_S HC.out (by omega) (below_via hs hbq hb2)⟩)
                | (go_at_call 20; refine (rfirst_any _ _ _ (by omega) (by omega) (by omega) _).mono ?_; rintro e w3 ⟨he, hb2⟩; exact ⟨he, ends_S HC.out (by omega) (below_via hs hbq hb2)⟩))
           simp only [Act.put, List.setIfInBounds_toArray, List.set_cons_zero, List.set_cons_succ]
           go_big_quiet_on))
    refine wpQuiet_nil ?_
    intro w4 hw4
    obtain ⟨hb4, h0, h1, h2, h3, h4, h5, h6, h7, h8, h9, h10⟩ := hw4
    go_wp2_with fail
    refine wp_region_class (fun w' => Below (w.heap.size + 3) w2 w' ∧ w'.cell? ⟨w.heap.size, 0, none⟩ = some (.int .i64 a2_From) ∧ w'.cell? ⟨w.heap.size, 1, none⟩ = some (.int .i64 a2_Last) ∧ w'.cell? ⟨w.heap.size, 2, none⟩ = some (.int .i64 a2_N) ∧ w'.cell? ⟨w.heap.size, 3, none⟩ = some (.int .i64 a2_At) ∧ w'.cell? ⟨w.heap.size, 4, none⟩ = some (.int .i64 a2_Now) ∧ w'.cell? ⟨w.heap.size + 1, 0, none⟩ = some (.int .i64 a0) ∧ w'.cell? ⟨w.heap.size + 1, 1, none⟩ = some (.int .i64 a1) ∧ w'.cell? ⟨w.heap.size + 1, 2, none⟩ = some (.int .i64 a2_At) ∧ w'.cell? ⟨w.heap.size + 1 + 1, 0, none⟩ = some (.int .i64 a0) ∧ w'.cell? ⟨w.heap.size + 1 + 1, 1, none⟩ = some (.int .i64 a1) ∧ w'.cell? ⟨w.heap.size + 1 + 1, 2, none⟩ = some (.int .i64 a2_At)) (by kernel_rfl) (by kernel_rfl) (ends_S HC.out (by omega) hb4.drew) ?_
    clear h0 h1 h2 h3 h4 h5 h6 h7 h8 h9 h10 hb4
    repeat (first
        | go_big_quiet_skip
        | (go_big_quiet_want
           unfold Oper.quiet
           apply Exists.intro
           refine ⟨fun wq hwq => ?_, ?_⟩
           · (obtain ⟨hbq, c0, c1, c2, c3, c4, c5, c6, c7, c8, c9, c10⟩ := hwq
              unfold Oper.quietAt
              go_simp
              first
                | exact ⟨rfl, rfl⟩
                | exact rfl
                | (go_at_call 15; (with_reducible refine (over_as _ _ _ _ _ _ HM2.out HST.out (by omega) (by omega) (by omega) (by omega) _).mono ?_); rintro e w3 ⟨he, hb2⟩; exact ⟨he, ends_S HC.out (by omega) (below_via hs hbq hb2)⟩)
                | (go_at_call 17; (with_reducible refine (rover_as _ _ _ _ _ HM.out (by omega) (by omega) (by omega) (by omega) _).mono ?_); rintro e w3 ⟨he, hb2⟩; exact ⟨he, ends_S HC.out (by omega) (below_via hs hbq hb2)⟩)
                | (go_at_call 18; (with_reducible refine (rdue_as _ _ _ HWK.out (by omega) (by omega) _).mono ?_); rintro e w3 ⟨he, rfl⟩; exact ⟨he, ends_S HC.out (by omega) hbq⟩)
                | (go_at_call 18; (with_reducible refine (rdue_as _ _ _ HLB.out (by omega) (by omega) _).mono ?_); rintro e w3 ⟨he, rfl⟩; exact ⟨he, ends_S HC.out (by omega) hbq⟩)
                | (go_at_call 21; refine (radd_any _ _ (by omega) (by omega) _).mono ?_; rintro e w3 ⟨he, rfl⟩; exact ⟨he, ends_S HC.out (by omega) hbq⟩)
                | (go_at_call 19; refine (first_any _ _ _ (by omega) (by omega) (by omega) _).mono ?_; rintro e w3 ⟨he, hb2⟩; exact ⟨he, ends_S HC.out (by omega) (below_via hs hbq hb2)⟩)
                | (go_at_call 20; refine (rfirst_any _ _ _ (by omega) (by omega) (by omega) _).mono ?_; rintro e w3 ⟨he, hb2⟩; exact ⟨he, ends_S HC.out (by omega) (below_via hs hbq hb2)⟩))
           simp only [Act.put, List.setIfInBounds_toArray, List.set_cons_zero, List.set_cons_succ]
           go_big_quiet_on))
    refine wpQuiet_nil ?_
    intro w6 hw6
    obtain ⟨hb6, h0, h1, h2, h3, h4, h5, h6, h7, h8, h9, h10⟩ := hw6
    go_wp2_with (go_at_call 14; refine (lives_any _).mono ?_; rintro e w7 ⟨rfl, hb7⟩)
    go_ret
    exact ⟨rfl, HB.out.trans (below_via (by omega) (hb6.mono (by omega)) hb7)⟩

theorem walk (a0 : Int) (a1 : Int) (a2_From : Int) (a2_Last : Int) (a2_N : Int) (a2_At : Int) (a2_Now : Int) (w : World) (w0 : (Lit.int .i64 a0).wf = true) (w1 : (Lit.int .i64 a1).wf = true) (w2_From : (Lit.int .i64 a2_From).wf = true) (w2_Last : (Lit.int .i64 a2_Last).wf = true) (w2_N : (Lit.int .i64 a2_N).wf = true) (w2_At : (Lit.int .i64 a2_At).wf = true) (w2_Now : (Lit.int .i64 a2_Now).wf = true) :
    Calls Try.prog 4 #[.int .i64 a0, .int .i64 a1, .agg #[.int .i64 a2_From, .int .i64 a2_Last, .int .i64 a2_N, .int .i64 a2_At, .int .i64 a2_Now]] w fun e w' => e = .returned (.bool true) ∧ Below w.heap.size w w' := by
  have b0 := bounds_i64 w0
  have b1 := bounds_i64 w1
  have bA := bounds_i64 w2_At
  have bN := bounds_i64 w2_Now
  have bn := bounds_i64 w2_N
  have hL := Du.least_due a0 a1 a2_At a2_Now (by omega) (by omega) (by omega)
  by_cases ho : 0 < Du.over a1 a2_At a2_Now
  · have hS := Du.over_stays a1 a2_At a2_Now a2_N (by omega) (by omega) (by omega) ho
    have hd : decide (0 < Du.over a1 a2_At a2_Now) = true := by simpa using ho
    cases hw : Tk.dueB a0 a2_Now
    case true => exact leaf0 _ _ _ _ _ _ _ _ 0 false w b0.2 b1.2 bA.2 bN.2 bn.2 rfl hd ho hw (by rw [Hid, hL, hd, hw]; rfl) hS hd
    case false => exact leaf1 _ _ _ _ _ _ _ _ 0 false w b0.2 b1.2 bA.2 bN.2 bn.2 rfl hd ho hw (by rw [Hid, hL, hd, hw]; rfl) hS hd
  · have hd : decide (0 < Du.over a1 a2_At a2_Now) = false := by simpa using ho
    cases hw : Tk.dueB a0 a2_Now
    case true => exact leaf2 _ _ _ _ _ _ _ _ _ _ w b0.2 b1.2 bA.2 bN.2 bn.2 rfl hd hd hw (by rw [Hid, hL, hd, hw]; rfl) rfl rfl
    case false => exact leaf3 _ _ _ _ _ _ _ _ _ _ w b0.2 b1.2 bA.2 bN.2 bn.2 rfl hd hd hw (by rw [Hid, hL, hd, hw]; rfl) rfl rfl

set_option maxRecDepth 100000 in
theorem lifted (os : Os) (started : os.Started) (H : Type) (enc : TypeId × Value → H) :
    ReturnsInHanded {} Try.checked os 4 .any (Rows.dueEndsSpec.pre6 enc Try.prog Try.f4 Rows.dueEndsRow.domain false) (Rows.dueEndsSpec.post enc Try.prog Try.f4 false true false false) := by
  refine returnsInHanded_of_change (C := Try.checked) ownKn started (by kernel_rfl) Try.func4
    (ChangeSpec.witness6 (enc := enc) (C := Try.checked) false ⟨#[], #[.int .i64 0, .int .i64 0, .agg #[.int .i64 0, .int .i64 0, .int .i64 0, .int .i64 0, .int .i64 0]], []⟩ 8 (by kernel_rfl) (by kernel_rfl) (by kernel_rfl) (by kernel_rfl)) ?_
  intro W base args ds gs before hval0 hW hcnd _
  have hval : ∀ (j : Nat) t v, Try.f4.params[j]? = some t → args[j]? = some v → Value.okWide Try.prog W .any base t v := hval0
  have hW' := hW
  obtain ⟨p, q, hA0, hV, rfl, hfz, hnd⟩ := hW
  have hA : DataW.TrodAll enc Try.prog W 0 (fun _ => true) true Try.f4.params.toList args.toList ds p := hA0
  rw [Try.params4] at hA hval
  obtain ⟨v0, vs0, d0, ds0, p0, q0, hargs, rfl, rfl, h0, r0⟩ := trodAll_cons hA
  obtain ⟨v1, vs1, d1, ds1, p1, q1, rfl, rfl, rfl, h1, r1⟩ := trodAll_cons r0
  obtain ⟨v2, vs2, d2, ds2, p2, q2, rfl, rfl, rfl, h2, r2⟩ := trodAll_cons r1
  obtain ⟨rfl, rfl, rfl⟩ := trodAll_nil r2
  obtain rfl : args = #[v0, v1, v2] := by cases args; simp_all
  obtain ⟨rfl, rfl⟩ := trodVars_none hV
  have k0 := h0
  have lt0 : ∀ x ∈ p0, x.block < W.heap.size := by obtain ⟨m, hm⟩ := k0; exact DataW.trod_lt m _ _ _ hm
  obtain ⟨a0, rfl, rfl, rfl, w0⟩ := open_int Try.underlying2 (hval 0 2 v0 rfl rfl) h0
  have k1 := h1
  have lt1 : ∀ x ∈ p1, x.block < W.heap.size := by obtain ⟨m, hm⟩ := k1; exact DataW.trod_lt m _ _ _ hm
  obtain ⟨a1, rfl, rfl, rfl, w1⟩ := open_int Try.underlying2 (hval 1 2 v1 rfl rfl) h1
  have k2 := h2
  have lt2 : ∀ x ∈ p2, x.block < W.heap.size := by obtain ⟨m, hm⟩ := k2; exact DataW.trod_lt m _ _ _ hm
  obtain ⟨u2_0, u2_1, u2_2, u2_3, u2_4, y2_0, y2_1, y2_2, y2_3, y2_4, nn2, rfl, _, _, g2_0, g2_1, g2_2, g2_3, g2_4⟩ := open_flat5 Try.underlying23 (by kernel_rfl) (by kernel_rfl) (hval 2 23 v2 rfl rfl) h2
  obtain ⟨a2_From, rfl, w2_From⟩ := fld_int Try.underlying2 g2_0
  obtain ⟨a2_Last, rfl, w2_Last⟩ := fld_int Try.underlying2 g2_1
  obtain ⟨a2_N, rfl, w2_N⟩ := fld_int Try.underlying2 g2_2
  obtain ⟨a2_At, rfl, w2_At⟩ := fld_int Try.underlying2 g2_3
  obtain ⟨a2_Now, rfl, w2_Now⟩ := fld_int Try.underlying2 g2_4
  clear hA0 hval0
  refine (walk a0 a1 a2_From a2_Last a2_N a2_At a2_Now W w0 w1 w2_From w2_Last w2_N w2_At w2_Now).mono fun e W' ⟨he, bel⟩ => ?_
  subst he
  exact ⟨_, rfl, _, _, _, [], _, [], hW', trodAll_mk1 (shut_bool Try.underlying4 _), (trodAll_cons_mk (Below.trod laidOut (by kernel_rfl) (of_decide_eq_true (by kernel_rfl)) k0 bel lt0) (trodAll_cons_mk (Below.trod laidOut (by kernel_rfl) (of_decide_eq_true (by kernel_rfl)) k1 bel lt1) (trodAll_cons_mk (Below.trod laidOut (by kernel_rfl) (of_decide_eq_true (by kernel_rfl)) k2 bel lt2) trodAll_mk0))), rfl, bel.frame _, fun h => by cases h⟩

theorem over : Rows.dueEndsRow.holds Try.pinned (OpenSpec.ofChange Rows.dueEndsSpec) :=
  OpenClaim.holds_of_wide 4 Try.f4 rfl rfl rfl rfl rfl rfl rfl ⟨rfl, rfl, rfl, rfl, rfl⟩ rfl rfl rfl rfl rfl (by kernel_rfl) Try.func4 (by kernel_rfl)
    (of_decide_eq_true (by kernel_rfl)) (by unfold Func.isWrapper; first | (rw [if_pos (by decide +kernel)]; kernel_rfl) | (rw [if_neg (by decide +kernel)]; exact ⟨rfl, rfl⟩))
    (fun os started H enc _ => lifted os started H enc)

/-- The statement. -/
theorem proved : Rows.DueEndsSaid := over
#print axioms proved
end Go.Proofs.Ythcompdlifdamaa.dueEnds
