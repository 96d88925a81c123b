/- P37.1, P37.2: for every setup, every list of events (its first 18, bytes cut) and every most ticks: when a drain is to end, who was not over in time, and whether it stopped, is as the document says. No condition. -/
import Derived.Test.YtdchedkhlfmpeaaOpen
import Derived.WalkKit
import Derived.ProofKit
import Derived.OpenShut
import Derived.Test.YtdchedkhlfmpeaaGrC
import Derived.Test.YtdchedkhlfmpeaaGrE
import Derived.Test.YtdchedkhlfmpeaaGrE
import Derived.Test.YtdchedkhlfmpeaaGrE
import Derived.Test.YtdchedkhlfmpeaaClass
namespace Go.Proofs.Ytdchedkhlfmpeaa.graceTells
open Go.Joins Go.ChangeShapes Go.WideShapes Go.ChangeAt Go.RowKit Go.Deep
open Go.ChangeMaps (open_string)
set_option linter.unusedSimpArgs false
set_option linter.unusedVariables false

section
variable {H : Type} {enc : TypeId × Value → H} {P : Program} {w : World} {base : Nat} {spare : Nat → Bool} {held : Bool}
theorem open_flat6 {r : Reach} {b0 : Nat} {t : TypeId} {f0 f1 f2 f3 f4 f5 : Field} {v : Value} {d : DataW H} {p : List MemPlace} (hs : P.underlying t = some (.struct #[f0, f1, f2, f3, f4, f5])) (hone : oneCellFields P #[f0, f1, f2, f3, f4, f5] = true) (hC : P.cellsOf t = 6)
    (hv : Value.okWide P w r b0 t v) (h : DataW.Trod enc P w base spare held t v d p) :
    ∃ (v0 v1 v2 v3 v4 v5 : Value) (y0 y1 y2 y3 y4 y5 : DataW H × List MemPlace) (n : Nat), v = .agg #[v0, v1, v2, v3, v4, v5] ∧ d = .agg [y0.1, y1.1, y2.1, y3.1, y4.1, y5.1] ∧ True ∧
      DataW.trod enc P w base spare held n f0.type [v0] = some y0 ∧ DataW.trod enc P w base spare held n f1.type [v1] = some y1 ∧ DataW.trod enc P w base spare held n f2.type [v2] = some y2 ∧ DataW.trod enc P w base spare held n f3.type [v3] = some y3 ∧ DataW.trod enc P w base spare held n f4.type [v4] = some y4 ∧ DataW.trod enc P w base spare held n f5.type [v5] = some y5 := by
  obtain ⟨cs, rfl, hsz⟩ := okWide_struct hs hv
  obtain ⟨l⟩ := cs
  match l, hsz.trans hC with
  | [c0, c1, c2, c3, c4, c5], _ =>
    obtain ⟨fuel, hf⟩ := h
    obtain ⟨xs, n, _, hx, _, hlen, hg⟩ := DataW.trod_struct hs hf
    obtain ⟨o0, k0⟩ := hone_of hone 0 f0 rfl
    obtain ⟨o1, k1⟩ := hone_of hone 1 f1 rfl
    obtain ⟨o2, k2⟩ := hone_of hone 2 f2 rfl
    obtain ⟨o3, k3⟩ := hone_of hone 3 f3 rfl
    obtain ⟨o4, k4⟩ := hone_of hone 4 f4 rfl
    obtain ⟨o5, k5⟩ := hone_of hone 5 f5 rfl
    match xs, hlen with
    | [y0, y1, y2, y3, y4, y5], _ =>
      simp only [Prod.mk.injEq] at hx
      exact ⟨c0, c1, c2, c3, c4, c5, y0, y1, y2, y3, y4, y5, n, rfl, by simpa using hx.1, trivial, by simpa [Value.cells, o0, k0] using hg 0 f0 rfl, by simpa [Value.cells, o1, k1] using hg 1 f1 rfl, by simpa [Value.cells, o2, k2] using hg 2 f2 rfl, by simpa [Value.cells, o3, k3] using hg 3 f3 rfl, by simpa [Value.cells, o4, k4] using hg 4 f4 rfl, by simpa [Value.cells, o5, k5] using hg 5 f5 rfl⟩
end
/-- What the law keeps: the setup's box, the events. -/
def SG (w W : World) (X : Nat) (cs : List Value) (g c : Nat) (L : List Ev) : Prop := Blk W X cs 54 ∧ Rn W g c 12 (evs L) 47 ∧ Below w.heap.size w W ∧ w.heap.size ≤ W.heap.size
theorem SG.below {w W W' : World} {X : Nat} {cs : List Value} {g c : Nat} {L : List Ev} (h : SG w W X cs g c L) (b : Below W.heap.size W W') : SG w W' X cs g c L := ⟨h.1.chg (l := []) (Chg.of_fresh b) (by simp), h.2.1.chg (l := []) (Chg.of_fresh b) (by simp), h.2.2.1.trans (b.mono h.2.2.2), Nat.le_trans h.2.2.2 b.size⟩
theorem SG.el {w W : World} {X : Nat} {cs : List Value} {g c : Nat} {L : List Ev} (h : SG w W X cs g c L) (hok : ∀ x ∈ L, x.ok) : EL W (some ⟨g, 0, none⟩) L := EL.of_rn h.2.1 hok
theorem SG.s6 {w W : World} {X : Nat} {a b c d e f : Int} {g q : Nat} {L : List Ev} (h : SG w W X [.int .i64 a, .int .i64 b, .int .i64 c, .int .i64 d, .int .i64 e, .int .i64 f] g q L) : W.cell? ⟨X, 0, none⟩ = some (.int .i64 a) ∧ W.cell? ⟨X, 1, none⟩ = some (.int .i64 b) ∧ W.cell? ⟨X, 2, none⟩ = some (.int .i64 c) ∧ W.cell? ⟨X, 3, none⟩ = some (.int .i64 d) ∧ W.cell? ⟨X, 4, none⟩ = some (.int .i64 e) ∧ W.cell? ⟨X, 5, none⟩ = some (.int .i64 f) := ⟨h.1.cell (i := 0) rfl, h.1.cell (i := 1) rfl, h.1.cell (i := 2) rfl, h.1.cell (i := 3) rfl, h.1.cell (i := 4) rfl, h.1.cell (i := 5) rfl⟩
theorem SG.be {w W : World} {X : Nat} {cs : List Value} {g c : Nat} {L : List Ev} (h : SG w W X cs g c L) : Below w.heap.size w W := h.2.2.1
theorem rn_b {W W' : World} {g c : Nat} {L : List Ev} (h : Hid (Rn W g c 12 (evs L) 47)) (b : Below W.heap.size W W') : Hid (Rn W' g c 12 (evs L) 47) := Lib.hid (h.out.chg (l := []) (Chg.of_fresh b) (by simp))
theorem ri_b {W W' : World} {r : Option Addr} {D : List Int} (h : Hid (RI W r D)) (b : Below W.heap.size W W') : Hid (RI W' r D) := Lib.hid (h.out.below b)
theorem rn_el {W : World} {g c : Nat} {L : List Ev} (h : Hid (Rn W g c 12 (evs L) 47)) (hok : ∀ x ∈ L, x.ok) : EL W (some ⟨g, 0, none⟩) L := EL.of_rn h.out hok
theorem rn_cap {W : World} {g c m : Nat} {L : List Ev} (h : Hid (Rn W g c 12 (evs L) 47)) (hm : L.length = m) : m ≤ c ∧ c ≤ 9223372036854775807 := cap_of h.out hm
theorem sg_cap {w W : World} {X : Nat} {cs : List Value} {g c m : Nat} {L : List Ev} (h : Hid (SG w W X cs g c L)) (hm : L.length = m) : m ≤ c ∧ c ≤ 9223372036854775807 := cap_of h.out.2.1 hm
theorem Gr.beg_t {L : List Ev} {t : Int} {ok : Bool} (hok : ∀ x ∈ L, x.ok) (h : Gr.beg L = (t, ok)) : t ≤ 9223372036854775807 ∧ (ok = true → ∃ x, L[Gr.fst 7 L]? = some x ∧ x.t = t) ∧ (ok = false → Gr.fst 7 L = L.length ∧ t = 0) := by
  unfold Gr.beg at h
  cases hx : L[Gr.fst 7 L]? with
  | none =>
    rw [hx] at h
    injection h with h1 h2
    have h3 := Gr.fst_le 7 L
    have h4 := List.getElem?_eq_none_iff.1 hx
    exact ⟨by omega, fun h => (by rw [← h2] at h; cases h), fun _ => ⟨by omega, h1.symm⟩⟩
  | some x =>
    rw [hx] at h
    injection h with h1 h2
    have hw := (hok x (List.mem_of_getElem? hx)).2 .i64 x.t (by simp [Ev.c])
    have hb := bounds_i64 hw
    exact ⟨(by rw [← h1]; omega), fun _ => ⟨x, rfl, h1⟩, fun h => (by rw [← h2] at h; cases h)⟩
set_option maxRecDepth 100000 in
set_option maxHeartbeats 16000000 in

theorem walk (a0_Live : Int) (a0_Ring : Int) (a0_Win : Int) (a0_Out : Int) (a0_Quantum : Int) (a0_Visits : Int) (a1 : Option Addr) (len1 cap1 : Nat) (z1 : List Ev) (a2 : Int) (w : World) (w0_Live : (Lit.int .i64 a0_Live).wf = true) (w0_Ring : (Lit.int .i64 a0_Ring).wf = true) (w0_Win : (Lit.int .i64 a0_Win).wf = true) (w0_Out : (Lit.int .i64 a0_Out).wf = true) (w0_Quantum : (Lit.int .i64 a0_Quantum).wf = true) (w0_Visits : (Lit.int .i64 a0_Visits).wf = true) (w1 : IsEv w a1 len1 cap1 z1) (w2 : (Lit.int .i64 a2).wf = true) :
    Calls Try.prog 5 #[.agg #[.int .i64 a0_Live, .int .i64 a0_Ring, .int .i64 a0_Win, .int .i64 a0_Out, .int .i64 a0_Quantum, .int .i64 a0_Visits], .slice a1 len1 cap1, .int .i64 a2] w fun e w' => e = .returned (.bool true) ∧ Below w.heap.size w w' := by
  have HI1 : Hid _ := Lib.hid w1
  have HB2 : Hid (a2 ≤ 9223372036854775807) := Lib.hid (by have := bounds_i64 w2; omega)
  obtain ⟨L, hL⟩ : ∃ L, fewE 18 z1 = L := ⟨_, rfl⟩
  obtain ⟨m, hm⟩ : ∃ m, L.length = m := ⟨_, rfl⟩
  have hm18 : m ≤ 18 := by rw [← hm, ← hL, fewE_len]; omega
  have HL : Hid (fewE 18 z1 = L ∧ L.length = m ∧ (∀ x ∈ L, x.ok) ∧ fewE 18 L = L ∧ (∀ x ∈ L, x.b.size ≤ 24)) := Lib.hid ⟨hL, hm, by rw [← hL]; exact fewE_ok w1.2.2.2.ok, by rw [← hL]; exact fewE_fewE 18 z1, by rw [← hL]; exact fewE_b⟩
  clear hL hm w1 w2 w0_Live w0_Ring w0_Win w0_Out w0_Quantum w0_Visits
  obtain ⟨⟨t, ok⟩, hbeg⟩ : ∃ p, Gr.beg L = p := ⟨_, rfl⟩
  obtain ⟨u, hu⟩ : ∃ u, Co.untl a0_Live a0_Ring a0_Win a0_Out a0_Quantum a0_Visits t a2 = u := ⟨_, rfl⟩
  obtain ⟨c, hc⟩ : ∃ c, Ev.clock L = c := ⟨_, rfl⟩
  obtain ⟨⟨bd, isb⟩, hres⟩ : ∃ p, (if ok = true ∧ Co.goodB a0_Live a0_Ring a0_Win a0_Out a0_Quantum a0_Visits = true ∧ ¬ a2 < 1 ∧ ¬ u = 9223372036854775807 ∧ ¬ c < u then (u, true) else ((0 : Int), false)) = p := ⟨_, rfl⟩
  obtain ⟨f, hf⟩ : ∃ f, Gr.fst 7 L = f := ⟨_, rfl⟩
  obtain ⟨D, hD⟩ : ∃ D, (if isb = true then Gr.late bd f L else []) = D := ⟨_, rfl⟩
  obtain ⟨nD, hnD⟩ : ∃ n, D.length = n := ⟨_, rfl⟩
  have hnD18 : nD ≤ 18 := by
    rw [← hnD, ← hD]
    split
    · unfold Gr.late
      refine Nat.le_trans (List.length_filter_le _ _) ?_
      have h1 := Ev.ids_le (L.take f)
      have h2 : (L.take f).length ≤ L.length := by rw [List.length_take]; omega
      rw [HL.out.2.1] at h2
      omega
    · simp
  obtain ⟨rs, hrs⟩ : ∃ r : Bool, (r = true ↔ (isb = true → Gr.stp L bd m)) := by
    by_cases h : (isb = true → Gr.stp L bd m)
    · exact ⟨true, by simp only [true_iff]; exact h⟩
    · exact ⟨false, by simp only [Bool.false_eq_true, false_iff]; exact h⟩
  have hbt := Gr.beg_t HL.out.2.2.1 hbeg
  have hib : isb = true → f < m := by
    intro h
    rw [h] at hres
    split at hres
    · rename_i hh
      obtain ⟨x, hx, _⟩ := hbt.2.1 hh.1
      have := (List.getElem?_eq_some_iff.1 hx).1
      rw [hf, HL.out.2.1] at this
      exact this
    · injection hres with _ h; cases h
  have hfm : f ≤ m := by
    have := Gr.fst_le 7 L
    rw [hf, HL.out.2.1] at this
    exact this
  have HT : Hid (t ≤ 9223372036854775807 ∧ Gr.beg L = (t, ok)) := Lib.hid ⟨hbt.1, hbeg⟩
  have HU := Lib.hid (And.intro hu (And.intro hc hres))
  have HBD := Lib.hid (fun (a : Option Addr) (cap : Nat) (W : World) (h : EL W a L) => gr_bound a0_Live a0_Ring a0_Win a0_Out a0_Quantum a0_Visits a2 (by have := HB2.out; omega) a m cap L HL.out.2.1 (by omega) t HT.out.1 ok HT.out.2 u HU.out.1 c HU.out.2.1 bd isb HU.out.2.2 W h)
  have HBR := Lib.hid (fun (a : Option Addr) (cap : Nat) (W : World) (h : EL W a L) => rg_bound a0_Live a0_Ring a0_Win a0_Out a0_Quantum a0_Visits a2 (by have := HB2.out; omega) a m cap L HL.out.2.1 (by omega) t HT.out.1 ok HT.out.2 u HU.out.1 c HU.out.2.1 bd isb HU.out.2.2 W h)
  have HST := Lib.hid (fun (a : Option Addr) (cap : Nat) (W : World) (h : EL W a L) => gr_stops a0_Live a0_Ring a0_Win a0_Out a0_Quantum a0_Visits a2 (by have := HB2.out; omega) a m cap L HL.out.2.1 (by omega) t HT.out.1 ok HT.out.2 u HU.out.1 c HU.out.2.1 bd isb HU.out.2.2 rs hrs W h)
  have HSR := Lib.hid (fun (a : Option Addr) (cap : Nat) (W : World) (h : EL W a L) => rg_stops a0_Live a0_Ring a0_Win a0_Out a0_Quantum a0_Visits a2 a m cap L HL.out.2.1 (by omega) bd isb (fun W2 h2 => HBR.out a cap W2 h2) rs hrs W h)
  have HD := Lib.hid (And.intro hf (And.intro hib (And.intro hD (And.intro hnD hrs))))
  obtain ⟨kf, hkf⟩ : ∃ k, Ev.idx (Gr.isk 7) L = k := ⟨_, rfl⟩
  have hkf2 : kf = if f < m then (f : Int) else -1 := by rw [← hkf, Gr.fst_idx, hf, HL.out.2.1]
  have HKF := Lib.hid hkf
  have HK2 := Lib.hid hkf2
  clear hkf2
  have HBT := Lib.hid hbt
  have e1 : (bd != bd) = false := by simp
  have e2 : (isb != isb) = false := by simp
  have e3 : (rs == rs) = true := by simp
  clear hbeg hu hc hres hf hib hD hnD hrs hbt hkf
  obtain ⟨X, hX⟩ : ∃ X, w.heap.size = X := ⟨_, rfl⟩
  have H0 : Hid (Blk (w.alloc (.cells #[.int .i64 a0_Live, .int .i64 a0_Ring, .int .i64 a0_Win, .int .i64 a0_Out, .int .i64 a0_Quantum, .int .i64 a0_Visits] 54)) X [.int .i64 a0_Live, .int .i64 a0_Ring, .int .i64 a0_Win, .int .i64 a0_Out, .int .i64 a0_Quantum, .int .i64 a0_Visits] 54 ∧ Below w.heap.size w (w.alloc (.cells #[.int .i64 a0_Live, .int .i64 a0_Ring, .int .i64 a0_Win, .int .i64 a0_Out, .int .i64 a0_Quantum, .int .i64 a0_Visits] 54)) ∧ w.heap.size ≤ (w.alloc (.cells #[.int .i64 a0_Live, .int .i64 a0_Ring, .int .i64 a0_Win, .int .i64 a0_Out, .int .i64 a0_Quantum, .int .i64 a0_Visits] 54)).heap.size) := Lib.hid ⟨by rw [← hX]; exact Blk.newA _ _ _, (Below.refl _ _).alloc (Nat.le_refl _) _, by simp⟩
  go_enter Try.func5, Try.ntmps5
  go_upto_region 1 with fail
  clear hX
  revert H0
  generalize (w.alloc (.cells #[.int .i64 a0_Live, .int .i64 a0_Ring, .int .i64 a0_Win, .int .i64 a0_Out, .int .i64 a0_Quantum, .int .i64 a0_Visits] 54)) = W0
  intro H0
  go_upto_region 2 with (first
    | (go_at_call 8; (refine (few_ev a1 len1 cap1 z1 HI1.out.1 (by have := HI1.out.2.1; have := HI1.out.2.2.1; omega) 18 (by omega) 18 rfl L HL.out.1 m HL.out.2.1 _ (HI1.out.2.2.2.below H0.out.2.1)).mono ?_); rintro r4 W1 ⟨g1, c1, rfl, q1, q2, q3⟩; have HS : Hid (SG w W1 X [.int .i64 a0_Live, .int .i64 a0_Ring, .int .i64 a0_Win, .int .i64 a0_Out, .int .i64 a0_Quantum, .int .i64 a0_Visits] g1 c1 L) := Lib.hid ⟨H0.out.1.chg (l := []) (Chg.of_fresh q3) (by simp), q1, H0.out.2.1.trans (q3.mono H0.out.2.2), Nat.le_trans H0.out.2.2 q3.size⟩; clear q1 q2 q3 HI1 H0))
  replace HS := Lib.hid (HS.out.below (Below.refl _ _).drew)
  have s0 := HS.out.s6
  go_region_held3 (fun w' => w'.cell? ⟨X, 0, none⟩ = some (.int .i64 a0_Live) ∧ w'.cell? ⟨X, 1, none⟩ = some (.int .i64 a0_Ring) ∧ w'.cell? ⟨X, 2, none⟩ = some (.int .i64 a0_Win) ∧ w'.cell? ⟨X, 3, none⟩ = some (.int .i64 a0_Out) ∧ w'.cell? ⟨X, 4, none⟩ = some (.int .i64 a0_Quantum) ∧ w'.cell? ⟨X, 5, none⟩ = some (.int .i64 a0_Visits)) (first | with_reducible exact s0 | with_reducible exact sA | with_reducible exact sB) (first
    | (go_at_call 8; (with_reducible refine (few_ev (some ⟨g1, 0, none⟩) m c1 L HL.out.2.1 (by unfold maxLen; omega) 18 (by omega) 18 rfl L HL.out.2.2.2.1 m HL.out.2.1 _ (HS.out.el HL.out.2.2.1)).mono ?_); rintro r5 VF ⟨gF, cF, rfl, q1, q2, q3⟩; have HF1 : Hid (Rn VF gF cF 12 (evs L) 47) := Lib.hid q1; have HSn := Lib.hid (HS.out.below q3); clear HS; have HS := HSn; clear HSn q1 q2 q3; have sA := HS.out.s6)
    | (go_at_call 21; (with_reducible refine (HBD.out (some ⟨gF, 0, none⟩) cF _ (rn_el HF1 HL.out.2.2.1)).mono ?_); rintro r6 VB ⟨rfl, q3⟩; have HSn := Lib.hid (HS.out.below q3); clear HS HF1; have HS := HSn; clear HSn q3; have sB := HS.out.s6))
  all_goals
    clear s0
    (first | clear sA | skip)
    go_upto_region 6 with (first
      | (go_at_call 22; (with_reducible refine (HBR.out (some ⟨g1, 0, none⟩) c1 _ (HS.out.el HL.out.2.2.1)).mono ?_); rintro r7 VC ⟨rfl, q3⟩; have HSn := Lib.hid (HS.out.below q3); clear HS; have HS := HSn; clear HSn q3 sB)
      | (go_at_call 23; (with_reducible refine (gr_begin2 (some ⟨g1, 0, none⟩) m c1 L HL.out.2.1 (by omega) t ok HT.out.2 _ (HS.out.el HL.out.2.2.1)).mono ?_); rintro r8 VD ⟨rfl, q3⟩; have HSn := Lib.hid (HS.out.below q3); clear HS; have HS := HSn; clear HSn q3)
      | (go_at_call 24; (with_reducible refine (rg_first (some ⟨g1, 0, none⟩) m c1 L HL.out.2.1 (by omega) 7 kf HKF.out _ (HS.out.el HL.out.2.2.1)).mono ?_); rintro r9 VE ⟨rfl, q3⟩; have HSn := Lib.hid (HS.out.below q3); clear HS; have HS := HSn; clear HSn q3))
    cases ok with
    | true =>
      obtain ⟨x, hx, hxt⟩ := HBT.out.2.1 rfl
      rw [HD.out.1] at hx
      have hfl := (List.getElem?_eq_some_iff.1 hx).1
      rw [HL.out.2.1] at hfl
      obtain rfl : kf = (f : Int) := by rw [HK2.out, if_pos hfl]
      have k0 : (0 : Int) ≤ (f : Int) := by omega
      have k1 : (f : Int) < (m : Int) := by omega
      have q3 : ((f : Int) * 12).toNat = f * 12 := by omega
      have yt := HS.out.2.1.cell (evs_at L f x 3 (.int .i64 x.t) hx rfl)
      rw [hxt] at yt
      have e4 : (t != t) = false := by simp
      clear hx hxt q3
      go_upto_region 8 with fail
      clear yt k0 k1 e4
      replace HS := Lib.hid (HS.out.below (Below.refl _ _).drew)
      have s0 := HS.out.s6
      have T1 := Lib.hid trivial
      go_region_held3 (fun w' => w'.cell? ⟨X, 0, none⟩ = some (.int .i64 a0_Live) ∧ w'.cell? ⟨X, 1, none⟩ = some (.int .i64 a0_Ring) ∧ w'.cell? ⟨X, 2, none⟩ = some (.int .i64 a0_Win) ∧ w'.cell? ⟨X, 3, none⟩ = some (.int .i64 a0_Out) ∧ w'.cell? ⟨X, 4, none⟩ = some (.int .i64 a0_Quantum) ∧ w'.cell? ⟨X, 5, none⟩ = some (.int .i64 a0_Visits)) (first | with_reducible exact s0 | with_reducible exact sA | with_reducible exact sB | with_reducible exact sC | with_reducible exact sD | with_reducible exact sE | with_reducible exact sF | with_reducible exact sG | with_reducible exact sH) (first
        | (go_at_call 8; clear T1; (with_reducible refine (few_ev (some ⟨g1, 0, none⟩) m c1 L HL.out.2.1 (by unfold maxLen; omega) 18 (by omega) 18 rfl L HL.out.2.2.2.1 m HL.out.2.1 _ (HS.out.el HL.out.2.2.1)).mono ?_); rintro r11 VG ⟨gG, cG, rfl, q1, q2, q3⟩; (first | (have HF2n := rn_b HF2 q3; clear HF2; have HF2 := HF2n; clear HF2n) | skip); (first | (have HLAn := ri_b HLA q3; clear HLA; have HLA := HLAn; clear HLAn) | skip); (first | (have HLBn := ri_b HLB q3; clear HLB; have HLB := HLBn; clear HLBn) | skip); have HSn := Lib.hid (HS.out.below q3); clear HS; have HS := HSn; clear HSn; have sA := HS.out.s6; clear q3; have HF1 : Hid (Rn VG gG cG 12 (evs L) 47) := Lib.hid q1; clear q1 q2)
        | (go_at_call 25; (with_reducible refine (gr_late a0_Live a0_Ring a0_Win a0_Out a0_Quantum a0_Visits a2 (some ⟨gG, 0, none⟩) m cG L HL.out.2.1 (by omega) (rn_cap HF1 HL.out.2.1).1 (rn_cap HF1 HL.out.2.1).2 HL.out.2.2.2.2 bd isb f HD.out.1 HD.out.2.1 (HBD.out (some ⟨gG, 0, none⟩) cG) D HD.out.2.2.1 nD HD.out.2.2.2.1 _ (rn_el HF1 HL.out.2.2.1)).mono ?_); rintro r12 VH ⟨rA, kA, rfl, q1, q3⟩; clear HF1; (first | (have HF2n := rn_b HF2 q3; clear HF2; have HF2 := HF2n; clear HF2n) | skip); (first | (have HLBn := ri_b HLB q3; clear HLB; have HLB := HLBn; clear HLBn) | skip); have HSn := Lib.hid (HS.out.below q3); clear HS; have HS := HSn; clear HSn; have sB := HS.out.s6; clear q3; have HLA : Hid (RI VH rA D) := Lib.hid q1; clear q1)
        | (go_at_call 26; (with_reducible refine (rg_late a0_Live a0_Ring a0_Win a0_Out a0_Quantum a0_Visits a2 (some ⟨g1, 0, none⟩) m c1 L HL.out.2.1 (by omega) (sg_cap HS HL.out.2.1).1 (sg_cap HS HL.out.2.1).2 HL.out.2.2.2.2 bd isb f HD.out.1 HD.out.2.1 (HBR.out (some ⟨g1, 0, none⟩) c1) D HD.out.2.2.1 nD HD.out.2.2.2.1 _ (HS.out.el HL.out.2.2.1)).mono ?_); rintro r13 VI ⟨rB, kB, rfl, q1, q3⟩; (first | (have HF1n := rn_b HF1 q3; clear HF1; have HF1 := HF1n; clear HF1n) | skip); (first | (have HF2n := rn_b HF2 q3; clear HF2; have HF2 := HF2n; clear HF2n) | skip); (first | (have HLAn := ri_b HLA q3; clear HLA; have HLA := HLAn; clear HLAn) | skip); have HSn := Lib.hid (HS.out.below q3); clear HS; have HS := HSn; clear HSn; have sC := HS.out.s6; clear q3; have HLB : Hid (RI VI rB D) := Lib.hid q1; clear q1)
        | (go_at_call 12; (with_reducible refine (ints_same rA rB nD kA kB D HD.out.2.2.2.1 (by omega) _ HLA.out HLB.out).mono ?_); rintro r14 VJ ⟨rfl, q3⟩; clear HLA HLB; (first | (have HF1n := rn_b HF1 q3; clear HF1; have HF1 := HF1n; clear HF1n) | skip); (first | (have HF2n := rn_b HF2 q3; clear HF2; have HF2 := HF2n; clear HF2n) | skip); have HSn := Lib.hid (HS.out.below q3); clear HS; have HS := HSn; clear HSn; have sD := HS.out.s6; clear q3)
        | (go_at_call 8; (with_reducible refine (few_ev (some ⟨g1, 0, none⟩) m c1 L HL.out.2.1 (by unfold maxLen; omega) 18 (by omega) 18 rfl L HL.out.2.2.2.1 m HL.out.2.1 _ (HS.out.el HL.out.2.2.1)).mono ?_); rintro r15 VK ⟨gK, cK, rfl, q1, q2, q3⟩; (first | (have HF1n := rn_b HF1 q3; clear HF1; have HF1 := HF1n; clear HF1n) | skip); (first | (have HLAn := ri_b HLA q3; clear HLA; have HLA := HLAn; clear HLAn) | skip); (first | (have HLBn := ri_b HLB q3; clear HLB; have HLB := HLBn; clear HLBn) | skip); have HSn := Lib.hid (HS.out.below q3); clear HS; have HS := HSn; clear HSn; have sE := HS.out.s6; clear q3; have HF2 : Hid (Rn VK gK cK 12 (evs L) 47) := Lib.hid q1; clear q1 q2)
        | (go_at_call 27; (with_reducible refine (HST.out (some ⟨gK, 0, none⟩) cK _ (rn_el HF2 HL.out.2.2.1)).mono ?_); rintro r16 VL ⟨rfl, q3⟩; clear HF2; (first | (have HF1n := rn_b HF1 q3; clear HF1; have HF1 := HF1n; clear HF1n) | skip); (first | (have HLAn := ri_b HLA q3; clear HLA; have HLA := HLAn; clear HLAn) | skip); (first | (have HLBn := ri_b HLB q3; clear HLB; have HLB := HLBn; clear HLBn) | skip); have HSn := Lib.hid (HS.out.below q3); clear HS; have HS := HSn; clear HSn; have sF := HS.out.s6; clear q3)
        | (go_at_call 28; (with_reducible refine (HSR.out (some ⟨g1, 0, none⟩) c1 _ (HS.out.el HL.out.2.2.1)).mono ?_); rintro r17 VM ⟨rfl, q3⟩; (first | (have HF1n := rn_b HF1 q3; clear HF1; have HF1 := HF1n; clear HF1n) | skip); (first | (have HF2n := rn_b HF2 q3; clear HF2; have HF2 := HF2n; clear HF2n) | skip); (first | (have HLAn := ri_b HLA q3; clear HLA; have HLA := HLAn; clear HLAn) | skip); (first | (have HLBn := ri_b HLB q3; clear HLB; have HLB := HLBn; clear HLBn) | skip); have HSn := Lib.hid (HS.out.below q3); clear HS; have HS := HSn; clear HSn; have sG := HS.out.s6; clear q3)
        | (go_at_call 29; refine (gr_lives _).mono ?_; rintro r18 VN ⟨rfl, q3⟩; (first | (have HF1n := rn_b HF1 q3; clear HF1; have HF1 := HF1n; clear HF1n) | skip); (first | (have HF2n := rn_b HF2 q3; clear HF2; have HF2 := HF2n; clear HF2n) | skip); (first | (have HLAn := ri_b HLA q3; clear HLA; have HLA := HLAn; clear HLAn) | skip); (first | (have HLBn := ri_b HLB q3; clear HLB; have HLB := HLBn; clear HLBn) | skip); have HSn := Lib.hid (HS.out.below q3); clear HS; have HS := HSn; clear HSn; have sH := HS.out.s6; clear q3))
      all_goals
        go_wp2_with fail
        go_ret
        exact ⟨rfl, HS.out.be⟩
    | false =>
      obtain ⟨hfe, ht0⟩ := HBT.out.2.2 rfl
      rw [HD.out.1, HL.out.2.1] at hfe
      obtain rfl : kf = -1 := by rw [HK2.out, if_neg (by omega)]
      obtain rfl : t = 0 := ht0
      clear hfe
      go_upto_region 8 with fail
      replace HS := Lib.hid (HS.out.below (Below.refl _ _).drew)
      have s0 := HS.out.s6
      have T1 := Lib.hid trivial
      go_region_held3 (fun w' => w'.cell? ⟨X, 0, none⟩ = some (.int .i64 a0_Live) ∧ w'.cell? ⟨X, 1, none⟩ = some (.int .i64 a0_Ring) ∧ w'.cell? ⟨X, 2, none⟩ = some (.int .i64 a0_Win) ∧ w'.cell? ⟨X, 3, none⟩ = some (.int .i64 a0_Out) ∧ w'.cell? ⟨X, 4, none⟩ = some (.int .i64 a0_Quantum) ∧ w'.cell? ⟨X, 5, none⟩ = some (.int .i64 a0_Visits)) (first | with_reducible exact s0 | with_reducible exact sA | with_reducible exact sB | with_reducible exact sC | with_reducible exact sD | with_reducible exact sE | with_reducible exact sF | with_reducible exact sG | with_reducible exact sH) (first
        | (go_at_call 8; clear T1; (with_reducible refine (few_ev (some ⟨g1, 0, none⟩) m c1 L HL.out.2.1 (by unfold maxLen; omega) 18 (by omega) 18 rfl L HL.out.2.2.2.1 m HL.out.2.1 _ (HS.out.el HL.out.2.2.1)).mono ?_); rintro r11 VG ⟨gG, cG, rfl, q1, q2, q3⟩; (first | (have HF2n := rn_b HF2 q3; clear HF2; have HF2 := HF2n; clear HF2n) | skip); (first | (have HLAn := ri_b HLA q3; clear HLA; have HLA := HLAn; clear HLAn) | skip); (first | (have HLBn := ri_b HLB q3; clear HLB; have HLB := HLBn; clear HLBn) | skip); have HSn := Lib.hid (HS.out.below q3); clear HS; have HS := HSn; clear HSn; have sA := HS.out.s6; clear q3; have HF1 : Hid (Rn VG gG cG 12 (evs L) 47) := Lib.hid q1; clear q1 q2)
        | (go_at_call 25; (with_reducible refine (gr_late a0_Live a0_Ring a0_Win a0_Out a0_Quantum a0_Visits a2 (some ⟨gG, 0, none⟩) m cG L HL.out.2.1 (by omega) (rn_cap HF1 HL.out.2.1).1 (rn_cap HF1 HL.out.2.1).2 HL.out.2.2.2.2 bd isb f HD.out.1 HD.out.2.1 (HBD.out (some ⟨gG, 0, none⟩) cG) D HD.out.2.2.1 nD HD.out.2.2.2.1 _ (rn_el HF1 HL.out.2.2.1)).mono ?_); rintro r12 VH ⟨rA, kA, rfl, q1, q3⟩; clear HF1; (first | (have HF2n := rn_b HF2 q3; clear HF2; have HF2 := HF2n; clear HF2n) | skip); (first | (have HLBn := ri_b HLB q3; clear HLB; have HLB := HLBn; clear HLBn) | skip); have HSn := Lib.hid (HS.out.below q3); clear HS; have HS := HSn; clear HSn; have sB := HS.out.s6; clear q3; have HLA : Hid (RI VH rA D) := Lib.hid q1; clear q1)
        | (go_at_call 26; (with_reducible refine (rg_late a0_Live a0_Ring a0_Win a0_Out a0_Quantum a0_Visits a2 (some ⟨g1, 0, none⟩) m c1 L HL.out.2.1 (by omega) (sg_cap HS HL.out.2.1).1 (sg_cap HS HL.out.2.1).2 HL.out.2.2.2.2 bd isb f HD.out.1 HD.out.2.1 (HBR.out (some ⟨g1, 0, none⟩) c1) D HD.out.2.2.1 nD HD.out.2.2.2.1 _ (HS.out.el HL.out.2.2.1)).mono ?_); rintro r13 VI ⟨rB, kB, rfl, q1, q3⟩; (first | (have HF1n := rn_b HF1 q3; clear HF1; have HF1 := HF1n; clear HF1n) | skip); (first | (have HF2n := rn_b HF2 q3; clear HF2; have HF2 := HF2n; clear HF2n) | skip); (first | (have HLAn := ri_b HLA q3; clear HLA; have HLA := HLAn; clear HLAn) | skip); have HSn := Lib.hid (HS.out.below q3); clear HS; have HS := HSn; clear HSn; have sC := HS.out.s6; clear q3; have HLB : Hid (RI VI rB D) := Lib.hid q1; clear q1)
        | (go_at_call 12; (with_reducible refine (ints_same rA rB nD kA kB D HD.out.2.2.2.1 (by omega) _ HLA.out HLB.out).mono ?_); rintro r14 VJ ⟨rfl, q3⟩; clear HLA HLB; (first | (have HF1n := rn_b HF1 q3; clear HF1; have HF1 := HF1n; clear HF1n) | skip); (first | (have HF2n := rn_b HF2 q3; clear HF2; have HF2 := HF2n; clear HF2n) | skip); have HSn := Lib.hid (HS.out.below q3); clear HS; have HS := HSn; clear HSn; have sD := HS.out.s6; clear q3)
        | (go_at_call 8; (with_reducible refine (few_ev (some ⟨g1, 0, none⟩) m c1 L HL.out.2.1 (by unfold maxLen; omega) 18 (by omega) 18 rfl L HL.out.2.2.2.1 m HL.out.2.1 _ (HS.out.el HL.out.2.2.1)).mono ?_); rintro r15 VK ⟨gK, cK, rfl, q1, q2, q3⟩; (first | (have HF1n := rn_b HF1 q3; clear HF1; have HF1 := HF1n; clear HF1n) | skip); (first | (have HLAn := ri_b HLA q3; clear HLA; have HLA := HLAn; clear HLAn) | skip); (first | (have HLBn := ri_b HLB q3; clear HLB; have HLB := HLBn; clear HLBn) | skip); have HSn := Lib.hid (HS.out.below q3); clear HS; have HS := HSn; clear HSn; have sE := HS.out.s6; clear q3; have HF2 : Hid (Rn VK gK cK 12 (evs L) 47) := Lib.hid q1; clear q1 q2)
        | (go_at_call 27; (with_reducible refine (HST.out (some ⟨gK, 0, none⟩) cK _ (rn_el HF2 HL.out.2.2.1)).mono ?_); rintro r16 VL ⟨rfl, q3⟩; clear HF2; (first | (have HF1n := rn_b HF1 q3; clear HF1; have HF1 := HF1n; clear HF1n) | skip); (first | (have HLAn := ri_b HLA q3; clear HLA; have HLA := HLAn; clear HLAn) | skip); (first | (have HLBn := ri_b HLB q3; clear HLB; have HLB := HLBn; clear HLBn) | skip); have HSn := Lib.hid (HS.out.below q3); clear HS; have HS := HSn; clear HSn; have sF := HS.out.s6; clear q3)
        | (go_at_call 28; (with_reducible refine (HSR.out (some ⟨g1, 0, none⟩) c1 _ (HS.out.el HL.out.2.2.1)).mono ?_); rintro r17 VM ⟨rfl, q3⟩; (first | (have HF1n := rn_b HF1 q3; clear HF1; have HF1 := HF1n; clear HF1n) | skip); (first | (have HF2n := rn_b HF2 q3; clear HF2; have HF2 := HF2n; clear HF2n) | skip); (first | (have HLAn := ri_b HLA q3; clear HLA; have HLA := HLAn; clear HLAn) | skip); (first | (have HLBn := ri_b HLB q3; clear HLB; have HLB := HLBn; clear HLBn) | skip); have HSn := Lib.hid (HS.out.below q3); clear HS; have HS := HSn; clear HSn; have sG := HS.out.s6; clear q3)
        | (go_at_call 29; refine (gr_lives _).mono ?_; rintro r18 VN ⟨rfl, q3⟩; (first | (have HF1n := rn_b HF1 q3; clear HF1; have HF1 := HF1n; clear HF1n) | skip); (first | (have HF2n := rn_b HF2 q3; clear HF2; have HF2 := HF2n; clear HF2n) | skip); (first | (have HLAn := ri_b HLA q3; clear HLA; have HLA := HLAn; clear HLAn) | skip); (first | (have HLBn := ri_b HLB q3; clear HLB; have HLB := HLBn; clear HLBn) | skip); have HSn := Lib.hid (HS.out.below q3); clear HS; have HS := HSn; clear HSn; have sH := HS.out.s6; clear q3))
      all_goals
        go_wp2_with fail
        go_ret
        exact ⟨rfl, HS.out.be⟩

set_option maxRecDepth 100000 in
theorem lifted (os : Os) (started : os.Started) (H : Type) (enc : TypeId × Value → H) :
    ReturnsInHanded {} Try.checked os 5 .any (Rows.graceTellsSpec.pre6 enc Try.prog Try.f5 Rows.graceTellsRow.domain false) (Rows.graceTellsSpec.post enc Try.prog Try.f5 false true false false) := by
  refine returnsInHanded_of_change (C := Try.checked) ownKn started (by kernel_rfl) Try.func5
    (ChangeSpec.witness6 (enc := enc) (C := Try.checked) false ⟨#[], #[.agg #[.int .i64 0, .int .i64 0, .int .i64 0, .int .i64 0, .int .i64 0, .int .i64 0], .slice none 0 0, .int .i64 0], []⟩ 8 (by kernel_rfl) (by kernel_rfl) (by kernel_rfl) (by kernel_rfl)) ?_
  intro W base args ds gs before hval0 hW hcnd _
  have hval : ∀ (j : Nat) t v, Try.f5.params[j]? = some t → args[j]? = some v → Value.okWide Try.prog W .any base t v := hval0
  have hW' := hW
  obtain ⟨p, q, hA0, hV, rfl, hfz, hnd⟩ := hW
  have hA : DataW.TrodAll enc Try.prog W 0 (fun _ => true) true Try.f5.params.toList args.toList ds p := hA0
  rw [Try.params5] at hA hval
  obtain ⟨v0, vs0, d0, ds0, p0, q0, hargs, rfl, rfl, h0, r0⟩ := trodAll_cons hA
  obtain ⟨v1, vs1, d1, ds1, p1, q1, rfl, rfl, rfl, h1, r1⟩ := trodAll_cons r0
  obtain ⟨v2, vs2, d2, ds2, p2, q2, rfl, rfl, rfl, h2, r2⟩ := trodAll_cons r1
  obtain ⟨rfl, rfl, rfl⟩ := trodAll_nil r2
  obtain rfl : args = #[v0, v1, v2] := by cases args; simp_all
  obtain ⟨rfl, rfl⟩ := trodVars_none hV
  have k0 := h0
  have lt0 : ∀ x ∈ p0, x.block < W.heap.size := by obtain ⟨m, hm⟩ := k0; exact DataW.trod_lt m _ _ _ hm
  obtain ⟨u0_0, u0_1, u0_2, u0_3, u0_4, u0_5, y0_0, y0_1, y0_2, y0_3, y0_4, y0_5, nn0, rfl, _, _, g0_0, g0_1, g0_2, g0_3, g0_4, g0_5⟩ := open_flat6 Try.underlying54 (by kernel_rfl) (by kernel_rfl) (hval 0 54 v0 rfl rfl) h0
  obtain ⟨a0_Live, rfl, w0_Live⟩ := fld_int Try.underlying3 g0_0
  obtain ⟨a0_Ring, rfl, w0_Ring⟩ := fld_int Try.underlying3 g0_1
  obtain ⟨a0_Win, rfl, w0_Win⟩ := fld_int Try.underlying3 g0_2
  obtain ⟨a0_Out, rfl, w0_Out⟩ := fld_int Try.underlying3 g0_3
  obtain ⟨a0_Quantum, rfl, w0_Quantum⟩ := fld_int Try.underlying3 g0_4
  obtain ⟨a0_Visits, rfl, w0_Visits⟩ := fld_int Try.underlying3 g0_5
  have k1 := h1
  have lt1 : ∀ x ∈ p1, x.block < W.heap.size := by obtain ⟨m, hm⟩ := k1; exact DataW.trod_lt m _ _ _ hm
  obtain ⟨b1, lb1, cb1, rfl⟩ := okWide_slice Try.underlying22 (hval 1 22 v1 rfl rfl)
  obtain ⟨fu1, hf1⟩ := h1
  simp only [Value.cells] at hf1
  obtain ⟨a1, len1, cap1, z1, e1, w1⟩ := fld_ev hf1
  obtain ⟨rfl, rfl, rfl⟩ : b1 = a1 ∧ lb1 = len1 ∧ cb1 = cap1 := by simpa using e1
  have k2 := h2
  have lt2 : ∀ x ∈ p2, x.block < W.heap.size := by obtain ⟨m, hm⟩ := k2; exact DataW.trod_lt m _ _ _ hm
  obtain ⟨a2, rfl, rfl, rfl, w2⟩ := open_int Try.underlying2 (hval 2 2 v2 rfl rfl) h2
  clear hA0 hval0
  refine (walk a0_Live a0_Ring a0_Win a0_Out a0_Quantum a0_Visits b1 lb1 cb1 z1 a2 W w0_Live w0_Ring w0_Win w0_Out w0_Quantum w0_Visits w1 w2).mono fun e W' ⟨he, bel⟩ => ?_
  subst he
  exact ⟨_, rfl, _, _, _, [], _, [], hW', trodAll_mk1 (shut_bool Try.underlying4 _), (trodAll_cons_mk (Below.trod laidOut (by kernel_rfl) (of_decide_eq_true (by kernel_rfl)) k0 bel lt0) (trodAll_cons_mk (Below.trod laidOut (by kernel_rfl) (of_decide_eq_true (by kernel_rfl)) k1 bel lt1) (trodAll_cons_mk (Below.trod laidOut (by kernel_rfl) (of_decide_eq_true (by kernel_rfl)) k2 bel lt2) trodAll_mk0))), rfl, bel.frame _, fun h => by cases h⟩

theorem over : Rows.graceTellsRow.holds Try.pinned (OpenSpec.ofChange Rows.graceTellsSpec) :=
  OpenClaim.holds_of_wide 5 Try.f5 rfl rfl rfl rfl rfl rfl rfl ⟨rfl, rfl, rfl, rfl, rfl⟩ rfl rfl rfl rfl rfl (by kernel_rfl) Try.func5 (by kernel_rfl)
    (of_decide_eq_true (by kernel_rfl)) (by unfold Func.isWrapper; first | (rw [if_pos (by decide +kernel)]; kernel_rfl) | (rw [if_neg (by decide +kernel)]; exact ⟨rfl, rfl⟩))
    (fun os started H enc _ => lifted os started H enc)

/-- The statement. -/
theorem proved : Rows.GraceTellsSaid := over
#print axioms proved
end Go.Proofs.Ytdchedkhlfmpeaa.graceTells
