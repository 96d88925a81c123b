/- Several texts in one. -/
import Derived.Test.YtdchedkhlfmpeaaGr8
import Derived.Test.YtdchedkhlfmpeaaCpB
import Derived.Test.YtdchedkhlfmpeaaEv18
import Derived.Test.YtdchedkhlfmpeaaShelf
import Derived.WalkKit
import Derived.ProofKit
import Derived.Handy
import Derived.WalkLawsBesides
import Derived.WalkSpells
import Derived.Lib.Hide
import Derived.Lib.SliceRun
import Derived.Deep.RegionLaw
import Derived.RegionTactic
import Derived.ChangeAlike
import Derived.WalkSmall
import Derived.Deep.QuietTactic
import Derived.BigQuiet
import Derived.OwnWalk
import Derived.Outline
import Derived.Deep.CutRange
import Derived.Deep.CutBlock
import Derived.LoopTactic
import Derived.Test.YtdchedkhlfmpeaaGr1
/- Grace: who ended too late. -/
namespace Go.Proofs.Ytdchedkhlfmpeaa
open Go.ChangeShapes Go.WideShapes Go.ChangeAt Go.RowKit
set_option linter.unusedSimpArgs false
set_option linter.unusedVariables false

/-- One ended too late, or not at all. -/
def Gr.lat (b : Int) (T : List Ev) : Bool := decide (Pj.ss T = 0) || decide (b ≤ ((Pj.stE T).getLast?.map Ev.s0).getD 0)
def Gr.tl (i : Int) (L : List Ev) : List Ev := (Pj.lifeD i L).2.2.2.1
/-- Those who were opened ahead of place f, and ended too late. -/
def Gr.late (b : Int) (f : Nat) (L : List Ev) : List Int := (Ev.ids (L.take f)).filter (fun i => Gr.lat b (Gr.tl i L))
theorem Gr.late_eq (b : Int) (f : Nat) (L : List Ev) : (Ev.ids L).filter (fun i => (Ev.ids (L.take f)).contains i && Gr.lat b (Gr.tl i L)) = Gr.late b f L := by
  refine lt_ext _ _ ((Ev.ids_srt L).1.filter _) ((Ev.ids_srt _).1.filter _) (fun x => ?_)
  unfold Gr.late
  rw [List.mem_filter, List.mem_filter]
  constructor
  · rintro ⟨_, h⟩
    simp only [Bool.and_eq_true, List.contains_iff_mem] at h
    exact h
  · rintro ⟨h1, h2⟩
    refine ⟨?_, by simp only [Bool.and_eq_true, List.contains_iff_mem]; exact ⟨h1, h2⟩⟩
    rw [(Ev.ids_srt _).2] at h1 ⊢
    unfold Ev.ops at *
    obtain ⟨y, hy, e⟩ := List.mem_map.1 h1
    rw [List.mem_filter] at hy
    exact List.mem_map.2 ⟨y, List.mem_filter.2 ⟨List.mem_of_mem_take hy.1, hy.2⟩, e⟩
theorem Pj.stE_ne {T : List Ev} (h : Pj.ss T ≠ 0) : Pj.stE T ≠ [] := by
  intro e
  apply h
  have key : ∀ (T : List Ev) (s : Int), Pj.stE T = [] → T.foldl (fun s x => if x.k = 8 then x.s5 else s) s = s := by
    intro T
    induction T with
    | nil => intro s _; rfl
    | cons x T ih =>
      intro s hx
      unfold Pj.stE at hx
      rw [List.filter_cons] at hx
      by_cases hk : x.k = 8
      · rw [if_pos (by simp [hk])] at hx; cases hx
      · rw [if_neg (by simp [hk])] at hx
        rw [List.foldl_cons, if_neg hk]
        exact ih s hx
  exact key T 0 e
theorem Gr.tl_life {i : Int} {T L : List Ev} (h : Pj.life i T = Pj.life i L) : Pj.lifeD i T = Pj.lifeD i L := by unfold Pj.lifeD; rw [h]
theorem Ev.ids_le (L : List Ev) : (Ev.ids L).length ≤ L.length := by
  rw [← ids_eq]
  refine Nat.le_trans (compact_len _) ?_
  rw [List.length_mergeSort]
  unfold Ev.ops
  rw [List.length_map]
  exact List.length_filter_le _ _
/-- Numbers rising, searched. -/
theorem ids_search (D : List Int) (n : Nat) (hn : D.length = n) (hnm : n ≤ 100000) (hs : D.Pairwise (· < ·)) (r : Option Addr) (c : Nat) (x : Int) (bq : Bool) (hb : D.contains x = bq) (w : World) (h : RI w r D) :
    Calls Try.prog 54 #[.slice r n c, .int .i64 x] w fun e w' => ∃ p : Int, e = .returned (.tuple #[.int .i64 p, .bool bq]) ∧ Below w.heap.size w w' := by
  by_cases h0 : n = 0
  · subst h0
    have : D = [] := List.length_eq_zero_iff.1 hn
    subst this
    obtain rfl : false = bq := by rw [← hb]; rfl
    refine (Try.slices_BinarySearch_int_empty r c x w).mono ?_
    rintro e w' ⟨rfl, rfl⟩
    exact ⟨0, rfl, Below.refl _ _⟩
  · obtain ⟨v, hv⟩ : ∃ v, D[0]? = some v := ⟨_, List.getElem?_eq_getElem (by omega)⟩
    obtain ⟨g, o, rfl, hg, _⟩ := h 0 v hv
    have ht : D.take n = D := List.take_of_length_le (by omega)
    refine (Try.slices_BinarySearch_int g o n c D x w (by omega) (by omega) (fun j hj => ?_) (by rw [ht]; exact hs.imp (fun h => Int.le_of_lt h))).mono ?_
    · obtain ⟨u, hu⟩ : ∃ u, D[j]? = some u := ⟨_, List.getElem?_eq_getElem hj⟩
      obtain ⟨g2, o2, e, _, hc⟩ := h j u hu
      injection e with e
      injection e with e1 e2 _
      subst e1 e2
      rw [hc, List.getD_eq_getElem?_getD, hu]; rfl
    · rintro e w' ⟨rfl, q, rfl⟩
      rw [ht, hb]
      exact ⟨_, rfl, ⟨rfl, rfl, rfl, Nat.le_refl _, fun _ _ => rfl⟩⟩
/-- A part read out of the row. -/
theorem Cp.pcs_len (P : List (Int × PV)) : (Cp.pcs P).length = P.length * 3 := by
  unfold Cp.pcs
  induction P with
  | nil => rfl
  | cons p P ih => rw [List.flatMap_cons, List.length_append, ih, List.length_cons]; show 3 + _ = _; omega
theorem Cp.pcs_at : ∀ (P : List (Int × PV)) (j : Nat) (p : Int × PV) (q : Nat) (v : Value), P[j]? = some p → (p.2.cs p.1)[q]? = some v → (Cp.pcs P)[j * 3 + q]? = some v
  | [], j, p, q, v, h, _ => by simp at h
  | x :: P, 0, p, q, v, h, hq => by
    simp at h
    subst h
    unfold Cp.pcs
    rw [List.flatMap_cons]
    have hl : q < (x.2.cs x.1).length := by
      rcases Nat.lt_or_ge q (x.2.cs x.1).length with h | h
      · exact h
      · rw [List.getElem?_eq_none h] at hq; cases hq
    rw [show 0 * 3 + q = q by omega, List.getElem?_append_left hl]; exact hq
  | x :: P, j + 1, p, q, v, h, hq => by
    simp only [List.getElem?_cons_succ] at h
    have ih := Cp.pcs_at P j p q v h hq
    unfold Cp.pcs at *
    rw [List.flatMap_cons, List.getElem?_append_right (by show 3 ≤ _; omega)]
    have : (j + 1) * 3 + q - (x.2.cs x.1).length = j * 3 + q := by show _ - 3 = _; omega
    rw [this]; exact ih
theorem Cp.part_at {w : World} {B n c : Nat} {r : Option Addr} {P : List (Int × PV)} (h : RM w B r n c 3 (Cp.pcs P) 84) (hP : P.length = n) {j : Nat} {i : Int} {v : PV} (hj : P[j]? = some (i, v)) : ∃ g, r = some ⟨g, 0, none⟩ ∧ g < w.heap.size ∧ w.cell? ⟨g, j * 3, none⟩ = some (.int .i64 i) ∧ w.cell? ⟨g, j * 3 + 1, none⟩ = some (.slice v.re v.T.length v.ce) ∧ w.cell? ⟨g, j * 3 + 2, none⟩ = some (.slice v.rr v.R.length v.cr) := by
  have hl := (List.getElem?_eq_some_iff.1 hj).1
  obtain ⟨g, rfl, _, hr⟩ := h.row (by omega)
  exact ⟨g, rfl, hr.lt, hr.cell (Cp.pcs_at P j _ 0 _ hj rfl), hr.cell (Cp.pcs_at P j _ 1 _ hj rfl), hr.cell (Cp.pcs_at P j _ 2 _ hj rfl)⟩
end Go.Proofs.Ytdchedkhlfmpeaa
/- Grace: Late. -/
namespace Go.Proofs.Ytdchedkhlfmpeaa
open Go.ChangeShapes Go.WideShapes Go.ChangeAt Go.RowKit
set_option linter.unusedSimpArgs false
set_option linter.unusedVariables false

set_option maxRecDepth 20000 in
set_option maxHeartbeats 16000000 in
theorem gr_late (l r i o q v each : Int) (a : Option Addr) (len cap : Nat) (L : List Ev) (hl : L.length = len) (hlm : len ≤ 10000) (hlc : len ≤ cap) (hcm : cap ≤ 9223372036854775807) (hb24 : ∀ x ∈ L, x.b.size ≤ 24) (bd : Int) (isb : Bool) (f : Nat) (hf : Gr.fst 7 L = f) (hib : isb = true → f < len)
    (hbd : ∀ W, EL W a L → Calls Try.prog 21 #[.agg #[.int .i64 l, .int .i64 r, .int .i64 i, .int .i64 o, .int .i64 q, .int .i64 v], .slice a len cap, .int .i64 each] W fun e W' => e = .returned (.tuple #[.int .i64 bd, .bool isb]) ∧ Below W.heap.size W W')
    (D : List Int) (hD : (if isb = true then Gr.late bd f L else []) = D) (n : Nat) (hn : D.length = n) (w : World) (HE : EL w a L) :
    Calls Try.prog 25 #[.agg #[.int .i64 l, .int .i64 r, .int .i64 i, .int .i64 o, .int .i64 q, .int .i64 v], .slice a len cap, .int .i64 each] w fun e w' => ∃ (rr : Option Addr) (cc : Nat), e = .returned (.slice rr n cc) ∧ RI w' rr D ∧ Below w.heap.size w w' := by
  obtain ⟨X, hX⟩ : ∃ X, w.heap.size = X := ⟨_, rfl⟩
  have H0 : Hid (Blk (w.alloc (.cells #[.int .i64 l, .int .i64 r, .int .i64 i, .int .i64 o, .int .i64 q, .int .i64 v] 54)) X [.int .i64 l, .int .i64 r, .int .i64 i, .int .i64 o, .int .i64 q, .int .i64 v] 54 ∧ EL (w.alloc (.cells #[.int .i64 l, .int .i64 r, .int .i64 i, .int .i64 o, .int .i64 q, .int .i64 v] 54)) a L ∧ Below w.heap.size w (w.alloc (.cells #[.int .i64 l, .int .i64 r, .int .i64 i, .int .i64 o, .int .i64 q, .int .i64 v] 54)) ∧ X < (w.alloc (.cells #[.int .i64 l, .int .i64 r, .int .i64 i, .int .i64 o, .int .i64 q, .int .i64 v] 54)).heap.size) := Lib.hid (by
    have b1 := Blk.newA w #[.int .i64 l, .int .i64 r, .int .i64 i, .int .i64 o, .int .i64 q, .int .i64 v] 54
    rw [hX] at b1
    exact ⟨b1, HE.below ((Below.refl _ _).alloc (Nat.le_refl _) _), (Below.refl _ _).alloc (Nat.le_refl _) _, b1.lt⟩)
  have HB0 := Lib.hid hbd
  have HL := Lib.hid (And.intro hl (And.intro HE (And.intro hb24 (And.intro hD hn))))
  have HF := Lib.hid hf
  clear hl hbd HE hb24 hD hn hf
  cases isb with
  | false =>
    clear hib
    have HDD : Hid (D = [] ∧ n = 0) := Lib.hid (by
      have h := HL.out.2.2.2
      rw [if_neg (by simp)] at h
      exact ⟨h.1.symm, by rw [← h.2, ← h.1]; rfl⟩)
    obtain rfl : n = 0 := HDD.out.2
    go_enter Try.func25, Try.ntmps25
    go_upto_region 1 with fail
    revert H0
    generalize (w.alloc (.cells #[.int .i64 l, .int .i64 r, .int .i64 i, .int .i64 o, .int .i64 q, .int .i64 v] 54)) = W0
    intro H0
    have HA := H0
    clear H0
    have sc0 := HA.out.1.cell (i := 0) rfl
    have sc1 := HA.out.1.cell (i := 1) rfl
    have sc2 := HA.out.1.cell (i := 2) rfl
    have sc3 := HA.out.1.cell (i := 3) rfl
    have sc4 := HA.out.1.cell (i := 4) rfl
    have sc5 := HA.out.1.cell (i := 5) rfl
    go_wp2_with (first
      | (go_at_call 21; (with_reducible refine (HB0.out _ HA.out.2.1).mono ?_); rintro r4 W1 ⟨rfl, bb⟩; have HB1 : Hid (EL W1 a L ∧ Below w.heap.size w W1) := Lib.hid ⟨HA.out.2.1.below bb, HA.out.2.2.1.trans (bb.mono HA.out.2.2.1.size)⟩; clear bb HA sc0 sc1 sc2 sc3 sc4 sc5 hX))
    go_ret
    rw [HDD.out.1]
    first
      | exact ⟨none, 0, rfl, RI.nil _ _, HB1.out.2⟩
      | exact ⟨none, ⟨0, rfl⟩, RI.nil _ _, HB1.out.2⟩
  | true =>
    replace hib := hib rfl
    go_enter Try.func25, Try.ntmps25
    go_upto_region 1 with fail
    revert H0
    generalize (w.alloc (.cells #[.int .i64 l, .int .i64 r, .int .i64 i, .int .i64 o, .int .i64 q, .int .i64 v] 54)) = W0
    intro H0
    have HA := H0
    clear H0
    have sc0 := HA.out.1.cell (i := 0) rfl
    have sc1 := HA.out.1.cell (i := 1) rfl
    have sc2 := HA.out.1.cell (i := 2) rfl
    have sc3 := HA.out.1.cell (i := 3) rfl
    have sc4 := HA.out.1.cell (i := 4) rfl
    have sc5 := HA.out.1.cell (i := 5) rfl
    have f0 : (0 : Int) ≤ (f : Int) := by omega
    have f1 : (f : Int) ≤ (cap : Int) := by omega
    have f2 : f ≤ cap := by omega
    obtain ⟨D1, hD1⟩ : ∃ D1, Ev.ids (L.take f) = D1 := ⟨_, rfl⟩
    obtain ⟨n1, hn1⟩ : ∃ n1, D1.length = n1 := ⟨_, rfl⟩
    obtain ⟨n2, hn2⟩ : ∃ n2, (Ev.ids L).length = n2 := ⟨_, rfl⟩
    have HI := Lib.hid (And.intro hD1 (And.intro hn1 hn2))
    have HTL : Hid ((L.take f).length = f) := Lib.hid (by rw [List.length_take, HL.out.1]; omega)
    have HQ1 : Hid (n1 ≤ 100000 ∧ D1.Pairwise (· < ·)) := Lib.hid ⟨by
      have h1 := Ev.ids_le (L.take f)
      rw [hD1, hn1, List.length_take] at h1
      omega, by rw [← hD1]; exact (Ev.ids_srt _).1⟩
    clear hD1 hn1 hn2
    go_upto_region 5 with (first
      | (go_at_call 21; (with_reducible refine (HB0.out _ HA.out.2.1).mono ?_); rintro r4 W1 ⟨rfl, bb⟩; have HB1 : Hid (EL W1 a L ∧ Below w.heap.size w W1) := Lib.hid ⟨HA.out.2.1.below bb, HA.out.2.2.1.trans (bb.mono HA.out.2.2.1.size)⟩; clear bb HA sc0 sc1 sc2 sc3 sc4 sc5 hX)
      | (go_at_call 52; (with_reducible refine (gr_first a len cap L HL.out.1 (by unfold maxLen; omega) 7 f HF.out _ HB1.out.1).mono ?_); rintro r5 W2 ⟨rfl, bb⟩; have HB2 : Hid (EL W2 a L ∧ Below w.heap.size w W2) := Lib.hid ⟨HB1.out.1.below bb, HB1.out.2.trans (bb.mono HB1.out.2.size)⟩; clear bb HB1)
      | (go_at_call 13; (with_reducible refine (pj_ids a f cap (L.take f) HTL.out (by omega) D1 HI.out.1 n1 HI.out.2.1 _ (HB2.out.1.take f)).mono ?_); rintro r6 W4 ⟨ra, ca, rfl, hnc, hri, _, bb⟩; have HB3 : Hid (EL W4 a L ∧ RI W4 ra D1 ∧ Below w.heap.size w W4) := Lib.hid ⟨HB2.out.1.below bb, hri, HB2.out.2.trans (bb.mono HB2.out.2.size)⟩; clear bb HB2 hri))
    go_wp2_with (go_at_call 53; (with_reducible refine (cp_parts a len cap L HL.out.1 (by omega) n2 HI.out.2.2 _ HB3.out.1).mono ?_); rintro r7 W3 ⟨rp, cp, P, rfl, h1, h2, h3, bb⟩; have HW : Hid (RM W3 W4.heap.size rp n2 cp 3 (Cp.pcs P) 84 ∧ P.map (·.1) = Ev.ids L ∧ (∀ p ∈ P, (p.1, p.2.T, p.2.R) ∈ (Cp.run L).S ∧ EL W3 p.2.re p.2.T ∧ p.2.T.length ≤ p.2.ce ∧ RI W3 p.2.rr p.2.R) ∧ RI W3 ra D1 ∧ Below w.heap.size w W3) := Lib.hid ⟨h1, h2, h3, HB3.out.2.1.below bb, HB3.out.2.2.trans (bb.mono HB3.out.2.2.size)⟩; clear bb HB3 h1 h2 h3)
    have HPl : Hid (P.length = n2) := Lib.hid (by rw [← HI.out.2.2, ← HW.out.2.1, List.length_map])
    obtain ⟨B3, hB3⟩ : ∃ B3, W3.heap.size = B3 := ⟨_, rfl⟩
    have hn2m : n2 ≤ 10000 := by
      have h1 := Ev.ids_le L
      rw [HI.out.2.2, HL.out.1] at h1
      omega
    go_loopw [10, 12, 13, 14, 15, 16, 34] (fun o10 _ _ _ _ _ z wr => ∃ (j qn cq : Nat) (rq : Option Addr), o10 = .slice rq qn cq ∧ z = .int .i64 j ∧ j ≤ n2 ∧ qn ≤ j ∧ Hid (RM wr B3 rq qn cq 1 ((((Ev.ids L).take j).filter (fun i => (Ev.ids (L.take f)).contains i && Gr.lat bd (Gr.tl i L))).map (Value.int .i64)) 3 ∧ Below B3 W3 wr)) (fun _ _ _ _ _ _ z _ => n2 - (intOf z).toNat)
    case atStart => exact ⟨0, 0, 0, none, rfl, rfl, by omega, by omega, Lib.hid ⟨by rw [List.take_zero]; exact RM.nil _ _ _ _ (by omega), Below.refl _ _⟩⟩
    case round =>
      obtain ⟨j, qn, cq, rq, rfl, rfl, hj, hqn, HB⟩ := hrel
      have j0 : (0 : Int) ≤ (j : Int) := by omega
      by_cases hjn : j < n2
      · have i1 : (j : Int) < (n2 : Int) := by omega
        have w1 : IntKind.i64.wrap ((j : Int) + 1) = (j : Int) + 1 := IntWalk.i64_in _ (by omega)
        obtain ⟨p, hp⟩ : ∃ p, P[j]? = some p := ⟨_, List.getElem?_eq_getElem (by rw [HPl.out]; exact hjn)⟩
        obtain ⟨ix, re, ce, T, rr, cr, R⟩ := p
        have hix : (Ev.ids L)[j]? = some ix := by rw [← HW.out.2.1, List.getElem?_map, hp]; rfl
        obtain ⟨hmem, hel, hce, _⟩ := HW.out.2.2.1 _ (List.mem_of_getElem? hp)
        dsimp only at hmem hel hce
        have hinv := (Cp.inv_run L).2.2.2.2.2 _ hmem
        dsimp only at hinv
        obtain ⟨m1, hm1⟩ : ∃ m, T.length = m := ⟨_, rfl⟩
        obtain ⟨m2, hm2⟩ : ∃ m, R.length = m := ⟨_, rfl⟩
        obtain ⟨O, hO⟩ : ∃ O, (((Ev.ids L).take j).filter (fun i => (Ev.ids (L.take f)).contains i && Gr.lat bd (Gr.tl i L))).map (Value.int .i64) = O := ⟨_, rfl⟩
        obtain ⟨DL, hDL⟩ : ∃ DL, (Ev.ids L).take (j + 1) = DL := ⟨_, rfl⟩
        have HS1 := Lib.hid hDL
        obtain ⟨bq, hbq⟩ : ∃ bq, D1.contains ix = bq := ⟨_, rfl⟩
        rw [hO] at HB
        obtain ⟨gp, rfl, hgp, e0, e1, e2⟩ := Cp.part_at (HW.out.1.chg (l := []) (Chg.of_fresh (by rw [hB3]; exact HB.out.2)) (by simp)) HPl.out hp
        dsimp only at e1 e2
        rw [hm1] at e1
        rw [hm2] at e2
        rw [hm1] at hce
        have HV : Hid (Pj.lifeD ix T = Pj.lifeD ix L ∧ m1 ≤ len + 1 ∧ m1 ≤ ce ∧ T.length = m1 ∧ Ev.sum T ≤ 1000000 ∧ EL W3 re T ∧ D1.contains ix = bq ∧ DL.filter (fun i => (Ev.ids (L.take f)).contains i && Gr.lat bd (Gr.tl i L)) = if (fun i => (Ev.ids (L.take f)).contains i && Gr.lat bd (Gr.tl i L)) ix = true then ((Ev.ids L).take j).filter (fun i => (Ev.ids (L.take f)).contains i && Gr.lat bd (Gr.tl i L)) ++ [ix] else ((Ev.ids L).take j).filter (fun i => (Ev.ids (L.take f)).contains i && Gr.lat bd (Gr.tl i L))) := Lib.hid ⟨Gr.tl_life hinv.1, by have := hinv.2.2.1; rw [hm1, HL.out.1] at this; exact this, hce, hm1, by
          have h1 := Ev.sum_le (L := T) (B := 24) (fun x hx => HL.out.2.2.1 x (hinv.2.2.2 x hx))
          have h2 := hinv.2.2.1
          rw [HL.out.1] at h2
          omega, hel, hbq, by
          rw [← hDL, take_snocE hix, List.filter_append, List.filter_cons]
          split <;> simp⟩
        have HO := Lib.hid hO
        clear hp hix hmem hel hce hinv hm1 hm2 hO hDL hbq
        obtain ⟨X2, hX2⟩ : ∃ X2, wr.heap.size = X2 := ⟨_, rfl⟩
        have HJ : Hid (RM (wr.alloc (.cells #[.int .i64 ix, .slice re m1 ce, .slice rr m2 cr] 84)) B3 rq qn cq 1 O 3 ∧ Below B3 W3 (wr.alloc (.cells #[.int .i64 ix, .slice re m1 ce, .slice rr m2 cr] 84)) ∧ Blk (wr.alloc (.cells #[.int .i64 ix, .slice re m1 ce, .slice rr m2 cr] 84)) X2 [.int .i64 ix, .slice re m1 ce, .slice rr m2 cr] 84 ∧ B3 ≤ X2) := Lib.hid ⟨HB.out.1.chg (l := []) ((Chg.refl [] _).alloc _) (by simp), HB.out.2.alloc (by have := HB.out.2.size; omega) _, by rw [← hX2]; exact Blk.newA _ _ _, by rw [← hX2, ← hB3]; have := HB.out.2.size; omega⟩
        go_upto_region 9 with fail
        clear e0 e1 e2 hgp HB hX2
        revert HJ
        generalize (wr.alloc (.cells #[.int .i64 ix, .slice re m1 ce, .slice rr m2 cr] 84)) = V1
        intro HJ
        have x0 := HJ.out.2.2.1.cell (i := 0) rfl
        cases bq with
        | false =>
          have HS : Hid ((DL.filter (fun i => (Ev.ids (L.take f)).contains i && Gr.lat bd (Gr.tl i L))).map (Value.int .i64) = O) := Lib.hid (by
            rw [HV.out.2.2.2.2.2.2.2, if_neg (by show ¬ (_ && _) = true; rw [HI.out.1, HV.out.2.2.2.2.2.2.1]; simp)]; exact HO.out)
          go_upto_region 14 with (go_at_call 54; (with_reducible refine (ids_search D1 n1 HI.out.2.1 HQ1.out.1 HQ1.out.2 ra ca ix _ HV.out.2.2.2.2.2.2.1 _ (HW.out.2.2.2.1.below (by rw [hB3]; exact HJ.out.2.1))).mono ?_); rintro r8 V2 ⟨pq, rfl, bb⟩; have HJ2 : Hid (RM V2 B3 rq qn cq 1 O 3 ∧ Below B3 W3 V2 ∧ Blk V2 X2 [.int .i64 ix, .slice re m1 ce, .slice rr m2 cr] 84 ∧ B3 ≤ X2) := Lib.hid ⟨HJ.out.1.chg (l := []) (Chg.of_fresh bb) (by simp), HJ.out.2.1.trans (bb.mono (Nat.le_trans HJ.out.2.2.2 (Nat.le_of_lt HJ.out.2.2.1.lt))), HJ.out.2.2.1.chg (l := []) (Chg.of_fresh bb) (by simp), HJ.out.2.2.2⟩; clear bb HJ x0)
          have HJ := HJ2
          clear HJ2
          go_wp2_with fail
          go_roundw
          case rel => exact ⟨j + 1, qn, cq, rq, rfl, by go_num, by omega, by omega, Lib.hid ⟨by rw [HS1.out, HS.out]; exact HJ.out.1, HJ.out.2.1⟩⟩
          case measure => simp [intOf]; omega
        | true =>
          go_upto_region 11 with (go_at_call 54; (with_reducible refine (ids_search D1 n1 HI.out.2.1 HQ1.out.1 HQ1.out.2 ra ca ix _ HV.out.2.2.2.2.2.2.1 _ (HW.out.2.2.2.1.below (by rw [hB3]; exact HJ.out.2.1))).mono ?_); rintro r8 V2 ⟨pq, rfl, bb⟩; have HJ2 : Hid (RM V2 B3 rq qn cq 1 O 3 ∧ Below B3 W3 V2 ∧ Blk V2 X2 [.int .i64 ix, .slice re m1 ce, .slice rr m2 cr] 84 ∧ B3 ≤ X2) := Lib.hid ⟨HJ.out.1.chg (l := []) (Chg.of_fresh bb) (by simp), HJ.out.2.1.trans (bb.mono (Nat.le_trans HJ.out.2.2.2 (Nat.le_of_lt HJ.out.2.2.1.lt))), HJ.out.2.2.1.chg (l := []) (Chg.of_fresh bb) (by simp), HJ.out.2.2.2⟩; clear bb HJ x0)
          have HJ := HJ2
          clear HJ2
          obtain ⟨⟨i2, sc, fr, TT, ok⟩, hlf⟩ : ∃ p, Pj.lifeD ix L = p := ⟨_, rfl⟩
          obtain ⟨nT, hnT⟩ : ∃ n, TT.length = n := ⟨_, rfl⟩
          obtain ⟨nS, hnS⟩ : ∃ n, (Pj.stE TT).length = n := ⟨_, rfl⟩
          obtain ⟨rd, hrd⟩ : ∃ x, Pj.rd TT = x := ⟨_, rfl⟩
          obtain ⟨tk, htk⟩ : ∃ x, Pj.tk TT = x := ⟨_, rfl⟩
          obtain ⟨eo, heo⟩ : ∃ x, Pj.eof TT = x := ⟨_, rfl⟩
          obtain ⟨st, hst⟩ : ∃ x, Pj.ss TT = x := ⟨_, rfl⟩
          have HT : Hid (Pj.lifeD ix T = (i2, sc, fr, TT, ok) ∧ TT.length = nT ∧ (Pj.stE TT).length = nS ∧ Pj.rd TT = rd ∧ Pj.tk TT = tk ∧ Pj.eof TT = eo ∧ Pj.ss TT = st ∧ Gr.tl ix L = TT) := Lib.hid ⟨by rw [HV.out.1]; exact hlf, hnT, hnS, hrd, htk, heo, hst, by unfold Gr.tl; rw [hlf]⟩
          clear hlf hnT hnS hrd htk heo hst
          have x0 := HJ.out.2.2.1.cell (i := 0) rfl
          have x1 := HJ.out.2.2.1.cell (i := 1) rfl
          go_upto_region 12 with (go_at_call 9; (with_reducible refine (of_any re m1 ce T HV.out.2.2.2.1 (by have := HV.out.2.1; omega) HV.out.2.2.1 HV.out.2.2.2.2.1 ix i2 sc fr TT ok HT.out.1 eo HT.out.2.2.2.2.2.1 st HT.out.2.2.2.2.2.2.1 rd tk HT.out.2.2.2.1 HT.out.2.2.2.2.1 nT nS HT.out.2.1 HT.out.2.2.1 _ (HV.out.2.2.2.2.2.1.below (by rw [hB3]; exact HJ.out.2.1))).mono ?_); rintro r9 V3 ⟨r1, c1, r2, c2, rfl, q1, q2, bb⟩; have HJ3 : Hid (RM V3 B3 rq qn cq 1 O 3 ∧ Below B3 W3 V3 ∧ Blk V3 X2 [.int .i64 ix, .slice re m1 ce, .slice rr m2 cr] 84 ∧ B3 ≤ X2 ∧ RE V3 r2 6 Ev.st (Pj.stE TT)) := Lib.hid ⟨HJ.out.1.chg (l := []) (Chg.of_fresh bb) (by simp), HJ.out.2.1.trans (bb.mono (Nat.le_trans HJ.out.2.2.2 (Nat.le_of_lt HJ.out.2.2.1.lt))), HJ.out.2.2.1.chg (l := []) (Chg.of_fresh bb) (by simp), HJ.out.2.2.2, q2⟩; clear bb HJ x0 x1 q1 q2)
          have HJ : Hid (RM (V3.alloc (.cells #[.int .i64 i2, .int .i64 sc, .int .i64 fr, .slice r1 nT c1, .slice r2 nS c2, .string rd, .string tk, .bool eo, .int .i64 st] 27)) B3 rq qn cq 1 O 3 ∧ Below B3 W3 (V3.alloc (.cells #[.int .i64 i2, .int .i64 sc, .int .i64 fr, .slice r1 nT c1, .slice r2 nS c2, .string rd, .string tk, .bool eo, .int .i64 st] 27)) ∧ Blk (V3.alloc (.cells #[.int .i64 i2, .int .i64 sc, .int .i64 fr, .slice r1 nT c1, .slice r2 nS c2, .string rd, .string tk, .bool eo, .int .i64 st] 27)) X2 [.int .i64 ix, .slice re m1 ce, .slice rr m2 cr] 84 ∧ Blk (V3.alloc (.cells #[.int .i64 i2, .int .i64 sc, .int .i64 fr, .slice r1 nT c1, .slice r2 nS c2, .string rd, .string tk, .bool eo, .int .i64 st] 27)) V3.heap.size [.int .i64 i2, .int .i64 sc, .int .i64 fr, .slice r1 nT c1, .slice r2 nS c2, .string rd, .string tk, .bool eo, .int .i64 st] 27 ∧ RE (V3.alloc (.cells #[.int .i64 i2, .int .i64 sc, .int .i64 fr, .slice r1 nT c1, .slice r2 nS c2, .string rd, .string tk, .bool eo, .int .i64 st] 27)) r2 6 Ev.st (Pj.stE TT)) := Lib.hid ⟨HJ3.out.1.chg (l := []) ((Chg.refl [] _).alloc _) (by simp), HJ3.out.2.1.alloc (Nat.le_trans HJ3.out.2.2.2.1 (Nat.le_of_lt HJ3.out.2.2.1.lt)) _, HJ3.out.2.2.1.alloc _, Blk.newA _ _ _, HJ3.out.2.2.2.2.below ((Below.refl _ _).alloc (Nat.le_refl _) _)⟩
          clear HJ3
          revert HJ
          generalize (V3.alloc (.cells #[.int .i64 i2, .int .i64 sc, .int .i64 fr, .slice r1 nT c1, .slice r2 nS c2, .string rd, .string tk, .bool eo, .int .i64 st] 27)) = V4
          generalize V3.heap.size = X3
          intro HJ
          have y8 := HJ.out.2.2.2.1.cell (i := 8) rfl
          have y4 := HJ.out.2.2.2.1.cell (i := 4) rfl
          have x0 := HJ.out.2.2.1.cell (i := 0) rfl
          by_cases hs0 : st = 0
          · have sb : (st == 0) = true := by simp [hs0]
            have HS : Hid ((DL.filter (fun i => (Ev.ids (L.take f)).contains i && Gr.lat bd (Gr.tl i L))).map (Value.int .i64) = O ++ [.int .i64 ix]) := Lib.hid (by
              rw [HV.out.2.2.2.2.2.2.2, if_pos (by show (_ && _) = true; rw [HI.out.1, HV.out.2.2.2.2.2.2.1, HT.out.2.2.2.2.2.2.2]; unfold Gr.lat; rw [HT.out.2.2.2.2.2.2.1]; simp [hs0]), List.map_append, HO.out]; rfl)
            clear hs0
            go_wp2_with (at_builtin; refine wpList_append_rm _ rfl (.tmp 71) (.tmp 74) 37 37 rfl 3 (.int .i64 0) 1 8 Try.underlying37 infoInt rfl B3 rq qn cq O rfl (HJ.out.1.chg (l := []) ((Chg.refl [] _).alloc _) (by simp)) _ rfl 1 (by omega) [.int .i64 ix] (Src.ofSlice _ Try.underlying37 ⟨_, 0, none⟩ 1 1 [.int .i64 ix] rfl (new_atE _ _ _) (by intro v hv; simp at hv; subst hv; rfl)) (by omega) (by omega) ?_; intro g4 c4 w4 u1 u2 u3; have HN : Hid (RM w4 B3 (some ⟨g4, 0, none⟩) (qn + 1) c4 1 ((DL.filter (fun i => (Ev.ids (L.take f)).contains i && Gr.lat bd (Gr.tl i L))).map (Value.int .i64)) 3 ∧ Below B3 W3 w4) := Lib.hid ⟨by rw [HS.out]; exact u1, u3.onto (HJ.out.2.1.alloc (by have := HJ.out.2.1.size; omega) _) (by have := HJ.out.2.1.size; rw [World.size_alloc]; omega) (fun y hy => (HJ.out.1.lt y hy).1)⟩; clear u1 u2 u3)
            go_roundw
            case rel => exact ⟨j + 1, qn + 1, c4, _, rfl, by go_num, by omega, by omega, by rw [HS1.out]; exact HN⟩
            case measure => simp [intOf]; omega
          · have sb : (st == 0) = false := by simp [hs0]
            have hne := Pj.stE_ne (T := TT) (by rw [HT.out.2.2.2.2.2.2.1]; exact hs0)
            obtain ⟨mS, hmS⟩ : ∃ mS, nS = mS + 1 := ⟨nS - 1, by have := HT.out.2.2.1; have h2 := List.length_pos_iff.2 hne; omega⟩
            obtain ⟨y, hy⟩ : ∃ y, (Pj.stE TT)[mS]? = some y := ⟨_, List.getElem?_eq_getElem (by have := HT.out.2.2.1; omega)⟩
            have hlast : (Pj.stE TT).getLast? = some y := by
              rw [List.getLast?_eq_getElem?, HT.out.2.2.1, hmS]; exact hy
            obtain ⟨g2, o2, rfl, hg2, hcy⟩ := HJ.out.2.2.2.2 mS y hy
            have z0 := hcy 0 (.int .i64 y.s0) rfl
            rw [Nat.add_zero] at z0
            have hns : nS ≤ 20000 := by
              have h1 := Pj.nst_le TT
              have h2 := (Pj.lifeD_ok HL.out.2.1.ok (show Pj.lifeD ix L = (i2, sc, fr, TT, ok) by rw [← HV.out.1]; exact HT.out.1)).2
              rw [HT.out.2.2.1] at h1
              rw [HL.out.1] at h2
              omega
            have n0 : (0 : Int) ≤ (mS : Int) := by omega
            have n3 : (mS : Int) < (nS : Int) := by omega
            have n4 : mS < nS := by omega
            have ws : IntKind.i64.wrap ((nS : Int) - 1) = (mS : Int) := by rw [IntWalk.i64_in _ (by omega)]; omega
            have HLT : Hid (Gr.lat bd TT = decide (bd ≤ y.s0)) := Lib.hid (by
              unfold Gr.lat
              rw [HT.out.2.2.2.2.2.2.1, hlast]
              simp [hs0])
            obtain ⟨ys, hys⟩ : ∃ ys, y.s0 = ys := ⟨_, rfl⟩
            rw [hys] at z0 HLT
            clear hs0 hne hmS hlast hy hcy hys hns
            by_cases hcmp : bd ≤ ys
            · have HS : Hid ((DL.filter (fun i => (Ev.ids (L.take f)).contains i && Gr.lat bd (Gr.tl i L))).map (Value.int .i64) = O ++ [.int .i64 ix]) := Lib.hid (by
                rw [HV.out.2.2.2.2.2.2.2, if_pos (by show (_ && _) = true; rw [HI.out.1, HV.out.2.2.2.2.2.2.1, HT.out.2.2.2.2.2.2.2, HLT.out]; simp [hcmp]), List.map_append, HO.out]; rfl)
              go_wp2_with (at_builtin; refine wpList_append_rm _ rfl (.tmp 71) (.tmp 74) 37 37 rfl 3 (.int .i64 0) 1 8 Try.underlying37 infoInt rfl B3 rq qn cq O rfl (HJ.out.1.chg (l := []) ((Chg.refl [] _).alloc _) (by simp)) _ rfl 1 (by omega) [.int .i64 ix] (Src.ofSlice _ Try.underlying37 ⟨_, 0, none⟩ 1 1 [.int .i64 ix] rfl (new_atE _ _ _) (by intro v hv; simp at hv; subst hv; rfl)) (by omega) (by omega) ?_; intro g4 c4 w4 u1 u2 u3; have HN : Hid (RM w4 B3 (some ⟨g4, 0, none⟩) (qn + 1) c4 1 ((DL.filter (fun i => (Ev.ids (L.take f)).contains i && Gr.lat bd (Gr.tl i L))).map (Value.int .i64)) 3 ∧ Below B3 W3 w4) := Lib.hid ⟨by rw [HS.out]; exact u1, u3.onto (HJ.out.2.1.alloc (by have := HJ.out.2.1.size; omega) _) (by have := HJ.out.2.1.size; rw [World.size_alloc]; omega) (fun y hy => (HJ.out.1.lt y hy).1)⟩; clear u1 u2 u3)
              go_roundw
              case rel => exact ⟨j + 1, qn + 1, c4, _, rfl, by go_num, by omega, by omega, by rw [HS1.out]; exact HN⟩
              case measure => simp [intOf]; omega
            · have HS : Hid ((DL.filter (fun i => (Ev.ids (L.take f)).contains i && Gr.lat bd (Gr.tl i L))).map (Value.int .i64) = O) := Lib.hid (by
                rw [HV.out.2.2.2.2.2.2.2, if_neg (by show ¬ (_ && _) = true; rw [HI.out.1, HV.out.2.2.2.2.2.2.1, HT.out.2.2.2.2.2.2.2, HLT.out]; simp [hcmp])]; exact HO.out)
              go_wp2_with fail
              go_roundw
              case rel => exact ⟨j + 1, qn, cq, rq, rfl, by go_num, by omega, by omega, Lib.hid ⟨by rw [HS1.out, HS.out]; exact HJ.out.1, HJ.out.2.1⟩⟩
              case measure => simp [intOf]; omega
      · obtain rfl : j = n2 := by omega
        have i1 : ¬ (j : Int) < (j : Int) := by omega
        have HFD : Hid (((Ev.ids L).filter (fun i => (Ev.ids (L.take f)).contains i && Gr.lat bd (Gr.tl i L))) = D) := Lib.hid (by
          have h := HL.out.2.2.2.1
          first
            | rw [if_pos trivial] at h
            | rw [if_pos rfl] at h
          rw [← h]
          exact Gr.late_eq bd f L)
        have HFR : Hid (RM wr B3 rq qn cq 1 (D.map (Value.int .i64)) 3 ∧ Below B3 W3 wr) := Lib.hid (by
          have h := HB.out
          rw [List.take_of_length_le (l := Ev.ids L) (by rw [HI.out.2.2]; exact Nat.le_refl _), HFD.out] at h
          exact h)
        have hqe : D.length = qn := by
          have := HFR.out.1.1
          rw [List.length_map] at this
          omega
        obtain rfl : qn = n := by rw [← hqe]; exact HL.out.2.2.2.2
        clear HB
        go_wp2_with fail
        go_ret
        have hbel : Below w.heap.size w wr := HW.out.2.2.2.2.trans (HFR.out.2.mono (by have := HW.out.2.2.2.2.size; omega))
        first
          | exact ⟨rq, cq, rfl, RI.of_rm HFR.out.1 hqe, hbel⟩
          | exact ⟨rq, ⟨cq, rfl⟩, RI.of_rm HFR.out.1 hqe, hbel⟩
end Go.Proofs.Ytdchedkhlfmpeaa
