/- Several texts in one. -/
import Derived.Test.YtdchedkhlfmpeaaDoorCpA
import Derived.WalkKit
import Derived.ProofKit
import Derived.Handy
import Derived.WalkLawsBesides
import Derived.WalkSpells
import Derived.Lib.Hide
import Derived.Lib.SliceRun
import Derived.Deep.RegionLaw
import Derived.RegionTactic
import Derived.ChangeAlike
import Derived.WalkSmall
import Derived.Deep.QuietTactic
import Derived.BigQuiet
import Derived.OwnWalk
import Derived.Outline
import Derived.Deep.CutRange
import Derived.Deep.CutBlock
import Derived.LoopTactic
import Derived.Test.YtdchedkhlfmpeaaDoorIter
import Derived.Maps.Own
import Derived.WideMake
/- Parts: the splitter, a drain. -/
namespace Go.Proofs.YtdchedkhlfmpeaaDoor
open Go.ChangeShapes Go.WideShapes Go.ChangeAt Go.RowKit
set_option linter.unusedSimpArgs false
set_option linter.unusedVariables false

set_option maxRecDepth 20000 in
set_option maxHeartbeats 16000000 in
theorem cp_add7 (i n t : Int) (b_ : ByteArray) (e s0 s1 s2 s3 s4 s5 : Int) (B sb mb : Nat) (K : List (Int × Nat)) (V : List PV) (b : Nat) (hb : b ≤ 100000) (z : Ev) (w : World) (hBw : B ≤ w.heap.size) (H : SPS w B sb mb K V b z) (hV0 : ∀ v ∈ V, v.T.length ≤ 90000 ∧ v.R.length ≤ 90000) :
    Calls Tryd.prog 32 #[.pointer (some ⟨sb, 0, none⟩), .agg #[.int .i64 7, .int .i64 i, .int .i64 n, .int .i64 t, .string b_, .int .i64 e, .int .i64 s0, .int .i64 s1, .int .i64 s2, .int .i64 s3, .int .i64 s4, .int .i64 s5]] w fun r w' => r = .returned (.tuple #[]) ∧ ∃ K' V', SPS w' B sb mb K' V' b z ∧ Cp.con K' V' = Cp.step b z (Cp.con K V) ⟨7, i, n, t, b_, e, s0, s1, s2, s3, s4, s5⟩ ∧ Below B w w' := by
  obtain ⟨zk, zi, zn, zt, zb, ze, z0, z1, z2, z3, z4, z5⟩ := z
  obtain ⟨N, hN⟩ : ∃ N, w.heap.size = N := ⟨_, rfl⟩
  have H1 : Hid (SPS (w.alloc (.cells #[.int .i64 7, .int .i64 i, .int .i64 n, .int .i64 t, .string b_, .int .i64 e, .int .i64 s0, .int .i64 s1, .int .i64 s2, .int .i64 s3, .int .i64 s4, .int .i64 s5] 46)) B sb mb K V b ⟨zk, zi, zn, zt, zb, ze, z0, z1, z2, z3, z4, z5⟩ ∧ Blk (w.alloc (.cells #[.int .i64 7, .int .i64 i, .int .i64 n, .int .i64 t, .string b_, .int .i64 e, .int .i64 s0, .int .i64 s1, .int .i64 s2, .int .i64 s3, .int .i64 s4, .int .i64 s5] 46)) N [.int .i64 7, .int .i64 i, .int .i64 n, .int .i64 t, .string b_, .int .i64 e, .int .i64 s0, .int .i64 s1, .int .i64 s2, .int .i64 s3, .int .i64 s4, .int .i64 s5] 46 ∧ Below B w (w.alloc (.cells #[.int .i64 7, .int .i64 i, .int .i64 n, .int .i64 t, .string b_, .int .i64 e, .int .i64 s0, .int .i64 s1, .int .i64 s2, .int .i64 s3, .int .i64 s4, .int .i64 s5] 46)) ∧ (w.alloc (.cells #[.int .i64 7, .int .i64 i, .int .i64 n, .int .i64 t, .string b_, .int .i64 e, .int .i64 s0, .int .i64 s1, .int .i64 s2, .int .i64 s3, .int .i64 s4, .int .i64 s5] 46)).heap.size = N + 1) := Lib.hid ⟨H.same ((Chg.refl [] _).alloc _), by rw [← hN]; exact Blk.newA _ _ _, (Below.refl _ _).alloc hBw _, by simp [hN]⟩
  have HV := Lib.hid (And.intro (show ∀ (j : Nat) k v, K[j]? = some k → V[j]? = some v → N ∉ v.bl k.2 from fun j k v a1 a2 hm => by have := (H.f.lt a1 a2 N hm).2; omega) (And.intro hV0 H.f.1))
  clear H hV0
  go_enter Tryd.func32, Tryd.ntmps32
  go_upto_region 1 with fail
  revert H1
  generalize (w.alloc (.cells #[.int .i64 7, .int .i64 i, .int .i64 n, .int .i64 t, .string b_, .int .i64 e, .int .i64 s0, .int .i64 s1, .int .i64 s2, .int .i64 s3, .int .i64 s4, .int .i64 s5] 46)) = W1
  intro H1
  have d0 : W1.cell? ⟨N, 0, none⟩ = some (.int .i64 7) := H1.out.2.1.cell (i := 0) rfl

  have c0 := H1.out.1.o.cell (i := 0) rfl
  have HM1 := H1.out.1.m
  go_wp2_with (first
    | (at_range; refine wpList_range_mv _ rfl _ 80 rfl 3 88 Tryd.underlying80 mb _ _ rfl HM1 ?_)
    | go_in)
  go_frame
  have H2 : Hid (DI w (W1.alloc (.mapIter (some mb) K.length #[] K.length)) B sb mb N K V b ⟨zk, zi, zn, zt, zb, ze, z0, z1, z2, z3, z4, z5⟩ ⟨7, i, n, t, b_, e, s0, s1, s2, s3, s4, s5⟩ #[] V ∧ W1.heap.size = N + 1) := Lib.hid ⟨⟨H1.out.1.same ((Chg.refl [] _).alloc _), H1.out.2.1.alloc _, fun j k v a1 a2 => HV.out.1 j k v a1 a2, fun j v hv => ⟨v, hv, by simp, by simp⟩, by rw [← H1.out.2.2.2]; exact heap_alloc_new _ _, H1.out.2.2.1.alloc (by rw [H1.out.2.2.2]; omega) _, by omega⟩, H1.out.2.2.2⟩
  clear c0 d0 HM1 H1
  revert H2
  generalize (W1.alloc (.mapIter (some mb) K.length #[] K.length)) = W2
  intro H2
  have hsz := H2.out.2
  rw [hsz]
  clear hsz
  go_loopw [5] (fun _ wr => ∃ (seen : Array Nat) (V' : List PV), Hid (DI w wr B sb mb N K V b ⟨zk, zi, zn, zt, zb, ze, z0, z1, z2, z3, z4, z5⟩ ⟨7, i, n, t, b_, e, s0, s1, s2, s3, s4, s5⟩ seen V')) (fun _ wr => Cp.left K.length (wr.iterSeen (N + 1)))
  case atStart => exact ⟨#[], V, Lib.hid H2.out.1⟩
  case round =>
    obtain ⟨seen, V', HD⟩ := hrel
    have hm := HD.out.sp.m
    have hit := HD.out.it
    have hsn := iterSeen_at hit
    go_wp2_with (first
      | (at_next; refine wpList_next_mv _ rfl _ rfl K mb (N + 1) seen rfl hm hit ?_ ?_)
      | go_in)
    · intro hall
      have HA := Lib.hid hall
      clear hall hm hit hsn
      go_wp2_with fail
      go_end0
      refine ⟨rfl, K, V', HD.out.sp, Cp.con_map (by simp) HV.out.2.2 HD.out.sp.f.1 (fun j k v hk hv => ?_), HD.out.be⟩
      obtain ⟨v', a1, a2, a3⟩ := HD.out.ct j v hv
      have hl : seen.contains j = true := by simpa using HA.out j (List.getElem?_eq_some_iff.1 hk).1
      rw [hl] at a2 a3
      have hh : Cp.hear ⟨7, i, n, t, b_, e, s0, s1, s2, s3, s4, s5⟩ k.1 = true := rfl
      rw [hh]
      exact ⟨v', a1, a2, a3⟩
    · intro j ki kp w1 hk hns hr1 hch hen
      replace hns : seen.contains j = false := by simpa using hns
      obtain ⟨v, hv⟩ := HD.out.sp.f.val hk
      have HJ := Lib.hid (And.intro hk (And.intro hns (And.intro hr1 (And.intro hv hch))))
      have HD1 := Lib.hid (HD.out.next hch)
      have hlen : v.T.length ≤ 100000 ∧ v.R.length ≤ 100000 := by
        obtain ⟨v0, hv0⟩ : ∃ v0, V[j]? = some v0 := ⟨_, List.getElem?_eq_getElem (by have := (List.getElem?_eq_some_iff.1 hk).1; have := HV.out.2.2; omega)⟩
        obtain ⟨v2, a1, a2, a3⟩ := HD.out.ct j v0 hv0
        rw [hv] at a1
        injection a1 with a1
        subst a1
        have := HV.out.2.1 v0 (List.mem_of_getElem? hv0)
        rw [a2, a3]
        constructor
        · split
          · rw [List.length_append]; simp; omega
          · omega
        · split
          · rw [List.length_append]; simp; omega
          · omega
      have HL := Lib.hid hlen
      clear hk hns hr1 hch hv hlen hm hit
      go_upto_region 11 with fail
      have y1 : w1.drew.cell? ⟨sb, 1, none⟩ = some (.int .i64 (b : Int)) := HD1.out.1.o.cell (i := 1) rfl
      have x0 : w1.drew.cell? ⟨N, 0, none⟩ = some (.int .i64 7) := HD1.out.2.1.cell (i := 0) rfl
      have x1 : w1.drew.cell? ⟨N, 1, none⟩ = some (.int .i64 i) := HD1.out.2.1.cell (i := 1) rfl
      have x2 : w1.drew.cell? ⟨N, 2, none⟩ = some (.int .i64 n) := HD1.out.2.1.cell (i := 2) rfl
      have x3 : w1.drew.cell? ⟨N, 3, none⟩ = some (.int .i64 t) := HD1.out.2.1.cell (i := 3) rfl
      have x4 : w1.drew.cell? ⟨N, 4, none⟩ = some (.string b_) := HD1.out.2.1.cell (i := 4) rfl
      have x5 : w1.drew.cell? ⟨N, 5, none⟩ = some (.int .i64 e) := HD1.out.2.1.cell (i := 5) rfl
      have x6 : w1.drew.cell? ⟨N, 6, none⟩ = some (.int .i64 s0) := HD1.out.2.1.cell (i := 6) rfl
      have x7 : w1.drew.cell? ⟨N, 7, none⟩ = some (.int .i64 s1) := HD1.out.2.1.cell (i := 7) rfl
      have x8 : w1.drew.cell? ⟨N, 8, none⟩ = some (.int .i64 s2) := HD1.out.2.1.cell (i := 8) rfl
      have x9 : w1.drew.cell? ⟨N, 9, none⟩ = some (.int .i64 s3) := HD1.out.2.1.cell (i := 9) rfl
      have x10 : w1.drew.cell? ⟨N, 10, none⟩ = some (.int .i64 s4) := HD1.out.2.1.cell (i := 10) rfl
      have x11 : w1.drew.cell? ⟨N, 11, none⟩ = some (.int .i64 s5) := HD1.out.2.1.cell (i := 11) rfl
      go_region_law (first
        | (rw [if_pos (by simp [Region.wanted])]
           unfold Oper.wp
           go_simp
           go_at_call 52
           (with_reducible refine (cp_round b sb (by omega) (Cp.rnd b) rfl _ y1).mono ?_)
           rintro r7 v7 ⟨rfl, e7⟩
           subst e7)
        | (rw [if_pos (by simp [Region.wanted])]
           unfold Oper.wp
           go_simp
           go_at_call 51
           (refine (cp_padd 7 i n t b_ e s0 s1 s2 s3 s4 s5 (Cp.rnd b) ki B kp v HL.out.1 HL.out.2 _ ((HD1.out.1.f.2.1 j _ v HJ.out.1 HJ.out.2.2.2.1).chg (Chg.refl [] _).drew (by simp))).mono ?_)
           rintro r8 v8 ⟨v2, rfl, q1, q2, q3, q4, q5⟩
           have H8 : Hid (DI w v8 B sb mb N K V b ⟨zk, zi, zn, zt, zb, ze, z0, z1, z2, z3, z4, z5⟩ ⟨7, i, n, t, b_, e, s0, s1, s2, s3, s4, s5⟩ (seen.push j) (V'.set j v2)) := Lib.hid (HD.out.step (w1 := w1.drew) HJ.out.2.2.2.2.drew HJ.out.1 HJ.out.2.1 HJ.out.2.2.1 HJ.out.2.2.2.1 q1 q2 q3 q4 q5)
           clear q1 q2 q3 q4 q5))
      all_goals
        go_wp2_with fail
        go_roundw
        case rel => exact ⟨seen.push j, V'.set j v2, H8⟩
        case measure =>
          rw [iterSeen_at H8.out.it, hsn]
          exact Cp.left_lt (List.getElem?_eq_some_iff.1 HJ.out.1).1 HJ.out.2.1
end Go.Proofs.YtdchedkhlfmpeaaDoor
/- Parts: the splitter, what is of one. -/
namespace Go.Proofs.YtdchedkhlfmpeaaDoor
open Go.ChangeShapes Go.WideShapes Go.ChangeAt Go.RowKit
set_option linter.unusedSimpArgs false
set_option linter.unusedVariables false

theorem SPS.upd {w w2 : World} {B sb mb : Nat} {K : List (Int × Nat)} {V : List PV} {b : Nat} {z : Ev} (h : SPS w B sb mb K V b z) {j : Nat} {kp : Int × Nat} {v v2 : PV} (hk : K[j]? = some kp) (hv : V[j]? = some v) (po : PO w2 B kp v2) (c : Chg (v.bl kp.2) w w2) (fr : ∀ g ∈ v2.bl kp.2, g ∈ v.bl kp.2 ∨ w.heap.size ≤ g) : SPS w2 B sb mb K (V.set j v2) b z ∧ Below B w w2 := by
  have hpo := h.f.2.1 j kp v hk hv
  exact ⟨⟨h.o.chg c (hpo.notSb h.o), h.m.chg c (hpo.notMb h.m), h.f.put hk hv c po fr, h.hB, h.nd⟩, c.below (Nat.le_trans hpo.2.2.2 (Nat.le_of_lt hpo.1.lt)) (fun y hy => (hpo.lt y hy).1)⟩
theorem nd_idx {K : List (Int × Nat)} (hn : (K.map (·.1)).Nodup) {j j2 : Nat} {k k2 : Int × Nat} (h : K[j]? = some k) (h2 : K[j2]? = some k2) (e : k.1 = k2.1) : j = j2 := by
  obtain ⟨a1, b1⟩ := List.getElem?_eq_some_iff.1 h
  obtain ⟨a2, b2⟩ := List.getElem?_eq_some_iff.1 h2
  have hp := List.pairwise_iff_getElem.1 hn
  rcases Nat.lt_trichotomy j j2 with hlt | heq | hgt
  · refine absurd ?_ (hp j j2 (by simpa using a1) (by simpa using a2) hlt)
    rw [List.getElem_map, List.getElem_map, b1, b2, e]
  · exact heq
  · refine absurd ?_ (hp j2 j (by simpa using a2) (by simpa using a1) hgt)
    rw [List.getElem_map, List.getElem_map, b1, b2, e]
theorem Cp.upd {K : List (Int × Nat)} {V : List PV} {b : Nat} {z x : Ev} (h2 : x.k ≠ 2) (h7 : x.k = 4 ∨ x.k = 5 ∨ x.k = 6 ∨ x.k = 8) (hl : K.length = V.length) (hn : (K.map (·.1)).Nodup) {j kp : Nat} {v v2 : PV} (hk : K[j]? = some (x.i, kp)) (hv : V[j]? = some v) (hT : v2.T = v.T ++ [x]) (hR : v2.R = v.R ++ [Cp.rnd b]) : Cp.con K (V.set j v2) = Cp.step b z (Cp.con K V) x := by
  have hjl := (List.getElem?_eq_some_iff.1 hv).1
  refine Cp.con_map h2 hl (by rw [List.length_set]; exact hl) (fun j2 k3 v3 hk3 hv3 => ?_)
  by_cases e : j2 = j
  · subst e
    rw [hk] at hk3
    rw [hv] at hv3
    injection hk3 with hk3; injection hv3 with hv3
    subst hk3 hv3
    have hh : Cp.hear x x.i = true := by
      unfold Cp.hear
      rcases h7 with h | h | h | h <;> simp [h]
    dsimp only
    rw [hh]
    exact ⟨v2, by rw [List.getElem?_set_self hjl], hT, hR⟩
  · have hne : ¬ x.i = k3.1 := fun e2 => e (nd_idx hn hk hk3 e2).symm
    have hh : Cp.hear x k3.1 = false := by
      unfold Cp.hear
      rcases h7 with h | h | h | h <;> simp [h, hne]
    rw [hh]
    exact ⟨v3, by rw [List.getElem?_set_ne (Ne.symm e)]; exact hv3, rfl, rfl⟩
theorem Cp.upd_no {K : List (Int × Nat)} {V : List PV} {b : Nat} {z x : Ev} (h2 : x.k ≠ 2) (h7 : x.k ≠ 7) (hl : K.length = V.length) (hk : x.i ∉ K.map (·.1)) : Cp.con K V = Cp.step b z (Cp.con K V) x := by
  refine Cp.con_map h2 hl hl (fun j2 k3 v3 hk3 hv3 => ?_)
  have hne : ¬ x.i = k3.1 := fun e2 => hk (by rw [e2]; exact List.mem_map.2 ⟨k3, List.mem_of_getElem? hk3, rfl⟩)
  have hh : Cp.hear x k3.1 = false := by
    unfold Cp.hear
    simp [h7, hne]
  rw [hh]
  exact ⟨v3, hv3, rfl, rfl⟩
set_option maxRecDepth 20000 in
set_option maxHeartbeats 16000000 in
theorem cp_add4 (i n t : Int) (b_ : ByteArray) (e s0 s1 s2 s3 s4 s5 : Int) (B sb mb : Nat) (K : List (Int × Nat)) (V : List PV) (b : Nat) (hb : b ≤ 100000) (z : Ev) (w : World) (hBw : B ≤ w.heap.size) (H : SPS w B sb mb K V b z) (hV0 : ∀ v ∈ V, v.T.length ≤ 90000 ∧ v.R.length ≤ 90000) :
    Calls Tryd.prog 32 #[.pointer (some ⟨sb, 0, none⟩), .agg #[.int .i64 4, .int .i64 i, .int .i64 n, .int .i64 t, .string b_, .int .i64 e, .int .i64 s0, .int .i64 s1, .int .i64 s2, .int .i64 s3, .int .i64 s4, .int .i64 s5]] w fun r w' => r = .returned (.tuple #[]) ∧ ∃ K' V', SPS w' B sb mb K' V' b z ∧ Cp.con K' V' = Cp.step b z (Cp.con K V) ⟨4, i, n, t, b_, e, s0, s1, s2, s3, s4, s5⟩ ∧ Below B w w' := by
  obtain ⟨zk, zi, zn, zt, zb, ze, z0, z1, z2, z3, z4, z5⟩ := z
  obtain ⟨N, hN⟩ : ∃ N, w.heap.size = N := ⟨_, rfl⟩
  have H1 : Hid (SPS (w.alloc (.cells #[.int .i64 4, .int .i64 i, .int .i64 n, .int .i64 t, .string b_, .int .i64 e, .int .i64 s0, .int .i64 s1, .int .i64 s2, .int .i64 s3, .int .i64 s4, .int .i64 s5] 46)) B sb mb K V b ⟨zk, zi, zn, zt, zb, ze, z0, z1, z2, z3, z4, z5⟩ ∧ Blk (w.alloc (.cells #[.int .i64 4, .int .i64 i, .int .i64 n, .int .i64 t, .string b_, .int .i64 e, .int .i64 s0, .int .i64 s1, .int .i64 s2, .int .i64 s3, .int .i64 s4, .int .i64 s5] 46)) N [.int .i64 4, .int .i64 i, .int .i64 n, .int .i64 t, .string b_, .int .i64 e, .int .i64 s0, .int .i64 s1, .int .i64 s2, .int .i64 s3, .int .i64 s4, .int .i64 s5] 46 ∧ Below B w (w.alloc (.cells #[.int .i64 4, .int .i64 i, .int .i64 n, .int .i64 t, .string b_, .int .i64 e, .int .i64 s0, .int .i64 s1, .int .i64 s2, .int .i64 s3, .int .i64 s4, .int .i64 s5] 46)) ∧ (w.alloc (.cells #[.int .i64 4, .int .i64 i, .int .i64 n, .int .i64 t, .string b_, .int .i64 e, .int .i64 s0, .int .i64 s1, .int .i64 s2, .int .i64 s3, .int .i64 s4, .int .i64 s5] 46)).heap.size = N + 1) := Lib.hid ⟨H.same ((Chg.refl [] _).alloc _), by rw [← hN]; exact Blk.newA _ _ _, (Below.refl _ _).alloc hBw _, by simp [hN]⟩
  by_cases hin : i ∈ K.map (·.1)
  · obtain ⟨k2, hk2, hki⟩ := List.mem_map.1 hin
    obtain ⟨j, hj⟩ := List.getElem?_of_mem hk2
    obtain ⟨ki, kp⟩ := k2
    obtain rfl : i = ki := hki.symm
    have hhit := Cp.ens_hit H.nd hj
    obtain ⟨v, hv⟩ := H.f.val hj
    have hlen := hV0 v (List.mem_of_getElem? hv)
    have HX := Lib.hid (And.intro hj (And.intro hv (And.intro hlen (And.intro H.f.1 (And.intro H.nd hhit)))))
    clear H hin hk2 hj hhit hv hlen hV0 hki
    go_enter Tryd.func32, Tryd.ntmps32
    go_upto_region 1 with fail
    revert H1
    generalize (w.alloc (.cells #[.int .i64 4, .int .i64 i, .int .i64 n, .int .i64 t, .string b_, .int .i64 e, .int .i64 s0, .int .i64 s1, .int .i64 s2, .int .i64 s3, .int .i64 s4, .int .i64 s5] 46)) = W1
    intro H1
    have d0 : W1.cell? ⟨N, 0, none⟩ = some (.int .i64 4) := H1.out.2.1.cell (i := 0) rfl

    go_upto_region 16 with fail
    have d1 : W1.drew.cell? ⟨N, 1, none⟩ = some (.int .i64 i) := H1.out.2.1.cell (i := 1) rfl
    have c0 : W1.drew.cell? ⟨sb, 0, none⟩ = some (.map (some mb)) := H1.out.1.o.cell (i := 0) rfl
    have hl := run_lookV (P := Tryd.prog) (w := W1.drew) Tryd.underlying80 Tryd.underlying3 zeroPP (H1.out.1.same (Chg.refl [] _).drew).m i
    rw [HX.out.2.2.2.2.2] at hl
    go_cut [6] from 48 to 55 (fun v wx => v = .pointer (some ⟨kp, 0, none⟩) ∧ wx = W1.drew)
    case first =>
      go_region_law (fail)
      all_goals
        go_wp2_with fail
        go_meet
        exact ⟨rfl, rfl⟩
    obtain ⟨hv6, rfl⟩ := hcut
    subst hv6
    clear d1 c0 hl d0
    go_upto_region 18 with fail
    have y1 : W1.drew.drew.cell? ⟨sb, 1, none⟩ = some (.int .i64 (b : Int)) := H1.out.1.o.cell (i := 1) rfl
    have x0 : W1.drew.drew.cell? ⟨N, 0, none⟩ = some (.int .i64 4) := H1.out.2.1.cell (i := 0) rfl
    have x1 : W1.drew.drew.cell? ⟨N, 1, none⟩ = some (.int .i64 i) := H1.out.2.1.cell (i := 1) rfl
    have x2 : W1.drew.drew.cell? ⟨N, 2, none⟩ = some (.int .i64 n) := H1.out.2.1.cell (i := 2) rfl
    have x3 : W1.drew.drew.cell? ⟨N, 3, none⟩ = some (.int .i64 t) := H1.out.2.1.cell (i := 3) rfl
    have x4 : W1.drew.drew.cell? ⟨N, 4, none⟩ = some (.string b_) := H1.out.2.1.cell (i := 4) rfl
    have x5 : W1.drew.drew.cell? ⟨N, 5, none⟩ = some (.int .i64 e) := H1.out.2.1.cell (i := 5) rfl
    have x6 : W1.drew.drew.cell? ⟨N, 6, none⟩ = some (.int .i64 s0) := H1.out.2.1.cell (i := 6) rfl
    have x7 : W1.drew.drew.cell? ⟨N, 7, none⟩ = some (.int .i64 s1) := H1.out.2.1.cell (i := 7) rfl
    have x8 : W1.drew.drew.cell? ⟨N, 8, none⟩ = some (.int .i64 s2) := H1.out.2.1.cell (i := 8) rfl
    have x9 : W1.drew.drew.cell? ⟨N, 9, none⟩ = some (.int .i64 s3) := H1.out.2.1.cell (i := 9) rfl
    have x10 : W1.drew.drew.cell? ⟨N, 10, none⟩ = some (.int .i64 s4) := H1.out.2.1.cell (i := 10) rfl
    have x11 : W1.drew.drew.cell? ⟨N, 11, none⟩ = some (.int .i64 s5) := H1.out.2.1.cell (i := 11) rfl
    go_region_law (first
      | (rw [if_pos (by simp [Region.wanted])]
         unfold Oper.wp
         go_simp
         go_at_call 52
         (with_reducible refine (cp_round b sb (by omega) (Cp.rnd b) rfl _ y1).mono ?_)
         rintro r7 v7 ⟨rfl, e7⟩
         subst e7)
      | (rw [if_pos (by simp [Region.wanted])]
         unfold Oper.wp
         go_simp
         go_at_call 51
         (refine (cp_padd 4 i n t b_ e s0 s1 s2 s3 s4 s5 (Cp.rnd b) i B kp v (by have := HX.out.2.2.1.1; omega) (by have := HX.out.2.2.1.2; omega) _ ((H1.out.1.f.2.1 j _ v HX.out.1 HX.out.2.1).chg (Chg.refl [] _).drew.drew (by simp))).mono ?_)
         rintro r8 v8 ⟨v2, rfl, q1, q2, q3, q4, q5⟩
         have H8 := Lib.hid (And.intro ((H1.out.1.same (Chg.refl [] _).drew.drew).upd HX.out.1 HX.out.2.1 q1 q4 q5) (Cp.upd (x := ⟨4, i, n, t, b_, e, s0, s1, s2, s3, s4, s5⟩) (z := ⟨zk, zi, zn, zt, zb, ze, z0, z1, z2, z3, z4, z5⟩) (by simp) (by simp) HX.out.2.2.2.1 HX.out.2.2.2.2.1 HX.out.1 HX.out.2.1 q2 q3))
         clear q1 q2 q3 q4 q5))
    all_goals
      go_wp2_with fail
      go_end0
      exact ⟨rfl, K, V.set j v2, H8.out.1.1, H8.out.2, H1.out.2.2.1.drew.drew.trans H8.out.1.2⟩
  · have HX := Lib.hid (And.intro (Cp.ens_none hin) (Cp.upd_no (b := b) (z := ⟨zk, zi, zn, zt, zb, ze, z0, z1, z2, z3, z4, z5⟩) (x := ⟨4, i, n, t, b_, e, s0, s1, s2, s3, s4, s5⟩) (by simp) (by simp) H.f.1 hin))
    clear H hin hV0
    go_enter Tryd.func32, Tryd.ntmps32
    go_upto_region 1 with fail
    revert H1
    generalize (w.alloc (.cells #[.int .i64 4, .int .i64 i, .int .i64 n, .int .i64 t, .string b_, .int .i64 e, .int .i64 s0, .int .i64 s1, .int .i64 s2, .int .i64 s3, .int .i64 s4, .int .i64 s5] 46)) = W1
    intro H1
    have d0 : W1.cell? ⟨N, 0, none⟩ = some (.int .i64 4) := H1.out.2.1.cell (i := 0) rfl

    go_upto_region 16 with fail
    have d1 : W1.drew.cell? ⟨N, 1, none⟩ = some (.int .i64 i) := H1.out.2.1.cell (i := 1) rfl
    have c0 : W1.drew.cell? ⟨sb, 0, none⟩ = some (.map (some mb)) := H1.out.1.o.cell (i := 0) rfl
    have hl := run_lookV (P := Tryd.prog) (w := W1.drew) Tryd.underlying80 Tryd.underlying3 zeroPP (H1.out.1.same (Chg.refl [] _).drew).m i
    rw [HX.out.1] at hl
    go_cut [6] from 48 to 55 (fun v wx => v = .pointer none ∧ wx = W1.drew)
    case first =>
      go_region_law (fail)
      all_goals
        go_wp2_with fail
        go_meet
        exact ⟨rfl, rfl⟩
    obtain ⟨hv6, rfl⟩ := hcut
    subst hv6
    clear d1 c0 hl d0
    go_wp2_with fail
    go_end0
    exact ⟨rfl, K, V, H1.out.1.same (Chg.refl [] _).drew, HX.out.2, H1.out.2.2.1.drew⟩
set_option maxRecDepth 20000 in
set_option maxHeartbeats 16000000 in
theorem cp_add5 (i n t : Int) (b_ : ByteArray) (e s0 s1 s2 s3 s4 s5 : Int) (B sb mb : Nat) (K : List (Int × Nat)) (V : List PV) (b : Nat) (hb : b ≤ 100000) (z : Ev) (w : World) (hBw : B ≤ w.heap.size) (H : SPS w B sb mb K V b z) (hV0 : ∀ v ∈ V, v.T.length ≤ 90000 ∧ v.R.length ≤ 90000) :
    Calls Tryd.prog 32 #[.pointer (some ⟨sb, 0, none⟩), .agg #[.int .i64 5, .int .i64 i, .int .i64 n, .int .i64 t, .string b_, .int .i64 e, .int .i64 s0, .int .i64 s1, .int .i64 s2, .int .i64 s3, .int .i64 s4, .int .i64 s5]] w fun r w' => r = .returned (.tuple #[]) ∧ ∃ K' V', SPS w' B sb mb K' V' b z ∧ Cp.con K' V' = Cp.step b z (Cp.con K V) ⟨5, i, n, t, b_, e, s0, s1, s2, s3, s4, s5⟩ ∧ Below B w w' := by
  obtain ⟨zk, zi, zn, zt, zb, ze, z0, z1, z2, z3, z4, z5⟩ := z
  obtain ⟨N, hN⟩ : ∃ N, w.heap.size = N := ⟨_, rfl⟩
  have H1 : Hid (SPS (w.alloc (.cells #[.int .i64 5, .int .i64 i, .int .i64 n, .int .i64 t, .string b_, .int .i64 e, .int .i64 s0, .int .i64 s1, .int .i64 s2, .int .i64 s3, .int .i64 s4, .int .i64 s5] 46)) B sb mb K V b ⟨zk, zi, zn, zt, zb, ze, z0, z1, z2, z3, z4, z5⟩ ∧ Blk (w.alloc (.cells #[.int .i64 5, .int .i64 i, .int .i64 n, .int .i64 t, .string b_, .int .i64 e, .int .i64 s0, .int .i64 s1, .int .i64 s2, .int .i64 s3, .int .i64 s4, .int .i64 s5] 46)) N [.int .i64 5, .int .i64 i, .int .i64 n, .int .i64 t, .string b_, .int .i64 e, .int .i64 s0, .int .i64 s1, .int .i64 s2, .int .i64 s3, .int .i64 s4, .int .i64 s5] 46 ∧ Below B w (w.alloc (.cells #[.int .i64 5, .int .i64 i, .int .i64 n, .int .i64 t, .string b_, .int .i64 e, .int .i64 s0, .int .i64 s1, .int .i64 s2, .int .i64 s3, .int .i64 s4, .int .i64 s5] 46)) ∧ (w.alloc (.cells #[.int .i64 5, .int .i64 i, .int .i64 n, .int .i64 t, .string b_, .int .i64 e, .int .i64 s0, .int .i64 s1, .int .i64 s2, .int .i64 s3, .int .i64 s4, .int .i64 s5] 46)).heap.size = N + 1) := Lib.hid ⟨H.same ((Chg.refl [] _).alloc _), by rw [← hN]; exact Blk.newA _ _ _, (Below.refl _ _).alloc hBw _, by simp [hN]⟩
  by_cases hin : i ∈ K.map (·.1)
  · obtain ⟨k2, hk2, hki⟩ := List.mem_map.1 hin
    obtain ⟨j, hj⟩ := List.getElem?_of_mem hk2
    obtain ⟨ki, kp⟩ := k2
    obtain rfl : i = ki := hki.symm
    have hhit := Cp.ens_hit H.nd hj
    obtain ⟨v, hv⟩ := H.f.val hj
    have hlen := hV0 v (List.mem_of_getElem? hv)
    have HX := Lib.hid (And.intro hj (And.intro hv (And.intro hlen (And.intro H.f.1 (And.intro H.nd hhit)))))
    clear H hin hk2 hj hhit hv hlen hV0 hki
    go_enter Tryd.func32, Tryd.ntmps32
    go_upto_region 1 with fail
    revert H1
    generalize (w.alloc (.cells #[.int .i64 5, .int .i64 i, .int .i64 n, .int .i64 t, .string b_, .int .i64 e, .int .i64 s0, .int .i64 s1, .int .i64 s2, .int .i64 s3, .int .i64 s4, .int .i64 s5] 46)) = W1
    intro H1
    have d0 : W1.cell? ⟨N, 0, none⟩ = some (.int .i64 5) := H1.out.2.1.cell (i := 0) rfl

    go_upto_region 16 with fail
    have d1 : W1.drew.cell? ⟨N, 1, none⟩ = some (.int .i64 i) := H1.out.2.1.cell (i := 1) rfl
    have c0 : W1.drew.cell? ⟨sb, 0, none⟩ = some (.map (some mb)) := H1.out.1.o.cell (i := 0) rfl
    have hl := run_lookV (P := Tryd.prog) (w := W1.drew) Tryd.underlying80 Tryd.underlying3 zeroPP (H1.out.1.same (Chg.refl [] _).drew).m i
    rw [HX.out.2.2.2.2.2] at hl
    go_cut [6] from 48 to 55 (fun v wx => v = .pointer (some ⟨kp, 0, none⟩) ∧ wx = W1.drew)
    case first =>
      go_region_law (fail)
      all_goals
        go_wp2_with fail
        go_meet
        exact ⟨rfl, rfl⟩
    obtain ⟨hv6, rfl⟩ := hcut
    subst hv6
    clear d1 c0 hl d0
    go_upto_region 18 with fail
    have y1 : W1.drew.drew.cell? ⟨sb, 1, none⟩ = some (.int .i64 (b : Int)) := H1.out.1.o.cell (i := 1) rfl
    have x0 : W1.drew.drew.cell? ⟨N, 0, none⟩ = some (.int .i64 5) := H1.out.2.1.cell (i := 0) rfl
    have x1 : W1.drew.drew.cell? ⟨N, 1, none⟩ = some (.int .i64 i) := H1.out.2.1.cell (i := 1) rfl
    have x2 : W1.drew.drew.cell? ⟨N, 2, none⟩ = some (.int .i64 n) := H1.out.2.1.cell (i := 2) rfl
    have x3 : W1.drew.drew.cell? ⟨N, 3, none⟩ = some (.int .i64 t) := H1.out.2.1.cell (i := 3) rfl
    have x4 : W1.drew.drew.cell? ⟨N, 4, none⟩ = some (.string b_) := H1.out.2.1.cell (i := 4) rfl
    have x5 : W1.drew.drew.cell? ⟨N, 5, none⟩ = some (.int .i64 e) := H1.out.2.1.cell (i := 5) rfl
    have x6 : W1.drew.drew.cell? ⟨N, 6, none⟩ = some (.int .i64 s0) := H1.out.2.1.cell (i := 6) rfl
    have x7 : W1.drew.drew.cell? ⟨N, 7, none⟩ = some (.int .i64 s1) := H1.out.2.1.cell (i := 7) rfl
    have x8 : W1.drew.drew.cell? ⟨N, 8, none⟩ = some (.int .i64 s2) := H1.out.2.1.cell (i := 8) rfl
    have x9 : W1.drew.drew.cell? ⟨N, 9, none⟩ = some (.int .i64 s3) := H1.out.2.1.cell (i := 9) rfl
    have x10 : W1.drew.drew.cell? ⟨N, 10, none⟩ = some (.int .i64 s4) := H1.out.2.1.cell (i := 10) rfl
    have x11 : W1.drew.drew.cell? ⟨N, 11, none⟩ = some (.int .i64 s5) := H1.out.2.1.cell (i := 11) rfl
    go_region_law (first
      | (rw [if_pos (by simp [Region.wanted])]
         unfold Oper.wp
         go_simp
         go_at_call 52
         (with_reducible refine (cp_round b sb (by omega) (Cp.rnd b) rfl _ y1).mono ?_)
         rintro r7 v7 ⟨rfl, e7⟩
         subst e7)
      | (rw [if_pos (by simp [Region.wanted])]
         unfold Oper.wp
         go_simp
         go_at_call 51
         (refine (cp_padd 5 i n t b_ e s0 s1 s2 s3 s4 s5 (Cp.rnd b) i B kp v (by have := HX.out.2.2.1.1; omega) (by have := HX.out.2.2.1.2; omega) _ ((H1.out.1.f.2.1 j _ v HX.out.1 HX.out.2.1).chg (Chg.refl [] _).drew.drew (by simp))).mono ?_)
         rintro r8 v8 ⟨v2, rfl, q1, q2, q3, q4, q5⟩
         have H8 := Lib.hid (And.intro ((H1.out.1.same (Chg.refl [] _).drew.drew).upd HX.out.1 HX.out.2.1 q1 q4 q5) (Cp.upd (x := ⟨5, i, n, t, b_, e, s0, s1, s2, s3, s4, s5⟩) (z := ⟨zk, zi, zn, zt, zb, ze, z0, z1, z2, z3, z4, z5⟩) (by simp) (by simp) HX.out.2.2.2.1 HX.out.2.2.2.2.1 HX.out.1 HX.out.2.1 q2 q3))
         clear q1 q2 q3 q4 q5))
    all_goals
      go_wp2_with fail
      go_end0
      exact ⟨rfl, K, V.set j v2, H8.out.1.1, H8.out.2, H1.out.2.2.1.drew.drew.trans H8.out.1.2⟩
  · have HX := Lib.hid (And.intro (Cp.ens_none hin) (Cp.upd_no (b := b) (z := ⟨zk, zi, zn, zt, zb, ze, z0, z1, z2, z3, z4, z5⟩) (x := ⟨5, i, n, t, b_, e, s0, s1, s2, s3, s4, s5⟩) (by simp) (by simp) H.f.1 hin))
    clear H hin hV0
    go_enter Tryd.func32, Tryd.ntmps32
    go_upto_region 1 with fail
    revert H1
    generalize (w.alloc (.cells #[.int .i64 5, .int .i64 i, .int .i64 n, .int .i64 t, .string b_, .int .i64 e, .int .i64 s0, .int .i64 s1, .int .i64 s2, .int .i64 s3, .int .i64 s4, .int .i64 s5] 46)) = W1
    intro H1
    have d0 : W1.cell? ⟨N, 0, none⟩ = some (.int .i64 5) := H1.out.2.1.cell (i := 0) rfl

    go_upto_region 16 with fail
    have d1 : W1.drew.cell? ⟨N, 1, none⟩ = some (.int .i64 i) := H1.out.2.1.cell (i := 1) rfl
    have c0 : W1.drew.cell? ⟨sb, 0, none⟩ = some (.map (some mb)) := H1.out.1.o.cell (i := 0) rfl
    have hl := run_lookV (P := Tryd.prog) (w := W1.drew) Tryd.underlying80 Tryd.underlying3 zeroPP (H1.out.1.same (Chg.refl [] _).drew).m i
    rw [HX.out.1] at hl
    go_cut [6] from 48 to 55 (fun v wx => v = .pointer none ∧ wx = W1.drew)
    case first =>
      go_region_law (fail)
      all_goals
        go_wp2_with fail
        go_meet
        exact ⟨rfl, rfl⟩
    obtain ⟨hv6, rfl⟩ := hcut
    subst hv6
    clear d1 c0 hl d0
    go_wp2_with fail
    go_end0
    exact ⟨rfl, K, V, H1.out.1.same (Chg.refl [] _).drew, HX.out.2, H1.out.2.2.1.drew⟩
set_option maxRecDepth 20000 in
set_option maxHeartbeats 16000000 in
theorem cp_add6 (i n t : Int) (b_ : ByteArray) (e s0 s1 s2 s3 s4 s5 : Int) (B sb mb : Nat) (K : List (Int × Nat)) (V : List PV) (b : Nat) (hb : b ≤ 100000) (z : Ev) (w : World) (hBw : B ≤ w.heap.size) (H : SPS w B sb mb K V b z) (hV0 : ∀ v ∈ V, v.T.length ≤ 90000 ∧ v.R.length ≤ 90000) :
    Calls Tryd.prog 32 #[.pointer (some ⟨sb, 0, none⟩), .agg #[.int .i64 6, .int .i64 i, .int .i64 n, .int .i64 t, .string b_, .int .i64 e, .int .i64 s0, .int .i64 s1, .int .i64 s2, .int .i64 s3, .int .i64 s4, .int .i64 s5]] w fun r w' => r = .returned (.tuple #[]) ∧ ∃ K' V', SPS w' B sb mb K' V' b z ∧ Cp.con K' V' = Cp.step b z (Cp.con K V) ⟨6, i, n, t, b_, e, s0, s1, s2, s3, s4, s5⟩ ∧ Below B w w' := by
  obtain ⟨zk, zi, zn, zt, zb, ze, z0, z1, z2, z3, z4, z5⟩ := z
  obtain ⟨N, hN⟩ : ∃ N, w.heap.size = N := ⟨_, rfl⟩
  have H1 : Hid (SPS (w.alloc (.cells #[.int .i64 6, .int .i64 i, .int .i64 n, .int .i64 t, .string b_, .int .i64 e, .int .i64 s0, .int .i64 s1, .int .i64 s2, .int .i64 s3, .int .i64 s4, .int .i64 s5] 46)) B sb mb K V b ⟨zk, zi, zn, zt, zb, ze, z0, z1, z2, z3, z4, z5⟩ ∧ Blk (w.alloc (.cells #[.int .i64 6, .int .i64 i, .int .i64 n, .int .i64 t, .string b_, .int .i64 e, .int .i64 s0, .int .i64 s1, .int .i64 s2, .int .i64 s3, .int .i64 s4, .int .i64 s5] 46)) N [.int .i64 6, .int .i64 i, .int .i64 n, .int .i64 t, .string b_, .int .i64 e, .int .i64 s0, .int .i64 s1, .int .i64 s2, .int .i64 s3, .int .i64 s4, .int .i64 s5] 46 ∧ Below B w (w.alloc (.cells #[.int .i64 6, .int .i64 i, .int .i64 n, .int .i64 t, .string b_, .int .i64 e, .int .i64 s0, .int .i64 s1, .int .i64 s2, .int .i64 s3, .int .i64 s4, .int .i64 s5] 46)) ∧ (w.alloc (.cells #[.int .i64 6, .int .i64 i, .int .i64 n, .int .i64 t, .string b_, .int .i64 e, .int .i64 s0, .int .i64 s1, .int .i64 s2, .int .i64 s3, .int .i64 s4, .int .i64 s5] 46)).heap.size = N + 1) := Lib.hid ⟨H.same ((Chg.refl [] _).alloc _), by rw [← hN]; exact Blk.newA _ _ _, (Below.refl _ _).alloc hBw _, by simp [hN]⟩
  by_cases hin : i ∈ K.map (·.1)
  · obtain ⟨k2, hk2, hki⟩ := List.mem_map.1 hin
    obtain ⟨j, hj⟩ := List.getElem?_of_mem hk2
    obtain ⟨ki, kp⟩ := k2
    obtain rfl : i = ki := hki.symm
    have hhit := Cp.ens_hit H.nd hj
    obtain ⟨v, hv⟩ := H.f.val hj
    have hlen := hV0 v (List.mem_of_getElem? hv)
    have HX := Lib.hid (And.intro hj (And.intro hv (And.intro hlen (And.intro H.f.1 (And.intro H.nd hhit)))))
    clear H hin hk2 hj hhit hv hlen hV0 hki
    go_enter Tryd.func32, Tryd.ntmps32
    go_upto_region 1 with fail
    revert H1
    generalize (w.alloc (.cells #[.int .i64 6, .int .i64 i, .int .i64 n, .int .i64 t, .string b_, .int .i64 e, .int .i64 s0, .int .i64 s1, .int .i64 s2, .int .i64 s3, .int .i64 s4, .int .i64 s5] 46)) = W1
    intro H1
    have d0 : W1.cell? ⟨N, 0, none⟩ = some (.int .i64 6) := H1.out.2.1.cell (i := 0) rfl

    go_upto_region 16 with fail
    have d1 : W1.drew.cell? ⟨N, 1, none⟩ = some (.int .i64 i) := H1.out.2.1.cell (i := 1) rfl
    have c0 : W1.drew.cell? ⟨sb, 0, none⟩ = some (.map (some mb)) := H1.out.1.o.cell (i := 0) rfl
    have hl := run_lookV (P := Tryd.prog) (w := W1.drew) Tryd.underlying80 Tryd.underlying3 zeroPP (H1.out.1.same (Chg.refl [] _).drew).m i
    rw [HX.out.2.2.2.2.2] at hl
    go_cut [6] from 48 to 55 (fun v wx => v = .pointer (some ⟨kp, 0, none⟩) ∧ wx = W1.drew)
    case first =>
      go_region_law (fail)
      all_goals
        go_wp2_with fail
        go_meet
        exact ⟨rfl, rfl⟩
    obtain ⟨hv6, rfl⟩ := hcut
    subst hv6
    clear d1 c0 hl d0
    go_upto_region 18 with fail
    have y1 : W1.drew.drew.cell? ⟨sb, 1, none⟩ = some (.int .i64 (b : Int)) := H1.out.1.o.cell (i := 1) rfl
    have x0 : W1.drew.drew.cell? ⟨N, 0, none⟩ = some (.int .i64 6) := H1.out.2.1.cell (i := 0) rfl
    have x1 : W1.drew.drew.cell? ⟨N, 1, none⟩ = some (.int .i64 i) := H1.out.2.1.cell (i := 1) rfl
    have x2 : W1.drew.drew.cell? ⟨N, 2, none⟩ = some (.int .i64 n) := H1.out.2.1.cell (i := 2) rfl
    have x3 : W1.drew.drew.cell? ⟨N, 3, none⟩ = some (.int .i64 t) := H1.out.2.1.cell (i := 3) rfl
    have x4 : W1.drew.drew.cell? ⟨N, 4, none⟩ = some (.string b_) := H1.out.2.1.cell (i := 4) rfl
    have x5 : W1.drew.drew.cell? ⟨N, 5, none⟩ = some (.int .i64 e) := H1.out.2.1.cell (i := 5) rfl
    have x6 : W1.drew.drew.cell? ⟨N, 6, none⟩ = some (.int .i64 s0) := H1.out.2.1.cell (i := 6) rfl
    have x7 : W1.drew.drew.cell? ⟨N, 7, none⟩ = some (.int .i64 s1) := H1.out.2.1.cell (i := 7) rfl
    have x8 : W1.drew.drew.cell? ⟨N, 8, none⟩ = some (.int .i64 s2) := H1.out.2.1.cell (i := 8) rfl
    have x9 : W1.drew.drew.cell? ⟨N, 9, none⟩ = some (.int .i64 s3) := H1.out.2.1.cell (i := 9) rfl
    have x10 : W1.drew.drew.cell? ⟨N, 10, none⟩ = some (.int .i64 s4) := H1.out.2.1.cell (i := 10) rfl
    have x11 : W1.drew.drew.cell? ⟨N, 11, none⟩ = some (.int .i64 s5) := H1.out.2.1.cell (i := 11) rfl
    go_region_law (first
      | (rw [if_pos (by simp [Region.wanted])]
         unfold Oper.wp
         go_simp
         go_at_call 52
         (with_reducible refine (cp_round b sb (by omega) (Cp.rnd b) rfl _ y1).mono ?_)
         rintro r7 v7 ⟨rfl, e7⟩
         subst e7)
      | (rw [if_pos (by simp [Region.wanted])]
         unfold Oper.wp
         go_simp
         go_at_call 51
         (refine (cp_padd 6 i n t b_ e s0 s1 s2 s3 s4 s5 (Cp.rnd b) i B kp v (by have := HX.out.2.2.1.1; omega) (by have := HX.out.2.2.1.2; omega) _ ((H1.out.1.f.2.1 j _ v HX.out.1 HX.out.2.1).chg (Chg.refl [] _).drew.drew (by simp))).mono ?_)
         rintro r8 v8 ⟨v2, rfl, q1, q2, q3, q4, q5⟩
         have H8 := Lib.hid (And.intro ((H1.out.1.same (Chg.refl [] _).drew.drew).upd HX.out.1 HX.out.2.1 q1 q4 q5) (Cp.upd (x := ⟨6, i, n, t, b_, e, s0, s1, s2, s3, s4, s5⟩) (z := ⟨zk, zi, zn, zt, zb, ze, z0, z1, z2, z3, z4, z5⟩) (by simp) (by simp) HX.out.2.2.2.1 HX.out.2.2.2.2.1 HX.out.1 HX.out.2.1 q2 q3))
         clear q1 q2 q3 q4 q5))
    all_goals
      go_wp2_with fail
      go_end0
      exact ⟨rfl, K, V.set j v2, H8.out.1.1, H8.out.2, H1.out.2.2.1.drew.drew.trans H8.out.1.2⟩
  · have HX := Lib.hid (And.intro (Cp.ens_none hin) (Cp.upd_no (b := b) (z := ⟨zk, zi, zn, zt, zb, ze, z0, z1, z2, z3, z4, z5⟩) (x := ⟨6, i, n, t, b_, e, s0, s1, s2, s3, s4, s5⟩) (by simp) (by simp) H.f.1 hin))
    clear H hin hV0
    go_enter Tryd.func32, Tryd.ntmps32
    go_upto_region 1 with fail
    revert H1
    generalize (w.alloc (.cells #[.int .i64 6, .int .i64 i, .int .i64 n, .int .i64 t, .string b_, .int .i64 e, .int .i64 s0, .int .i64 s1, .int .i64 s2, .int .i64 s3, .int .i64 s4, .int .i64 s5] 46)) = W1
    intro H1
    have d0 : W1.cell? ⟨N, 0, none⟩ = some (.int .i64 6) := H1.out.2.1.cell (i := 0) rfl

    go_upto_region 16 with fail
    have d1 : W1.drew.cell? ⟨N, 1, none⟩ = some (.int .i64 i) := H1.out.2.1.cell (i := 1) rfl
    have c0 : W1.drew.cell? ⟨sb, 0, none⟩ = some (.map (some mb)) := H1.out.1.o.cell (i := 0) rfl
    have hl := run_lookV (P := Tryd.prog) (w := W1.drew) Tryd.underlying80 Tryd.underlying3 zeroPP (H1.out.1.same (Chg.refl [] _).drew).m i
    rw [HX.out.1] at hl
    go_cut [6] from 48 to 55 (fun v wx => v = .pointer none ∧ wx = W1.drew)
    case first =>
      go_region_law (fail)
      all_goals
        go_wp2_with fail
        go_meet
        exact ⟨rfl, rfl⟩
    obtain ⟨hv6, rfl⟩ := hcut
    subst hv6
    clear d1 c0 hl d0
    go_wp2_with fail
    go_end0
    exact ⟨rfl, K, V, H1.out.1.same (Chg.refl [] _).drew, HX.out.2, H1.out.2.2.1.drew⟩
set_option maxRecDepth 20000 in
set_option maxHeartbeats 16000000 in
theorem cp_add8 (i n t : Int) (b_ : ByteArray) (e s0 s1 s2 s3 s4 s5 : Int) (B sb mb : Nat) (K : List (Int × Nat)) (V : List PV) (b : Nat) (hb : b ≤ 100000) (z : Ev) (w : World) (hBw : B ≤ w.heap.size) (H : SPS w B sb mb K V b z) (hV0 : ∀ v ∈ V, v.T.length ≤ 90000 ∧ v.R.length ≤ 90000) :
    Calls Tryd.prog 32 #[.pointer (some ⟨sb, 0, none⟩), .agg #[.int .i64 8, .int .i64 i, .int .i64 n, .int .i64 t, .string b_, .int .i64 e, .int .i64 s0, .int .i64 s1, .int .i64 s2, .int .i64 s3, .int .i64 s4, .int .i64 s5]] w fun r w' => r = .returned (.tuple #[]) ∧ ∃ K' V', SPS w' B sb mb K' V' b z ∧ Cp.con K' V' = Cp.step b z (Cp.con K V) ⟨8, i, n, t, b_, e, s0, s1, s2, s3, s4, s5⟩ ∧ Below B w w' := by
  obtain ⟨zk, zi, zn, zt, zb, ze, z0, z1, z2, z3, z4, z5⟩ := z
  obtain ⟨N, hN⟩ : ∃ N, w.heap.size = N := ⟨_, rfl⟩
  have H1 : Hid (SPS (w.alloc (.cells #[.int .i64 8, .int .i64 i, .int .i64 n, .int .i64 t, .string b_, .int .i64 e, .int .i64 s0, .int .i64 s1, .int .i64 s2, .int .i64 s3, .int .i64 s4, .int .i64 s5] 46)) B sb mb K V b ⟨zk, zi, zn, zt, zb, ze, z0, z1, z2, z3, z4, z5⟩ ∧ Blk (w.alloc (.cells #[.int .i64 8, .int .i64 i, .int .i64 n, .int .i64 t, .string b_, .int .i64 e, .int .i64 s0, .int .i64 s1, .int .i64 s2, .int .i64 s3, .int .i64 s4, .int .i64 s5] 46)) N [.int .i64 8, .int .i64 i, .int .i64 n, .int .i64 t, .string b_, .int .i64 e, .int .i64 s0, .int .i64 s1, .int .i64 s2, .int .i64 s3, .int .i64 s4, .int .i64 s5] 46 ∧ Below B w (w.alloc (.cells #[.int .i64 8, .int .i64 i, .int .i64 n, .int .i64 t, .string b_, .int .i64 e, .int .i64 s0, .int .i64 s1, .int .i64 s2, .int .i64 s3, .int .i64 s4, .int .i64 s5] 46)) ∧ (w.alloc (.cells #[.int .i64 8, .int .i64 i, .int .i64 n, .int .i64 t, .string b_, .int .i64 e, .int .i64 s0, .int .i64 s1, .int .i64 s2, .int .i64 s3, .int .i64 s4, .int .i64 s5] 46)).heap.size = N + 1) := Lib.hid ⟨H.same ((Chg.refl [] _).alloc _), by rw [← hN]; exact Blk.newA _ _ _, (Below.refl _ _).alloc hBw _, by simp [hN]⟩
  by_cases hin : i ∈ K.map (·.1)
  · obtain ⟨k2, hk2, hki⟩ := List.mem_map.1 hin
    obtain ⟨j, hj⟩ := List.getElem?_of_mem hk2
    obtain ⟨ki, kp⟩ := k2
    obtain rfl : i = ki := hki.symm
    have hhit := Cp.ens_hit H.nd hj
    obtain ⟨v, hv⟩ := H.f.val hj
    have hlen := hV0 v (List.mem_of_getElem? hv)
    have HX := Lib.hid (And.intro hj (And.intro hv (And.intro hlen (And.intro H.f.1 (And.intro H.nd hhit)))))
    clear H hin hk2 hj hhit hv hlen hV0 hki
    go_enter Tryd.func32, Tryd.ntmps32
    go_upto_region 1 with fail
    revert H1
    generalize (w.alloc (.cells #[.int .i64 8, .int .i64 i, .int .i64 n, .int .i64 t, .string b_, .int .i64 e, .int .i64 s0, .int .i64 s1, .int .i64 s2, .int .i64 s3, .int .i64 s4, .int .i64 s5] 46)) = W1
    intro H1
    have d0 : W1.cell? ⟨N, 0, none⟩ = some (.int .i64 8) := H1.out.2.1.cell (i := 0) rfl

    go_upto_region 16 with fail
    have d1 : W1.drew.cell? ⟨N, 1, none⟩ = some (.int .i64 i) := H1.out.2.1.cell (i := 1) rfl
    have c0 : W1.drew.cell? ⟨sb, 0, none⟩ = some (.map (some mb)) := H1.out.1.o.cell (i := 0) rfl
    have hl := run_lookV (P := Tryd.prog) (w := W1.drew) Tryd.underlying80 Tryd.underlying3 zeroPP (H1.out.1.same (Chg.refl [] _).drew).m i
    rw [HX.out.2.2.2.2.2] at hl
    go_cut [6] from 48 to 55 (fun v wx => v = .pointer (some ⟨kp, 0, none⟩) ∧ wx = W1.drew)
    case first =>
      go_region_law (fail)
      all_goals
        go_wp2_with fail
        go_meet
        exact ⟨rfl, rfl⟩
    obtain ⟨hv6, rfl⟩ := hcut
    subst hv6
    clear d1 c0 hl d0
    go_upto_region 18 with fail
    have y1 : W1.drew.drew.cell? ⟨sb, 1, none⟩ = some (.int .i64 (b : Int)) := H1.out.1.o.cell (i := 1) rfl
    have x0 : W1.drew.drew.cell? ⟨N, 0, none⟩ = some (.int .i64 8) := H1.out.2.1.cell (i := 0) rfl
    have x1 : W1.drew.drew.cell? ⟨N, 1, none⟩ = some (.int .i64 i) := H1.out.2.1.cell (i := 1) rfl
    have x2 : W1.drew.drew.cell? ⟨N, 2, none⟩ = some (.int .i64 n) := H1.out.2.1.cell (i := 2) rfl
    have x3 : W1.drew.drew.cell? ⟨N, 3, none⟩ = some (.int .i64 t) := H1.out.2.1.cell (i := 3) rfl
    have x4 : W1.drew.drew.cell? ⟨N, 4, none⟩ = some (.string b_) := H1.out.2.1.cell (i := 4) rfl
    have x5 : W1.drew.drew.cell? ⟨N, 5, none⟩ = some (.int .i64 e) := H1.out.2.1.cell (i := 5) rfl
    have x6 : W1.drew.drew.cell? ⟨N, 6, none⟩ = some (.int .i64 s0) := H1.out.2.1.cell (i := 6) rfl
    have x7 : W1.drew.drew.cell? ⟨N, 7, none⟩ = some (.int .i64 s1) := H1.out.2.1.cell (i := 7) rfl
    have x8 : W1.drew.drew.cell? ⟨N, 8, none⟩ = some (.int .i64 s2) := H1.out.2.1.cell (i := 8) rfl
    have x9 : W1.drew.drew.cell? ⟨N, 9, none⟩ = some (.int .i64 s3) := H1.out.2.1.cell (i := 9) rfl
    have x10 : W1.drew.drew.cell? ⟨N, 10, none⟩ = some (.int .i64 s4) := H1.out.2.1.cell (i := 10) rfl
    have x11 : W1.drew.drew.cell? ⟨N, 11, none⟩ = some (.int .i64 s5) := H1.out.2.1.cell (i := 11) rfl
    go_region_law (first
      | (rw [if_pos (by simp [Region.wanted])]
         unfold Oper.wp
         go_simp
         go_at_call 52
         (with_reducible refine (cp_round b sb (by omega) (Cp.rnd b) rfl _ y1).mono ?_)
         rintro r7 v7 ⟨rfl, e7⟩
         subst e7)
      | (rw [if_pos (by simp [Region.wanted])]
         unfold Oper.wp
         go_simp
         go_at_call 51
         (refine (cp_padd 8 i n t b_ e s0 s1 s2 s3 s4 s5 (Cp.rnd b) i B kp v (by have := HX.out.2.2.1.1; omega) (by have := HX.out.2.2.1.2; omega) _ ((H1.out.1.f.2.1 j _ v HX.out.1 HX.out.2.1).chg (Chg.refl [] _).drew.drew (by simp))).mono ?_)
         rintro r8 v8 ⟨v2, rfl, q1, q2, q3, q4, q5⟩
         have H8 := Lib.hid (And.intro ((H1.out.1.same (Chg.refl [] _).drew.drew).upd HX.out.1 HX.out.2.1 q1 q4 q5) (Cp.upd (x := ⟨8, i, n, t, b_, e, s0, s1, s2, s3, s4, s5⟩) (z := ⟨zk, zi, zn, zt, zb, ze, z0, z1, z2, z3, z4, z5⟩) (by simp) (by simp) HX.out.2.2.2.1 HX.out.2.2.2.2.1 HX.out.1 HX.out.2.1 q2 q3))
         clear q1 q2 q3 q4 q5))
    all_goals
      go_wp2_with fail
      go_end0
      exact ⟨rfl, K, V.set j v2, H8.out.1.1, H8.out.2, H1.out.2.2.1.drew.drew.trans H8.out.1.2⟩
  · have HX := Lib.hid (And.intro (Cp.ens_none hin) (Cp.upd_no (b := b) (z := ⟨zk, zi, zn, zt, zb, ze, z0, z1, z2, z3, z4, z5⟩) (x := ⟨8, i, n, t, b_, e, s0, s1, s2, s3, s4, s5⟩) (by simp) (by simp) H.f.1 hin))
    clear H hin hV0
    go_enter Tryd.func32, Tryd.ntmps32
    go_upto_region 1 with fail
    revert H1
    generalize (w.alloc (.cells #[.int .i64 8, .int .i64 i, .int .i64 n, .int .i64 t, .string b_, .int .i64 e, .int .i64 s0, .int .i64 s1, .int .i64 s2, .int .i64 s3, .int .i64 s4, .int .i64 s5] 46)) = W1
    intro H1
    have d0 : W1.cell? ⟨N, 0, none⟩ = some (.int .i64 8) := H1.out.2.1.cell (i := 0) rfl

    go_upto_region 16 with fail
    have d1 : W1.drew.cell? ⟨N, 1, none⟩ = some (.int .i64 i) := H1.out.2.1.cell (i := 1) rfl
    have c0 : W1.drew.cell? ⟨sb, 0, none⟩ = some (.map (some mb)) := H1.out.1.o.cell (i := 0) rfl
    have hl := run_lookV (P := Tryd.prog) (w := W1.drew) Tryd.underlying80 Tryd.underlying3 zeroPP (H1.out.1.same (Chg.refl [] _).drew).m i
    rw [HX.out.1] at hl
    go_cut [6] from 48 to 55 (fun v wx => v = .pointer none ∧ wx = W1.drew)
    case first =>
      go_region_law (fail)
      all_goals
        go_wp2_with fail
        go_meet
        exact ⟨rfl, rfl⟩
    obtain ⟨hv6, rfl⟩ := hcut
    subst hv6
    clear d1 c0 hl d0
    go_wp2_with fail
    go_end0
    exact ⟨rfl, K, V, H1.out.1.same (Chg.refl [] _).drew, HX.out.2, H1.out.2.2.1.drew⟩
end Go.Proofs.YtdchedkhlfmpeaaDoor
/- Parts: the splitter, any event. -/
namespace Go.Proofs.YtdchedkhlfmpeaaDoor
open Go.ChangeShapes Go.WideShapes Go.ChangeAt Go.RowKit
set_option linter.unusedSimpArgs false
set_option linter.unusedVariables false

set_option maxRecDepth 20000 in
set_option maxHeartbeats 16000000 in
theorem cp_add2 (i n t : Int) (b_ : ByteArray) (e s0 s1 s2 s3 s4 s5 : Int) (B sb mb : Nat) (K : List (Int × Nat)) (V : List PV) (b : Nat) (hb : b ≤ 100000) (z : Ev) (w : World) (hBw : B ≤ w.heap.size) (H : SPS w B sb mb K V b z) :
    Calls Tryd.prog 32 #[.pointer (some ⟨sb, 0, none⟩), .agg #[.int .i64 2, .int .i64 i, .int .i64 n, .int .i64 t, .string b_, .int .i64 e, .int .i64 s0, .int .i64 s1, .int .i64 s2, .int .i64 s3, .int .i64 s4, .int .i64 s5]] w fun r w' => r = .returned (.tuple #[]) ∧ ∃ K' V', SPS w' B sb mb K' V' b z ∧ Cp.con K' V' = Cp.step b z (Cp.con K V) ⟨2, i, n, t, b_, e, s0, s1, s2, s3, s4, s5⟩ ∧ Below B w w' := by
  obtain ⟨zk, zi, zn, zt, zb, ze, z0, z1, z2, z3, z4, z5⟩ := z
  obtain ⟨N, hN⟩ : ∃ N, w.heap.size = N := ⟨_, rfl⟩
  have H1 : Hid (SPS (w.alloc (.cells #[.int .i64 2, .int .i64 i, .int .i64 n, .int .i64 t, .string b_, .int .i64 e, .int .i64 s0, .int .i64 s1, .int .i64 s2, .int .i64 s3, .int .i64 s4, .int .i64 s5] 46)) B sb mb K V b ⟨zk, zi, zn, zt, zb, ze, z0, z1, z2, z3, z4, z5⟩ ∧ Blk (w.alloc (.cells #[.int .i64 2, .int .i64 i, .int .i64 n, .int .i64 t, .string b_, .int .i64 e, .int .i64 s0, .int .i64 s1, .int .i64 s2, .int .i64 s3, .int .i64 s4, .int .i64 s5] 46)) N [.int .i64 2, .int .i64 i, .int .i64 n, .int .i64 t, .string b_, .int .i64 e, .int .i64 s0, .int .i64 s1, .int .i64 s2, .int .i64 s3, .int .i64 s4, .int .i64 s5] 46 ∧ Below B w (w.alloc (.cells #[.int .i64 2, .int .i64 i, .int .i64 n, .int .i64 t, .string b_, .int .i64 e, .int .i64 s0, .int .i64 s1, .int .i64 s2, .int .i64 s3, .int .i64 s4, .int .i64 s5] 46)) ∧ (w.alloc (.cells #[.int .i64 2, .int .i64 i, .int .i64 n, .int .i64 t, .string b_, .int .i64 e, .int .i64 s0, .int .i64 s1, .int .i64 s2, .int .i64 s3, .int .i64 s4, .int .i64 s5] 46)).heap.size = N + 1) := Lib.hid ⟨H.same ((Chg.refl [] _).alloc _), by rw [← hN]; exact Blk.newA _ _ _, (Below.refl _ _).alloc hBw _, by simp [hN]⟩
  have HB := Lib.hid (show B ≤ N + 1 by omega)
  clear H
  go_enter Tryd.func32, Tryd.ntmps32
  go_upto_region 1 with fail
  revert H1
  generalize (w.alloc (.cells #[.int .i64 2, .int .i64 i, .int .i64 n, .int .i64 t, .string b_, .int .i64 e, .int .i64 s0, .int .i64 s1, .int .i64 s2, .int .i64 s3, .int .i64 s4, .int .i64 s5] 46)) = W1
  intro H1
  have d0 : W1.cell? ⟨N, 0, none⟩ = some (.int .i64 2) := H1.out.2.1.cell (i := 0) rfl
  have d1 : W1.cell? ⟨N, 1, none⟩ = some (.int .i64 i) := H1.out.2.1.cell (i := 1) rfl
  have d2 : W1.cell? ⟨N, 2, none⟩ = some (.int .i64 n) := H1.out.2.1.cell (i := 2) rfl
  have d3 : W1.cell? ⟨N, 3, none⟩ = some (.int .i64 t) := H1.out.2.1.cell (i := 3) rfl
  have d4 : W1.cell? ⟨N, 4, none⟩ = some (.string b_) := H1.out.2.1.cell (i := 4) rfl
  have d5 : W1.cell? ⟨N, 5, none⟩ = some (.int .i64 e) := H1.out.2.1.cell (i := 5) rfl
  have d6 : W1.cell? ⟨N, 6, none⟩ = some (.int .i64 s0) := H1.out.2.1.cell (i := 6) rfl
  have d7 : W1.cell? ⟨N, 7, none⟩ = some (.int .i64 s1) := H1.out.2.1.cell (i := 7) rfl
  have d8 : W1.cell? ⟨N, 8, none⟩ = some (.int .i64 s2) := H1.out.2.1.cell (i := 8) rfl
  have d9 : W1.cell? ⟨N, 9, none⟩ = some (.int .i64 s3) := H1.out.2.1.cell (i := 9) rfl
  have d10 : W1.cell? ⟨N, 10, none⟩ = some (.int .i64 s4) := H1.out.2.1.cell (i := 10) rfl
  have d11 : W1.cell? ⟨N, 11, none⟩ = some (.int .i64 s5) := H1.out.2.1.cell (i := 11) rfl
  go_wp2_with (go_at_call 50; (refine (cp_open i n t b_ e s0 s1 s2 s3 s4 s5 B sb mb K V b hb ⟨zk, zi, zn, zt, zb, ze, z0, z1, z2, z3, z4, z5⟩ _ (by rw [H1.out.2.2.2]; exact HB.out) H1.out.1).mono ?_); rintro r8 v8 ⟨rfl, K2, V2, q1, q2, q3⟩; have H8 := Lib.hid (And.intro q1 (And.intro q2 q3)); clear q1 q2 q3)
  go_end0
  exact ⟨rfl, K2, V2, H8.out.1, H8.out.2.1, H1.out.2.2.1.trans H8.out.2.2⟩
set_option maxRecDepth 20000 in
set_option maxHeartbeats 16000000 in
theorem cp_add0 (k : Int) (i n t : Int) (b_ : ByteArray) (e s0 s1 s2 s3 s4 s5 : Int) (B sb mb : Nat) (K : List (Int × Nat)) (V : List PV) (b : Nat) (hb : b ≤ 100000) (z : Ev) (w : World) (hBw : B ≤ w.heap.size) (H : SPS w B sb mb K V b z) (hk : k ≠ 1 ∧ k ≠ 2 ∧ k ≠ 4 ∧ k ≠ 5 ∧ k ≠ 6 ∧ k ≠ 7 ∧ k ≠ 8) :
    Calls Tryd.prog 32 #[.pointer (some ⟨sb, 0, none⟩), .agg #[.int .i64 k, .int .i64 i, .int .i64 n, .int .i64 t, .string b_, .int .i64 e, .int .i64 s0, .int .i64 s1, .int .i64 s2, .int .i64 s3, .int .i64 s4, .int .i64 s5]] w fun r w' => r = .returned (.tuple #[]) ∧ ∃ K' V', SPS w' B sb mb K' V' b z ∧ Cp.con K' V' = Cp.step b z (Cp.con K V) ⟨k, i, n, t, b_, e, s0, s1, s2, s3, s4, s5⟩ ∧ Below B w w' := by
  obtain ⟨zk, zi, zn, zt, zb, ze, z0, z1, z2, z3, z4, z5⟩ := z
  obtain ⟨N, hN⟩ : ∃ N, w.heap.size = N := ⟨_, rfl⟩
  have H1 : Hid (SPS (w.alloc (.cells #[.int .i64 k, .int .i64 i, .int .i64 n, .int .i64 t, .string b_, .int .i64 e, .int .i64 s0, .int .i64 s1, .int .i64 s2, .int .i64 s3, .int .i64 s4, .int .i64 s5] 46)) B sb mb K V b ⟨zk, zi, zn, zt, zb, ze, z0, z1, z2, z3, z4, z5⟩ ∧ Blk (w.alloc (.cells #[.int .i64 k, .int .i64 i, .int .i64 n, .int .i64 t, .string b_, .int .i64 e, .int .i64 s0, .int .i64 s1, .int .i64 s2, .int .i64 s3, .int .i64 s4, .int .i64 s5] 46)) N [.int .i64 k, .int .i64 i, .int .i64 n, .int .i64 t, .string b_, .int .i64 e, .int .i64 s0, .int .i64 s1, .int .i64 s2, .int .i64 s3, .int .i64 s4, .int .i64 s5] 46 ∧ Below B w (w.alloc (.cells #[.int .i64 k, .int .i64 i, .int .i64 n, .int .i64 t, .string b_, .int .i64 e, .int .i64 s0, .int .i64 s1, .int .i64 s2, .int .i64 s3, .int .i64 s4, .int .i64 s5] 46)) ∧ (w.alloc (.cells #[.int .i64 k, .int .i64 i, .int .i64 n, .int .i64 t, .string b_, .int .i64 e, .int .i64 s0, .int .i64 s1, .int .i64 s2, .int .i64 s3, .int .i64 s4, .int .i64 s5] 46)).heap.size = N + 1) := Lib.hid ⟨H.same ((Chg.refl [] _).alloc _), by rw [← hN]; exact Blk.newA _ _ _, (Below.refl _ _).alloc hBw _, by simp [hN]⟩
  have HC : Hid (Cp.con K V = Cp.step b ⟨zk, zi, zn, zt, zb, ze, z0, z1, z2, z3, z4, z5⟩ (Cp.con K V) ⟨k, i, n, t, b_, e, s0, s1, s2, s3, s4, s5⟩) := Lib.hid (Cp.step_no ⟨hk.2.2.1, hk.2.2.2.1, hk.2.2.2.2.1, hk.2.2.2.2.2.1, hk.2.2.2.2.2.2⟩ hk.2.1 _ _ _).symm
  have k1 : (k == 1) = false := by simp [hk.1]
  have k2 : (k == 2) = false := by simp [hk.2.1]
  have k4 : (k == 4) = false := by simp [hk.2.2.1]
  have k5 : (k == 5) = false := by simp [hk.2.2.2.1]
  have k6 : (k == 6) = false := by simp [hk.2.2.2.2.1]
  have k7 : (k == 7) = false := by simp [hk.2.2.2.2.2.1]
  have k8 : (k == 8) = false := by simp [hk.2.2.2.2.2.2]
  clear H hk
  go_enter Tryd.func32, Tryd.ntmps32
  go_upto_region 1 with fail
  revert H1
  generalize (w.alloc (.cells #[.int .i64 k, .int .i64 i, .int .i64 n, .int .i64 t, .string b_, .int .i64 e, .int .i64 s0, .int .i64 s1, .int .i64 s2, .int .i64 s3, .int .i64 s4, .int .i64 s5] 46)) = W1
  intro H1
  have d0 : W1.cell? ⟨N, 0, none⟩ = some (.int .i64 k) := H1.out.2.1.cell (i := 0) rfl
  go_wp2_with fail
  go_end0
  exact ⟨rfl, K, V, H1.out.1, HC.out, H1.out.2.2.1⟩
set_option maxRecDepth 20000 in
set_option maxHeartbeats 16000000 in
theorem cp_sadd (k i n t : Int) (b_ : ByteArray) (e s0 s1 s2 s3 s4 s5 : Int) (B sb mb : Nat) (K : List (Int × Nat)) (V : List PV) (st st2 : Cp.St) (hS : Cp.con K V = st.S) (h2 : Cp.one st ⟨k, i, n, t, b_, e, s0, s1, s2, s3, s4, s5⟩ = st2) (hb : st.b ≤ 100000) (w : World) (hBw : B ≤ w.heap.size) (H : SPS w B sb mb K V st.b st.z) (hV0 : ∀ v ∈ V, v.T.length ≤ 90000 ∧ v.R.length ≤ 90000) :
    Calls Tryd.prog 32 #[.pointer (some ⟨sb, 0, none⟩), .agg #[.int .i64 k, .int .i64 i, .int .i64 n, .int .i64 t, .string b_, .int .i64 e, .int .i64 s0, .int .i64 s1, .int .i64 s2, .int .i64 s3, .int .i64 s4, .int .i64 s5]] w fun r w' => r = .returned (.tuple #[]) ∧ ∃ K' V', SPS w' B sb mb K' V' st2.b st2.z ∧ Cp.con K' V' = st2.S ∧ Below B w w' := by
  subst h2
  unfold Cp.one
  dsimp only
  rw [← hS]
  by_cases k1 : k = 1
  · subst k1; exact cp_add1 i n t b_ e s0 s1 s2 s3 s4 s5 B sb mb K V st.b hb st.z w hBw H
  rw [if_neg k1, if_neg k1]
  by_cases k2 : k = 2
  · subst k2; exact cp_add2 i n t b_ e s0 s1 s2 s3 s4 s5 B sb mb K V st.b hb st.z w hBw H
  by_cases k4 : k = 4
  · subst k4; exact cp_add4 i n t b_ e s0 s1 s2 s3 s4 s5 B sb mb K V st.b hb st.z w hBw H hV0
  by_cases k5 : k = 5
  · subst k5; exact cp_add5 i n t b_ e s0 s1 s2 s3 s4 s5 B sb mb K V st.b hb st.z w hBw H hV0
  by_cases k6 : k = 6
  · subst k6; exact cp_add6 i n t b_ e s0 s1 s2 s3 s4 s5 B sb mb K V st.b hb st.z w hBw H hV0
  by_cases k7 : k = 7
  · subst k7; exact cp_add7 i n t b_ e s0 s1 s2 s3 s4 s5 B sb mb K V st.b hb st.z w hBw H hV0
  by_cases k8 : k = 8
  · subst k8; exact cp_add8 i n t b_ e s0 s1 s2 s3 s4 s5 B sb mb K V st.b hb st.z w hBw H hV0
  exact cp_add0 k i n t b_ e s0 s1 s2 s3 s4 s5 B sb mb K V st.b hb st.z w hBw H ⟨k1, k2, k4, k5, k6, k7, k8⟩
end Go.Proofs.YtdchedkhlfmpeaaDoor
/- Parts: sorted keys. -/
namespace Go.Proofs.YtdchedkhlfmpeaaDoor
open Go.ChangeShapes Go.WideShapes Go.ChangeAt Go.RowKit Go.Maps Go.Sort Go.Shelf
set_option linter.unusedSimpArgs false
set_option linter.unusedVariables false

theorem sorts_any (m : Nat) : AnyZI.SortsIn Tryd.prog Tryd.sortedA_ren Fence.wide m :=
  ⟨fun blk off cap ss W hH hblk hsz => callsIn_wide.2 (AnyM.slices_Sort_int Tryd.sortA blk off cap ss W hH hblk hsz),
   fun p cap W => callsIn_wide.2 (AnyM.slices_Sort_int_none Tryd.sortA p cap W)⟩
/-- Numbers, each once, are what they are sorted. -/
theorem sorted_nd {l m : List Int} (hm : m.Pairwise (· < ·)) (hn : l.Nodup) (hp : ∀ x, x ∈ l ↔ x ∈ m) : l.mergeSort (fun x y => decide (x ≤ y)) = m := by
  have h1 : (l.mergeSort (fun x y => decide (x ≤ y))).Pairwise (fun a b => decide (a ≤ b) = true) := List.pairwise_mergeSort (fun a b c h1 h2 => by simp only [decide_eq_true_eq] at *; omega) (fun a b => by simp only [Bool.or_eq_true, decide_eq_true_eq]; omega) l
  have hperm := List.mergeSort_perm l (fun x y => decide (x ≤ y))
  have h2 : (l.mergeSort (fun x y => decide (x ≤ y))).Nodup := hperm.nodup_iff.2 hn
  refine lt_ext _ _ ((h1.and h2).imp (fun h => ?_)) hm (fun x => by rw [hperm.mem_iff]; exact hp x)
  have a := h.1
  have b := h.2
  simp only [decide_eq_true_eq] at a
  have b2 : _ ≠ _ := b
  omega
def RDV (v : Value) : Option (DataW Unit × List MemPlace) := some (.lit (.bool false), [])
theorem owns_ofV {w : World} {b : Nat} {K : List (Int × Nat)} (h : MpV w b (Cp.ens K) K.length) (hn : (K.map (·.1)).Nodup) (hw : ∀ k ∈ K, (Lit.int .i64 k.1).wf = true) (hl : K.length ≤ 100000) :
    ∃ D : DataW Unit, w.ownsMap Tryd.prog 3 RDV b K.length D ∧ (intKeys D).Perm (K.map (·.1)) ∧ Maps.size D = K.length := by
  have hkey : ∀ x ∈ Cp.ens K, WideElems.rd Tryd.prog 3 RDV (entV x) = some (.int .i64 x.1, .lit (.bool false)) := fun x hx => by
    obtain ⟨i, k, hk, rfl⟩ := Cp.ens_mem hx
    unfold WideElems.rd
    have hw2 := hw k (List.mem_of_getElem? hk)
    dsimp only
    rw [show (entV (k.1, Value.pointer (some ⟨k.2, 0, none⟩), i)).key = .int .i64 k.1 from rfl, Maps.keyOf_int_mk Tryd.underlying3 hw2]
    rfl
  have hrg : ((Cp.ens K).map entV).map (WideElems.rg Tryd.prog 3 RDV) = (Cp.ens K).map fun x => (Lit.int .i64 x.1, (DataW.lit (.bool false) : DataW Unit)) := by
    rw [List.map_map]
    apply List.map_congr_left
    intro x hx
    simp only [Function.comp, WideElems.rg, hkey x hx, Option.getD_some]
  refine ⟨_, ⟨_, K.length, h, ⟨by simp [Cp.ens_len]; unfold maxLen; omega, ⟨?_, ?_, ?_⟩, ?_⟩, by simp [Cp.ens_len], rfl⟩, ?_, ?_⟩
  · intro x hx
    rw [List.toList_toArray] at hx
    exact Cp.ens_born K x hx
  · rw [List.toList_toArray, Cp.ens_borns]
    exact List.nodup_range
  · rw [List.toList_toArray, List.map_map]
    have : (Cp.ens K).map ((·.key) ∘ entV) = (K.map (·.1)).map (Value.int .i64) := by
      rw [← Cp.ens_ids, List.map_map]; rfl
    rw [this]
    unfold List.Nodup at hn ⊢
    rw [List.pairwise_map]
    exact hn.imp (fun h e => by injection e with _ e; exact h e)
  · intro x hx
    rw [List.toList_toArray] at hx
    obtain ⟨y, hy, rfl⟩ := List.mem_map.1 hx
    exact ⟨_, hkey y hy⟩
  · rw [List.toList_toArray, hrg]
    simp only [intKeys]
    refine ((sorted_perm _).map _).trans ?_
    rw [List.map_map, ← Cp.ens_ids]
    exact List.Perm.refl _
  · simp [Maps.size, length_sorted, Cp.ens_len]
theorem ri_owns {w : World} {base n : Nat} {v : Value} {D : List Int} (h : w.ownsRow base 3 1 v n (D.map (Value.int .i64))) : ∃ r c, v = .slice r n c ∧ RI w r D ∧ D.length = n := by
  obtain ⟨h0, ⟨h1, h2⟩ | ⟨g, cap, cur, h1, h2, h3, h4, h5, h6, h7⟩⟩ := h
  · subst h1 h2
    have : D = [] := List.length_eq_zero_iff.1 (by simpa using h0)
    subst this
    exact ⟨none, 0, rfl, RI.nil _ _, rfl⟩
  · subst h1
    have hlt : g < w.heap.size := by
      rcases Nat.lt_or_ge g w.heap.size with h' | h'
      · exact h'
      · rw [Array.getElem?_eq_none h'] at h3; cases h3
    refine ⟨_, cap, rfl, fun j v hj => ⟨g, 0, rfl, hlt, ?_⟩, by simpa using h0⟩
    have hjl := (List.getElem?_eq_some_iff.1 hj).1
    have hl : D.length = n := by simpa using h0
    have e1 : (D.map (Value.int .i64))[j]? = some (.int .i64 v) := by rw [List.getElem?_map, hj]; rfl
    rw [← h7, List.getElem?_take, if_pos (by omega), Array.getElem?_toList] at e1
    simp [World.cell?, h3, e1]
/-- Parts as values, one by one. -/
def Cp.pcs (P : List (Int × PV)) : List Value := P.flatMap (fun p => p.2.cs p.1)
theorem Cp.pcs_snoc (P : List (Int × PV)) (p : Int × PV) : Cp.pcs (P ++ [p]) = Cp.pcs P ++ p.2.cs p.1 := by unfold Cp.pcs; rw [List.flatMap_append]; simp
theorem Cp.pick {K : List (Int × Nat)} {V : List PV} (h : K.length = V.length) : ∀ (D : List Int), (∀ i ∈ D, i ∈ K.map (·.1)) → ∃ P : List (Int × PV), P.map (·.1) = D ∧ ∀ p ∈ P, ∃ (q kp : Nat), K[q]? = some (p.1, kp) ∧ V[q]? = some p.2
  | [], _ => ⟨[], rfl, fun p hp => by simp at hp⟩
  | i :: D, hD => by
    obtain ⟨P, h1, h2⟩ := Cp.pick h D (fun y hy => hD y (List.mem_cons_of_mem _ hy))
    obtain ⟨k, hk, e⟩ := List.mem_map.1 (hD i List.mem_cons_self)
    obtain ⟨q, hq⟩ := List.getElem?_of_mem hk
    obtain ⟨ki, kp⟩ := k
    dsimp only at e
    subst e
    obtain ⟨v, hv⟩ : ∃ v, V[q]? = some v := ⟨_, List.getElem?_eq_getElem (by have := (List.getElem?_eq_some_iff.1 hq).1; omega)⟩
    refine ⟨(ki, v) :: P, by rw [List.map_cons, h1], fun p hp => ?_⟩
    rcases List.mem_cons.1 hp with rfl | hp
    · exact ⟨q, kp, hq, hv⟩
    · exact h2 p hp
theorem infoPt : (Tryd.prog.info? 52).map (fun i => (i.zero, i.size, i.bytes)) = some (some (.agg #[.int .i64 0, .slice none 0 0, .slice none 0 0]), 3, 56) := by kernel_rfl
theorem PV.cs_one (i : Int) (v : PV) : ∀ x ∈ v.cs i, x.oneCell' = true := by
  intro x hx
  simp only [PV.cs, List.mem_cons, List.not_mem_nil, or_false] at hx
  rcases hx with rfl | rfl | rfl <;> rfl
theorem EL.of_rm {w : World} {B n c : Nat} {r : Option Addr} {L : List Ev} {T : TypeId} (h : RM w B r n c 12 (evs L) T) (hok : ∀ x ∈ L, x.ok) : EL w r L ∧ L.length ≤ c := by
  obtain ⟨h0, h1, ⟨h2, h3, h4⟩ | ⟨g, h2, h3, h4⟩⟩ := h
  · subst h2 h3 h4
    rw [evs_len] at h0
    have : L = [] := List.length_eq_zero_iff.1 (by omega)
    subst this
    exact ⟨EL.nil _ _, by simp⟩
  · subst h2
    refine ⟨EL.of_rn h4 hok, ?_⟩
    have := h4.len
    rw [evs_len] at this
    omega
theorem Cp.lens {L : List Ev} {K : List (Int × Nat)} {V : List PV} (hl : K.length = V.length) (h : Cp.con K V = (Cp.run L).S) : ∀ v ∈ V, v.T.length ≤ L.length + 1 ∧ v.R.length ≤ L.length + 1 := by
  intro v hv
  obtain ⟨j, hj⟩ := List.getElem?_of_mem hv
  obtain ⟨k, hk⟩ : ∃ k, K[j]? = some k := ⟨_, List.getElem?_eq_getElem (by have := (List.getElem?_eq_some_iff.1 hj).1; omega)⟩
  have := Cp.con_at hk hj
  rw [h] at this
  obtain ⟨_, a2, a3, _⟩ := (Cp.inv_run L).2.2.2.2.2 _ (List.mem_of_getElem? this)
  dsimp only at a2 a3
  omega
theorem Cp.S_len (M : List Ev) : (Cp.run M).S.length ≤ M.length := by
  have one : ∀ (s : Cp.St) (x : Ev), (Cp.one s x).S.length ≤ s.S.length + 1 := by
    intro s x
    show (Cp.step s.b s.z s.S x).length ≤ _
    unfold Cp.step
    split
    · split
      · omega
      · rw [List.length_append]; simp
    · rw [List.length_map]; omega
  have key : ∀ (N : List Ev) (s : Cp.St), (N.foldl Cp.one s).S.length ≤ s.S.length + N.length := by
    intro N
    induction N with
    | nil => intro s; simp
    | cons x N ih =>
      intro s
      have h1 := ih (Cp.one s x)
      have h2 := one s x
      rw [List.foldl_cons, List.length_cons]
      omega
  have := key M ⟨0, Cp.zev, []⟩
  simpa [Cp.run] using this
theorem Cp.ids_of {L : List Ev} {K : List (Int × Nat)} {V : List PV} (hl : K.length = V.length) (h : Cp.con K V = (Cp.run L).S) : (∀ i, i ∈ K.map (·.1) ↔ i ∈ Ev.ids L) ∧ K.length ≤ L.length := by
  refine ⟨fun i => ?_, ?_⟩
  · rw [← Cp.con_ids hl, h, (Cp.inv_run L).2.1 i, (Ev.ids_srt L).2]
  · have := Cp.S_len L
    rw [← h, Cp.con_len hl] at this
    exact this
theorem Cp.wf_of {L : List Ev} {K : List (Int × Nat)} {V : List PV} (hl : K.length = V.length) (h : Cp.con K V = (Cp.run L).S) (hok : ∀ x ∈ L, x.ok) : ∀ k ∈ K, (Lit.int .i64 k.1).wf = true := by
  intro k hk
  have h1 := ((Cp.ids_of hl h).1 k.1).1 (List.mem_map.2 ⟨k, hk, rfl⟩)
  rw [(Ev.ids_srt L).2] at h1
  unfold Ev.ops at h1
  obtain ⟨x, hx, e⟩ := List.mem_map.1 h1
  rw [← e]
  exact (hok x (List.mem_filter.1 hx).1).2 .i64 x.i (by simp [Ev.c])
theorem SPS.zero (w : World) : SPS ((w.alloc (.map #[] 0)).alloc (.cells #[.map (some w.heap.size), .int .i64 0, .int .i64 0, .int .i64 0, .int .i64 0, .int .i64 0, .string ⟨#[]⟩, .int .i64 0, .int .i64 0, .int .i64 0, .int .i64 0, .int .i64 0, .int .i64 0, .int .i64 0] 82)) w.heap.size (w.heap.size + 1) w.heap.size [] [] (Cp.run []).b (Cp.run []).z := by
  have b2 := Blk.newA (w.alloc (.map #[] 0)) #[.map (some w.heap.size), .int .i64 0, .int .i64 0, .int .i64 0, .int .i64 0, .int .i64 0, .string ⟨#[]⟩, .int .i64 0, .int .i64 0, .int .i64 0, .int .i64 0, .int .i64 0, .int .i64 0, .int .i64 0] 82
  rw [World.size_alloc] at b2
  exact ⟨b2, (MpV.new w).chg (l := []) ((Chg.refl [] _).alloc _) (by simp), FM.nil _ _, ⟨by omega, Nat.le_refl _⟩, by simp⟩
end Go.Proofs.YtdchedkhlfmpeaaDoor
/- Parts. -/
namespace Go.Proofs.YtdchedkhlfmpeaaDoor
open Go.ChangeShapes Go.WideShapes Go.ChangeAt Go.RowKit Go.Maps Go.Sort Go.Shelf
set_option linter.unusedSimpArgs false
set_option linter.unusedVariables false

set_option maxRecDepth 20000 in
set_option maxHeartbeats 16000000 in
theorem cp_parts (a : Option Addr) (len cap : Nat) (L : List Ev) (hl : L.length = len) (hlm : len ≤ 50000) (n : Nat) (hn : (Ev.ids L).length = n) (w : World) (HE : EL w a L) :
    Calls Tryd.prog 18 #[.slice a len cap] w fun q w' => ∃ (r : Option Addr) (c : Nat) (P : List (Int × PV)), q = .returned (.slice r n c) ∧ RM w' w.heap.size r n c 3 (Cp.pcs P) 52 ∧ P.map (·.1) = Ev.ids L ∧ (∀ p ∈ P, (p.1, p.2.T, p.2.R) ∈ (Cp.run L).S ∧ EL w' p.2.re p.2.T ∧ p.2.T.length ≤ p.2.ce ∧ RI w' p.2.rr p.2.R) ∧ Below w.heap.size w w' := by
  have HL := Lib.hid (And.intro hl (And.intro HE hn))
  obtain ⟨N, hN⟩ : ∃ N, w.heap.size = N := ⟨_, rfl⟩
  have hmk : (Instr.makeMap 80 none).run Tryd.prog w = .ok (.map (some w.heap.size)) (w.alloc (.map #[] 0)) := run_makeMap_plain w _
  have H0 : Hid (SPS ((w.alloc (.map #[] 0)).alloc (.cells #[.map (some N), .int .i64 0, .int .i64 0, .int .i64 0, .int .i64 0, .int .i64 0, .string ⟨#[]⟩, .int .i64 0, .int .i64 0, .int .i64 0, .int .i64 0, .int .i64 0, .int .i64 0, .int .i64 0] 82)) N (N + 1) N [] [] (Cp.run []).b (Cp.run []).z ∧ Below N w ((w.alloc (.map #[] 0)).alloc (.cells #[.map (some N), .int .i64 0, .int .i64 0, .int .i64 0, .int .i64 0, .int .i64 0, .string ⟨#[]⟩, .int .i64 0, .int .i64 0, .int .i64 0, .int .i64 0, .int .i64 0, .int .i64 0, .int .i64 0] 82))) := Lib.hid (by
    have h := SPS.zero w
    rw [hN] at h
    exact ⟨h, by rw [← hN]; exact ((Below.refl _ _).alloc (Nat.le_refl _) _).alloc (by simp) _⟩)
  clear hl HE hn
  go_enter Tryd.func18, Tryd.ntmps18
  go_upto_region 2 with fail
  revert H0
  generalize ((w.alloc (.map #[] 0)).alloc (.cells #[.map (some N), .int .i64 0, .int .i64 0, .int .i64 0, .int .i64 0, .int .i64 0, .string ⟨#[]⟩, .int .i64 0, .int .i64 0, .int .i64 0, .int .i64 0, .int .i64 0, .int .i64 0, .int .i64 0] 82)) = W1
  intro H0
  clear hmk
  go_wp2_with fail
  go_loopw [5, 14] (fun _ z wr => ∃ (j : Nat) (K : List (Int × Nat)) (V : List PV), z = .int .i64 j ∧ j ≤ len ∧ Hid (SPS wr N (N + 1) N K V (Cp.run (L.take j)).b (Cp.run (L.take j)).z ∧ Cp.con K V = (Cp.run (L.take j)).S ∧ Below N w wr)) (fun _ z _ => len - (intOf z).toNat)
  case atStart => exact ⟨0, [], [], rfl, by omega, Lib.hid ⟨by rw [List.take_zero]; exact H0.out.1, by rw [List.take_zero]; rfl, H0.out.2⟩⟩
  case round =>
    clear H0
    obtain ⟨j, K, V, rfl, hj, HB⟩ := hrel
    have j0 : (0 : Int) ≤ (j : Int) := by omega
    by_cases hjl : j < len
    · have i1 : (j : Int) < (len : Int) := by omega
      have w1 : IntKind.i64.wrap ((j : Int) + 1) = (j : Int) + 1 := IntWalk.i64_in _ (by omega)
      obtain ⟨k, i, n, t, b, e, s0, s1, s2, s3, s4, s5, es⟩ : ∃ k i n t b e s0 s1 s2 s3 s4 s5, L[j]? = some ⟨k, i, n, t, b, e, s0, s1, s2, s3, s4, s5⟩ := ⟨_, _, _, _, _, _, _, _, _, _, _, _, List.getElem?_eq_getElem (by rw [HL.out.1]; exact hjl)⟩
      obtain ⟨hb, ga, o, rfl, hgw, e0, e1, e2, e3, e4, e5, e6, e7, e8, e9, e10, e11⟩ := (HL.out.2.1.below (by rw [hN]; exact HB.out.2.2)).get es
      obtain ⟨st, hst⟩ : ∃ st, Cp.run (L.take j) = st := ⟨_, rfl⟩
      obtain ⟨st2, hst2⟩ : ∃ st2, Cp.run (L.take (j + 1)) = st2 := ⟨_, rfl⟩
      have HT : Hid (Cp.one st ⟨k, i, n, t, b, e, s0, s1, s2, s3, s4, s5⟩ = st2 ∧ st.b ≤ 100000 ∧ (∀ v ∈ V, v.T.length ≤ 90000 ∧ v.R.length ≤ 90000)) := Lib.hid ⟨by rw [← hst, ← hst2, take_snocE es, Cp.run_snoc], by
        have h5 := (Cp.inv_run (L.take j)).2.2.2.2.1
        rw [hst, List.length_take] at h5
        omega, by
        have h5 := Cp.lens HB.out.1.f.1 HB.out.2.1
        intro v hv
        have h6 := h5 v hv
        rw [List.length_take] at h6
        omega⟩
      rw [hst] at HB
      have HX : Hid (SPS (wr.alloc (.cells #[.int .i64 k, .int .i64 i, .int .i64 n, .int .i64 t, .string b, .int .i64 e, .int .i64 s0, .int .i64 s1, .int .i64 s2, .int .i64 s3, .int .i64 s4, .int .i64 s5] 46)) N (N + 1) N K V st.b st.z ∧ Blk (wr.alloc (.cells #[.int .i64 k, .int .i64 i, .int .i64 n, .int .i64 t, .string b, .int .i64 e, .int .i64 s0, .int .i64 s1, .int .i64 s2, .int .i64 s3, .int .i64 s4, .int .i64 s5] 46)) wr.heap.size [.int .i64 k, .int .i64 i, .int .i64 n, .int .i64 t, .string b, .int .i64 e, .int .i64 s0, .int .i64 s1, .int .i64 s2, .int .i64 s3, .int .i64 s4, .int .i64 s5] 46 ∧ Cp.con K V = st.S ∧ Below N w (wr.alloc (.cells #[.int .i64 k, .int .i64 i, .int .i64 n, .int .i64 t, .string b, .int .i64 e, .int .i64 s0, .int .i64 s1, .int .i64 s2, .int .i64 s3, .int .i64 s4, .int .i64 s5] 46)) ∧ N ≤ (wr.alloc (.cells #[.int .i64 k, .int .i64 i, .int .i64 n, .int .i64 t, .string b, .int .i64 e, .int .i64 s0, .int .i64 s1, .int .i64 s2, .int .i64 s3, .int .i64 s4, .int .i64 s5] 46)).heap.size) := Lib.hid ⟨HB.out.1.same ((Chg.refl [] _).alloc _), Blk.newA _ _ _, HB.out.2.1, HB.out.2.2.alloc (by have := HB.out.2.2.size; omega) _, by have := HB.out.2.2.size; rw [World.size_alloc]; omega⟩
      have HS2 := Lib.hid hst2
      clear es hb hst hst2
      go_upto_region 5 with fail
      clear e0 e1 e2 e3 e4 e5 e6 e7 e8 e9 e10 e11 hgw HB
      revert HX
      generalize (wr.alloc (.cells #[.int .i64 k, .int .i64 i, .int .i64 n, .int .i64 t, .string b, .int .i64 e, .int .i64 s0, .int .i64 s1, .int .i64 s2, .int .i64 s3, .int .i64 s4, .int .i64 s5] 46)) = W2
      generalize wr.heap.size = X
      intro HX
      have d0 := HX.out.2.1.cell (i := 0) rfl
      have d1 := HX.out.2.1.cell (i := 1) rfl
      have d2 := HX.out.2.1.cell (i := 2) rfl
      have d3 := HX.out.2.1.cell (i := 3) rfl
      have d4 := HX.out.2.1.cell (i := 4) rfl
      have d5 := HX.out.2.1.cell (i := 5) rfl
      have d6 := HX.out.2.1.cell (i := 6) rfl
      have d7 := HX.out.2.1.cell (i := 7) rfl
      have d8 := HX.out.2.1.cell (i := 8) rfl
      have d9 := HX.out.2.1.cell (i := 9) rfl
      have d10 := HX.out.2.1.cell (i := 10) rfl
      have d11 := HX.out.2.1.cell (i := 11) rfl
      go_wp2_with (go_at_call 32; (refine (cp_sadd k i n t b e s0 s1 s2 s3 s4 s5 N (N + 1) N K V st st2 HX.out.2.2.1 HT.out.1 HT.out.2.1 _ HX.out.2.2.2.2 HX.out.1 HT.out.2.2).mono ?_); rintro r8 v8 ⟨rfl, K2, V2, q1, q2, q3⟩; have H8 := Lib.hid (And.intro q1 (And.intro q2 (HX.out.2.2.2.1.trans q3))); clear q1 q2 q3)
      go_roundw
      case rel => exact ⟨j + 1, K2, V2, by go_num, by omega, Lib.hid (by rw [HS2.out]; exact H8.out)⟩
      case measure => simp [intOf]; omega
    · obtain rfl : j = len := by omega
      have i1 : ¬ (j : Int) < (j : Int) := by omega
      have HK : Hid (SPS wr N (N + 1) N K V (Cp.run L).b (Cp.run L).z ∧ Cp.con K V = (Cp.run L).S ∧ Below N w wr ∧ N ≤ wr.heap.size) := Lib.hid (by
        have h := HB.out
        rw [List.take_of_length_le (by rw [HL.out.1]; exact Nat.le_refl _)] at h
        exact ⟨h.1, h.2.1, h.2.2, by have := h.2.2.size; omega⟩)
      clear HB
      go_upto_region 8 with fail
      have hmm := HK.out.1.m
      have hnd := HK.out.1.nd
      have hfl := HK.out.1.f.1
      have hid := Cp.ids_of hfl HK.out.2.1
      obtain ⟨D, hown, hperm, hsize⟩ := owns_ofV hmm hnd (Cp.wf_of hfl HK.out.2.1 HL.out.2.1.ok) (by have := hid.2; rw [HL.out.1] at this; omega)
      have hKl : K.length ≤ 50000 := by have := hid.2; rw [HL.out.1] at this; omega
      have hbl := hown.lt
      obtain ⟨P, hP1, hP2⟩ := Cp.pick hfl (Ev.ids L) (fun i hi => (hid.1 i).2 hi)
      have hseq : SeqGives Fence.wide 2 Tryd.prog 55 #[.pointer (some ⟨wr.heap.size, 0, none⟩)] encZ (fun ss => ss.Perm (intKeys D)) (Maps.size D) (wr.alloc (.cells #[.map (some N)] 80)) :=
        AnyZI.keys_gives (ρ := Tryd.keysA_ren) { Tryd.keysA with } Fence.wide _ trivial rfl (by omega) wr.heap.size N K.length D _ (by simp) (by simp) (by
          obtain ⟨es, clock, hb, Ft, hs, hD⟩ := hown
          exact ⟨es, clock, (Below.heap_alloc _ _ N hbl).trans hb, Ft, hs, hD⟩)
      have cK : ∀ mb W, Calls Tryd.prog 34 #[.map mb] W fun e w' => e = .returned (.func (.func 55) #[] #[.pointer (some ⟨W.heap.size, 0, none⟩)]) ∧ w' = W.alloc (.cells #[.map mb] 80) := fun mb W => callsIn_wide.1 (AnyZI.keys_in Tryd.keysA Fence.wide 5 trivial rfl mb W)
      have cS := callsIn_wide.1 (AnyZI.sorted_in Tryd.sortedA Fence.wide 5 trivial trivial trivial trivial rfl (by omega) (sorts_any _) (enters_of Tryd.func54 (by kernel_rfl) rfl) 55 #[.pointer (some ⟨wr.heap.size, 0, none⟩)] trivial (enters_of Tryd.func55 (by kernel_rfl) rfl) _ _ (by rw [hsize]; unfold maxLen; omega) (by rw [hsize]; omega) _ hseq)
      change Calls Tryd.prog 33 _ _ _ at cS
      have HP : Hid (∀ (ss : List Int) (v : Value) (W : World) (B0 : Nat), ss.Perm (intKeys D) → W.ownsRow B0 3 1 v ss.length ((ss.mergeSort (fun x y => decide (x ≤ y))).map encZ) → ∃ r c, v = .slice r n c ∧ RI W r (Ev.ids L)) := Lib.hid (fun ss v W B0 hp ho => by
        have hp2 := hp.trans hperm
        rw [sorted_nd (Ev.ids_srt L).1 (hp2.nodup_iff.2 hnd) (fun x => by rw [hp2.mem_iff]; exact hid.1 x)] at ho
        obtain ⟨r, c, e, hri, hln⟩ := ri_owns ho
        have : ss.length = n := by rw [← hln]; exact HL.out.2.2
        rw [this] at e
        exact ⟨r, c, e, hri⟩)
      have HPP := Lib.hid (And.intro hP1 hP2)
      have HKK := Lib.hid cK
      have HSS := Lib.hid cS
      have c0 := HK.out.1.o.cell (i := 0) rfl
      clear hseq cK cS hperm hown hsize hid hP1 hP2 hmm hnd hfl hbl
      go_wp2_with (first
        | (go_at_call 34; refine (HKK.out _ _).mono ?_; rintro e w' ⟨rfl, rfl⟩)
        | (go_at_call 33; refine HSS.out.mono ?_; rintro e w8 ⟨v, ss, rfl, hS, hrow, hnil, hb⟩; obtain ⟨rv, cv, rfl, hri⟩ := HP.out ss v w8 _ hS hrow; have H8 := Lib.hid (And.intro hri (show Below wr.heap.size wr w8 from ((Below.refl _ wr).alloc (Nat.le_refl _) _).trans (hb.mono (by simp)))); clear hS hrow hnil hb hri))
      have HW : Hid (SPS w8 N (N + 1) N K V (Cp.run L).b (Cp.run L).z ∧ Cp.con K V = (Cp.run L).S ∧ Below N w w8 ∧ RI w8 rv (Ev.ids L) ∧ N ≤ w8.heap.size) := Lib.hid ⟨HK.out.1.below H8.out.2, HK.out.2.1, HK.out.2.2.1.trans (H8.out.2.mono HK.out.2.2.2), H8.out.1, Nat.le_trans HK.out.2.2.2 H8.out.2.size⟩
      have hnn : n ≤ 50000 := by
        have h1 := (Cp.ids_of HW.out.1.f.1 HW.out.2.1).2
        have h2 : (Ev.ids L).length = n := HL.out.2.2
        have h3 : (Ev.ids L).length ≤ L.length := by
          have hsub := (Cp.ids_of HW.out.1.f.1 HW.out.2.1).1
          have : ((Ev.ids L)).length = (K.map (·.1)).length := by
            rw [← sorted_nd (Ev.ids_srt L).1 HW.out.1.nd hsub, List.length_mergeSort]
          rw [this, List.length_map]
          exact h1
        rw [HL.out.1] at h3
        omega
      have hPl : P.length = n := by rw [← HL.out.2.2, ← HPP.out.1, List.length_map]
      have HPL := Lib.hid hPl
      obtain ⟨B2, hB2⟩ : ∃ B2, w8.heap.size = B2 := ⟨_, rfl⟩
      clear H8 HK hPl
      go_loopw [6, 8, 29] (fun o _ z wx => ∃ (j2 c : Nat) (r : Option Addr), o = .slice r j2 c ∧ z = .int .i64 j2 ∧ j2 ≤ n ∧ Hid (RM wx B2 r j2 c 3 (Cp.pcs (P.take j2)) 52 ∧ Below B2 w8 wx)) (fun _ _ z _ => n - (intOf z).toNat)
      case atStart => exact ⟨0, 0, none, rfl, rfl, by omega, Lib.hid ⟨by rw [List.take_zero]; exact RM.nil _ _ _ _ (by omega), Below.refl _ _⟩⟩
      case round =>
        obtain ⟨j2, c, r, rfl, rfl, hj2, HB⟩ := hrel
        have j20 : (0 : Int) ≤ (j2 : Int) := by omega
        by_cases hjn : j2 < n
        · have i2 : (j2 : Int) < (n : Int) := by omega
          have w2 : IntKind.i64.wrap ((j2 : Int) + 1) = (j2 : Int) + 1 := IntWalk.i64_in _ (by omega)
          obtain ⟨p, hp⟩ : ∃ p, P[j2]? = some p := ⟨_, List.getElem?_eq_getElem (by rw [HPL.out]; exact hjn)⟩
          obtain ⟨ix, v⟩ := p
          obtain ⟨q, kp, hq1, hq2⟩ := HPP.out.2 _ (List.mem_of_getElem? hp)
          dsimp only at hq1 hq2
          have hdi : (Ev.ids L)[j2]? = some ix := by rw [← HPP.out.1, List.getElem?_map, hp]; rfl
          have HSW := HW.out.1.below (by rw [hB2]; exact HB.out.2)
          obtain ⟨gi, oi, rfl, hgi, hci⟩ := (HW.out.2.2.2.1.below (by rw [hB2]; exact HB.out.2)) j2 ix hdi
          obtain ⟨re, ce, T, rr, cr, R⟩ := v
          obtain ⟨m1, hm1⟩ : ∃ m, T.length = m := ⟨_, rfl⟩
          obtain ⟨m2, hm2⟩ : ∃ m, R.length = m := ⟨_, rfl⟩
          have hpb := (HSW.f.2.1 q _ _ hq1 hq2).1
          have p0 := hpb.cell (i := 0) rfl
          have p1 := hpb.cell (i := 1) rfl
          have p2 := hpb.cell (i := 2) rfl
          dsimp only at p0 p1 p2
          rw [hm1] at p1
          rw [hm2] at p2
          have c0 := HSW.o.cell (i := 0) rfl
          have hl := run_lookV (P := Tryd.prog) Tryd.underlying80 Tryd.underlying3 zeroPP HSW.m ix
          rw [Cp.ens_hit HSW.nd hq1] at hl
          obtain ⟨O, hO⟩ : ∃ O, Cp.pcs (P.take j2) = O := ⟨_, rfl⟩
          have HS : Hid (Cp.pcs (P.take (j2 + 1)) = O ++ [.int .i64 ix, .slice re m1 ce, .slice rr m2 cr]) := Lib.hid (by
            rw [take_snocE hp, Cp.pcs_snoc, hO, ← hm1, ← hm2]; rfl)
          rw [hO] at HB
          clear hpb hm1 hm2 hO hp hq1 hq2 hdi HSW hgi
          go_wp2_with (at_builtin; refine wpList_append_rm _ rfl (.tmp 33) (.tmp 42) 48 48 rfl 52 (.agg #[.int .i64 0, .slice none 0 0, .slice none 0 0]) 3 56 Tryd.underlying48 infoPt rfl B2 r j2 c O rfl (HB.out.1.chg (l := []) ((Chg.refl [] _).alloc _) (by simp)) _ rfl 1 (by omega) [.int .i64 ix, .slice re m1 ce, .slice rr m2 cr] (Src.ofSlice _ Tryd.underlying48 ⟨_, 0, none⟩ 1 1 [.int .i64 ix, .slice re m1 ce, .slice rr m2 cr] rfl (new_atE _ _ _) (by intro v hv; simp at hv; rcases hv with rfl | rfl | rfl <;> rfl)) (by omega) (by omega) ?_; intro g4 c4 w4 r1 r2 r3; have HN : Hid (RM w4 B2 (some ⟨g4, 0, none⟩) (j2 + 1) c4 3 (Cp.pcs (P.take (j2 + 1))) 52 ∧ Below B2 w8 w4) := Lib.hid ⟨by rw [HS.out]; exact r1, r3.onto (HB.out.2.alloc (by have := HB.out.2.size; omega) _) (by have := HB.out.2.size; rw [World.size_alloc]; omega) (fun y hy => (HB.out.1.lt y hy).1)⟩; clear r1 r2 r3)
          go_roundw
          case rel => exact ⟨j2 + 1, c4, _, rfl, by go_num, by omega, HN⟩
          case measure => simp [intOf]; omega
        · obtain rfl : j2 = n := by omega
          have i2 : ¬ (j2 : Int) < (j2 : Int) := by omega
          have HF : Hid (RM wr B2 r j2 c 3 (Cp.pcs P) 52 ∧ Below B2 w8 wr) := Lib.hid (by
            have h := HB.out
            rw [List.take_of_length_le (by rw [HPL.out]; exact Nat.le_refl _)] at h
            exact h)
          clear HB
          go_wp2_with fail
          go_ret
          have hfin : (∀ p ∈ P, (p.1, p.2.T, p.2.R) ∈ (Cp.run L).S ∧ EL wr p.2.re p.2.T ∧ p.2.T.length ≤ p.2.ce ∧ RI wr p.2.rr p.2.R) := by
            intro p hp
            obtain ⟨q, kp, hq1, hq2⟩ := HPP.out.2 p hp
            have hcon := Cp.con_at hq1 hq2
            rw [HW.out.2.1] at hcon
            have hmem := List.mem_of_getElem? hcon
            have HSW := HW.out.1.below (by rw [hB2]; exact HF.out.2)
            have hpo := HSW.f.2.1 q _ _ hq1 hq2
            have hok : ∀ x ∈ p.2.T, x.ok := fun x hx => HL.out.2.1.ok x (((Cp.inv_run L).2.2.2.2.2 _ hmem).2.2.2 x hx)
            have hel := EL.of_rm hpo.2.1 hok
            exact ⟨hmem, hel.1, hel.2, RI.of_rm hpo.2.2.1 rfl⟩
          have hbel : Below N w wr := HW.out.2.2.1.trans (HF.out.2.mono (by have := HW.out.2.2.2.2; omega))
          have hN2 : N ≤ B2 := by have := HW.out.2.2.2.2; omega
          exact ⟨r, c, rfl, P, HF.out.1.base_le hN2, HPP.out.1, fun a b hab => hfin (a, b) hab, hbel⟩
end Go.Proofs.YtdchedkhlfmpeaaDoor
