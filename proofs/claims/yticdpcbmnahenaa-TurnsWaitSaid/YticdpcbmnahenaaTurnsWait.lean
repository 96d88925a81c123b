/- P27.4: for every acts, quantum and price: whoever stays ready pays any price within as many turns as there are others, and quanta that it takes, whatever the others do. No condition. -/
import Derived.Test.YticdpcbmnahenaaOpen
import Derived.WalkKit
import Derived.ProofKit
import Derived.OpenShut
import Derived.Test.YticdpcbmnahenaaTurns2
import Derived.Deep.CutBlock
namespace Go.Proofs.Yticdpcbmnahenaa.turnsWait
open Go.Joins Go.ChangeShapes Go.WideShapes Go.ChangeAt Go.RowKit Go.Deep
open Go.ChangeMaps (open_string)
set_option linter.unusedSimpArgs false
set_option linter.unusedVariables false

/-- How far number 2 is: behind m turns of his, i turns in all. -/
def WI (q : Int) (K m i : Nat) (L : List Nat) (V : List Int) : Prop := 2 ∈ L ∧ pHas V 2 = (m : Int) * q ∧ i + L.idxOf 2 ≤ 5 * m + 4 ∧ m < K
theorem WI.other {q : Int} {K m i x : Nat} {L Ls l : List Nat} {V V' : List Int} (h : WI q K m i L V) (hL : L = x :: Ls) (hx : x ≠ 2) (hV : pHas V' 2 = pHas V 2) : WI q K m (i + 1) (Ls ++ l) V' := by
  subst hL
  obtain ⟨h1, h2, h3, h4⟩ := h
  have hm : 2 ∈ Ls := by
    rcases List.mem_cons.1 h1 with e | e
    · exact absurd e.symm hx
    · exact e
  refine ⟨List.mem_append_left _ hm, by rw [hV]; exact h2, ?_, h4⟩
  rw [List.idxOf_append, if_pos hm]
  have e : (x == 2) = false := by simpa using hx
  rw [List.idxOf_cons, e] at h3
  simp only [cond_false] at h3
  omega
theorem WI.mine {q : Int} {K m i : Nat} {L Ls : List Nat} {V V' : List Int} (h : WI q K m i L V) (hL : L = 2 :: Ls) (hn : ¬ 2 ∈ Ls) (hl : Ls.length ≤ 4) (hV : pHas V' 2 = pHas V 2 + q) (hK : m + 1 < K) : WI q K (m + 1) (i + 1) (Ls ++ [2]) V' := by
  subst hL
  obtain ⟨h1, h2, h3, h4⟩ := h
  refine ⟨by simp, ?_, ?_, hK⟩
  · rw [hV, h2, Int.natCast_add, Int.add_mul]; simp
  · rw [List.idxOf_append, if_neg hn]
    rw [List.idxOf_cons] at h3
    simp at h3
    have e2 : [2].idxOf 2 = 0 := by decide
    omega
theorem ceil_ge (p : Nat) (q : Int) (kk : Nat) (hq : 1 ≤ q) (h : ((p : Int) + q - 1) / q = (kk : Int)) : (p : Int) ≤ (kk : Int) * q := by
  have := Int.lt_ediv_add_one_mul_self ((p : Int) + q - 1) (show 0 < q by omega)
  rw [h, Int.add_mul, Int.one_mul] at this
  omega
theorem turns_less (p K m : Nat) (q : Int) (hq : 1 ≤ q) (hK : (p : Int) ≤ (K : Int) * q) (h : (m : Int) * q + q < (p : Int)) : m + 1 < K := by
  by_cases hh : m + 1 < K
  · exact hh
  · have h2 : (K : Int) * q ≤ ((m + 1 : Nat) : Int) * q := Int.mul_le_mul_of_nonneg_right (by omega) (by omega)
    have h3 : ((m + 1 : Nat) : Int) * q = (m : Int) * q + q := by rw [Int.natCast_add, Int.add_mul]; simp
    omega
theorem mq_bd (m : Nat) (q : Int) (hm : m ≤ 70) (hq : 1 ≤ q ∧ q ≤ 9) : 0 ≤ (m : Int) * q ∧ (m : Int) * q ≤ 630 := by
  have h1 : 0 ≤ (m : Int) * q := Int.mul_nonneg (by omega) (by omega)
  have h2 : (m : Int) * q ≤ 70 * 9 := Int.mul_le_mul (by omega) (by omega) (by omega) (by omega)
  omega
theorem end_list (ag : Bool) (Ls : List Nat) (x : Nat) : ∃ l, (if ag = true then Ls ++ [x] else Ls) = Ls ++ l := by
  cases ag
  · exact ⟨[], by simp⟩
  · exact ⟨[x], by simp⟩
theorem end_val (ag : Bool) (V : List Int) (x : Nat) (hx : x ≠ 2) : pHas (if ag = true then V else pSet V (x : Int) 0) 2 = pHas V 2 := by
  have hx2 : (x : Int) ≠ 2 := by omega
  cases ag
  · rw [if_neg (by decide)]; exact pHas_set_other hx2
  · rfl
/-- What he has who is given something. -/
theorem given_has {V : List Int} {q v : Int} (hl : V.length = 5) (hv : pHas V ((2 : Nat) : Int) = v) (hb : v + q ≤ 2000000000) : pHas (pSet V ((2 : Nat) : Int) (min (pHas V ((2 : Nat) : Int) + q) 2000000000)) ((2 : Nat) : Int) = v + q := by
  rw [pHas_set_same (by omega), hv]
  omega
theorem can_iff {V : List Int} {p v : Int} (hl : V.length = 5) (hv : pHas V ((2 : Nat) : Int) = v) (hp : 0 ≤ p) : pCan V ((2 : Nat) : Int) p = decide (p ≤ v) := by
  unfold pCan
  rw [hv]
  by_cases h : p ≤ v
  · rw [decide_eq_true h, decide_eq_true_eq]; omega
  · rw [decide_eq_false h, decide_eq_false_iff_not]; omega
set_option maxRecDepth 20000 in
set_option maxHeartbeats 8000000 in

theorem walk (a0 : Option Addr) (len0 cap0 : Nat) (a1 : Int) (a2 : Int) (w : World) (w0 : IsRecs .i64 3 w a0 len0 cap0) (w1 : (Lit.int .u8 a1).wf = true) (w2 : (Lit.int .u8 a2).wf = true) :
    Calls Try.prog 4 #[.slice a0 len0 cap0, .int .u8 a1, .int .u8 a2] w fun e w' => e = .returned (.bool true) ∧ Below w.heap.size w w' := by
  obtain ⟨hlc, hcm, hnil, hcell⟩ := w0
  unfold maxLen at hcm
  have HCELL := Lib.hid hcell
  clear hcell hnil
  have b1 : 0 ≤ a1 ∧ a1 ≤ 255 := bounds_u8 w1
  have b2 : 0 ≤ a2 ∧ a2 ≤ 255 := bounds_u8 w2
  obtain ⟨qm, hqm, hq8⟩ : ∃ qm : Nat, a1 % 9 = (qm : Int) ∧ qm ≤ 8 := ⟨(a1 % 9).toNat, by omega, by omega⟩
  obtain ⟨p, hp, hp60⟩ : ∃ p : Nat, a2 % 60 = (p : Int) ∧ p < 60 := ⟨(a2 % 60).toNat, by omega, by omega⟩
  obtain ⟨q, hq⟩ : ∃ q : Int, 1 + (qm : Int) = q := ⟨_, rfl⟩
  have q1 : 1 ≤ q ∧ q ≤ 9 := by omega
  go_enter Try.func4, Try.ntmps4
  go_wp2_with (go_at_call 7; refine (t_new 5 5 q q _ (by decide) (by omega)).mono ?_; rintro e w1 ⟨t, b, R, I, pp, h, rfl, k⟩; have H1 : Hid (TS w w1 t b R I pp h 5 q false 0 0 [] [0, 0, 0, 0, 0]) := Lib.hid k; clear k)
  go_loopw [12] (fun i wr => ∃ k : Nat, i = .int .i64 k ∧ k ≤ 5 ∧ Hid (TS w wr t b R I pp h 5 q false 0 0 (List.range k) [0, 0, 0, 0, 0])) (fun i _ => 6 - (intOf i).toNat)
  case atStart => exact ⟨0, rfl, by omega, H1⟩
  case round =>
    clear H1
    obtain ⟨k, rfl, hk, HS⟩ := hrel
    by_cases h5 : k < 5
    · have HN : Hid (tW false 0 (List.range k) (k : Int) = false) := Lib.hid (by unfold tW; rw [isIn_nat]; simp)
      go_wp2_with (go_at_call 10; refine (t_wake_yes t b R I pp h 5 q false 0 0 (List.range k) [0, 0, 0, 0, 0] _ k h5 HS.out.1 HN.out).mono ?_; rintro e w2 ⟨rfl, k1, k2⟩; have HS2 : Hid (TS w w2 t b R I pp h 5 q false 0 0 (List.range (k + 1)) [0, 0, 0, 0, 0]) := Lib.hid (HS.out.to (by rw [List.range_succ]; exact k1) k2 (by simp)); clear k1 k2 HS)
      go_roundw
      case rel => exact ⟨k + 1, by go_num, by omega, HS2⟩
      case measure => simp [intOf]; omega
    · obtain rfl : k = 5 := by omega
      obtain ⟨kk, hkk⟩ : ∃ kk : Nat, ((p : Int) + q - 1) / q = (kk : Int) := ⟨(((p : Int) + q - 1) / q).toNat, by rw [Int.toNat_of_nonneg (Int.ediv_nonneg (by omega) (by omega))]⟩
      have hkt : Int.tdiv ((p : Int) + q - 1) q = (kk : Int) := by rw [Int.tdiv_eq_ediv_of_nonneg (by omega)]; exact hkk
      have hq0 : ¬ q = 0 := by omega
      have hkk69 : kk ≤ 68 := by
        have := Int.ediv_le_self q (show 0 ≤ (p : Int) + q - 1 by omega)
        omega
      have hKx : ∃ K : Nat, ((kk = 0 ∧ K = 1) ∨ (kk ≠ 0 ∧ K = kk)) ∧ (p : Int) ≤ (K : Int) * q ∧ 1 ≤ K ∧ K ≤ 68 := by
        have hc := ceil_ge p q kk q1.1 hkk
        by_cases hz : kk = 0
        · subst hz
          exact ⟨1, Or.inl ⟨rfl, rfl⟩, by simp at hc; omega, by omega, by omega⟩
        · exact ⟨kk, Or.inr ⟨hz, rfl⟩, hc, by omega, by omega⟩
      obtain ⟨K, hK0, hKp, hK1⟩ := hKx
      have HKP := Lib.hid hKp
      clear hKp
      have HS5 : Hid (TS w wr t b R I pp h 5 q false 0 0 [0, 1, 2, 3, 4] [0, 0, 0, 0, 0]) := HS
      clear HS
      go_upto_if 43 with fail
      go_cut [13] from 42 to 43 (fun v wx => v = .int .i64 K ∧ Hid (TS w wx t b R I pp h 5 q false 0 0 [0, 1, 2, 3, 4] [0, 0, 0, 0, 0]))
      case first =>
        rcases hK0 with ⟨e1, e2⟩ | ⟨e1, e2⟩
        · subst e1 e2
          go_wp2
          go_meet
          exact ⟨rfl, HS5⟩
        · subst e2
          have e3 : ((K : Int) == 0) = false := by simp; omega
          go_wp2
          go_meet
          exact ⟨rfl, HS5⟩
      case rest =>
        clear hK0 HS5 hkk hkt hkk69
        obtain ⟨rfl, HS6⟩ := hcut
        have s5 : IntKind.i64.wrap (5 * (K : Int)) = 5 * (K : Int) := IntWalk.i64_in _ (by omega)
        go_wp2_with fail
        go_loopw [14] (fun i wr => ∃ (m k dn who : Nat) (L : List Nat) (V : List Int), i = .int .i64 k ∧ k ≤ 344 ∧ dn ≤ k ∧ Hid (TS w wr t b R I pp h 5 q false who dn L V) ∧ Hid (WI q K m k L V)) (fun i _ => 400 - (intOf i).toNat)
        case atStart => exact ⟨0, 0, 0, 0, _, _, rfl, by omega, by omega, HS6, Lib.hid ⟨by decide, by rw [show pHas [0, 0, 0, 0, 0] 2 = 0 by decide]; simp, by decide, by omega⟩⟩
        case round =>
          clear HS6
          obtain ⟨m, k, dn, who, L, V, rfl, hk, hdn, HS, HW⟩ := hrel
          have hkK : k < 5 * K := by have := HW.out.2.2; omega
          have hkK2 : (k : Int) < 5 * (K : Int) := by omega
          obtain ⟨x, Ls, hL⟩ : ∃ x Ls, L = x :: Ls := by
            cases L with
            | nil => exact absurd HW.out.1 (by simp)
            | cons x Ls => exact ⟨x, Ls, rfl⟩
          subst hL
          have hb := mq_bd m q (by have := HW.out.2.2.2; omega) q1
          have hVl : V.length = 5 := HS.out.1.2.2.2.2.2.2.1
          have HV := Lib.hid (show pHas V ((2 : Nat) : Int) = (m : Int) * q from HW.out.2.1)
          have HVL := Lib.hid hVl
          clear hVl
          obtain ⟨V1, hV1⟩ : ∃ V1, pSet V (x : Int) (min (pHas V (x : Int) + q) 2000000000) = V1 := ⟨_, rfl⟩
          have HV1 := Lib.hid hV1
          have HV1L : Hid (V1.length = 5) := Lib.hid (by rw [← hV1, pSet_length]; exact HVL.out)
          clear hV1
          go_wp2_with fail
          refine (t_begin_some t b R I pp h 5 q who dn V _ x Ls (by omega) HS.out.1).mono ?_
          rintro e w2 ⟨rfl, k1, k2⟩
          rw [HV1.out] at k1
          have HS2 := Lib.hid (HS.out.to k1 k2 (by simp))
          clear k1 k2 HS
          by_cases hx : x = 2
          · subst hx
            have hm1 : pHas V1 ((2 : Nat) : Int) = (m : Int) * q + q := by rw [← HV1.out]; exact given_has HVL.out HV.out (by omega)
            have HC := Lib.hid (can_iff (p := (p : Int)) HV1L.out hm1 (by omega))
            have HM1 := Lib.hid hm1
            clear hm1
            by_cases hpq : (p : Int) ≤ (m : Int) * q + q
            · have HC2 : Hid (pCan V1 ((2 : Nat) : Int) (p : Int) = true) := Lib.hid (by rw [HC.out]; simpa using hpq)
              go_wp2_with (first
                | (go_at_call 14; refine (t_pay_on t b R I pp h 5 q 2 (dn + 1) Ls V1 _ (p : Int) HS2.out.1).mono ?_; rintro e w3 ⟨rfl, k1, k2⟩; rw [HC2.out]; have HS3 := Lib.hid (HS2.out.to k1 k2 (by simp)); clear k1 k2)
                | (go_at_call 20; refine (lives_any _).mono ?_; rintro e w4 ⟨rfl, hb9⟩))
              go_ret
              exact ⟨rfl, (HS3.out.fresh hb9).2.1⟩
            · have HC2 : Hid (pCan V1 ((2 : Nat) : Int) (p : Int) = false) := Lib.hid (by rw [HC.out]; simpa using hpq)
              have HP2 : Hid (pPay V1 ((2 : Nat) : Int) (p : Int) = V1) := Lib.hid (by unfold pPay; rw [HC2.out]; rfl)
              have hlt := turns_less p K m q q1.1 HKP.out (by omega)
              go_wp2_with (first
                | (go_at_call 14; refine (t_pay_on t b R I pp h 5 q 2 (dn + 1) Ls V1 _ (p : Int) HS2.out.1).mono ?_; rintro e w3 ⟨rfl, k1, k2⟩; rw [HC2.out]; rw [HP2.out] at k1; have HS3 := Lib.hid (HS2.out.to k1 k2 (by simp)); clear k1 k2)
                | (go_at_call 16; refine (t_end_again t b R I pp h 5 q 2 (dn + 1) Ls V1 _ HS3.out.1).mono ?_; rintro e w4 ⟨rfl, k1, k2⟩; have HS4 := Lib.hid (HS3.out.to k1 k2 (by simp)); clear k1 k2))
              refine ⟨?_, ?measure⟩
              case measure => simp [intOf]; omega
              · have hn := HS3.out.1.2.1 rfl
                have hlen := HS4.out.1.2.2.2.1.len
                rw [List.length_append] at hlen
                have hWI := HW.out.mine rfl hn.2 (by simp at hlen; omega) ((HM1.out.trans (congrArg (· + q) HV.out.symm))) hlt
                (repeat apply Exists.intro); exact ⟨⟨m + 1, k + 1, dn + 1, 2, Ls ++ [2], V1, by go_num, by have := hWI.2.2.1; omega, by omega, HS4, Lib.hid hWI⟩, rfl⟩
          · have hx2 : ((x : Int) == 2) = false := by simp; omega
            have HO : Hid (pHas V1 2 = pHas V 2) := Lib.hid (by rw [← HV1.out]; exact pHas_set_other (by omega))
            by_cases hka : k < len0
            · obtain ⟨bb, off, hab, hbl, hcl⟩ := HCELL.out (by omega)
              subst hab
              obtain ⟨kd, e0, wkd⟩ := hcl k hka 0 (by omega)
              obtain ⟨id, e1, wid⟩ := hcl k hka 1 (by omega)
              obtain ⟨pr, e2, wpr⟩ := hcl k hka 2 (by omega)
              have E := Lib.hid (And.intro e0 (And.intro e1 e2))
              clear hcl e0 e1 e2
              have y0 : ∀ W : World, Below w.heap.size w W → W.cell? ⟨bb, off + k * 3, none⟩ = some (.int .i64 kd) ∧ W.cell? ⟨bb, off + k * 3 + 1, none⟩ = some (.int .i64 id) ∧ W.cell? ⟨bb, off + k * 3 + 1 + 1, none⟩ = some (.int .i64 pr) := fun W hB => by
                obtain ⟨e0, e1, e2⟩ := E.out
                refine ⟨?_, ?_, ?_⟩
                · rw [hB.cell (by simpa using hbl)]; simpa using e0
                · rw [hB.cell (by simpa using hbl), Nat.add_assoc]; exact e1
                · rw [hB.cell (by simpa using hbl), Nat.add_assoc, Nat.add_assoc]; exact e2
              have HY := Lib.hid y0
              clear y0
              have z2 := (HY.out _ HS2.out.2.1).2.2
              obtain ⟨ag, hag⟩ : ∃ ag : Bool, (kd.tmod 2 == 0) = ag := ⟨_, rfl⟩
              go_wp2_with (first
                | (go_at_call 14; refine (t_pay_ex t b R I pp h 5 q x (dn + 1) Ls V1 _ pr HS2.out.1).mono ?_; rintro e w3 ⟨mm, V2, rfl, k1, k2, k3⟩; have HS3 := Lib.hid (HS2.out.to k1 k2 (by simp)); have HO2 : Hid (pHas V2 2 = pHas V 2) := Lib.hid ((k3 2 (by omega)).trans HO.out); clear k1 k2 k3; have z0 := (HY.out _ HS3.out.2.1).1)
                | (go_at_call 16; refine (t_end_on t b R I pp h 5 q x (dn + 1) Ls V2 _ ag HS3.out.1).mono ?_; rintro e w4 ⟨rfl, k1, k2⟩; obtain ⟨l4, hl4⟩ := end_list ag Ls x; rw [hl4] at k1; have HO4 := Lib.hid ((end_val ag V2 x hx).trans HO2.out); obtain ⟨V4, hV4⟩ : ∃ V4, (if ag = true then V2 else pSet V2 (x : Int) 0) = V4 := ⟨_, rfl⟩; rw [hV4] at k1 HO4; have HS4 := Lib.hid (HS3.out.to k1 k2 (by simp)); clear k1 k2 hl4 hV4; have z1 := (HY.out _ HS4.out.2.1).2.1)
                | (go_at_call 10; refine (t_wake_any t b R I pp h 5 q false x (dn + 1) (Ls ++ l4) V4 _ id HS4.out.1).mono ?_; rintro e w5 ⟨mm5, L5, rfl, k1, k2, k3⟩; have HS5 := Lib.hid (HS4.out.to k1 k2 (by simp)); have HL5 : Hid (∃ l5, L5 = Ls ++ l5) := Lib.hid (by rcases k3 with e | ⟨y, e⟩ <;> rw [e]; exact ⟨l4, rfl⟩; exact ⟨l4 ++ [y], by rw [List.append_assoc]⟩); clear k1 k2 k3))
              all_goals
                refine ⟨?_, ?measure⟩
                case measure => simp [intOf]; omega
              · obtain ⟨l5, hl5⟩ := HL5.out
                have hWI := HW.out.other (l := l5) rfl hx HO4.out
                (repeat apply Exists.intro); exact ⟨⟨m, k + 1, dn + 1, x, L5, V4, by go_num, by have := hWI.2.2; omega, by omega, HS5, Lib.hid (by rw [hl5]; exact hWI)⟩, rfl⟩
              · have hWI := HW.out.other (l := l4) rfl hx HO4.out
                (repeat apply Exists.intro); exact ⟨⟨m, k + 1, dn + 1, x, Ls ++ l4, V4, by go_num, by have := hWI.2.2; omega, by omega, HS4, Lib.hid hWI⟩, rfl⟩
            · go_wp2_with (go_at_call 16; refine (t_end_on t b R I pp h 5 q x (dn + 1) Ls V1 _ true HS2.out.1).mono ?_; rintro e w4 ⟨rfl, k1, k2⟩; have HS4 := Lib.hid (HS2.out.to k1 k2 (by simp)); clear k1 k2)
              refine ⟨?_, ?measure⟩
              case measure => simp [intOf]; omega
              · have hWI := HW.out.other (l := [x]) rfl hx HO.out
                (repeat apply Exists.intro); exact ⟨⟨m, k + 1, dn + 1, x, Ls ++ [x], V1, by go_num, by have := hWI.2.2; omega, by omega, HS4, Lib.hid hWI⟩, rfl⟩

set_option maxRecDepth 100000 in
theorem lifted (os : Os) (started : os.Started) (H : Type) (enc : TypeId × Value → H) :
    ReturnsInHanded {} Try.checked os 4 .any (Rows.turnsWaitSpec.pre6 enc Try.prog Try.f4 Rows.turnsWaitRow.domain false) (Rows.turnsWaitSpec.post enc Try.prog Try.f4 false true false false) := by
  refine returnsInHanded_of_change (C := Try.checked) ownKn started (by kernel_rfl) Try.func4
    (ChangeSpec.witness6 (enc := enc) (C := Try.checked) false ⟨#[], #[.slice none 0 0, .int .u8 0, .int .u8 0], []⟩ 8 (by kernel_rfl) (by kernel_rfl) (by kernel_rfl) (by kernel_rfl)) ?_
  intro W base args ds gs before hval0 hW hcnd _
  have hval : ∀ (j : Nat) t v, Try.f4.params[j]? = some t → args[j]? = some v → Value.okWide Try.prog W .any base t v := hval0
  have hW' := hW
  obtain ⟨p, q, hA0, hV, rfl, hfz, hnd⟩ := hW
  have hA : DataW.TrodAll enc Try.prog W 0 (fun _ => true) true Try.f4.params.toList args.toList ds p := hA0
  rw [Try.params4] at hA hval
  obtain ⟨v0, vs0, d0, ds0, p0, q0, hargs, rfl, rfl, h0, r0⟩ := trodAll_cons hA
  obtain ⟨v1, vs1, d1, ds1, p1, q1, rfl, rfl, rfl, h1, r1⟩ := trodAll_cons r0
  obtain ⟨v2, vs2, d2, ds2, p2, q2, rfl, rfl, rfl, h2, r2⟩ := trodAll_cons r1
  obtain ⟨rfl, rfl, rfl⟩ := trodAll_nil r2
  obtain rfl : args = #[v0, v1, v2] := by cases args; simp_all
  obtain ⟨rfl, rfl⟩ := trodVars_none hV
  have k0 := h0
  have lt0 : ∀ x ∈ p0, x.block < W.heap.size := by obtain ⟨m, hm⟩ := k0; exact DataW.trod_lt m _ _ _ hm
  obtain ⟨b0, lb0, cb0, rfl⟩ := okWide_slice Try.underlying22 (hval 0 22 v0 rfl rfl)
  obtain ⟨fu0, hf0⟩ := h0
  simp only [Value.cells] at hf0
  obtain ⟨a0, len0, cap0, e0, w0⟩ := fld_recs (k := .i64) Try.underlying22 Try.underlying35 (by kernel_rfl) (by kernel_rfl) (by intro j f h; obtain rfl | rfl | rfl | hj : j = 0 ∨ j = 1 ∨ j = 2 ∨ 3 ≤ j := (by omega); all_goals (first | (simp at h; subst h; exact Try.underlying3) | (rw [Array.getElem?_eq_none (by simpa using hj)] at h; cases h))) (by decide) hf0
  obtain ⟨rfl, rfl, rfl⟩ : b0 = a0 ∧ lb0 = len0 ∧ cb0 = cap0 := by simpa using e0
  have k1 := h1
  have lt1 : ∀ x ∈ p1, x.block < W.heap.size := by obtain ⟨m, hm⟩ := k1; exact DataW.trod_lt m _ _ _ hm
  obtain ⟨a1, rfl, rfl, rfl, w1⟩ := open_int Try.underlying5 (hval 1 5 v1 rfl rfl) h1
  have k2 := h2
  have lt2 : ∀ x ∈ p2, x.block < W.heap.size := by obtain ⟨m, hm⟩ := k2; exact DataW.trod_lt m _ _ _ hm
  obtain ⟨a2, rfl, rfl, rfl, w2⟩ := open_int Try.underlying5 (hval 2 5 v2 rfl rfl) h2
  clear hA0 hval0
  refine (walk b0 lb0 cb0 a1 a2 W w0 w1 w2).mono fun e W' ⟨he, bel⟩ => ?_
  subst he
  exact ⟨_, rfl, _, _, _, [], _, [], hW', trodAll_mk1 (shut_bool Try.underlying4 _), (trodAll_cons_mk (Below.trod laidOut (by kernel_rfl) (of_decide_eq_true (by kernel_rfl)) k0 bel lt0) (trodAll_cons_mk (Below.trod laidOut (by kernel_rfl) (of_decide_eq_true (by kernel_rfl)) k1 bel lt1) (trodAll_cons_mk (Below.trod laidOut (by kernel_rfl) (of_decide_eq_true (by kernel_rfl)) k2 bel lt2) trodAll_mk0))), rfl, bel.frame _, fun h => by cases h⟩

theorem over : Rows.turnsWaitRow.holds Try.pinned (OpenSpec.ofChange Rows.turnsWaitSpec) :=
  OpenClaim.holds_of_wide 4 Try.f4 rfl rfl rfl rfl rfl rfl rfl ⟨rfl, rfl, rfl, rfl, rfl⟩ rfl rfl rfl rfl rfl (by kernel_rfl) Try.func4 (by kernel_rfl)
    (of_decide_eq_true (by kernel_rfl)) (by unfold Func.isWrapper; first | (rw [if_pos (by decide +kernel)]; kernel_rfl) | (rw [if_neg (by decide +kernel)]; exact ⟨rfl, rfl⟩))
    (fun os started H enc _ => lifted os started H enc)

/-- The statement. -/
theorem proved : Rows.TurnsWaitSaid := over
#print axioms proved
end Go.Proofs.Yticdpcbmnahenaa.turnsWait
