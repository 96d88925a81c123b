/- P5.3: for every list of ticks and every tick: behind Due just those are gone that have come. No condition. -/
import Derived.Test.YtbdjcppkfihonaaOpen
import Derived.WalkKit
import Derived.ProofKit
import Derived.OpenShut
import Derived.Test.YtbdjcppkfihonaaHe19
namespace Go.Proofs.Ytbdjcppkfihonaa.heapDues
open Go.Joins Go.ChangeShapes Go.WideShapes Go.ChangeAt Go.RowKit Go.Deep
open Go.ChangeMaps (open_string)
set_option linter.unusedSimpArgs false
set_option linter.unusedVariables false

set_option maxRecDepth 100000 in
set_option maxHeartbeats 8000000 in

theorem walk (a0 : Option Addr) (len0 cap0 : Nat) (z0 : List Int) (a1 : Int) (w : World) (w0 : IsRow .i64 w a0 len0 cap0 z0) (w1 : (Lit.int .i64 a1).wf = true) :
    Calls Try.prog 5 #[.slice a0 len0 cap0, .int .i64 a1] w fun e w' => e = .returned (.bool true) ∧ Below w.heap.size w w' := by
  have b1 : a1 ≤ 9223372036854775807 := (bounds_i64 w1).2
  obtain ⟨hzl, hlc, hcm, hnil, hwz, hcell⟩ := w0
  unfold maxLen at hcm
  obtain ⟨A, hAdef⟩ : ∃ A : Nat → Int, A = fun i => z0.getD i 0 := ⟨_, rfl⟩
  have HCELL : Hid (0 < len0 → ∃ b off, a0 = some ⟨b, off, none⟩ ∧ b < w.heap.size ∧ ∀ i, i < len0 → w.cell? ⟨b, off + i, none⟩ = some (.int .i64 (A i))) := Lib.hid (by rw [hAdef]; exact hcell)
  have HA : Hid (∀ i, A i ≤ 9223372036854775807) := Lib.hid (fun i => by
    rw [hAdef]
    show z0.getD i 0 ≤ _
    rw [List.getD_eq_getElem?_getD]
    cases hi : z0[i]? with
    | none => simp
    | some x => exact (bounds_i64 (hwz x (List.mem_of_getElem? hi))).2)
  have HN := Lib.hid b1
  clear hcell hnil hwz hzl hAdef b1
  go_enter Try.func5, Try.ntmps5
  go_wp2_with fail
  refine (he_new 32 32 (by decide) w).mono ?_
  rintro e W1 ⟨rfl, k1, k2⟩
  have H1 : Hid (HQ w W1 (w.heap.size + 1) w.heap.size 32 0 0 none (He.ss A 0)) := Lib.hid ⟨k1, k2, by omega, by omega, by simp [rvB]⟩
  clear k1 k2
  revert H1
  generalize w.heap.size + 1 = p
  intro H1
  go_wp2_with fail
  go_loopw [6, 7] (fun nv iv wr => ∃ (j n c : Nat) (r : Option Addr), j ≤ 32 ∧ j ≤ len0 ∧ nv = .int .i64 (He.cnt A j) ∧ iv = .int .i64 j ∧ Hid (HQ w wr p w.heap.size 32 n c r (He.ss A j))) (fun _ iv _ => 32 - (intOf iv).toNat)
  case atStart => exact ⟨0, 0, 0, none, by omega, by omega, rfl, rfl, H1⟩
  case round =>
    clear H1
    obtain ⟨m, n, c, r, hm, hml, rfl, rfl, H1⟩ := hrel
    have m0 : (0 : Int) ≤ (m : Int) := by omega
    have hcm : He.cnt A m ≤ 32 := Nat.le_trans (cnt_le A m) hm
    by_cases hlt : m < len0
    · by_cases h32 : m < 32
      · have mI : (m : Int) < 32 := by omega
        have mL : (m : Int) < (len0 : Int) := by omega
        obtain ⟨bb, off, hab, hbl, hcl⟩ := HCELL.out (by omega)
        subst hab
        obtain ⟨z, hz⟩ : ∃ z, A m = z := ⟨_, rfl⟩
        have hy : wr.cell? ⟨bb, off + m, none⟩ = some (.int .i64 z) := by rw [← hz, H1.out.2.1.cell (by simpa using hbl)]; exact hcl m hlt
        have hzl : z ≤ 9223372036854775807 := by rw [← hz]; exact HA.out m
        have HZ : Hid (He.set (He.ss A m) (m : Int) z = He.ss A (m + 1) ∧ w.cell? ⟨bb, off + m, none⟩ = some (.int .i64 z)) := Lib.hid ⟨by rw [← hz]; rfl, by rw [← hz]; exact hcl m hlt⟩
        have HCN : Hid (He.cnt A (m + 1) = if z = 9223372036854775807 then He.cnt A m else He.cnt A m + 1) := Lib.hid (by rw [← hz]; rfl)
        clear hcl hz
        go_wp2_with fail
        refine (he_set2 p w.heap.size 32 n c r (He.ss A m) (m : Int) z ⟨by omega, by omega⟩ hzl (He.ss A (m + 1)) HZ.out.1 wr H1.out.1).mono ?_
        rintro e W2 ⟨n2, c2, r2, rfl, k1, k2, k3⟩
        have H2 := Lib.hid (H1.out.step k1 k2 k3)
        have hy2 : W2.cell? ⟨bb, off + m, none⟩ = some (.int .i64 z) := (H2.out.2.1.cell (by simpa using hbl)).trans HZ.out.2
        clear k1 k2 k3 hy
        by_cases hzn : z = 9223372036854775807
        · have hb : (z != 9223372036854775807) = false := by simpa using hzn
          have HE : Hid (He.cnt A (m + 1) = He.cnt A m) := Lib.hid (by rw [HCN.out, if_pos hzn])
          clear hzn
          go_wp2
          refine ⟨?_, ?measure⟩
          case measure => simp [intOf]; omega
          first
            | exact ⟨m + 1, n2, c2, r2, by omega, by omega, by rw [HE.out], by go_num, H2⟩
            | ((repeat apply Exists.intro); exact ⟨⟨m + 1, n2, c2, r2, by omega, by omega, by rw [HE.out], by go_num, H2⟩, rfl⟩)
        · have hb : (z != 9223372036854775807) = true := by simpa using hzn
          have HE : Hid (He.cnt A (m + 1) = He.cnt A m + 1) := Lib.hid (by rw [HCN.out, if_neg hzn])
          clear hzn
          go_wp2
          refine ⟨?_, ?measure⟩
          case measure => simp [intOf]; omega
          first
            | exact ⟨m + 1, n2, c2, r2, by omega, by omega, by rw [HE.out]; go_num, by go_num, H2⟩
            | ((repeat apply Exists.intro); exact ⟨⟨m + 1, n2, c2, r2, by omega, by omega, by rw [HE.out]; go_num, by go_num, H2⟩, rfl⟩)
      · have h32b : decide ((m : Int) < 32) = false := by simp; omega
        have hltb : (m : Int) < (len0 : Int) := by omega
        go_wp2_with fail
        obtain ⟨d, hd⟩ : ∃ d, ((He.ss A m).takeWhile (fun x => Tk.dueB x.1 a1)).length = d := ⟨_, rfl⟩
        have HD := Lib.hid hd
        have HM2 : Hid (m = min len0 32 ∧ m ≤ 32) := Lib.hid (by omega)
        have HLn : Hid ((He.ss A m).length = He.cnt A m) := Lib.hid (ss_len (k := 32) HA.out m HM2.out.2)
        refine (he_due p w.heap.size 32 n c r (He.ss A m) a1 HN.out d hd wr H1.out.1).mono ?_
        rintro e W2 ⟨n2, rD, cD, rfl, k0, k1, k3⟩
        have H2 : Hid (HQ w W2 p w.heap.size 32 n2 c r ((He.ss A m).drop d) ∧ EA W2 rD ((He.ss A m).take d)) := Lib.hid ⟨H1.out.step k1 (fun g hg => Or.inl hg) k3, EA.of_rm k0⟩
        have HM : Hid ((d ≤ He.cnt A m ∧ He.cnt A m ≤ 32) ∧ n2 = He.cnt A m - d) := Lib.hid (by
          have h1 := HLn.out; have h2 := tw_le (fun x => Tk.dueB x.1 a1) (He.ss A m); have h3 := k1.len; have h4 := cnt_le A m
          rw [hd, h1] at h2
          rw [List.length_drop, h1] at h3
          have h5 := HM2.out.2
          exact ⟨⟨h2, by omega⟩, h3.symm⟩)
        have hd32 : d ≤ 32 := by have := HM.out; omega
        clear k0 k1 k3 hd
        go_wp2_with fail
        go_loopw [9] (fun iv wr => ∃ j : Nat, j ≤ d ∧ iv = .int .i64 j ∧ W2 = wr) (fun iv _ => d - (intOf iv).toNat)
        case atStart => exact ⟨0, by omega, rfl, rfl⟩
        case round =>
          obtain ⟨j, hj, rfl, rfl⟩ := hrel
          have j0 : (0 : Int) ≤ (j : Int) := by omega
          by_cases hlt : j < d
          · have jI : (j : Int) < (d : Int) := by omega
            obtain ⟨⟨x1, x2⟩, hx⟩ : ∃ x, (He.ss A m)[j]? = some x := ⟨_, List.getElem?_eq_getElem (by have := HM.out; have := HLn.out; omega)⟩
            have hx2 : ((He.ss A m).take d)[j]? = some (x1, x2) := by rw [List.getElem?_take, if_pos hlt]; exact hx
            obtain ⟨g, o, hrD, d0, d1⟩ := H2.out.2.at hx2
            subst hrD
            obtain ⟨q, hqm, rfl, hq1, hqn⟩ := ss_mem (k := 32) HA.out HM2.out.2 (List.mem_of_getElem? hx)
            have hdx := (due_idx H1.out.1.ok HD.out hx).1 hlt
            dsimp only at hdx
            have hatx : He.at (He.ss A m) (q : Int) = x1 := at_mem H1.out.1.ok.nod (List.mem_of_getElem? hx)
            have hdj := at_drop H1.out.1.ok HD.out H2.out.1.1.ok (q : Int)
            rw [hatx, if_pos hdx] at hdj
            have hAt := H2.out.1.1.at (q : Int)
            rw [if_pos hdj] at hAt
            have hql : q < len0 := by have := HM2.out; omega
            obtain ⟨bb, off, hab, hbl, hcl⟩ := HCELL.out (by omega)
            subst hab
            obtain ⟨z, hz⟩ : ∃ z, A q = z := ⟨_, rfl⟩
            have hy : W2.cell? ⟨bb, off + q, none⟩ = some (.int .i64 z) := by rw [← hz, H2.out.1.2.1.cell (by simpa using hbl)]; exact hcl q hql
            have hzl := HA.out q
            rw [hz] at hzl hq1 hqn
            have hzd := rdue_any z a1 hzl HN.out W2
            rw [hq1, due_own hzl hqn] at hdx
            rw [hdx] at hzd
            have HC := Lib.hid (And.intro hAt hzd)
            have q0 : (0 : Int) ≤ (q : Int) := by omega
            have q1 : (q : Int) < (len0 : Int) := by omega
            have q2 : ¬ (len0 : Int) ≤ (q : Int) := by omega
            have q3 : ¬ len0 ≤ q := by omega
            have q4 : decide ((q : Int) < 0) = false := by simp
            clear hAt hzd hdj hatx hdx hqm hq1 hqn hx hx2 hcl hz
            go_wp2_with (first
              | (go_at_call 27; refine (HC.out.1).mono ?_; rintro e Wq ⟨rfl, hq⟩; obtain rfl := hq)
              | (go_at_call 28; refine (HC.out.2).mono ?_; rintro e Wq ⟨rfl, rfl⟩))
            refine ⟨?_, ?measure⟩
            case measure => simp [intOf]; omega
            first
              | exact ⟨j + 1, by omega, by go_num, rfl⟩
              | exact ⟨j + 1, by omega, by go_num, trivial⟩
              | ((repeat apply Exists.intro); exact ⟨⟨j + 1, by omega, by go_num, (by first | rfl | trivial)⟩, rfl⟩)
          · obtain rfl : d = j := by omega
            have jI : ¬ (d : Int) < (d : Int) := by omega
            go_wp2_with fail
            go_loopw [12] (fun iv wr => ∃ j : Nat, j ≤ 32 ∧ j ≤ len0 ∧ iv = .int .i64 j ∧ W2 = wr) (fun iv _ => 32 - (intOf iv).toNat)
            case atStart => exact ⟨0, by omega, by omega, rfl, rfl⟩
            case round =>
              obtain ⟨j, hj, hjl, rfl, rfl⟩ := hrel
              have j0 : (0 : Int) ≤ (j : Int) := by omega
              by_cases hlt : j < len0
              · by_cases h32 : j < 32
                · have jI : (j : Int) < 32 := by omega
                  have jL : (j : Int) < (len0 : Int) := by omega
                  have jm : j < m := by have := HM2.out; omega
                  have hatj : He.at (He.ss A m) (j : Int) = Tk.own (A j) := by rw [ss_at (k := 32) HA.out m HM2.out.2, if_pos jm]
                  have hdj := at_drop H1.out.1.ok HD.out H2.out.1.1.ok (j : Int)
                  rw [hatj] at hdj
                  obtain ⟨bb, off, hab, hbl, hcl⟩ := HCELL.out (by omega)
                  subst hab
                  obtain ⟨z, hz⟩ : ∃ z, A j = z := ⟨_, rfl⟩
                  have hy : W2.cell? ⟨bb, off + j, none⟩ = some (.int .i64 z) := by rw [← hz, H2.out.1.2.1.cell (by simpa using hbl)]; exact hcl j hlt
                  have hzl := HA.out j
                  rw [hz] at hatj hdj hzl
                  have hAt := H2.out.1.1.at (j : Int)
                  clear hcl hatj
                  have hzd := rdue_any z a1 hzl HN.out W2
                  by_cases hzn : z = 9223372036854775807
                  · have hdue : Tk.dueB z a1 = false := by unfold Tk.dueB; simp [hzn]
                    have hown : Tk.own z = 9223372036854775807 := (own_nev hzl).2 hzn
                    rw [hown] at hdj
                    have hnv : He.at ((He.ss A m).drop d) (j : Int) = 9223372036854775807 := by rw [hdj]; split <;> rfl
                    rw [if_pos hnv] at hAt
                    rw [hdue] at hzd
                    have HC := Lib.hid (And.intro hAt hzd)
                    have hb : (z == 9223372036854775807) = true := by rw [beq_iff_eq]; exact hzn
                    clear hAt hzd hnv hdj hown hdue hzn hz
                    go_wp2_with (first
                      | (go_at_call 27; refine (HC.out.1).mono ?_; rintro e Wq ⟨rfl, hq⟩; obtain rfl := hq)
                      | (go_at_call 28; refine (HC.out.2).mono ?_; rintro e Wq ⟨rfl, rfl⟩))
                    refine ⟨?_, ?measure⟩
                    case measure => simp [intOf]; omega
                    first
                      | exact ⟨j + 1, by omega, by omega, by go_num, rfl⟩
                      | exact ⟨j + 1, by omega, by omega, by go_num, trivial⟩
                      | ((repeat apply Exists.intro); exact ⟨⟨j + 1, by omega, by omega, by go_num, (by first | rfl | trivial)⟩, rfl⟩)
                  · have hz2 : (z == 9223372036854775807) = false := by rw [beq_eq_false_iff_ne]; exact hzn
                    by_cases hdue : Tk.dueB z a1 = true
                    · rw [due_own hzl hzn, if_pos hdue] at hdj
                      rw [if_pos hdj] at hAt
                      rw [hdue] at hzd
                      have HC := Lib.hid (And.intro hAt hzd)
                      clear hAt hzd hdj hdue hzn hz
                      go_wp2_with (first
                        | (go_at_call 27; refine (HC.out.1).mono ?_; rintro e Wq ⟨rfl, hq⟩; obtain rfl := hq)
                        | (go_at_call 28; refine (HC.out.2).mono ?_; rintro e Wq ⟨rfl, rfl⟩))
                      refine ⟨?_, ?measure⟩
                      case measure => simp [intOf]; omega
                      first
                        | exact ⟨j + 1, by omega, by omega, by go_num, rfl⟩
                        | exact ⟨j + 1, by omega, by omega, by go_num, trivial⟩
                        | ((repeat apply Exists.intro); exact ⟨⟨j + 1, by omega, by omega, by go_num, (by first | rfl | trivial)⟩, rfl⟩)
                    · have hdf : Tk.dueB z a1 = false := by simpa using hdue
                      rw [due_own hzl hzn, if_neg hdue] at hdj
                      have hne : ¬ He.at ((He.ss A m).drop d) (j : Int) = 9223372036854775807 := by rw [hdj]; exact fun e => hzn ((own_nev hzl).1 e)
                      rw [if_neg hne, hdj] at hAt
                      rw [hdf] at hzd
                      have HC := Lib.hid (And.intro hAt (And.intro hzd (rown_any z W2)))
                      obtain ⟨o, ho⟩ : ∃ o, Tk.own z = o := ⟨_, rfl⟩
                      rw [ho] at HC
                      have hoo : (o != o) = false := by simp
                      clear hAt hzd hdj hdf hdue hzn hne hz ho
                      go_wp2_with (first
                        | (go_at_call 27; refine (HC.out.1).mono ?_; rintro e Wq ⟨rfl, hq⟩; obtain rfl := hq)
                        | (go_at_call 28; refine (HC.out.2.1).mono ?_; rintro e Wq ⟨rfl, rfl⟩)
                        | (go_at_call 29; refine (HC.out.2.2).mono ?_; rintro e Wq ⟨rfl, rfl⟩))
                      refine ⟨?_, ?measure⟩
                      case measure => simp [intOf]; omega
                      first
                        | exact ⟨j + 1, by omega, by omega, by go_num, rfl⟩
                        | exact ⟨j + 1, by omega, by omega, by go_num, trivial⟩
                        | ((repeat apply Exists.intro); exact ⟨⟨j + 1, by omega, by omega, by go_num, (by first | rfl | trivial)⟩, rfl⟩)
                · have h32b : decide ((j : Int) < 32) = false := by simp; omega
                  have hltb : (j : Int) < (len0 : Int) := by omega
                  go_wp2_with fail
                  refine (he_len p n2 c r _ H2.out.1.1.c0).mono ?_
                  rintro e W4 ⟨rfl, hw4⟩
                  obtain rfl := hw4
                  have hsub : IntKind.i64.wrap ((He.cnt A m : Int) - (d : Int)) = (He.cnt A m : Int) - (d : Int) := IntWalk.i64_in _ (by have := HM.out.1; omega)
                  have heq : ((n2 : Int) == (He.cnt A m : Int) - (d : Int)) = true := by rw [beq_iff_eq]; have h1 := HM.out.1; have h2 := HM.out.2; omega
                  go_wp2_with fail
                  refine (he_due p w.heap.size 32 n2 c r _ a1 HN.out 0 (due_again H1.out.1.ok HD.out) _ H2.out.1.1).mono ?_
                  rintro e W5 ⟨n5, rD2, cD2, rfl, k0, k1, k3⟩
                  have H5 := Lib.hid (H2.out.1.step k1 (fun g hg => Or.inl hg) k3)
                  clear k0 k1 k3
                  go_wp2_with fail
                  refine (he_lives _).mono ?_
                  rintro e W6 ⟨rfl, b6⟩
                  have H6 := Lib.hid (H5.out.2.1.trans (b6.mono H5.out.2.1.size))
                  clear b6
                  go_wp2_with fail
                  go_ret
                  exact ⟨rfl, H6.out⟩
              · have hltb : ¬ (j : Int) < (len0 : Int) := by omega
                go_wp2_with fail
                refine (he_len p n2 c r _ H2.out.1.1.c0).mono ?_
                rintro e W4 ⟨rfl, hw4⟩
                obtain rfl := hw4
                have hsub : IntKind.i64.wrap ((He.cnt A m : Int) - (d : Int)) = (He.cnt A m : Int) - (d : Int) := IntWalk.i64_in _ (by have := HM.out.1; omega)
                have heq : ((n2 : Int) == (He.cnt A m : Int) - (d : Int)) = true := by rw [beq_iff_eq]; have h1 := HM.out.1; have h2 := HM.out.2; omega
                go_wp2_with fail
                refine (he_due p w.heap.size 32 n2 c r _ a1 HN.out 0 (due_again H1.out.1.ok HD.out) _ H2.out.1.1).mono ?_
                rintro e W5 ⟨n5, rD2, cD2, rfl, k0, k1, k3⟩
                have H5 := Lib.hid (H2.out.1.step k1 (fun g hg => Or.inl hg) k3)
                clear k0 k1 k3
                go_wp2_with fail
                refine (he_lives _).mono ?_
                rintro e W6 ⟨rfl, b6⟩
                have H6 := Lib.hid (H5.out.2.1.trans (b6.mono H5.out.2.1.size))
                clear b6
                go_wp2_with fail
                go_ret
                exact ⟨rfl, H6.out⟩
    · have hltb : ¬ (m : Int) < (len0 : Int) := by omega
      go_wp2_with fail
      obtain ⟨d, hd⟩ : ∃ d, ((He.ss A m).takeWhile (fun x => Tk.dueB x.1 a1)).length = d := ⟨_, rfl⟩
      have HD := Lib.hid hd
      have HM2 : Hid (m = min len0 32 ∧ m ≤ 32) := Lib.hid (by omega)
      have HLn : Hid ((He.ss A m).length = He.cnt A m) := Lib.hid (ss_len (k := 32) HA.out m HM2.out.2)
      refine (he_due p w.heap.size 32 n c r (He.ss A m) a1 HN.out d hd wr H1.out.1).mono ?_
      rintro e W2 ⟨n2, rD, cD, rfl, k0, k1, k3⟩
      have H2 : Hid (HQ w W2 p w.heap.size 32 n2 c r ((He.ss A m).drop d) ∧ EA W2 rD ((He.ss A m).take d)) := Lib.hid ⟨H1.out.step k1 (fun g hg => Or.inl hg) k3, EA.of_rm k0⟩
      have HM : Hid ((d ≤ He.cnt A m ∧ He.cnt A m ≤ 32) ∧ n2 = He.cnt A m - d) := Lib.hid (by
        have h1 := HLn.out; have h2 := tw_le (fun x => Tk.dueB x.1 a1) (He.ss A m); have h3 := k1.len; have h4 := cnt_le A m
        rw [hd, h1] at h2
        rw [List.length_drop, h1] at h3
        have h5 := HM2.out.2
        exact ⟨⟨h2, by omega⟩, h3.symm⟩)
      have hd32 : d ≤ 32 := by have := HM.out; omega
      clear k0 k1 k3 hd
      go_wp2_with fail
      go_loopw [9] (fun iv wr => ∃ j : Nat, j ≤ d ∧ iv = .int .i64 j ∧ W2 = wr) (fun iv _ => d - (intOf iv).toNat)
      case atStart => exact ⟨0, by omega, rfl, rfl⟩
      case round =>
        obtain ⟨j, hj, rfl, rfl⟩ := hrel
        have j0 : (0 : Int) ≤ (j : Int) := by omega
        by_cases hlt : j < d
        · have jI : (j : Int) < (d : Int) := by omega
          obtain ⟨⟨x1, x2⟩, hx⟩ : ∃ x, (He.ss A m)[j]? = some x := ⟨_, List.getElem?_eq_getElem (by have := HM.out; have := HLn.out; omega)⟩
          have hx2 : ((He.ss A m).take d)[j]? = some (x1, x2) := by rw [List.getElem?_take, if_pos hlt]; exact hx
          obtain ⟨g, o, hrD, d0, d1⟩ := H2.out.2.at hx2
          subst hrD
          obtain ⟨q, hqm, rfl, hq1, hqn⟩ := ss_mem (k := 32) HA.out HM2.out.2 (List.mem_of_getElem? hx)
          have hdx := (due_idx H1.out.1.ok HD.out hx).1 hlt
          dsimp only at hdx
          have hatx : He.at (He.ss A m) (q : Int) = x1 := at_mem H1.out.1.ok.nod (List.mem_of_getElem? hx)
          have hdj := at_drop H1.out.1.ok HD.out H2.out.1.1.ok (q : Int)
          rw [hatx, if_pos hdx] at hdj
          have hAt := H2.out.1.1.at (q : Int)
          rw [if_pos hdj] at hAt
          have hql : q < len0 := by have := HM2.out; omega
          obtain ⟨bb, off, hab, hbl, hcl⟩ := HCELL.out (by omega)
          subst hab
          obtain ⟨z, hz⟩ : ∃ z, A q = z := ⟨_, rfl⟩
          have hy : W2.cell? ⟨bb, off + q, none⟩ = some (.int .i64 z) := by rw [← hz, H2.out.1.2.1.cell (by simpa using hbl)]; exact hcl q hql
          have hzl := HA.out q
          rw [hz] at hzl hq1 hqn
          have hzd := rdue_any z a1 hzl HN.out W2
          rw [hq1, due_own hzl hqn] at hdx
          rw [hdx] at hzd
          have HC := Lib.hid (And.intro hAt hzd)
          have q0 : (0 : Int) ≤ (q : Int) := by omega
          have q1 : (q : Int) < (len0 : Int) := by omega
          have q2 : ¬ (len0 : Int) ≤ (q : Int) := by omega
          have q3 : ¬ len0 ≤ q := by omega
          have q4 : decide ((q : Int) < 0) = false := by simp
          clear hAt hzd hdj hatx hdx hqm hq1 hqn hx hx2 hcl hz
          go_wp2_with (first
            | (go_at_call 27; refine (HC.out.1).mono ?_; rintro e Wq ⟨rfl, hq⟩; obtain rfl := hq)
            | (go_at_call 28; refine (HC.out.2).mono ?_; rintro e Wq ⟨rfl, rfl⟩))
          refine ⟨?_, ?measure⟩
          case measure => simp [intOf]; omega
          first
            | exact ⟨j + 1, by omega, by go_num, rfl⟩
            | exact ⟨j + 1, by omega, by go_num, trivial⟩
            | ((repeat apply Exists.intro); exact ⟨⟨j + 1, by omega, by go_num, (by first | rfl | trivial)⟩, rfl⟩)
        · obtain rfl : d = j := by omega
          have jI : ¬ (d : Int) < (d : Int) := by omega
          go_wp2_with fail
          go_loopw [12] (fun iv wr => ∃ j : Nat, j ≤ 32 ∧ j ≤ len0 ∧ iv = .int .i64 j ∧ W2 = wr) (fun iv _ => 32 - (intOf iv).toNat)
          case atStart => exact ⟨0, by omega, by omega, rfl, rfl⟩
          case round =>
            obtain ⟨j, hj, hjl, rfl, rfl⟩ := hrel
            have j0 : (0 : Int) ≤ (j : Int) := by omega
            by_cases hlt : j < len0
            · by_cases h32 : j < 32
              · have jI : (j : Int) < 32 := by omega
                have jL : (j : Int) < (len0 : Int) := by omega
                have jm : j < m := by have := HM2.out; omega
                have hatj : He.at (He.ss A m) (j : Int) = Tk.own (A j) := by rw [ss_at (k := 32) HA.out m HM2.out.2, if_pos jm]
                have hdj := at_drop H1.out.1.ok HD.out H2.out.1.1.ok (j : Int)
                rw [hatj] at hdj
                obtain ⟨bb, off, hab, hbl, hcl⟩ := HCELL.out (by omega)
                subst hab
                obtain ⟨z, hz⟩ : ∃ z, A j = z := ⟨_, rfl⟩
                have hy : W2.cell? ⟨bb, off + j, none⟩ = some (.int .i64 z) := by rw [← hz, H2.out.1.2.1.cell (by simpa using hbl)]; exact hcl j hlt
                have hzl := HA.out j
                rw [hz] at hatj hdj hzl
                have hAt := H2.out.1.1.at (j : Int)
                clear hcl hatj
                have hzd := rdue_any z a1 hzl HN.out W2
                by_cases hzn : z = 9223372036854775807
                · have hdue : Tk.dueB z a1 = false := by unfold Tk.dueB; simp [hzn]
                  have hown : Tk.own z = 9223372036854775807 := (own_nev hzl).2 hzn
                  rw [hown] at hdj
                  have hnv : He.at ((He.ss A m).drop d) (j : Int) = 9223372036854775807 := by rw [hdj]; split <;> rfl
                  rw [if_pos hnv] at hAt
                  rw [hdue] at hzd
                  have HC := Lib.hid (And.intro hAt hzd)
                  have hb : (z == 9223372036854775807) = true := by rw [beq_iff_eq]; exact hzn
                  clear hAt hzd hnv hdj hown hdue hzn hz
                  go_wp2_with (first
                    | (go_at_call 27; refine (HC.out.1).mono ?_; rintro e Wq ⟨rfl, hq⟩; obtain rfl := hq)
                    | (go_at_call 28; refine (HC.out.2).mono ?_; rintro e Wq ⟨rfl, rfl⟩))
                  refine ⟨?_, ?measure⟩
                  case measure => simp [intOf]; omega
                  first
                    | exact ⟨j + 1, by omega, by omega, by go_num, rfl⟩
                    | exact ⟨j + 1, by omega, by omega, by go_num, trivial⟩
                    | ((repeat apply Exists.intro); exact ⟨⟨j + 1, by omega, by omega, by go_num, (by first | rfl | trivial)⟩, rfl⟩)
                · have hz2 : (z == 9223372036854775807) = false := by rw [beq_eq_false_iff_ne]; exact hzn
                  by_cases hdue : Tk.dueB z a1 = true
                  · rw [due_own hzl hzn, if_pos hdue] at hdj
                    rw [if_pos hdj] at hAt
                    rw [hdue] at hzd
                    have HC := Lib.hid (And.intro hAt hzd)
                    clear hAt hzd hdj hdue hzn hz
                    go_wp2_with (first
                      | (go_at_call 27; refine (HC.out.1).mono ?_; rintro e Wq ⟨rfl, hq⟩; obtain rfl := hq)
                      | (go_at_call 28; refine (HC.out.2).mono ?_; rintro e Wq ⟨rfl, rfl⟩))
                    refine ⟨?_, ?measure⟩
                    case measure => simp [intOf]; omega
                    first
                      | exact ⟨j + 1, by omega, by omega, by go_num, rfl⟩
                      | exact ⟨j + 1, by omega, by omega, by go_num, trivial⟩
                      | ((repeat apply Exists.intro); exact ⟨⟨j + 1, by omega, by omega, by go_num, (by first | rfl | trivial)⟩, rfl⟩)
                  · have hdf : Tk.dueB z a1 = false := by simpa using hdue
                    rw [due_own hzl hzn, if_neg hdue] at hdj
                    have hne : ¬ He.at ((He.ss A m).drop d) (j : Int) = 9223372036854775807 := by rw [hdj]; exact fun e => hzn ((own_nev hzl).1 e)
                    rw [if_neg hne, hdj] at hAt
                    rw [hdf] at hzd
                    have HC := Lib.hid (And.intro hAt (And.intro hzd (rown_any z W2)))
                    obtain ⟨o, ho⟩ : ∃ o, Tk.own z = o := ⟨_, rfl⟩
                    rw [ho] at HC
                    have hoo : (o != o) = false := by simp
                    clear hAt hzd hdj hdf hdue hzn hne hz ho
                    go_wp2_with (first
                      | (go_at_call 27; refine (HC.out.1).mono ?_; rintro e Wq ⟨rfl, hq⟩; obtain rfl := hq)
                      | (go_at_call 28; refine (HC.out.2.1).mono ?_; rintro e Wq ⟨rfl, rfl⟩)
                      | (go_at_call 29; refine (HC.out.2.2).mono ?_; rintro e Wq ⟨rfl, rfl⟩))
                    refine ⟨?_, ?measure⟩
                    case measure => simp [intOf]; omega
                    first
                      | exact ⟨j + 1, by omega, by omega, by go_num, rfl⟩
                      | exact ⟨j + 1, by omega, by omega, by go_num, trivial⟩
                      | ((repeat apply Exists.intro); exact ⟨⟨j + 1, by omega, by omega, by go_num, (by first | rfl | trivial)⟩, rfl⟩)
              · have h32b : decide ((j : Int) < 32) = false := by simp; omega
                have hltb : (j : Int) < (len0 : Int) := by omega
                go_wp2_with fail
                refine (he_len p n2 c r _ H2.out.1.1.c0).mono ?_
                rintro e W4 ⟨rfl, hw4⟩
                obtain rfl := hw4
                have hsub : IntKind.i64.wrap ((He.cnt A m : Int) - (d : Int)) = (He.cnt A m : Int) - (d : Int) := IntWalk.i64_in _ (by have := HM.out.1; omega)
                have heq : ((n2 : Int) == (He.cnt A m : Int) - (d : Int)) = true := by rw [beq_iff_eq]; have h1 := HM.out.1; have h2 := HM.out.2; omega
                go_wp2_with fail
                refine (he_due p w.heap.size 32 n2 c r _ a1 HN.out 0 (due_again H1.out.1.ok HD.out) _ H2.out.1.1).mono ?_
                rintro e W5 ⟨n5, rD2, cD2, rfl, k0, k1, k3⟩
                have H5 := Lib.hid (H2.out.1.step k1 (fun g hg => Or.inl hg) k3)
                clear k0 k1 k3
                go_wp2_with fail
                refine (he_lives _).mono ?_
                rintro e W6 ⟨rfl, b6⟩
                have H6 := Lib.hid (H5.out.2.1.trans (b6.mono H5.out.2.1.size))
                clear b6
                go_wp2_with fail
                go_ret
                exact ⟨rfl, H6.out⟩
            · have hltb : ¬ (j : Int) < (len0 : Int) := by omega
              go_wp2_with fail
              refine (he_len p n2 c r _ H2.out.1.1.c0).mono ?_
              rintro e W4 ⟨rfl, hw4⟩
              obtain rfl := hw4
              have hsub : IntKind.i64.wrap ((He.cnt A m : Int) - (d : Int)) = (He.cnt A m : Int) - (d : Int) := IntWalk.i64_in _ (by have := HM.out.1; omega)
              have heq : ((n2 : Int) == (He.cnt A m : Int) - (d : Int)) = true := by rw [beq_iff_eq]; have h1 := HM.out.1; have h2 := HM.out.2; omega
              go_wp2_with fail
              refine (he_due p w.heap.size 32 n2 c r _ a1 HN.out 0 (due_again H1.out.1.ok HD.out) _ H2.out.1.1).mono ?_
              rintro e W5 ⟨n5, rD2, cD2, rfl, k0, k1, k3⟩
              have H5 := Lib.hid (H2.out.1.step k1 (fun g hg => Or.inl hg) k3)
              clear k0 k1 k3
              go_wp2_with fail
              refine (he_lives _).mono ?_
              rintro e W6 ⟨rfl, b6⟩
              have H6 := Lib.hid (H5.out.2.1.trans (b6.mono H5.out.2.1.size))
              clear b6
              go_wp2_with fail
              go_ret
              exact ⟨rfl, H6.out⟩

set_option maxRecDepth 100000 in
theorem lifted (os : Os) (started : os.Started) (H : Type) (enc : TypeId × Value → H) :
    ReturnsInHanded {} Try.checked os 5 .any (Rows.heapDuesSpec.pre6 enc Try.prog Try.f5 Rows.heapDuesRow.domain false) (Rows.heapDuesSpec.post enc Try.prog Try.f5 false true false false) := by
  refine returnsInHanded_of_change (C := Try.checked) ownKn started (by kernel_rfl) Try.func5
    (ChangeSpec.witness6 (enc := enc) (C := Try.checked) false ⟨#[], #[.slice none 0 0, .int .i64 0], []⟩ 8 (by kernel_rfl) (by kernel_rfl) (by kernel_rfl) (by kernel_rfl)) ?_
  intro W base args ds gs before hval0 hW hcnd _
  have hval : ∀ (j : Nat) t v, Try.f5.params[j]? = some t → args[j]? = some v → Value.okWide Try.prog W .any base t v := hval0
  have hW' := hW
  obtain ⟨p, q, hA0, hV, rfl, hfz, hnd⟩ := hW
  have hA : DataW.TrodAll enc Try.prog W 0 (fun _ => true) true Try.f5.params.toList args.toList ds p := hA0
  rw [Try.params5] at hA hval
  obtain ⟨v0, vs0, d0, ds0, p0, q0, hargs, rfl, rfl, h0, r0⟩ := trodAll_cons hA
  obtain ⟨v1, vs1, d1, ds1, p1, q1, rfl, rfl, rfl, h1, r1⟩ := trodAll_cons r0
  obtain ⟨rfl, rfl, rfl⟩ := trodAll_nil r1
  obtain rfl : args = #[v0, v1] := by cases args; simp_all
  obtain ⟨rfl, rfl⟩ := trodVars_none hV
  have k0 := h0
  have lt0 : ∀ x ∈ p0, x.block < W.heap.size := by obtain ⟨m, hm⟩ := k0; exact DataW.trod_lt m _ _ _ hm
  obtain ⟨b0, lb0, cb0, rfl⟩ := okWide_slice Try.underlying46 (hval 0 46 v0 rfl rfl)
  obtain ⟨fu0, hf0⟩ := h0
  simp only [Value.cells] at hf0
  obtain ⟨a0, len0, cap0, z0, e0, w0⟩ := fld_row Try.underlying46 Try.underlying2 (by kernel_rfl) hf0
  obtain ⟨rfl, rfl, rfl⟩ : b0 = a0 ∧ lb0 = len0 ∧ cb0 = cap0 := by simpa using e0
  have k1 := h1
  have lt1 : ∀ x ∈ p1, x.block < W.heap.size := by obtain ⟨m, hm⟩ := k1; exact DataW.trod_lt m _ _ _ hm
  obtain ⟨a1, rfl, rfl, rfl, w1⟩ := open_int Try.underlying2 (hval 1 2 v1 rfl rfl) h1
  clear hA0 hval0
  refine (walk b0 lb0 cb0 z0 a1 W w0 w1).mono fun e W' ⟨he, bel⟩ => ?_
  subst he
  exact ⟨_, rfl, _, _, _, [], _, [], hW', trodAll_mk1 (shut_bool Try.underlying4 _), (trodAll_cons_mk (Below.trod laidOut (by kernel_rfl) (of_decide_eq_true (by kernel_rfl)) k0 bel lt0) (trodAll_cons_mk (Below.trod laidOut (by kernel_rfl) (of_decide_eq_true (by kernel_rfl)) k1 bel lt1) trodAll_mk0)), rfl, bel.frame _, fun h => by cases h⟩

theorem over : Rows.heapDuesRow.holds Try.pinned (OpenSpec.ofChange Rows.heapDuesSpec) :=
  OpenClaim.holds_of_wide 5 Try.f5 rfl rfl rfl rfl rfl rfl rfl ⟨rfl, rfl, rfl, rfl, rfl⟩ rfl rfl rfl rfl rfl (by kernel_rfl) Try.func5 (by kernel_rfl)
    (of_decide_eq_true (by kernel_rfl)) (by unfold Func.isWrapper; first | (rw [if_pos (by decide +kernel)]; kernel_rfl) | (rw [if_neg (by decide +kernel)]; exact ⟨rfl, rfl⟩))
    (fun os started H enc _ => lifted os started H enc)

/-- The statement. -/
theorem proved : Rows.HeapDuesSaid := over
#print axioms proved
end Go.Proofs.Ytbdjcppkfihonaa.heapDues
