/- Contracts of slots (package slots): Repeat of one number, New. -/
import Derived.Test.YthofnpcaeopojaaSl2
import Derived.Test.YthofnpcaeopojaaBytes
import Derived.Test.YthofnpcaeopojaaStage
import Derived.IntWalk
namespace Go.Proofs.Ythofnpcaeopojaa
open Go.ChangeShapes Go.WideShapes Go.ChangeAt Go.RowKit
set_option linter.unusedSimpArgs false
set_option linter.unusedVariables false

theorem sizeI : (Try.prog.info? 3).map (·.size) = some 1 := by kernel_rfl
theorem infoI : (Try.prog.info? 3).map (fun i => (i.zero, i.size, i.bytes)) = some (some (.int .i64 0), 1, 8) := by kernel_rfl
/-- So many numbers, and zeros behind them. -/
def Rp (v : Int) (k n : Nat) : List Value := List.replicate k (iw v) ++ List.replicate (n - k) (iw 0)
theorem Rp_length (v : Int) (k n : Nat) (h : k ≤ n) : (Rp v k n).length = n := by unfold Rp; simp; omega
theorem Rp_step (v : Int) (k q n : Nat) (h : k + q ≤ n) : (Rp v k n).take k ++ List.replicate q (iw v) ++ (Rp v k n).drop (k + q) = Rp v (k + q) n := by
  unfold Rp
  rw [List.take_append_of_le_length (by simp), List.take_of_length_le (by simp), List.replicate_append_replicate, List.drop_append, List.drop_of_length_le (by simp), List.nil_append, List.length_replicate, List.drop_replicate]
  congr 2
  omega
theorem mul_1 (n : Nat) (hn : n ≤ 1024) (w : World) : Calls Try.prog 28 #[.int .u64 1, .int .u64 n] w fun e w' => e = .returned (.tuple #[.int .u64 0, .int .u64 n]) ∧ w = w' := by
  refine (Try.bits_Mul 1 n (by omega) (by omega) w).mono ?_
  rintro e w' ⟨rfl, rfl⟩
  refine ⟨?_, rfl⟩
  have e1 : 1 * n / 18446744073709551616 = 0 := by omega
  have e2 : 1 * n % 18446744073709551616 = n := by omega
  rw [e1, e2]; rfl
theorem exec_copy {P : Program} {w w' : World} {o : Oper} {a : Act} (d s : Operand) (t t' : TypeId) (ho : o.op = .call { callee := .builtin .copy, args := #[d, s], argTypes := #[t, t'] }) (v u : Value) (hd : a.eval d = v) (hs : a.eval s = u) {v' : Value}
    (hr : (Builtin.copy_ #[t, t'] o.type #[v, u]).run P w = .ok v' w') : (execOp a.eval o).run P w = .ok (.value v') w' := by
  simp [execOp, ho, resolve, invoke, builtin, hd, hs, hr, Result.andThen]
/-- The row ahead of the copy, or behind it. -/
def RS (w : World) (b : Nat) (v : Int) (k q n : Nat) (L : Nat → Bool) (w' : World) : Prop := Blk w' b (Rp v (if L 7 = true then k + q else k) n) 3 ∧ Below b w w'
theorem RS.other {w w' : World} {b : Nat} {v : Int} {k q n i : Nat} {L : Nat → Bool} (h : RS w b v k q n L w') (hi : 7 ≠ i) : RS w b v k q n (doneL L i) w' := by
  unfold RS at *; rw [doneL_other L hi]; exact h
set_option maxRecDepth 20000 in
set_option maxHeartbeats 2000000 in
theorem rep_any (b n : Nat) (v : Int) (w : World) (h1 : 1 ≤ n) (hn : n ≤ 1024) (h : w.cell? ⟨b, 0, none⟩ = some (.int .i64 v)) (hb : b < w.heap.size) :
    Calls Try.prog 23 #[.slice (some ⟨b, 0, none⟩) 1 1, .int .i64 n] w fun e w' => e = .returned (.slice (some ⟨w.heap.size, 0, none⟩) n n) ∧ Blk w' w.heap.size (List.replicate n (iw v)) 3 ∧ Below w.heap.size w w' := by
  have H := Lib.hid (And.intro h hb)
  have hu := Try.underlying47
  have i0 : (0 : Int) ≤ (n : Int) := by omega
  have i1 : (n : Int) ≤ 1024 := by omega
  have hneg : decide ((n : Int) < 0) = false := by rw [decide_eq_false_iff_not]; omega
  obtain ⟨z, hz⟩ : ∃ z, (List.replicate n (Value.int .i64 0)).toArray = z := ⟨_, rfl⟩
  have hmk : ∀ W : World, (Instr.makeSlice 47 (.int .i64 n) (.int .i64 n)).run Try.prog W = .ok (.slice (some ⟨W.heap.size, 0, none⟩) n n) (W.alloc (.cells z 3)) := fun W => by
    rw [← hz]
    exact run_make_blk (P := Try.prog) W 47 3 (.int .i64 0) Try.underlying47 8 infoI rfl n n (by omega) (by omega) (by omega)
  have HZ := Lib.hid hz
  clear hz h
  go_enter Try.func23, Try.ntmps23
  go_upto_region 7 with (go_at_call 28; refine (mul_1 n hn _).mono ?_; rintro e w' ⟨rfl, rfl⟩)
  have HW : Hid (Blk (w.alloc (Obj.cells z 3)) w.heap.size (Rp v 0 n) 3 ∧ Below w.heap.size w (w.alloc (Obj.cells z 3))) := Lib.hid ⟨by
    have h1 := Blk.newA w z 3
    have e : z.toList = Rp v 0 n := by rw [← HZ.out]; simp [Rp, iw]
    rw [e] at h1
    exact h1, (Below.refl _ _).alloc (Nat.le_refl _) _⟩
  revert HW
  generalize w.alloc (Obj.cells z 3) = W1
  intro HW
  have hr1 := run_copy_row (P := Try.prog) W1 47 47 3 3 w.heap.size 0 n n ⟨b, 0, none⟩ 1 1 _ _ [iw v] hu sizeI HW.out.1 (Nat.min_eq_left h1).symm (fun i x hx => by
      have : i = 0 := by
        rcases i with _ | i
        · rfl
        · simp at hx
      subst this
      have hx2 : iw v = x := by simpa using hx
      rw [← hx2]
      have e : ((⟨b, 0, none⟩ : Addr).add 0) = ⟨b, 0, none⟩ := rfl
      rw [e, HW.out.2.cell H.out.2]; exact H.out.1) (by simp; rw [Rp_length _ _ _ (by omega)]; omega) (by intro u hu; simp at hu; subst hu; rfl)
  have hstep := Rp_step v 0 1 n (by omega)
  simp only [List.replicate_one, Nat.zero_add, List.take_zero, List.nil_append] at hstep
  simp only [List.take_zero, List.nil_append, Nat.zero_add, List.length_singleton, hstep] at hr1
  have hrr : (Builtin.copy_ #[47, 47] 3 #[.slice (some ⟨w.heap.size, 0, none⟩) n n, .slice (some ⟨b, 0, none⟩) 1 1]).run Try.prog W1 = .ok (.int .i64 1) (W1.setRow w.heap.size (Rp v 1 n).toArray) := hr1
  have HW2 : Hid (Blk (W1.setRow w.heap.size (Rp v 1 n).toArray) w.heap.size (Rp v 1 n) 3 ∧ Below w.heap.size w (W1.setRow w.heap.size (Rp v 1 n).toArray)) := Lib.hid ⟨HW.out.1.setRow, below_setRow HW.out.2 (Nat.le_refl _) _⟩
  clear hr1 hstep
  revert hrr HW2
  generalize W1.setRow w.heap.size (Rp v 1 n).toArray = W2
  intro hrr HW2
  go_wp2_with (refine Lib.wpList_copy_run _ rfl (.tmp 31) (.tmp 32) 47 47 rfl _ _ rfl rfl hrr ?_)
  clear hrr hmk
  go_loopw [8] (fun i wr => ∃ k : Nat, i = .int .i64 k ∧ 1 ≤ k ∧ k ≤ n ∧ Hid (Blk wr w.heap.size (Rp v k n) 3 ∧ Below w.heap.size w wr)) (fun i _ => n - (intOf i).toNat)
  case atStart => exact ⟨1, rfl, by omega, by omega, HW2⟩
  case round =>
    obtain ⟨k, rfl, hk1, hk, HK⟩ := hrel
    clear HW HW2
    by_cases hkn : k < n
    · obtain ⟨q, hq⟩ : ∃ q, Nat.min k (n - k) = q := ⟨_, rfl⟩
      have hqk : q ≤ k ∧ k + q ≤ n ∧ 1 ≤ q := by rw [← hq]; simp only [Nat.min_def]; split <;> omega
      have j0 : (0 : Int) ≤ (k : Int) := by omega
      have j1 : (k : Int) ≤ (n : Int) := by omega
      have j2 : ¬ n = k := by omega
      have j3 : (k : Int) < (n : Int) := by omega
      have HK2 : Hid (Blk wr.drew w.heap.size (Rp v k n) 3 ∧ Below w.heap.size w wr.drew) := Lib.hid ⟨HK.out.1.drew, HK.out.2.drew⟩
      have HQ := Lib.hid hq
      clear hq
      go_upto_region 9 with fail
      have j4 : (0 : Int) ≤ (q : Int) := by omega
      have j5 : (q : Int) ≤ (n : Int) := by omega
      refine wp_region_stages (RS w w.heap.size v k q n) (by kernel_rfl) (by kernel_rfl) (by kernel_rfl) HK2.out ?_
      refine wpSt_step (fun K hK => ?_)
      rw [if_pos (by simp [Region.wanted])]
      apply Exists.intro
      refine ⟨fun L wq hcl hL0 hpr hC => ?_, ?_⟩
      · go_simp
        exact upSt_value rfl (RS.other hC (by decide))
      simp only [Act.put, List.setIfInBounds_toArray, List.set_cons_zero, List.set_cons_succ]
      refine hK _ ?_
      clear hK K
      refine wpSt_step (fun K hK => ?_)
      rw [if_pos (by simp [Region.wanted])]
      apply Exists.intro
      refine ⟨fun L wq hcl hL0 hpr hC => ?_, ?_⟩
      · go_simp
        exact upSt_value rfl (RS.other hC (by decide))
      simp only [Act.put, List.setIfInBounds_toArray, List.set_cons_zero, List.set_cons_succ]
      refine hK _ ?_
      clear hK K
      refine wpSt_step (fun K hK => ?_)
      rw [if_pos (by simp [Region.wanted])]
      apply Exists.intro
      refine ⟨fun L wq hcl hL0 hpr hC => ?_, ?_⟩
      · go_simp
        exact upSt_value rfl (RS.other hC (by decide))
      simp only [Act.put, List.setIfInBounds_toArray, List.set_cons_zero, List.set_cons_succ]
      refine hK _ ?_
      clear hK K
      refine wpSt_step (fun K hK => ?_)
      rw [if_pos (by simp [Region.wanted])]
      apply Exists.intro
      refine ⟨fun L wq hcl hL0 hpr hC => ?_, ?_⟩
      · go_simp
        exact upSt_value rfl (RS.other hC (by decide))
      simp only [Act.put, List.setIfInBounds_toArray, List.set_cons_zero, List.set_cons_succ]
      refine hK _ ?_
      clear hK K
      refine wpSt_step (fun K hK => ?_)
      rw [if_pos (by simp [Region.wanted])]
      apply Exists.intro
      refine ⟨fun L wq hcl hL0 hpr hC => ?_, ?_⟩
      · go_simp
        exact upSt_value rfl (RS.other hC (by decide))
      simp only [Act.put, List.setIfInBounds_toArray, List.set_cons_zero, List.set_cons_succ]
      refine hK _ ?_
      clear hK K
      refine wpSt_step (fun K hK => ?_)
      rw [if_pos (by simp [Region.wanted])]
      apply Exists.intro
      refine ⟨fun L wq hcl hL0 hpr hC => ?_, ?_⟩
      · go_simp
        exact upSt_value rfl (RS.other hC (by decide))
      simp only [Act.put, List.setIfInBounds_toArray, List.set_cons_zero, List.set_cons_succ]
      refine hK _ ?_
      clear hK K
      refine wpSt_step (fun K hK => ?_)
      rw [if_pos (by simp [Region.wanted])]
      apply Exists.intro
      refine ⟨fun L wq hcl hL0 hpr hC => ?_, ?_⟩
      · go_simp
        exact upSt_value rfl (RS.other hC (by decide))
      simp only [Act.put, List.setIfInBounds_toArray, List.set_cons_zero, List.set_cons_succ]
      refine hK _ ?_
      clear hK K
      refine wpSt_step (fun K hK => ?_)
      rw [if_pos (by simp [Region.wanted])]
      apply Exists.intro
      refine ⟨fun L wq hcl hL0 hpr hC => ?_, ?_⟩
      · have hC1 : Blk wq w.heap.size (Rp v (if L 7 = true then k + q else k) n) 3 ∧ Below w.heap.size w wq := hC
        rw [hL0] at hC1
        simp only [Bool.false_eq_true, if_false] at hC1
        have hr2 := run_copy_row (P := Try.prog) wq 47 47 3 3 w.heap.size k (n - k) (n - k) ⟨w.heap.size, 0, none⟩ k n _ _ (List.replicate q (iw v)) hu sizeI hC1.1 (by rw [List.length_replicate]; exact HQ.out.symm) (fun i x hx => by
            have hi : i < q := by
              rcases Nat.lt_or_ge i q with h' | h'
              · exact h'
              · rw [List.getElem?_eq_none (by simpa using h')] at hx; cases hx
            have e : ((⟨w.heap.size, 0, none⟩ : Addr).add i) = ⟨w.heap.size, i, none⟩ := by simp [Addr.add]; omega
            rw [e]
            refine hC1.1.cell ?_
            rw [← hx]
            unfold Rp
            rw [List.getElem?_append_left (by simp; omega), List.getElem?_replicate, List.getElem?_replicate, if_pos (by omega), if_pos hi]) (by rw [List.length_replicate, List.size_toArray, Rp_length _ _ _ (by omega)]; omega) (by intro u hu; rw [List.mem_replicate] at hu; rw [hu.2]; rfl)
        have hstep := Rp_step v k q n hqk.2.1
        rw [List.length_replicate] at hr2
        simp only [hstep] at hr2
        rw [exec_copy (.tmp 41) (.tmp 44) 47 47 rfl _ _ rfl rfl hr2]
        refine upSt_value rfl ?_
        unfold RS
        rw [doneL_same, if_pos rfl]
        exact ⟨hC1.1.setRow, below_setRow hC1.2 (Nat.le_refl _) _⟩
      simp only [Act.put, List.setIfInBounds_toArray, List.set_cons_zero, List.set_cons_succ, goInt]
      refine hK _ ?_
      clear hK K
      have j6 : IntKind.i64.wrap ((k : Int) + (q : Int)) = (k : Int) + (q : Int) := IntWalk.i64_in _ (by omega)
      refine wpSt_step (fun K hK => ?_)
      rw [if_pos (by simp [Region.wanted])]
      apply Exists.intro
      refine ⟨fun L wq hcl hL0 hpr hC => ?_, ?_⟩
      · go_simp
        exact upSt_value rfl (RS.other hC (by decide))
      simp only [Act.put, List.setIfInBounds_toArray, List.set_cons_zero, List.set_cons_succ]
      refine hK _ ?_
      clear hK K
      refine wpSt_step (fun K hK => ?_)
      rw [if_pos (by simp [Region.wanted])]
      apply Exists.intro
      refine ⟨fun L wq hcl hL0 hpr hC => ?_, ?_⟩
      · go_simp
        exact upSt_value rfl (RS.other hC (by decide))
      simp only [Act.put, List.setIfInBounds_toArray, List.set_cons_zero, List.set_cons_succ]
      refine hK _ ?_
      clear hK K
      refine wpSt_nil ?_
      clear j6
      intro w4 hw4
      have HK4 : Hid (Blk w4 w.heap.size (Rp v (k + q) n) 3 ∧ Below w.heap.size w w4) := Lib.hid hw4
      clear hw4
      go_wp2
      go_roundw
      case rel => exact ⟨k + q, by go_num, by omega, by omega, HK4⟩
      case measure => simp [intOf]; omega
    · have j3 : ¬ (k : Int) < (n : Int) := by omega
      obtain rfl : k = n := by omega
      go_wp2
      go_ret
      refine ⟨rfl, ?_, HK.out.2⟩
      have := HK.out.1
      unfold Rp at this
      rw [Nat.sub_self, List.replicate_zero, List.append_nil] at this
      exact this
set_option maxHeartbeats 1000000 in
theorem sl_new (most : Int) (n : Nat) (w : World) (hn : min (max most 1) 1024 = (n : Int)) :
    Calls Try.prog 7 #[.int .i64 most] w fun e w' => ∃ s g m : Nat, e = .returned (.pointer (some ⟨s, 0, none⟩)) ∧ SA w' s g m n (List.replicate n (-1)) [] 0 0 ∧ Below w.heap.size w w' ∧ (w.heap.size ≤ s ∧ w.heap.size ≤ g ∧ w.heap.size ≤ m) := by
  have hmm := @run_makeMap Try.prog
  have n1 : 1 ≤ n ∧ n ≤ 1024 := by omega
  have HC : Hid (((w.alloc (Obj.map #[] 0)).alloc (Obj.cells #[Value.int .i64 (-1)] 3)).cell? ⟨w.heap.size + 1, 0, none⟩ = some (.int .i64 (-1)) ∧ w.heap.size + 1 < ((w.alloc (Obj.map #[] 0)).alloc (Obj.cells #[Value.int .i64 (-1)] 3)).heap.size ∧
      MpB ((w.alloc (Obj.map #[] 0)).alloc (Obj.cells #[Value.int .i64 (-1)] 3)) w.heap.size [] 0 ∧ Below w.heap.size w ((w.alloc (Obj.map #[] 0)).alloc (Obj.cells #[Value.int .i64 (-1)] 3))) := Lib.hid (by
    refine ⟨?_, by simp, ?_, ((Below.refl _ _).alloc (Nat.le_refl _) _).alloc (by simp) _⟩
    · have := Blk.newA (w.alloc (Obj.map #[] 0)) #[Value.int .i64 (-1)] 3
      rw [World.size_alloc] at this
      exact this.cell (i := 0) rfl
    · exact (MpB.new w).chg ((Chg.refl [] _).alloc _) (by simp))
  go_enter Try.func7, Try.ntmps7
  go_wp2_with (go_at_call 23; refine (rep_any (w.heap.size + 1) n (-1) _ n1.1 n1.2 HC.out.1 HC.out.2.1).mono ?_; rintro e w3 ⟨rfl, k1, k2⟩; have H3 := Lib.hid (And.intro k1 (And.intro k2 (And.intro (HC.out.2.2.1.below k2 HC.out.2.2.1.lt) (HC.out.2.2.2.trans (k2.mono HC.out.2.2.2.size))))); clear k1 k2)
  go_ret
  obtain ⟨q1, q2, q3, q4⟩ := H3.out
  have hs := q2.size
  have hl := q1.lt
  have hm := q3.lt
  simp only [World.size_alloc] at q1 q2 hs hl
  refine ⟨w3.heap.size, w.heap.size + 1 + 1, w.heap.size, rfl, ⟨Blk.newA w3 _ _, ?_, q3.chg ((Chg.refl [] _).alloc _) (by simp), by simp, by omega⟩, q4.alloc (by omega) _, by omega⟩
  rw [List.map_replicate]
  exact q1.chg ((Chg.refl [] _).alloc _) (by simp)
end Go.Proofs.Ythofnpcaeopojaa
