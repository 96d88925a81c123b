/- P1.2, P1.4: for every ticks: whether they have come, that they stay so, and the least of some, are what the document's own answers are. No condition. -/
import Derived.Test.YtljgohpabdbinaaOpen
import Derived.WalkKit
import Derived.ProofKit
import Derived.OpenShut
import Derived.Test.YtljgohpabdbinaaTkLoops
import Derived.Test.YtljgohpabdbinaaTkLeast
import Derived.RegionTactic
import Derived.ChangeAlike
import Derived.WalkSmall
namespace Go.Proofs.Ytljgohpabdbinaa.tickDues
open Go.Joins Go.ChangeShapes Go.WideShapes Go.ChangeAt Go.RowKit Go.Deep
set_option linter.unusedSimpArgs false
set_option linter.unusedVariables false

section
variable {H : Type} {enc : TypeId × Value → H} {P : Program} {w : World} {base : Nat} {spare : Nat → Bool} {held : Bool}
theorem open_flat4 {r : Reach} {b0 : Nat} {t : TypeId} {f0 f1 f2 f3 : Field} {v : Value} {d : DataW H} {p : List MemPlace} (hs : P.underlying t = some (.struct #[f0, f1, f2, f3])) (hone : oneCellFields P #[f0, f1, f2, f3] = true) (hC : P.cellsOf t = 4)
    (hv : Value.okWide P w r b0 t v) (h : DataW.Trod enc P w base spare held t v d p) :
    ∃ (v0 v1 v2 v3 : Value) (y0 y1 y2 y3 : DataW H × List MemPlace) (n : Nat), v = .agg #[v0, v1, v2, v3] ∧ d = .agg [y0.1, y1.1, y2.1, y3.1] ∧ True ∧
      DataW.trod enc P w base spare held n f0.type [v0] = some y0 ∧ DataW.trod enc P w base spare held n f1.type [v1] = some y1 ∧ DataW.trod enc P w base spare held n f2.type [v2] = some y2 ∧ DataW.trod enc P w base spare held n f3.type [v3] = some y3 := by
  obtain ⟨cs, rfl, hsz⟩ := okWide_struct hs hv
  obtain ⟨l⟩ := cs
  match l, hsz.trans hC with
  | [c0, c1, c2, c3], _ =>
    obtain ⟨fuel, hf⟩ := h
    obtain ⟨xs, n, _, hx, _, hlen, hg⟩ := DataW.trod_struct hs hf
    obtain ⟨o0, k0⟩ := hone_of hone 0 f0 rfl
    obtain ⟨o1, k1⟩ := hone_of hone 1 f1 rfl
    obtain ⟨o2, k2⟩ := hone_of hone 2 f2 rfl
    obtain ⟨o3, k3⟩ := hone_of hone 3 f3 rfl
    match xs, hlen with
    | [y0, y1, y2, y3], _ =>
      simp only [Prod.mk.injEq] at hx
      exact ⟨c0, c1, c2, c3, y0, y1, y2, y3, n, rfl, by simpa using hx.1, trivial, by simpa [Value.cells, o0, k0] using hg 0 f0 rfl, by simpa [Value.cells, o1, k1] using hg 1 f1 rfl, by simpa [Value.cells, o2, k2] using hg 2 f2 rfl, by simpa [Value.cells, o3, k3] using hg 3 f3 rfl⟩
end
theorem info2 : (Try.prog.info? 2).map (fun i => (i.zero, i.size, i.bytes)) = some (some (.int .i64 0), 1, 8) := by kernel_rfl
theorem take_succ_q (l : List Int) (k : Nat) (h : k < l.length) : l.take (k + 1) = l.take k ++ [l[k]?.getD 0] := by
  rw [List.take_succ_eq_append_getElem h]; simp [h]
theorem least_own (b k c : Nat) (a : Option Addr) (zs : List Int) (hz : ∀ n ∈ zs, (Lit.int .i64 n).wf = true) (W : World) (h : W.ownsRow b 2 1 (.slice a k c) k (zs.map (.int .i64))) (hk : zs.length = k) (hm : k ≤ 12) (f : FuncId)
    (H : ∀ (b off n c : Nat) (zs : List Int) (hn : zs.length = n) (hm : n ≤ 9223372036854775807) (hz : ∀ i, i < n → zs.getD i 0 ≤ 9223372036854775807) (w : World)
    (hc : ∀ i, i < n → w.cell? ⟨b, off + i, none⟩ = some (.int .i64 (zs.getD i 0))), Calls Try.prog f #[.slice (some ⟨b, off, none⟩) n c] w fun e w' => e = .returned (.int .i64 (Tk.least zs)) ∧ w = w')
    (H0 : ∀ (a : Option Addr) (c : Nat) (w : World), Calls Try.prog f #[.slice a 0 c] w fun e w' => e = .returned (.int .i64 (Tk.least [])) ∧ w = w') :
    Calls Try.prog f #[.slice a k c] W fun e w' => e = .returned (.int .i64 (Tk.least zs)) ∧ W = w' := by
  by_cases h0 : k = 0
  · subst h0
    obtain rfl : zs = [] := List.length_eq_zero_iff.1 hk
    exact H0 _ _ _
  · rcases h with ⟨_, ⟨hv, hn⟩ | ⟨g, cap, cur, hv, hg, hh, hnc, hcm, hcs, ht⟩⟩
    · exact absurd hn h0
    · simp at hv
      obtain ⟨rfl, rfl⟩ := hv
      have hz' : ∀ i, i < k → zs.getD i 0 ≤ 9223372036854775807 := fun i hi => by
        have : zs.getD i 0 ∈ zs := by rw [List.getD_eq_getElem?_getD, List.getElem?_eq_getElem (by omega)]; simp
        exact (bounds_i64 (hz _ this)).2
      refine H g 0 k c zs hk (by omega) hz' W (fun i hi => ?_)
      have e : (cur.toList.take (k * 1))[i]? = (zs.map (Value.int .i64))[i]? := by rw [ht]
      rw [List.getElem?_take_of_lt (by omega), List.getElem?_map, List.getElem?_eq_getElem (l := zs) (by omega)] at e
      simp only [World.cell?, hh, Nat.zero_add, List.getD_eq_getElem?_getD]
      rw [List.getElem?_eq_getElem (l := zs) (by omega)]
      simpa using e
theorem heap_two (w : World) (x y : Obj) : (((w.alloc x).alloc y).drew).heap[w.heap.size + 1]? = some y := by
  show ((w.heap.push x).push y)[w.heap.size + 1]? = some y
  have e : (w.heap.push x).size = w.heap.size + 1 := by simp
  rw [← e]; exact Array.getElem?_push_size
theorem own_shape {W : World} {b : Nat} {v : Value} {n : Nat} {xs : List Value} (h : W.ownsRow b 2 1 v n xs) : ∃ a c, v = .slice a n c := by
  rcases h with ⟨_, ⟨hv, hn⟩ | ⟨g, cap, cur, hv, _⟩⟩
  · exact ⟨none, 0, by rw [hv, hn]⟩
  · exact ⟨_, _, hv⟩

theorem walk (a0_At : Int) (a0_Now : Int) (a0_D : Int) (a0_L : Option Addr) (len0_L cap0_L : Nat) (z0_L : List Int) (w : World) (w0_At : (Lit.int .i64 a0_At).wf = true) (w0_Now : (Lit.int .i64 a0_Now).wf = true) (w0_D : (Lit.int .i64 a0_D).wf = true) (w0_L : IsRow .i64 w a0_L len0_L cap0_L z0_L) :
    Calls Try.prog 5 #[.agg #[.int .i64 a0_At, .int .i64 a0_Now, .int .i64 a0_D, .slice a0_L len0_L cap0_L]] w fun e w' => e = .returned (.bool true) ∧ Below w.heap.size w w' := by
  have bA := bounds_i64 w0_At
  have bN := bounds_i64 w0_Now
  have bD := bounds_i64 w0_D
  obtain ⟨hzl, hlc, hcm, hnil, hwz, hcell⟩ := w0_L
  unfold maxLen at hcm
  obtain ⟨i0, hi, hz0, hz1, hz2⟩ := info_parts info2
  have HI := Lib.hid hi
  have HI0 := Lib.hid hz0
  have HI1 := Lib.hid hz1
  have HI2 := Lib.hid hz2
  have HZL := Lib.hid hzl
  have HNIL := Lib.hid hnil
  have HWZ := Lib.hid hwz
  have HCELL := Lib.hid hcell
  clear hi hz0 hz1 hz2 hzl hnil hwz hcell
  go_enter Try.func5, Try.ntmps5
  go_wp2
  go_region
  go_wp2
  generalize hW1 : (((w.alloc (Obj.cells #[Value.int IntKind.i64 a0_At, Value.int IntKind.i64 a0_Now, Value.int IntKind.i64 a0_D, Value.slice a0_L len0_L cap0_L] 30)).alloc (Obj.cells #[] 2)).drew) = W1
  have bel1 : Below w.heap.size w W1 := by rw [← hW1]; exact (((Below.refl _ _).alloc (Nat.le_refl _) _).alloc (by simp) _).drew
  have c2 : W1.cell? ⟨w.heap.size, 2, none⟩ = some (.int .i64 a0_D) := by rw [← hW1]; simp [go_sem]
  have c3 : W1.cell? ⟨w.heap.size, 3, none⟩ = some (.slice a0_L len0_L cap0_L) := by rw [← hW1]; simp [go_sem]
  have hs1 : W1.heap.size = w.heap.size + 2 := by rw [← hW1]; simp
  have own1 : W1.ownsRow (w.heap.size + 1) 2 1 (.slice (some ⟨w.heap.size + 1, 0, none⟩) 0 0) 0 [] := by
    refine ⟨rfl, .inr ⟨w.heap.size + 1, 0, #[], rfl, Nat.le_refl _, ?_, Nat.le_refl _, Nat.zero_le _, rfl, rfl⟩⟩
    rw [← hW1]; exact heap_two w _ _
  have HOWN := Lib.hid own1
  have HS1 := Lib.hid hs1
  have C2 := Lib.hid c2
  have C3 := Lib.hid c3
  clear hW1 own1 hs1 c2 c3
  go_loopw [5, 6] (fun v i wr => ∃ k : Nat, k ≤ len0_L ∧ k ≤ 12 ∧ i = .int .i64 k ∧ Hid (wr.ownsRow (w.heap.size + 1) 2 1 v k ((z0_L.take k).map (.int .i64))) ∧ Hid (Below (w.heap.size + 1) W1 wr)) (fun _ i _ => 12 - (intOf i).toNat)
  case atStart => exact ⟨0, by omega, by omega, rfl, HOWN, Lib.hid (Below.refl _ _)⟩
  case round =>
    obtain ⟨k, hk, hk12, rfl, HO, HB⟩ := hrel
    have c3 : wr.cell? ⟨w.heap.size, 3, none⟩ = some (.slice a0_L len0_L cap0_L) := by rw [HB.out.cell (by simp)]; exact C3.out
    by_cases hlt : k < len0_L
    · by_cases h12 : k < 12
      · obtain ⟨b, off, hab, hbl, hcl⟩ := HCELL.out (by omega)
        subst hab
        have hx : wr.cell? ⟨b, off + k, none⟩ = some (.int .i64 (z0_L.getD k 0)) := by
          rw [HB.out.cell (by simp; omega), bel1.cell (by simpa using hbl)]; exact hcl k hlt
        have HCL := Lib.hid hcl
        clear hcl
        go_wp2_with (at_builtin; refine wpList_append_own _ rfl _ _ 28 rfl (w.heap.size + 1) 2 i0 (.int .i64 0) 1 8 Try.underlying28 HI.out HI0.out HI1.out HI2.out rfl (by decide) _ _ _ rfl (HO.out.alloc _) ⟨wr.heap.size, 0, none⟩ 1 1 [.int .i64 (z0_L.getD k 0)] rfl rfl ?c1 ?c2 ?c3 ?c4 ?c5 ?_)
        case c1 =>
          intro j u hj
          match j, hj with
          | 0, hj => simp at hj; subst hj; simp [Addr.add]
        case c2 => intro u hu; simp at hu; subst hu; rfl
        case c3 => unfold maxLen; omega
        case c4 => omega
        case c5 => have := HB.out.size; have := HS1.out; simp; omega
        intro v' w1 hown' hgrow _
        have HO' := Lib.hid hown'
        have HG := Lib.hid hgrow
        clear hown' hgrow
        go_wp2
        go_roundw
        case rel =>
          refine ⟨k + 1, by omega, by omega, by go_num, ?_, ?_⟩
          · refine Lib.hid ?_
            have := HO'.out
            rw [Tk.take_succ_getD z0_L k (by rw [HZL.out]; exact hlt)]
            simpa [List.map_take] using this
          · refine Lib.hid ?_
            have hsz := HB.out.size
            have hs2 := HS1.out
            exact (HB.out.alloc (by omega) _).grown HG.out (by simp; omega) (fun j hj => (HO.out.lt j hj).1)
        case measure => simp [intOf]; omega
      · have htok : True := trivial
        obtain ⟨sa, sc, rfl⟩ := own_shape HO.out
        have hzk : (z0_L.take k).length = k := by rw [List.length_take, HZL.out]; omega
        have HZK := Lib.hid hzk
        clear hzk
        have HWK : Hid (∀ n ∈ z0_L.take k, (Lit.int .i64 n).wf = true) := Lib.hid fun n hn => HWZ.out n (List.mem_of_mem_take hn)
        have c2 : wr.cell? ⟨w.heap.size, 2, none⟩ = some (.int .i64 a0_D) := by rw [HB.out.cell (by simp)]; exact C2.out
        have bA' := bA.2
        have bN' := bN.2
        have bD' := bD.2
        have ba := Tk.add_le a0_Now a0_D
        have hl := Tk.due_left a0_At a0_Now bA.2
        by_cases hd : Tk.dueB a0_At a0_Now = true
        · have hs := Tk.due_stays a0_At a0_Now a0_D bN.2 hd
          have hl' : (Tk.left a0_At a0_Now == 0) = true := by rw [hd] at hl; simpa using hl.symm
          clear hl
          go_wp2_with (first | (go_at_call 15; refine (due_any _ _ (by omega) (by omega) _).mono ?_; rintro e w' ⟨rfl, rfl⟩) | (go_at_call 16; refine (rdue_any _ _ (by omega) (by omega) _).mono ?_; rintro e w' ⟨rfl, rfl⟩) | (go_at_call 8; refine (add_any _ _ (by omega) (by omega) _).mono ?_; rintro e w' ⟨rfl, rfl⟩) | (go_at_call 12; refine (left_any _ _ (by omega) (by omega) _).mono ?_; rintro e w' ⟨rfl, rfl⟩) | (go_at_call 17; refine (least_own _ _ _ _ _ HWK.out _ HO.out HZK.out (by omega) _ least_any least_nil).mono ?_; rintro e w' ⟨rfl, rfl⟩) | (go_at_call 18; refine (least_own _ _ _ _ _ HWK.out _ HO.out HZK.out (by omega) _ rleast_any rleast_nil).mono ?_; rintro e w' ⟨rfl, rfl⟩) | (go_at_call 14; refine (lives_any _).mono ?_; rintro e w' ⟨rfl, nq, rfl⟩))
          go_ret
          exact ⟨rfl, below_drewN (bel1.trans (HB.out.mono (by omega))) _⟩
        · have hd' : Tk.dueB a0_At a0_Now = false := by simpa using hd
          have hl' : (Tk.left a0_At a0_Now == 0) = false := by rw [hd'] at hl; simpa using hl.symm
          clear hl hd
          go_wp2_with (first | (go_at_call 15; refine (due_any _ _ (by omega) (by omega) _).mono ?_; rintro e w' ⟨rfl, rfl⟩) | (go_at_call 16; refine (rdue_any _ _ (by omega) (by omega) _).mono ?_; rintro e w' ⟨rfl, rfl⟩) | (go_at_call 8; refine (add_any _ _ (by omega) (by omega) _).mono ?_; rintro e w' ⟨rfl, rfl⟩) | (go_at_call 12; refine (left_any _ _ (by omega) (by omega) _).mono ?_; rintro e w' ⟨rfl, rfl⟩) | (go_at_call 17; refine (least_own _ _ _ _ _ HWK.out _ HO.out HZK.out (by omega) _ least_any least_nil).mono ?_; rintro e w' ⟨rfl, rfl⟩) | (go_at_call 18; refine (least_own _ _ _ _ _ HWK.out _ HO.out HZK.out (by omega) _ rleast_any rleast_nil).mono ?_; rintro e w' ⟨rfl, rfl⟩) | (go_at_call 14; refine (lives_any _).mono ?_; rintro e w' ⟨rfl, nq, rfl⟩))
          go_ret
          exact ⟨rfl, below_drewN (bel1.trans (HB.out.mono (by omega))) _⟩
    · have htok : True := trivial
      obtain ⟨sa, sc, rfl⟩ := own_shape HO.out
      have hzk : (z0_L.take k).length = k := by rw [List.length_take, HZL.out]; omega
      have HZK := Lib.hid hzk
      clear hzk
      have HWK : Hid (∀ n ∈ z0_L.take k, (Lit.int .i64 n).wf = true) := Lib.hid fun n hn => HWZ.out n (List.mem_of_mem_take hn)
      have c2 : wr.cell? ⟨w.heap.size, 2, none⟩ = some (.int .i64 a0_D) := by rw [HB.out.cell (by simp)]; exact C2.out
      have bA' := bA.2
      have bN' := bN.2
      have bD' := bD.2
      have ba := Tk.add_le a0_Now a0_D
      have hl := Tk.due_left a0_At a0_Now bA.2
      by_cases hd : Tk.dueB a0_At a0_Now = true
      · have hs := Tk.due_stays a0_At a0_Now a0_D bN.2 hd
        have hl' : (Tk.left a0_At a0_Now == 0) = true := by rw [hd] at hl; simpa using hl.symm
        clear hl
        go_wp2_with (first | (go_at_call 15; refine (due_any _ _ (by omega) (by omega) _).mono ?_; rintro e w' ⟨rfl, rfl⟩) | (go_at_call 16; refine (rdue_any _ _ (by omega) (by omega) _).mono ?_; rintro e w' ⟨rfl, rfl⟩) | (go_at_call 8; refine (add_any _ _ (by omega) (by omega) _).mono ?_; rintro e w' ⟨rfl, rfl⟩) | (go_at_call 12; refine (left_any _ _ (by omega) (by omega) _).mono ?_; rintro e w' ⟨rfl, rfl⟩) | (go_at_call 17; refine (least_own _ _ _ _ _ HWK.out _ HO.out HZK.out (by omega) _ least_any least_nil).mono ?_; rintro e w' ⟨rfl, rfl⟩) | (go_at_call 18; refine (least_own _ _ _ _ _ HWK.out _ HO.out HZK.out (by omega) _ rleast_any rleast_nil).mono ?_; rintro e w' ⟨rfl, rfl⟩) | (go_at_call 14; refine (lives_any _).mono ?_; rintro e w' ⟨rfl, nq, rfl⟩))
        go_ret
        exact ⟨rfl, below_drewN (bel1.trans (HB.out.mono (by omega))) _⟩
      · have hd' : Tk.dueB a0_At a0_Now = false := by simpa using hd
        have hl' : (Tk.left a0_At a0_Now == 0) = false := by rw [hd'] at hl; simpa using hl.symm
        clear hl hd
        go_wp2_with (first | (go_at_call 15; refine (due_any _ _ (by omega) (by omega) _).mono ?_; rintro e w' ⟨rfl, rfl⟩) | (go_at_call 16; refine (rdue_any _ _ (by omega) (by omega) _).mono ?_; rintro e w' ⟨rfl, rfl⟩) | (go_at_call 8; refine (add_any _ _ (by omega) (by omega) _).mono ?_; rintro e w' ⟨rfl, rfl⟩) | (go_at_call 12; refine (left_any _ _ (by omega) (by omega) _).mono ?_; rintro e w' ⟨rfl, rfl⟩) | (go_at_call 17; refine (least_own _ _ _ _ _ HWK.out _ HO.out HZK.out (by omega) _ least_any least_nil).mono ?_; rintro e w' ⟨rfl, rfl⟩) | (go_at_call 18; refine (least_own _ _ _ _ _ HWK.out _ HO.out HZK.out (by omega) _ rleast_any rleast_nil).mono ?_; rintro e w' ⟨rfl, rfl⟩) | (go_at_call 14; refine (lives_any _).mono ?_; rintro e w' ⟨rfl, nq, rfl⟩))
        go_ret
        exact ⟨rfl, below_drewN (bel1.trans (HB.out.mono (by omega))) _⟩

set_option maxRecDepth 100000 in
theorem lifted (os : Os) (started : os.Started) (H : Type) (enc : TypeId × Value → H) :
    ReturnsInHanded {} Try.checked os 5 .any (Rows.tickDuesSpec.pre6 enc Try.prog Try.f5 Rows.tickDuesRow.domain false) (Rows.tickDuesSpec.post enc Try.prog Try.f5 false true false false) := by
  refine returnsInHanded_of_change (C := Try.checked) ownKn started (by kernel_rfl) Try.func5
    (ChangeSpec.witness6 (enc := enc) (C := Try.checked) false ⟨#[], #[.agg #[.int .i64 0, .int .i64 0, .int .i64 0, .slice none 0 0]], []⟩ 8 (by kernel_rfl) (by kernel_rfl) (by kernel_rfl) (by kernel_rfl)) ?_
  intro W base args ds gs before hval0 hW hcnd _
  have hval : ∀ (j : Nat) t v, Try.f5.params[j]? = some t → args[j]? = some v → Value.okWide Try.prog W .any base t v := hval0
  have hW' := hW
  obtain ⟨p, q, hA0, hV, rfl, hfz, hnd⟩ := hW
  have hA : DataW.TrodAll enc Try.prog W 0 (fun _ => true) true Try.f5.params.toList args.toList ds p := hA0
  rw [Try.params5] at hA hval
  obtain ⟨v0, vs0, d0, ds0, p0, q0, hargs, rfl, rfl, h0, r0⟩ := trodAll_cons hA
  obtain ⟨rfl, rfl, rfl⟩ := trodAll_nil r0
  obtain rfl : args = #[v0] := by cases args; simp_all
  obtain ⟨rfl, rfl⟩ := trodVars_none hV
  have k0 := h0
  have lt0 : ∀ x ∈ p0, x.block < W.heap.size := by obtain ⟨m, hm⟩ := k0; exact DataW.trod_lt m _ _ _ hm
  obtain ⟨u0_0, u0_1, u0_2, u0_3, y0_0, y0_1, y0_2, y0_3, nn0, rfl, _, _, g0_0, g0_1, g0_2, g0_3⟩ := open_flat4 Try.underlying30 (by kernel_rfl) (by kernel_rfl) (hval 0 30 v0 rfl rfl) h0
  obtain ⟨a0_At, rfl, w0_At⟩ := fld_int Try.underlying2 g0_0
  obtain ⟨a0_Now, rfl, w0_Now⟩ := fld_int Try.underlying2 g0_1
  obtain ⟨a0_D, rfl, w0_D⟩ := fld_int Try.underlying2 g0_2
  obtain ⟨a0_L, len0_L, cap0_L, z0_L, rfl, w0_L⟩ := fld_row Try.underlying28 Try.underlying2 (by kernel_rfl) g0_3
  clear hA0 hval0
  refine (walk a0_At a0_Now a0_D a0_L len0_L cap0_L z0_L W w0_At w0_Now w0_D w0_L).mono fun e W' ⟨he, bel⟩ => ?_
  subst he
  exact ⟨_, rfl, _, _, _, [], _, [], hW', trodAll_mk1 (shut_bool Try.underlying4 _), (trodAll_cons_mk (Below.trod laidOut (by kernel_rfl) (of_decide_eq_true (by kernel_rfl)) k0 bel lt0) trodAll_mk0), rfl, bel.frame _, fun h => by cases h⟩

theorem over : Rows.tickDuesRow.holds Try.pinned (OpenSpec.ofChange Rows.tickDuesSpec) :=
  OpenClaim.holds_of_wide 5 Try.f5 rfl rfl rfl rfl rfl rfl rfl ⟨rfl, rfl, rfl, rfl, rfl⟩ rfl rfl rfl rfl rfl (by kernel_rfl) Try.func5 (by kernel_rfl)
    (of_decide_eq_true (by kernel_rfl)) (by unfold Func.isWrapper; first | (rw [if_pos (by decide +kernel)]; kernel_rfl) | (rw [if_neg (by decide +kernel)]; exact ⟨rfl, rfl⟩))
    (fun os started H enc _ => lifted os started H enc)

/-- The statement. -/
theorem proved : Rows.TickDuesSaid := over
#print axioms proved
end Go.Proofs.Ytljgohpabdbinaa.tickDues
