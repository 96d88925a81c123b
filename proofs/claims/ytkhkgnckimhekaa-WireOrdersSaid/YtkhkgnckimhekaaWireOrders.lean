/- P25.3: for every texts that come and every pieces that are taken: what is read is what came, in order, each byte once. No condition. -/
import Derived.Test.YtkhkgnckimhekaaOpen
import Derived.WalkKit
import Derived.ProofKit
import Derived.OpenShut
import Derived.Test.YtkhkgnckimhekaaWireOrd
namespace Go.Proofs.Ytkhkgnckimhekaa.wireOrders
open Go.Joins Go.ChangeShapes Go.WideShapes Go.ChangeAt Go.RowKit Go.Deep
open Go.ChangeMaps (open_string)
set_option linter.unusedSimpArgs false
set_option linter.unusedVariables false

theorem cut_any (s : ByteArray) (hs : s.size ≤ 9223372036854775807) (w : World) :
    Calls Try.prog 8 #[.string s, .int .i64 15] w fun e w' => ∃ T : ByteArray, T.size ≤ 15 ∧ e = .returned (.string T) ∧ w = w' := by
  by_cases h : 15 < s.size
  · go_enter Try.func8, Try.ntmps8
    go_wp2
    go_ret
    exact ⟨s.extract 0 15, by rw [ByteArray.size_extract]; omega, rfl, rfl⟩
  · go_enter Try.func8, Try.ntmps8
    go_wp2
    go_ret
    exact ⟨s, by omega, rfl, rfl⟩
theorem len_any (b : Nat) (a : Option Addr) (len cap : Nat) (en : Bool) (se re : Nat) (w : World) (h : WAt w b (.slice a len cap) en se re) :
    Calls Try.prog 18 #[.pointer (some ⟨b, 0, none⟩)] w fun e w' => e = .returned (.int .i64 len) ∧ w = w' := by
  obtain ⟨h0, h1, h2, h3, f0, f1, f2, f3⟩ := h
  go_enter Try.func18, Try.ntmps18
  go_wp2
  go_ret
  exact ⟨rfl, rfl⟩
theorem sent_any (b : Nat) (v : Value) (en : Bool) (se re : Nat) (w : World) (h : WAt w b v en se re) :
    Calls Try.prog 19 #[.pointer (some ⟨b, 0, none⟩)] w fun e w' => e = .returned (.int .i64 se) ∧ w = w' := by
  obtain ⟨h0, h1, h2, h3, f0, f1, f2, f3⟩ := h
  go_enter Try.func19, Try.ntmps19
  go_wp2
  go_ret
  exact ⟨rfl, rfl⟩
theorem read_any (b : Nat) (v : Value) (en : Bool) (se re : Nat) (w : World) (h : WAt w b v en se re) :
    Calls Try.prog 20 #[.pointer (some ⟨b, 0, none⟩)] w fun e w' => e = .returned (.int .i64 re) ∧ w = w' := by
  obtain ⟨h0, h1, h2, h3, f0, f1, f2, f3⟩ := h
  go_enter Try.func20, Try.ntmps20
  go_wp2
  go_ret
  exact ⟨rfl, rfl⟩
theorem HV_shape {w : World} {B : Nat} {v : Value} {S : ByteArray} (h : HV w B v S) : ∃ a c, v = .slice a S.size c := by
  rcases h with ⟨rfl, h0⟩ | ⟨g, o, cap, rfl, _⟩
  · exact ⟨none, 0, by rw [h0]⟩
  · exact ⟨_, _, rfl⟩
theorem HV_drewN {w : World} {B : Nat} {v : Value} {S : ByteArray} (h : HV w B v S) (n : Nat) : HV (w.drewN n) B v S := by
  rcases h with h | ⟨g, o, cap, hv, h⟩
  · exact Or.inl h
  · exact Or.inr ⟨g, o, cap, hv, h.drewN n⟩
theorem peek_at (b B : Nat) (v : Value) (S : ByteArray) (en : Bool) (se re : Nat) (n : Int) (w : World) (hn : S.size ≤ n) (h : WAt w b v en se re) (ha : HV w B v S) :
    Calls Try.prog 17 #[.pointer (some ⟨b, 0, none⟩), .int .i64 n] w fun e w' => e = .returned (.string S) ∧ ∃ q, w' = w.drewN q := by
  have hall : S.extract 0 S.size = S := by simp
  rcases ha with ⟨rfl, h0⟩ | ⟨g, o, cap, rfl, ha⟩
  · have : S = ⟨#[]⟩ := ByteArray.ext (Array.eq_empty_of_size_eq_zero (by simpa using h0))
    rw [this]
    exact peek_nil b en se re n (by omega) w h
  · have := peek_any b g o S.size cap S.size S en se re n w rfl ha.1 ha.2.1 (by omega) h ha.2.2.2.1
    rw [hall] at this
    exact this
set_option maxRecDepth 20000 in
set_option maxHeartbeats 2000000 in

theorem walk (a0 : Option Addr) (len0 cap0 : Nat) (z0 : List ByteArray) (a1 : Option Addr) (len1 cap1 : Nat) (z1 : List Int) (w : World) (w0 : IsStrs w a0 len0 cap0 z0) (w1 : IsRow .u8 w a1 len1 cap1 z1) :
    Calls Try.prog 4 #[.slice a0 len0 cap0, .slice a1 len1 cap1] w fun e w' => e = .returned (.bool true) ∧ Below w.heap.size w w' := by
  obtain ⟨hzl, hlc, hcm, hnil, hwz, hcell⟩ := w0
  obtain ⟨hzl1, hlc1, hcm1, hnil1, hwz1, hcell1⟩ := w1
  unfold maxLen at hcm hcm1 hwz
  have HCELL := Lib.hid hcell
  have HNIL := Lib.hid hnil
  have HWZ := Lib.hid hwz
  have HZL := Lib.hid hzl
  have HC1 := Lib.hid hcell1
  have HN1 := Lib.hid hnil1
  have HWZ1 := Lib.hid hwz1
  have HZL1 := Lib.hid hzl1
  clear hcell hnil hwz hzl hcell1 hnil1 hwz1 hzl1
  go_enter Try.func4, Try.ntmps4
  go_wp2_with (go_at_call 7; go_in)
  have HP0 : Hid (WAt (w.alloc (Obj.cells #[.slice none 0 0, .bool false, .int .i64 0, .int .i64 0] 47)) w.heap.size (.slice none 0 0) false 0 0) :=
    ⟨by simp [go_sem], by simp [go_sem], by simp [go_sem], by simp [go_sem], by simp [go_sem], by simp [go_sem], by simp [go_sem], by simp [go_sem]⟩
  have HB0 : Hid (Below w.heap.size w (w.alloc (Obj.cells #[.slice none 0 0, .bool false, .int .i64 0, .int .i64 0] 47))) := Lib.hid ((Below.refl _ _).alloc (Nat.le_refl _) _)
  go_loopw [6, 7, 8] (fun gi go i wr => ∃ (k : Nat) (I O S : ByteArray) (v : Value), k ≤ 20 ∧ k ≤ len0 ∧ gi = .string I ∧ go = .string O ∧ i = .int .i64 k ∧ O ++ S = I ∧ I.size ≤ 15 * k ∧ Hid (WAt wr w.heap.size v false I.size O.size) ∧ Hid (HV wr (w.heap.size + 1) v S) ∧ Hid (Below w.heap.size w wr)) (fun _ _ i _ => 20 - (intOf i).toNat)
  case atStart => exact ⟨0, ByteArray.empty, ByteArray.empty, ByteArray.empty, _, by omega, by omega, rfl, rfl, rfl, by simp, by simp, HP0, Lib.hid (Or.inl ⟨rfl, by simp⟩), HB0⟩
  case round =>
    clear HP0 HB0
    obtain ⟨k, I, O, S, v, hk20, hkl, rfl, rfl, rfl, hx, hI, HP, HH, HB⟩ := hrel
    have hIS : I.size = O.size + S.size := by rw [← hx, ByteArray.size_append]
    have hsz : w.heap.size + 1 ≤ wr.heap.size := World.block_lt_of_cell? _ _ HP.out.1
    by_cases hlt : k < len0
    · by_cases h20 : k < 20
      · obtain ⟨bb, off, hab, hbl, hcl⟩ := HCELL.out (by omega)
        subst hab
        have hy : wr.cell? ⟨bb, off + k, none⟩ = some (.string (z0.getD k ByteArray.empty)) := by rw [HB.out.cell (by simpa using hbl)]; exact hcl k hlt
        have hsl : (z0.getD k ByteArray.empty).size ≤ 9223372036854775807 := by
          have hl := HZL.out
          have : z0.getD k ByteArray.empty = z0[k]'(by omega) := by simp [List.getD, List.getElem?_eq_getElem (show k < z0.length by omega)]
          rw [this]
          exact HWZ.out _ (List.getElem_mem _)
        have HCL := Lib.hid hcl
        clear hcl
        go_wp2_with (go_at_call 8; refine (cut_any _ hsl _).mono ?_; rintro e w' ⟨T, hT, rfl, rfl⟩)
        refine (offer_at w.heap.size (w.heap.size + 1) v S T I.size O.size false _ (by omega) (by omega) (by omega) (by omega) hsz HP.out HH.out).mono ?_
        rintro e w1 ⟨v1, rfl, hw1, hh1, hb1⟩
        have HP1 := Lib.hid hw1
        have HH1 := Lib.hid hh1
        have HB1 := Lib.hid (HB.out.trans hb1)
        have hx1 : O ++ (S ++ T) = I ++ T := by rw [← ByteArray.append_assoc, hx]
        have hsz1 : w.heap.size + 1 ≤ w1.heap.size := World.block_lt_of_cell? _ _ hw1.1
        have hSz1 : (S ++ T).size = S.size + T.size := ByteArray.size_append
        have hIT : (I ++ T).size = I.size + T.size := ByteArray.size_append
        rw [← hIT] at HP1
        clear hw1 hh1 hb1 HP HH HB hy
        by_cases hk1 : k < len1
        · obtain ⟨bb1, off1, hab1, hbl1, hcl1⟩ := HC1.out (by omega)
          subst hab1
          obtain ⟨z, hz⟩ : ∃ z, z1.getD k 0 = z := ⟨_, rfl⟩
          have hy1 : w1.cell? ⟨bb1, off1 + k, none⟩ = some (.int .u8 z) := by rw [← hz]; rw [HB1.out.cell (by simpa using hbl1)]; exact hcl1 k hk1
          have bz : 0 ≤ z ∧ z ≤ 255 := by
            rw [← hz]
            have hl := HZL1.out
            have : z1.getD k 0 = z1[k]'(by omega) := by simp [List.getD, List.getElem?_eq_getElem (show k < z1.length by omega)]
            rw [this]
            exact bounds_u8 (HWZ1.out _ (List.getElem_mem _))
          have ht : z.tmod 9 = z % 9 := Int.tmod_eq_emod_of_nonneg bz.1
          have HCL1 := Lib.hid hcl1
          clear hcl1 hz
          go_wp2_with fail
          refine (take_at w.heap.size (w.heap.size + 1) v1 (S ++ T) false (I ++ T).size O.size _ _ (by omega) (by omega) (by omega) (by omega) HP1.out HH1.out).mono ?_
          rintro e w2 ⟨j, v2, hj, _, rfl, hw2, hh2, hb2⟩
          have HP2 := Lib.hid hw2
          have HH2 := Lib.hid hh2
          have HB2 := Lib.hid (HB1.out.trans (hb2.mono (Nat.le_refl _)))
          have hx2 : (O ++ (S ++ T).extract 0 j) ++ (S ++ T).extract j (S ++ T).size = I ++ T := by
            rw [ByteArray.append_assoc, ByteArray.extract_append_extract, ← hx1]; congr 1; rw [show min 0 j = 0 by omega, show max j (S ++ T).size = (S ++ T).size by omega]; exact ByteArray.extract_zero_size
          have hOz : (O ++ (S ++ T).extract 0 j).size = O.size + j := by rw [ByteArray.size_append, ByteArray.size_extract]; omega
          rw [← hOz] at HP2
          clear hw2 hh2 hb2 HP1 HH1 HB1 hy1 hx1
          go_wp2
          refine ⟨?_, ?measure⟩
          repeat apply Exists.intro
          refine ⟨?rel, rfl⟩
          case rel => exact ⟨k + 1, I ++ T, _, _, v2, by omega, by omega, rfl, rfl, by go_num, hx2, by omega, HP2, HH2, HB2⟩
          case measure => simp [intOf]; omega
        · go_wp2
          refine ⟨?_, ?measure⟩
          repeat apply Exists.intro
          refine ⟨?rel, rfl⟩
          case rel => exact ⟨k + 1, I ++ T, O, S ++ T, v1, by omega, by omega, rfl, rfl, by go_num, hx1, by omega, HP1, HH1, HB1⟩
          case measure => simp [intOf]; omega
      · clear HCELL HNIL HC1 HN1
        have hS4 : (S.size : Int) ≤ 400 := by omega
        go_wp2_with fail
        refine (peek_at w.heap.size _ v S false I.size O.size 400 _ hS4 HP.out HH.out).mono ?_
        rintro e w1 ⟨rfl, q, rfl⟩
        have HP1 := Lib.hid (HP.out.drewN q)
        have HH1 := Lib.hid (HV_drewN HH.out q)
        have HB1 := Lib.hid (below_drewN HB.out q)
        have hs1 : w.heap.size + 1 ≤ (wr.drewN q).heap.size := by simpa using hsz
        clear HP HH HB hsz
        revert HP1 HH1 HB1 hs1
        generalize wr.drewN q = w1
        intro HP1 HH1 HB1 hs1
        obtain ⟨a, c, rfl⟩ := HV_shape HH1.out
        go_wp2_with (go_at_call 18; refine (len_any _ _ _ _ _ _ _ _ HP1.out).mono ?_; rintro e w' ⟨rfl, rfl⟩)
        refine (take_at w.heap.size (w.heap.size + 1) _ S false I.size O.size S.size _ (by omega) (by omega) (by omega) (by omega) HP1.out HH1.out).mono ?_
        rintro e w2 ⟨k, v', hk, hk2, rfl, hw2, hh2, hb2⟩
        obtain rfl : k = S.size := hk2 (Int.le_refl _)
        have HP2 := Lib.hid hw2
        have HB2 := Lib.hid (HB1.out.trans (hb2.mono (Nat.le_refl _)))
        obtain ⟨a2, c2, rfl⟩ := HV_shape hh2
        have hz2 : (S.extract S.size S.size).size = 0 := by rw [ByteArray.size_extract]; omega
        rw [hz2] at HP2
        have hex : S.extract 0 S.size = S := by simp
        rw [hex]
        have hq : O.size + S.size = I.size := by omega
        rw [hq] at HP2
        have hO4 : (O.size : Int) ≤ 400 := by omega
        clear HP1 HH1 HB1 hw2 hh2 hb2 hz2 hq hIS hk hk2
        go_wp2_with (first | (go_at_call 18; refine (len_any _ _ _ _ _ _ _ _ HP2.out).mono ?_; rintro e w' ⟨rfl, rfl⟩) | (go_at_call 19; refine (sent_any _ _ _ _ _ _ HP2.out).mono ?_; rintro e w' ⟨rfl, rfl⟩) | (go_at_call 20; refine (read_any _ _ _ _ _ _ HP2.out).mono ?_; rintro e w' ⟨rfl, rfl⟩) | (go_at_call 16; refine (lives_any _).mono ?_; rintro e w4 ⟨rfl, hb⟩))
        go_ret
        exact ⟨rfl, HB2.out.trans (Below.mono (by assumption) HB2.out.size)⟩
    · clear HCELL HNIL HC1 HN1
      have hS4 : (S.size : Int) ≤ 400 := by omega
      go_wp2_with fail
      refine (peek_at w.heap.size _ v S false I.size O.size 400 _ hS4 HP.out HH.out).mono ?_
      rintro e w1 ⟨rfl, q, rfl⟩
      have HP1 := Lib.hid (HP.out.drewN q)
      have HH1 := Lib.hid (HV_drewN HH.out q)
      have HB1 := Lib.hid (below_drewN HB.out q)
      have hs1 : w.heap.size + 1 ≤ (wr.drewN q).heap.size := by simpa using hsz
      clear HP HH HB hsz
      revert HP1 HH1 HB1 hs1
      generalize wr.drewN q = w1
      intro HP1 HH1 HB1 hs1
      obtain ⟨a, c, rfl⟩ := HV_shape HH1.out
      go_wp2_with (go_at_call 18; refine (len_any _ _ _ _ _ _ _ _ HP1.out).mono ?_; rintro e w' ⟨rfl, rfl⟩)
      refine (take_at w.heap.size (w.heap.size + 1) _ S false I.size O.size S.size _ (by omega) (by omega) (by omega) (by omega) HP1.out HH1.out).mono ?_
      rintro e w2 ⟨k, v', hk, hk2, rfl, hw2, hh2, hb2⟩
      obtain rfl : k = S.size := hk2 (Int.le_refl _)
      have HP2 := Lib.hid hw2
      have HB2 := Lib.hid (HB1.out.trans (hb2.mono (Nat.le_refl _)))
      obtain ⟨a2, c2, rfl⟩ := HV_shape hh2
      have hz2 : (S.extract S.size S.size).size = 0 := by rw [ByteArray.size_extract]; omega
      rw [hz2] at HP2
      have hex : S.extract 0 S.size = S := by simp
      rw [hex]
      have hq : O.size + S.size = I.size := by omega
      rw [hq] at HP2
      have hO4 : (O.size : Int) ≤ 400 := by omega
      clear HP1 HH1 HB1 hw2 hh2 hb2 hz2 hq hIS hk hk2
      go_wp2_with (first | (go_at_call 18; refine (len_any _ _ _ _ _ _ _ _ HP2.out).mono ?_; rintro e w' ⟨rfl, rfl⟩) | (go_at_call 19; refine (sent_any _ _ _ _ _ _ HP2.out).mono ?_; rintro e w' ⟨rfl, rfl⟩) | (go_at_call 20; refine (read_any _ _ _ _ _ _ HP2.out).mono ?_; rintro e w' ⟨rfl, rfl⟩) | (go_at_call 16; refine (lives_any _).mono ?_; rintro e w4 ⟨rfl, hb⟩))
      go_ret
      exact ⟨rfl, HB2.out.trans (Below.mono (by assumption) HB2.out.size)⟩

set_option maxRecDepth 100000 in
theorem lifted (os : Os) (started : os.Started) (H : Type) (enc : TypeId × Value → H) :
    ReturnsInHanded {} Try.checked os 4 .any (Rows.wireOrdersSpec.pre6 enc Try.prog Try.f4 Rows.wireOrdersRow.domain false) (Rows.wireOrdersSpec.post enc Try.prog Try.f4 false true false false) := by
  refine returnsInHanded_of_change (C := Try.checked) ownKn started (by kernel_rfl) Try.func4
    (ChangeSpec.witness6 (enc := enc) (C := Try.checked) false ⟨#[], #[.slice none 0 0, .slice none 0 0], []⟩ 8 (by kernel_rfl) (by kernel_rfl) (by kernel_rfl) (by kernel_rfl)) ?_
  intro W base args ds gs before hval0 hW hcnd _
  have hval : ∀ (j : Nat) t v, Try.f4.params[j]? = some t → args[j]? = some v → Value.okWide Try.prog W .any base t v := hval0
  have hW' := hW
  obtain ⟨p, q, hA0, hV, rfl, hfz, hnd⟩ := hW
  have hA : DataW.TrodAll enc Try.prog W 0 (fun _ => true) true Try.f4.params.toList args.toList ds p := hA0
  rw [Try.params4] at hA hval
  obtain ⟨v0, vs0, d0, ds0, p0, q0, hargs, rfl, rfl, h0, r0⟩ := trodAll_cons hA
  obtain ⟨v1, vs1, d1, ds1, p1, q1, rfl, rfl, rfl, h1, r1⟩ := trodAll_cons r0
  obtain ⟨rfl, rfl, rfl⟩ := trodAll_nil r1
  obtain rfl : args = #[v0, v1] := by cases args; simp_all
  obtain ⟨rfl, rfl⟩ := trodVars_none hV
  have k0 := h0
  have lt0 : ∀ x ∈ p0, x.block < W.heap.size := by obtain ⟨m, hm⟩ := k0; exact DataW.trod_lt m _ _ _ hm
  obtain ⟨b0, lb0, cb0, rfl⟩ := okWide_slice Try.underlying41 (hval 0 41 v0 rfl rfl)
  obtain ⟨fu0, hf0⟩ := h0
  simp only [Value.cells] at hf0
  obtain ⟨a0, len0, cap0, z0, e0, w0⟩ := fld_strs Try.underlying41 Try.underlying9 (by kernel_rfl) hf0
  obtain ⟨rfl, rfl, rfl⟩ : b0 = a0 ∧ lb0 = len0 ∧ cb0 = cap0 := by simpa using e0
  have k1 := h1
  have lt1 : ∀ x ∈ p1, x.block < W.heap.size := by obtain ⟨m, hm⟩ := k1; exact DataW.trod_lt m _ _ _ hm
  obtain ⟨b1, lb1, cb1, rfl⟩ := okWide_slice Try.underlying42 (hval 1 42 v1 rfl rfl)
  obtain ⟨fu1, hf1⟩ := h1
  simp only [Value.cells] at hf1
  obtain ⟨a1, len1, cap1, z1, e1, w1⟩ := fld_row Try.underlying42 Try.underlying5 (by kernel_rfl) hf1
  obtain ⟨rfl, rfl, rfl⟩ : b1 = a1 ∧ lb1 = len1 ∧ cb1 = cap1 := by simpa using e1
  clear hA0 hval0
  refine (walk b0 lb0 cb0 z0 b1 lb1 cb1 z1 W w0 w1).mono fun e W' ⟨he, bel⟩ => ?_
  subst he
  exact ⟨_, rfl, _, _, _, [], _, [], hW', trodAll_mk1 (shut_bool Try.underlying4 _), (trodAll_cons_mk (Below.trod laidOut (by kernel_rfl) (of_decide_eq_true (by kernel_rfl)) k0 bel lt0) (trodAll_cons_mk (Below.trod laidOut (by kernel_rfl) (of_decide_eq_true (by kernel_rfl)) k1 bel lt1) trodAll_mk0)), rfl, bel.frame _, fun h => by cases h⟩

theorem over : Rows.wireOrdersRow.holds Try.pinned (OpenSpec.ofChange Rows.wireOrdersSpec) :=
  OpenClaim.holds_of_wide 4 Try.f4 rfl rfl rfl rfl rfl rfl rfl ⟨rfl, rfl, rfl, rfl, rfl⟩ rfl rfl rfl rfl rfl (by kernel_rfl) Try.func4 (by kernel_rfl)
    (of_decide_eq_true (by kernel_rfl)) (by unfold Func.isWrapper; first | (rw [if_pos (by decide +kernel)]; kernel_rfl) | (rw [if_neg (by decide +kernel)]; exact ⟨rfl, rfl⟩))
    (fun os started H enc _ => lifted os started H enc)

/-- The statement. -/
theorem proved : Rows.WireOrdersSaid := over
#print axioms proved
end Go.Proofs.Ytkhkgnckimhekaa.wireOrders
