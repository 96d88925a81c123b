/- P28.1: for every number: there are 4096 numbers, and no more. No condition. -/
import Derived.Test.YthofnpcaeopojaaOpen
import Derived.WalkKit
import Derived.ProofKit
import Derived.OpenShut
import Derived.Test.YthofnpcaeopojaaSl4
namespace Go.Proofs.Ythofnpcaeopojaa.slotsEnd
open Go.Joins Go.ChangeShapes Go.WideShapes Go.ChangeAt Go.RowKit Go.Deep
open Go.ChangeMaps (open_string)
set_option linter.unusedSimpArgs false
set_option linter.unusedVariables false

theorem idx4 : Lib.idxOf [-1, -1, -1, -1] (-1) = ((0 : Nat) : Int) := by decide
theorem new_4 (w : World) : Calls Try.prog 7 #[.int .i64 4] w fun e w' => ∃ s g m : Nat, e = .returned (.pointer (some ⟨s, 0, none⟩)) ∧ SB w w' s g m 4 [-1, -1, -1, -1] [] 0 0 := sb_new 4 4 w (by decide)
theorem op_4 {w0 w : World} {s g m c k : Nat} (hk : k < 6) (h : SB w0 w s g m 4 [-1, -1, -1, -1] [] c (4090 + (k : Int))) : Calls Try.prog 10 #[.pointer (some ⟨s, 0, none⟩)] w fun e w' => e = .returned (.tuple #[.int .i64 (4090 + (k : Int)), .int .i64 0, .bool true]) ∧ SB w0 w' s g m 4 [4090 + (k : Int), -1, -1, -1] [(4090 + (k : Int), 0, c)] (c + 1) (4090 + (k : Int) + 1) :=
  (sl_open s g m 4 [-1, -1, -1, -1] [] c (4090 + (k : Int)) 0 w (by decide) (by omega) (by omega) (by decide) idx4 rfl (by simp) h.1).mono fun e w' ⟨he, k1, k2⟩ => ⟨he, h.to k1 k2 (three s g m)⟩
theorem cl_4 {w0 w : World} {s g m c : Nat} {id nx : Int} (h : SB w0 w s g m 4 [id, -1, -1, -1] [(id, 0, c)] (c + 1) nx) : Calls Try.prog 12 #[.pointer (some ⟨s, 0, none⟩), .int .i64 id] w fun e w' => e = .returned (.bool true) ∧ SB w0 w' s g m 4 [-1, -1, -1, -1] [] (c + 1) nx :=
  (sl_close s g m 4 [id, -1, -1, -1] [(id, 0, c)] (c + 1) nx id 0 0 w (by decide) (by decide) h.1 (by simp [mIdx])).mono fun e w' ⟨he, k1, k2⟩ => ⟨he, h.to k1 k2 (three s g m)⟩
theorem sk_4 {w0 w : World} {s g m c : Nat} {k : Nat} (hk : k < 4096) (h : SB w0 w s g m 4 [-1, -1, -1, -1] [] c k) : Calls Try.prog 11 #[.pointer (some ⟨s, 0, none⟩)] w fun e w' => e = .returned (.int .i64 k) ∧ SB w0 w' s g m 4 [-1, -1, -1, -1] [] c ((k + 1 : Nat) : Int) :=
  (sl_skip s g m 4 [-1, -1, -1, -1] [] c k w (by omega) (by omega) h.1).mono fun e w' ⟨he, k1, k2⟩ => ⟨he, h.to (by rw [Int.natCast_add]; exact k1) k2 (oneS s g m)⟩
/-- The next number behind so many rounds. -/
def nxt (k : Nat) : Int := if k < 6 then 4090 + (k : Int) else 4096
theorem nxt_lt {k : Nat} (h : k < 6) : nxt k = 4090 + (k : Int) := by unfold nxt; rw [if_pos h]
theorem nxt_ge {k : Nat} (h : ¬ k < 6) : nxt k = 4096 := by unfold nxt; rw [if_neg h]
theorem nxt_step {k : Nat} (h : k < 6) : 4090 + (k : Int) + 1 = nxt (k + 1) := by unfold nxt; split <;> omega
theorem op_e {w0 w : World} {s g m c : Nat} (h : SB w0 w s g m 4 [-1, -1, -1, -1] [] c 4096) : Calls Try.prog 10 #[.pointer (some ⟨s, 0, none⟩)] w fun e w' => e = .returned (.tuple #[.int .i64 0, .int .i64 0, .bool false]) ∧ w = w' := sl_open_end s g m 4 _ _ _ 4096 w (by decide) h.1
theorem cl_e {w0 w : World} {s g m c : Nat} {nx : Int} (h : SB w0 w s g m 4 [-1, -1, -1, -1] [] c nx) : Calls Try.prog 12 #[.pointer (some ⟨s, 0, none⟩), .int .i64 0] w fun e w' => e = .returned (.bool false) ∧ w = w' := sl_close_no s g m 4 _ _ _ nx 0 w h.1 rfl
theorem sk_e {w0 w : World} {s g m c : Nat} (h : SB w0 w s g m 4 [-1, -1, -1, -1] [] c 4096) : Calls Try.prog 11 #[.pointer (some ⟨s, 0, none⟩)] w fun e w' => e = .returned (.int .i64 (-1)) ∧ w = w' := sl_skip_end s g m 4 _ _ _ 4096 w (by decide) h.1
theorem nx_e {w0 w : World} {s g m c : Nat} (h : SB w0 w s g m 4 [-1, -1, -1, -1] [] c 4096) : Calls Try.prog 21 #[.pointer (some ⟨s, 0, none⟩)] w fun e w' => e = .returned (.int .i64 4096) ∧ w = w' := sl_next s g m 4 _ _ _ 4096 w h.1
set_option maxRecDepth 20000 in
set_option maxHeartbeats 4000000 in

theorem walk (a0 : Int) (w : World) (w0 : (Lit.int .u8 a0).wf = true) :
    Calls Try.prog 5 #[.int .u8 a0] w fun e w' => e = .returned (.bool true) ∧ Below w.heap.size w w' := by
  have b0 : 0 ≤ a0 ∧ a0 ≤ 255 := bounds_u8 w0
  obtain ⟨n, hn⟩ : ∃ n : Nat, a0 % 12 = (n : Int) := ⟨(a0 % 12).toNat, by omega⟩
  have hn2 : n < 12 := by omega
  have n0 : (0 : Int) ≤ (n : Int) := by omega
  have n1 : (n : Int) ≤ 255 := by omega
  have HN := Lib.hid hn
  obtain ⟨b1, b2⟩ := b0
  go_enter Try.func5, Try.ntmps5
  go_wp2_with (go_at_call 7; refine (new_4 _).mono ?_; rintro e w1 ⟨s, g, m, rfl, k1⟩; have H0 := Lib.hid k1; clear k1)
  go_loopw [4] (fun i wr => ∃ k : Nat, i = .int .i64 k ∧ k ≤ 4090 ∧ Hid (SB w wr s g m 4 [-1, -1, -1, -1] [] 0 k)) (fun i _ => 4090 - (intOf i).toNat)
  case atStart => exact ⟨0, rfl, by omega, H0⟩
  case round =>
    obtain ⟨k, rfl, hk, HK⟩ := hrel
    clear H0
    by_cases hk9 : k < 4090
    · have i1 : (k : Int) < 4090 := by omega
      have i2 : k < 4096 := by omega
      go_wp2_with (go_at_call 11; with_reducible refine (sk_4 i2 HK.out).mono ?_; rintro e w2 ⟨rfl, k1⟩; have HK2 := Lib.hid k1; clear k1)
      go_roundw
      case rel => exact ⟨k + 1, by go_num, by omega, HK2⟩
      case measure => simp [intOf]; omega
    · have i1 : ¬ (k : Int) < 4090 := by omega
      obtain rfl : k = 4090 := by omega
      have HK0 : Hid (SB w wr s g m 4 [-1, -1, -1, -1] [] 0 (nxt 0)) := HK
      clear HK
      obtain ⟨wo, rfl⟩ : ∃ wo : World, wo = wr := ⟨_, rfl⟩
      go_wp2
      go_loopw [5] (fun i wr => ∃ k c : Nat, i = .int .i64 k ∧ k ≤ n ∧ Hid (SB w wr s g m 4 [-1, -1, -1, -1] [] c (nxt k))) (fun i _ => n - (intOf i).toNat)
      case atStart => exact ⟨0, 0, rfl, by omega, HK0⟩
      case round =>
        obtain ⟨k, c, rfl, hk, HK⟩ := hrel
        clear HK0
        by_cases hkn : k < n
        · have i1 : (k : Int) < (n : Int) := by omega
          have i2 : (0 : Int) ≤ (k : Int) := by omega
          have i3 : (k : Int) ≤ 12 := by omega
          by_cases h6 : k < 6
          · have i6 : decide ((k : Int) < 6) = true := by rw [decide_eq_true_eq]; omega
            have HK1 : Hid (SB w wr s g m 4 [-1, -1, -1, -1] [] c (4090 + (k : Int))) := Lib.hid (by rw [← nxt_lt h6]; exact HK.out)
            have H6 := Lib.hid h6
            have i7 : (k : Int) < 6 := by omega
            go_wp2_with (first
              | (go_at_call 10; with_reducible refine (op_4 H6.out HK1.out).mono ?_; rintro e w2 ⟨rfl, k1⟩; have HK2 := Lib.hid k1; clear k1)
              | (go_at_call 12; with_reducible refine (cl_4 HK2.out).mono ?_; rintro e w3 ⟨rfl, k1⟩; rw [nxt_step H6.out] at k1; have HK3 := Lib.hid k1; clear k1))
            go_roundw
            case rel => exact ⟨k + 1, c + 1, by go_num, by omega, HK3⟩
            case measure => simp [intOf]; omega
          · have i6 : decide ((k : Int) < 6) = false := by rw [decide_eq_false_iff_not]; omega
            have HK1 : Hid (SB w wr s g m 4 [-1, -1, -1, -1] [] c 4096) := Lib.hid (by rw [← nxt_ge h6]; exact HK.out)
            have HK3 : Hid (SB w wr s g m 4 [-1, -1, -1, -1] [] c (nxt (k + 1))) := Lib.hid (by rw [nxt_ge (by omega)]; exact HK1.out)
            have i7 : ¬ (k : Int) < 6 := by omega
            go_wp2_with (first
              | (go_at_call 10; with_reducible refine (op_e HK1.out).mono ?_; rintro e w2 ⟨rfl, rfl⟩)
              | (go_at_call 12; with_reducible refine (cl_e HK1.out).mono ?_; rintro e w3 ⟨rfl, rfl⟩))
            go_roundw
            case rel => exact ⟨k + 1, c, by go_num, by omega, HK3⟩
            case measure => simp [intOf]; omega
        · have i1 : ¬ (k : Int) < (n : Int) := by omega
          obtain rfl : k = n := by omega
          by_cases h6 : k < 6
          · have i7 : (k : Int) < 6 := by omega
            have HB := Lib.hid (SB.bel HK.out)
            go_wp2_with (go_at_call 16; refine (sl_lives _).mono ?_; rintro e w4 ⟨rfl, k1⟩; have HB2 := Lib.hid (HB.out.trans (k1.mono HB.out.size)); clear k1)
            go_ret
            exact ⟨rfl, HB2.out⟩
          · have HK1 : Hid (SB w wr s g m 4 [-1, -1, -1, -1] [] c 4096) := Lib.hid (by rw [← nxt_ge h6]; exact HK.out)
            have i7 : ¬ (k : Int) < 6 := by omega
            have HB := Lib.hid (SB.bel HK.out)
            go_wp2_with (first
              | (go_at_call 11; with_reducible refine (sk_e HK1.out).mono ?_; rintro e w2 ⟨rfl, rfl⟩)
              | (go_at_call 21; with_reducible refine (nx_e HK1.out).mono ?_; rintro e w2 ⟨rfl, rfl⟩)
              | (go_at_call 16; refine (sl_lives _).mono ?_; rintro e w4 ⟨rfl, k1⟩; have HB2 := Lib.hid (HB.out.trans (k1.mono HB.out.size)); clear k1))
            go_ret
            exact ⟨rfl, HB2.out⟩

set_option maxRecDepth 100000 in
theorem lifted (os : Os) (started : os.Started) (H : Type) (enc : TypeId × Value → H) :
    ReturnsInHanded {} Try.checked os 5 .any (Rows.slotsEndSpec.pre6 enc Try.prog Try.f5 Rows.slotsEndRow.domain false) (Rows.slotsEndSpec.post enc Try.prog Try.f5 false true false false) := by
  refine returnsInHanded_of_change (C := Try.checked) ownKn started (by kernel_rfl) Try.func5
    (ChangeSpec.witness6 (enc := enc) (C := Try.checked) false ⟨#[], #[.int .u8 0], []⟩ 8 (by kernel_rfl) (by kernel_rfl) (by kernel_rfl) (by kernel_rfl)) ?_
  intro W base args ds gs before hval0 hW hcnd _
  have hval : ∀ (j : Nat) t v, Try.f5.params[j]? = some t → args[j]? = some v → Value.okWide Try.prog W .any base t v := hval0
  have hW' := hW
  obtain ⟨p, q, hA0, hV, rfl, hfz, hnd⟩ := hW
  have hA : DataW.TrodAll enc Try.prog W 0 (fun _ => true) true Try.f5.params.toList args.toList ds p := hA0
  rw [Try.params5] at hA hval
  obtain ⟨v0, vs0, d0, ds0, p0, q0, hargs, rfl, rfl, h0, r0⟩ := trodAll_cons hA
  obtain ⟨rfl, rfl, rfl⟩ := trodAll_nil r0
  obtain rfl : args = #[v0] := by cases args; simp_all
  obtain ⟨rfl, rfl⟩ := trodVars_none hV
  have k0 := h0
  have lt0 : ∀ x ∈ p0, x.block < W.heap.size := by obtain ⟨m, hm⟩ := k0; exact DataW.trod_lt m _ _ _ hm
  obtain ⟨a0, rfl, rfl, rfl, w0⟩ := open_int Try.underlying5 (hval 0 5 v0 rfl rfl) h0
  clear hA0 hval0
  refine (walk a0 W w0).mono fun e W' ⟨he, bel⟩ => ?_
  subst he
  exact ⟨_, rfl, _, _, _, [], _, [], hW', trodAll_mk1 (shut_bool Try.underlying4 _), (trodAll_cons_mk (Below.trod laidOut (by kernel_rfl) (of_decide_eq_true (by kernel_rfl)) k0 bel lt0) trodAll_mk0), rfl, bel.frame _, fun h => by cases h⟩

theorem over : Rows.slotsEndRow.holds Try.pinned (OpenSpec.ofChange Rows.slotsEndSpec) :=
  OpenClaim.holds_of_wide 5 Try.f5 rfl rfl rfl rfl rfl rfl rfl ⟨rfl, rfl, rfl, rfl, rfl⟩ rfl rfl rfl rfl rfl (by kernel_rfl) Try.func5 (by kernel_rfl)
    (of_decide_eq_true (by kernel_rfl)) (by unfold Func.isWrapper; first | (rw [if_pos (by decide +kernel)]; kernel_rfl) | (rw [if_neg (by decide +kernel)]; exact ⟨rfl, rfl⟩))
    (fun os started H enc _ => lifted os started H enc)

/-- The statement. -/
theorem proved : Rows.SlotsEndSaid := over
#print axioms proved
end Go.Proofs.Ythofnpcaeopojaa.slotsEnd
