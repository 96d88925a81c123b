/- P10.1: for every list of texts (its first 10, each cut to 20 bytes): which texts are patterns that may be waited for, where and why not, and which one of several is not, as the document says. No condition. -/
import Derived.Test.YtjedjnpepjdgeaaOpen
import Derived.WalkKit
import Derived.ProofKit
import Derived.OpenShut
import Derived.Test.YtjedjnpepjdgeaaArC
import Derived.Test.YtjedjnpepjdgeaaGp13
namespace Go.Proofs.Ytjedjnpepjdgeaa.armsMakes
open Go.Joins Go.ChangeShapes Go.WideShapes Go.ChangeAt Go.RowKit Go.Deep
open Go.ChangeMaps (open_string)
set_option linter.unusedSimpArgs false
set_option linter.unusedVariables false

set_option maxRecDepth 20000 in
set_option maxHeartbeats 16000000 in

theorem walk (a0 : Option Addr) (len0 cap0 : Nat) (z0 : List ByteArray) (w : World) (w0 : IsStrs w a0 len0 cap0 z0) :
    Calls Try.prog 11 #[.slice a0 len0 cap0] w fun e w' => e = .returned (.bool true) ∧ Below w.heap.size w w' := by
  have hl0 : z0.length = len0 := w0.1
  have hm0 : len0 ≤ maxLen := Nat.le_trans w0.2.1 w0.2.2.1
  have HI : Hid (TX w a0 z0 ∧ z0.length = len0) := Lib.hid ⟨tx_in w0, hl0⟩
  obtain ⟨rs, hrs⟩ : ∃ rs, fewT z0 10 20 = rs := ⟨_, rfl⟩
  obtain ⟨m, hm⟩ : ∃ m, rs.length = m := ⟨_, rfl⟩
  have hm10 : m ≤ 10 := by rw [← hm, ← hrs]; exact fewT_len _ _ _
  have hsz : ∀ s ∈ rs, s.size ≤ 20 := by rw [← hrs]; exact fewT_long
  have hmx : m ≤ maxLen := by unfold maxLen; omega
  have HR : Hid (fewT z0 10 20 = rs ∧ rs.length = m ∧ fewT rs 10 20 = rs ∧ (∀ s ∈ rs, s.size ≤ 1000000) ∧ (∀ s ∈ rs, s.size ≤ maxLen)) := Lib.hid ⟨hrs, hm, fewT_self _ _ _ (by omega) hsz, fun s hs => by have := hsz s hs; omega, fun s hs => by have := hsz s hs; unfold maxLen; omega⟩
  clear w0 hl0 hrs hm hsz
  by_cases hm8 : 8 < m
  · go_enter Try.func11, Try.ntmps11
    go_upto_region 2 with (go_at_call 45; refine (fewt z0 len0 HI.out.2 hm0 a0 cap0 10 20 (by omega) (by omega) rs HR.out.1 m HR.out.2.1 _ HI.out.1).mono ?_; rintro e W1 ⟨g, c0, rfl, h1, _, hb1⟩; have HB := Lib.hid (And.intro (TX.of_rw h1 HR.out.2.2.2.2) hb1); clear h1 hb1)
    go_upto_region 4 with (first
      | (go_at_call 45; refine (fewt rs m HR.out.2.1 hmx (some ⟨g, 0, none⟩) c0 10 20 (by omega) (by omega) rs HR.out.2.2.1 m HR.out.2.1 _ HB.out.1).mono ?_; rintro e W1 ⟨g2, c2, rfl, h1, _, hb1⟩; replace HB := Lib.hid (And.intro (HB.out.1.below hb1) (HB.out.2.trans (hb1.mono HB.out.2.size))); clear hb1; have HQ := Lib.hid (TX.of_rw h1 HR.out.2.2.2.2); clear h1)
      | (go_at_call 46; with_reducible refine (ar_new_long m hm8 _ _ _).mono ?_; rintro e W1 ⟨rfl, hb1⟩; replace HB := Lib.hid (And.intro (HB.out.1.below hb1) (HB.out.2.trans (hb1.mono HB.out.2.size))); clear hb1; clear HQ)
      | (go_at_call 47; with_reducible refine (rk_new_long m hm8 _ _ _).mono ?_; rintro e W1 ⟨rfl, hb1⟩; replace HB := Lib.hid (And.intro (HB.out.1.below hb1) (HB.out.2.trans (hb1.mono HB.out.2.size))); clear hb1))
    go_wp2_with (first
      | (go_at_call 49; with_reducible refine (ar_fed_nil _).mono ?_; rintro e W1 ⟨rfl, hb1⟩; replace HB := Lib.hid (And.intro (HB.out.1.below hb1) (HB.out.2.trans (hb1.mono HB.out.2.size))); clear hb1)
      | (go_at_call 48; with_reducible refine (ar_len_nil _).mono ?_; rintro e W1 ⟨rfl, hb1⟩; replace HB := Lib.hid (And.intro (HB.out.1.below hb1) (HB.out.2.trans (hb1.mono HB.out.2.size))); clear hb1))
    go_loopw [9, 10, 11, 12, 13, 14] (fun i _ _ _ _ _ wr => ∃ k : Nat, i = .int .i64 k ∧ k ≤ m ∧ Hid (TX wr (some ⟨g, 0, none⟩) rs ∧ Below w.heap.size w wr)) (fun i _ _ _ _ _ _ => m - (intOf i).toNat)
    case atStart => exact ⟨0, rfl, by omega, HB⟩
    case round =>
      clear HB
      obtain ⟨k, rfl, hk, HB⟩ := hrel
      have k0 : (0 : Int) ≤ (k : Int) := by omega
      by_cases hkm : k < m
      · have i1 : (k : Int) < (m : Int) := by omega
        obtain ⟨s, hs⟩ : ∃ s, rs[k]? = some s := ⟨_, List.getElem?_eq_getElem (by rw [HR.out.2.1]; exact hkm)⟩
        have hs6 : s.size ≤ 1000000 := HR.out.2.2.2.1 s (List.mem_of_getElem? hs)
        obtain ⟨P, hP⟩ : ∃ P, Ar.pl s = P := ⟨_, rfl⟩
        obtain ⟨E, hE⟩ : ∃ E, Ar.ck s = E := ⟨_, rfl⟩
        have HP := Lib.hid (And.intro hP hE)
        have HK := Lib.hid hs
        have cp := HB.out.1.at0 hs
        have w1 : IntKind.i64.wrap ((k : Int) + 1) = (k : Int) + 1 := IntWalk.i64_in _ (by omega)
        clear hs hP hE
        go_wp2_with (first
          | (go_at_call 50; with_reducible refine (ar_check s hs6 P E HP.out.1 HP.out.2 _).mono ?_; rintro _ W1 ⟨rfl, hb1⟩; replace HB := Lib.hid (And.intro (HB.out.1.below hb1) (HB.out.2.trans (hb1.mono HB.out.2.size))); clear hb1; clear cp; have cp := HB.out.1.at0 HK.out)
          | (go_at_call 51; with_reducible refine (rk_check (fun s l h1 h2 X n e h3 w => rp_rdC s l h1 h2 X n e h3 w)  s hs6 P E HP.out.1 HP.out.2 _).mono ?_; rintro _ W1 ⟨v, rfl, hb1⟩; replace HB := Lib.hid (And.intro (HB.out.1.below hb1) (HB.out.2.trans (hb1.mono HB.out.2.size))); clear hb1; clear cp))
        refine ⟨?_, ?measure⟩
        case measure => simp [intOf]; omega
        first
          | exact ⟨k + 1, by go_num, by omega, HB⟩
          | ((repeat apply Exists.intro); exact ⟨⟨k + 1, by go_num, by omega, HB⟩, rfl⟩)
      · obtain rfl : k = m := by omega
        have i1 : ¬ (k : Int) < (k : Int) := by omega
        go_wp2_with (go_at_call 52; with_reducible refine (ar_lives _).mono ?_; rintro e W1 ⟨rfl, hb1⟩; replace HB := Lib.hid (And.intro (HB.out.1.below hb1) (HB.out.2.trans (hb1.mono HB.out.2.size))); clear hb1)
        go_ret
        exact ⟨rfl, HB.out.2⟩
  · replace hm8 : m ≤ 8 := by omega
    by_cases he0 : (Ar.nw rs m).2 = 0
    · have HE := Lib.hid he0
      clear he0
      go_enter Try.func11, Try.ntmps11
      go_upto_region 2 with (go_at_call 45; refine (fewt z0 len0 HI.out.2 hm0 a0 cap0 10 20 (by omega) (by omega) rs HR.out.1 m HR.out.2.1 _ HI.out.1).mono ?_; rintro e W1 ⟨g, c0, rfl, h1, _, hb1⟩; have HB := Lib.hid (And.intro (TX.of_rw h1 HR.out.2.2.2.2) hb1); clear h1 hb1)
      go_upto_region 4 with (first
        | (go_at_call 45; refine (fewt rs m HR.out.2.1 hmx (some ⟨g, 0, none⟩) c0 10 20 (by omega) (by omega) rs HR.out.2.2.1 m HR.out.2.1 _ HB.out.1).mono ?_; rintro e W1 ⟨g2, c2, rfl, h1, _, hb1⟩; replace HB := Lib.hid (And.intro (HB.out.1.below hb1) (HB.out.2.trans (hb1.mono HB.out.2.size))); clear hb1; have HQ := Lib.hid (TX.of_rw h1 HR.out.2.2.2.2); clear h1)
        | (go_at_call 46; with_reducible refine (ar_new_yes rs m HR.out.2.1 hm8 _ _ HR.out.2.2.2.1 HE.out _ HQ.out).mono ?_; rintro _ W1 ⟨x, gs, cs, b, ca, A, rfl, h1, h2, h3, h4, hb1⟩; replace HB := Lib.hid (And.intro (HB.out.1.below hb1) (HB.out.2.trans (hb1.mono HB.out.2.size))); clear hb1; clear HQ; have HX := Lib.hid h1; have HA := Lib.hid (And.intro h2 (And.intro h3 h4)); clear h1 h2 h3 h4)
        | (go_at_call 47; with_reducible refine (rk_new_yes (fun s l h1 h2 X n e h3 w => rp_rdC s l h1 h2 X n e h3 w)  rs m HR.out.2.1 hm8 _ _ HR.out.2.2.2.1 HE.out _ HB.out.1).mono ?_; rintro _ W1 ⟨gl, cl, rfl, h1, hgl, hb1⟩; replace HX := Lib.hid (HX.out.below hb1); replace HB := Lib.hid (And.intro (HB.out.1.below hb1) (HB.out.2.trans (hb1.mono HB.out.2.size))); clear hb1; have HL := Lib.hid h1; clear h1 hgl))
      go_wp2_with (first
        | (go_at_call 49; with_reducible refine (ar_fed x gs cs ca m 0 b A _ _ HX.out).mono ?_; rintro e W1 ⟨rfl, hb1⟩; first | (replace HX := Lib.hid (HX.out.below hb1); replace HB := Lib.hid (And.intro (HB.out.1.below hb1) (HB.out.2.trans (hb1.mono HB.out.2.size))); clear hb1) | (replace HB := Lib.hid (And.intro (HB.out.1.below hb1) (HB.out.2.trans (hb1.mono HB.out.2.size))); clear hb1))
        | (go_at_call 48; with_reducible refine (ar_len x gs cs ca m 0 b A _ _ HX.out).mono ?_; rintro e W1 ⟨rfl, hb1⟩; first | (replace HX := Lib.hid (HX.out.below hb1); replace HB := Lib.hid (And.intro (HB.out.1.below hb1) (HB.out.2.trans (hb1.mono HB.out.2.size))); clear hb1) | (replace HB := Lib.hid (And.intro (HB.out.1.below hb1) (HB.out.2.trans (hb1.mono HB.out.2.size))); clear hb1)))
      clear HX HL HA
      go_loopw [9, 10, 11, 12, 13, 14] (fun i _ _ _ _ _ wr => ∃ k : Nat, i = .int .i64 k ∧ k ≤ m ∧ Hid (TX wr (some ⟨g, 0, none⟩) rs ∧ Below w.heap.size w wr)) (fun i _ _ _ _ _ _ => m - (intOf i).toNat)
      case atStart => exact ⟨0, rfl, by omega, HB⟩
      case round =>
        clear HB
        obtain ⟨k, rfl, hk, HB⟩ := hrel
        have k0 : (0 : Int) ≤ (k : Int) := by omega
        by_cases hkm : k < m
        · have i1 : (k : Int) < (m : Int) := by omega
          obtain ⟨s, hs⟩ : ∃ s, rs[k]? = some s := ⟨_, List.getElem?_eq_getElem (by rw [HR.out.2.1]; exact hkm)⟩
          have hs6 : s.size ≤ 1000000 := HR.out.2.2.2.1 s (List.mem_of_getElem? hs)
          obtain ⟨P, hP⟩ : ∃ P, Ar.pl s = P := ⟨_, rfl⟩
          obtain ⟨E, hE⟩ : ∃ E, Ar.ck s = E := ⟨_, rfl⟩
          have HP := Lib.hid (And.intro hP hE)
          have HK := Lib.hid hs
          have cp := HB.out.1.at0 hs
          have w1 : IntKind.i64.wrap ((k : Int) + 1) = (k : Int) + 1 := IntWalk.i64_in _ (by omega)
          clear hs hP hE
          go_wp2_with (first
            | (go_at_call 50; with_reducible refine (ar_check s hs6 P E HP.out.1 HP.out.2 _).mono ?_; rintro _ W1 ⟨rfl, hb1⟩; replace HB := Lib.hid (And.intro (HB.out.1.below hb1) (HB.out.2.trans (hb1.mono HB.out.2.size))); clear hb1; clear cp; have cp := HB.out.1.at0 HK.out)
            | (go_at_call 51; with_reducible refine (rk_check (fun s l h1 h2 X n e h3 w => rp_rdC s l h1 h2 X n e h3 w)  s hs6 P E HP.out.1 HP.out.2 _).mono ?_; rintro _ W1 ⟨v, rfl, hb1⟩; replace HB := Lib.hid (And.intro (HB.out.1.below hb1) (HB.out.2.trans (hb1.mono HB.out.2.size))); clear hb1; clear cp))
          refine ⟨?_, ?measure⟩
          case measure => simp [intOf]; omega
          first
            | exact ⟨k + 1, by go_num, by omega, HB⟩
            | ((repeat apply Exists.intro); exact ⟨⟨k + 1, by go_num, by omega, HB⟩, rfl⟩)
        · obtain rfl : k = m := by omega
          have i1 : ¬ (k : Int) < (k : Int) := by omega
          go_wp2_with (go_at_call 52; with_reducible refine (ar_lives _).mono ?_; rintro e W1 ⟨rfl, hb1⟩; replace HB := Lib.hid (And.intro (HB.out.1.below hb1) (HB.out.2.trans (hb1.mono HB.out.2.size))); clear hb1)
          go_ret
          exact ⟨rfl, HB.out.2⟩
    · obtain ⟨K, e, hne⟩ : ∃ K e, Ar.nw rs m = (K, e) := ⟨_, _, rfl⟩
      have he : e ≠ 0 := by rw [hne] at he0; exact he0
      have HE := Lib.hid (And.intro hne he)
      have heI : ((e : Int) == 0) = false := by rw [beq_eq_false_iff_ne]; omega
      have heJ : ((e : Int) != 0) = true := by rw [bne, heI]; rfl
      clear hne he0
      go_enter Try.func11, Try.ntmps11
      go_upto_region 2 with (go_at_call 45; refine (fewt z0 len0 HI.out.2 hm0 a0 cap0 10 20 (by omega) (by omega) rs HR.out.1 m HR.out.2.1 _ HI.out.1).mono ?_; rintro e W1 ⟨g, c0, rfl, h1, _, hb1⟩; have HB := Lib.hid (And.intro (TX.of_rw h1 HR.out.2.2.2.2) hb1); clear h1 hb1)
      go_upto_region 4 with (first
        | (go_at_call 45; refine (fewt rs m HR.out.2.1 hmx (some ⟨g, 0, none⟩) c0 10 20 (by omega) (by omega) rs HR.out.2.2.1 m HR.out.2.1 _ HB.out.1).mono ?_; rintro e W1 ⟨g2, c2, rfl, h1, _, hb1⟩; replace HB := Lib.hid (And.intro (HB.out.1.below hb1) (HB.out.2.trans (hb1.mono HB.out.2.size))); clear hb1; have HQ := Lib.hid (TX.of_rw h1 HR.out.2.2.2.2); clear h1)
        | (go_at_call 46; with_reducible refine (ar_new_no rs m HR.out.2.1 hm8 _ _ HR.out.2.2.2.1 K e HE.out.1 HE.out.2 _ HQ.out).mono ?_; rintro _ W1 ⟨rfl, hb1⟩; replace HB := Lib.hid (And.intro (HB.out.1.below hb1) (HB.out.2.trans (hb1.mono HB.out.2.size))); clear hb1; clear HQ)
        | (go_at_call 47; with_reducible refine (rk_new_no (fun s l h1 h2 X n e h3 w => rp_rdC s l h1 h2 X n e h3 w)  rs m HR.out.2.1 hm8 _ _ HR.out.2.2.2.1 K e HE.out.1 HE.out.2 _ HB.out.1).mono ?_; rintro _ W1 ⟨rfl, hb1⟩; replace HB := Lib.hid (And.intro (HB.out.1.below hb1) (HB.out.2.trans (hb1.mono HB.out.2.size))); clear hb1))
      go_wp2_with (first
        | (go_at_call 49; with_reducible refine (ar_fed_nil _).mono ?_; rintro e W1 ⟨rfl, hb1⟩; replace HB := Lib.hid (And.intro (HB.out.1.below hb1) (HB.out.2.trans (hb1.mono HB.out.2.size))); clear hb1)
        | (go_at_call 48; with_reducible refine (ar_len_nil _).mono ?_; rintro e W1 ⟨rfl, hb1⟩; replace HB := Lib.hid (And.intro (HB.out.1.below hb1) (HB.out.2.trans (hb1.mono HB.out.2.size))); clear hb1))
      go_loopw [9, 10, 11, 12, 13, 14] (fun i _ _ _ _ _ wr => ∃ k : Nat, i = .int .i64 k ∧ k ≤ m ∧ Hid (TX wr (some ⟨g, 0, none⟩) rs ∧ Below w.heap.size w wr)) (fun i _ _ _ _ _ _ => m - (intOf i).toNat)
      case atStart => exact ⟨0, rfl, by omega, HB⟩
      case round =>
        clear HB
        obtain ⟨k, rfl, hk, HB⟩ := hrel
        have k0 : (0 : Int) ≤ (k : Int) := by omega
        by_cases hkm : k < m
        · have i1 : (k : Int) < (m : Int) := by omega
          obtain ⟨s, hs⟩ : ∃ s, rs[k]? = some s := ⟨_, List.getElem?_eq_getElem (by rw [HR.out.2.1]; exact hkm)⟩
          have hs6 : s.size ≤ 1000000 := HR.out.2.2.2.1 s (List.mem_of_getElem? hs)
          obtain ⟨P, hP⟩ : ∃ P, Ar.pl s = P := ⟨_, rfl⟩
          obtain ⟨E, hE⟩ : ∃ E, Ar.ck s = E := ⟨_, rfl⟩
          have HP := Lib.hid (And.intro hP hE)
          have HK := Lib.hid hs
          have cp := HB.out.1.at0 hs
          have w1 : IntKind.i64.wrap ((k : Int) + 1) = (k : Int) + 1 := IntWalk.i64_in _ (by omega)
          clear hs hP hE
          go_wp2_with (first
            | (go_at_call 50; with_reducible refine (ar_check s hs6 P E HP.out.1 HP.out.2 _).mono ?_; rintro _ W1 ⟨rfl, hb1⟩; replace HB := Lib.hid (And.intro (HB.out.1.below hb1) (HB.out.2.trans (hb1.mono HB.out.2.size))); clear hb1; clear cp; have cp := HB.out.1.at0 HK.out)
            | (go_at_call 51; with_reducible refine (rk_check (fun s l h1 h2 X n e h3 w => rp_rdC s l h1 h2 X n e h3 w)  s hs6 P E HP.out.1 HP.out.2 _).mono ?_; rintro _ W1 ⟨v, rfl, hb1⟩; replace HB := Lib.hid (And.intro (HB.out.1.below hb1) (HB.out.2.trans (hb1.mono HB.out.2.size))); clear hb1; clear cp))
          refine ⟨?_, ?measure⟩
          case measure => simp [intOf]; omega
          first
            | exact ⟨k + 1, by go_num, by omega, HB⟩
            | ((repeat apply Exists.intro); exact ⟨⟨k + 1, by go_num, by omega, HB⟩, rfl⟩)
        · obtain rfl : k = m := by omega
          have i1 : ¬ (k : Int) < (k : Int) := by omega
          go_wp2_with (go_at_call 52; with_reducible refine (ar_lives _).mono ?_; rintro e W1 ⟨rfl, hb1⟩; replace HB := Lib.hid (And.intro (HB.out.1.below hb1) (HB.out.2.trans (hb1.mono HB.out.2.size))); clear hb1)
          go_ret
          exact ⟨rfl, HB.out.2⟩

set_option maxRecDepth 100000 in
theorem lifted (os : Os) (started : os.Started) (H : Type) (enc : TypeId × Value → H) :
    ReturnsInHanded {} Try.checked os 11 .any (Rows.armsMakesSpec.pre6 enc Try.prog Try.f11 Rows.armsMakesRow.domain false) (Rows.armsMakesSpec.post enc Try.prog Try.f11 false true false false) := by
  refine returnsInHanded_of_change (C := Try.checked) ownKn started (by kernel_rfl) Try.func11
    (ChangeSpec.witness6 (enc := enc) (C := Try.checked) false ⟨#[], #[.slice none 0 0], []⟩ 8 (by kernel_rfl) (by kernel_rfl) (by kernel_rfl) (by kernel_rfl)) ?_
  intro W base args ds gs before hval0 hW hcnd _
  have hval : ∀ (j : Nat) t v, Try.f11.params[j]? = some t → args[j]? = some v → Value.okWide Try.prog W .any base t v := hval0
  have hW' := hW
  obtain ⟨p, q, hA0, hV, rfl, hfz, hnd⟩ := hW
  have hA : DataW.TrodAll enc Try.prog W 0 (fun _ => true) true Try.f11.params.toList args.toList ds p := hA0
  rw [Try.params11] at hA hval
  obtain ⟨v0, vs0, d0, ds0, p0, q0, hargs, rfl, rfl, h0, r0⟩ := trodAll_cons hA
  obtain ⟨rfl, rfl, rfl⟩ := trodAll_nil r0
  obtain rfl : args = #[v0] := by cases args; simp_all
  obtain ⟨rfl, rfl⟩ := trodVars_none hV
  have k0 := h0
  have lt0 : ∀ x ∈ p0, x.block < W.heap.size := by obtain ⟨m, hm⟩ := k0; exact DataW.trod_lt m _ _ _ hm
  obtain ⟨b0, lb0, cb0, rfl⟩ := okWide_slice Try.underlying57 (hval 0 57 v0 rfl rfl)
  obtain ⟨fu0, hf0⟩ := h0
  simp only [Value.cells] at hf0
  obtain ⟨a0, len0, cap0, z0, e0, w0⟩ := fld_strs Try.underlying57 Try.underlying9 (by kernel_rfl) hf0
  obtain ⟨rfl, rfl, rfl⟩ : b0 = a0 ∧ lb0 = len0 ∧ cb0 = cap0 := by simpa using e0
  clear hA0 hval0
  refine (walk b0 lb0 cb0 z0 W w0).mono fun e W' ⟨he, bel⟩ => ?_
  subst he
  exact ⟨_, rfl, _, _, _, [], _, [], hW', trodAll_mk1 (shut_bool Try.underlying4 _), (trodAll_cons_mk (Below.trod laidOut (by kernel_rfl) (of_decide_eq_true (by kernel_rfl)) k0 bel lt0) trodAll_mk0), rfl, bel.frame _, fun h => by cases h⟩

theorem over : Rows.armsMakesRow.holds Try.pinned (OpenSpec.ofChange Rows.armsMakesSpec) :=
  OpenClaim.holds_of_wide 11 Try.f11 rfl rfl rfl rfl rfl rfl rfl ⟨rfl, rfl, rfl, rfl, rfl⟩ rfl rfl rfl rfl rfl (by kernel_rfl) Try.func11 (by kernel_rfl)
    (of_decide_eq_true (by kernel_rfl)) (by unfold Func.isWrapper; first | (rw [if_pos (by decide +kernel)]; kernel_rfl) | (rw [if_neg (by decide +kernel)]; exact ⟨rfl, rfl⟩))
    (fun os started H enc _ => lifted os started H enc)

/-- The statement. -/
theorem proved : Rows.ArmsMakesSaid := over
#print axioms proved
end Go.Proofs.Ytjedjnpepjdgeaa.armsMakes
