/- P11.2: for every two texts (cut to 12 bytes): what the pattern of the first one finds in the second one is as the document says. No condition. -/
import Derived.Test.YtopiiehdgknmgaaOpen
import Derived.WalkKit
import Derived.ProofKit
import Derived.OpenShut
import Derived.Test.YtopiiehdgknmgaaSp5
import Derived.Test.YtopiiehdgknmgaaArB
import Derived.Test.YtopiiehdgknmgaaGp13
import Derived.Test.YtopiiehdgknmgaaLgC
namespace Go.Proofs.Ytopiiehdgknmgaa.spanTexts
open Go.Joins Go.ChangeShapes Go.WideShapes Go.ChangeAt Go.RowKit Go.Deep
open Go.ChangeMaps (open_string)
set_option linter.unusedSimpArgs false
set_option linter.unusedVariables false

theorem sp_is {l : List (Bool × BitVec 256)} {t : List UInt8} {f m : Nat} {is : Bool} (h : Lg.firstR l t = (f, m, is)) : (is = true → Lg.m l ((t.drop f).take (m - f)) = true) ∧ (is = false → f = 0 ∧ m = 0) := by
  have hle := first_le h
  rcases first_cases l t with ⟨k, hk, z0, z1, e⟩ | ⟨_, e⟩
  · rw [e] at h
    injection h with h1 h2
    injection h2 with h2 h3
    subst h2 h3
    refine ⟨fun _ => ?_, by simp⟩
    rw [lg_piece l t f k hle.1 hk]
    have h2 := (first_fr hk z0 z1).2
    unfold Sp.fr Sp.hd at h2
    cases hst : Lg.starts l t k with
    | nil => rw [hst] at h2; simp at h2
    | cons i r =>
      rw [hst] at h1
      simp at h1
      subst h1
      have hm : i ∈ Lg.starts l t k := by rw [hst]; simp
      unfold Lg.starts at hm
      exact (List.mem_filter.1 hm).2
  · rw [e] at h
    injection h with h1 h2
    injection h2 with h2 h3
    subst h1 h2 h3
    exact ⟨by simp, fun _ => ⟨rfl, rfl⟩⟩
theorem ext_list (s : ByteArray) (f m : Nat) : (s.extract f m).data.toList = (s.data.toList.drop f).take (m - f) := by
  simp [ByteArray.data_extract, List.drop_take]
set_option maxRecDepth 20000 in
set_option maxHeartbeats 16000000 in

theorem walk (a0 : ByteArray) (a1 : ByteArray) (w : World) (w0 : a0.size ≤ maxLen) (w1 : a1.size ≤ maxLen) :
    Calls Try.prog 9 #[.string a0, .string a1] w fun e w' => e = .returned (.bool true) ∧ Below w.heap.size w w' := by
  obtain ⟨p, hp⟩ : ∃ p, cutT a0 12 = p := ⟨_, rfl⟩
  have hp12 : p.size ≤ 12 := by rw [← hp]; exact cutT_le _ _
  obtain ⟨s, hs⟩ : ∃ s, cutT a1 12 = s := ⟨_, rfl⟩
  have hs12 : s.size ≤ 12 := by rw [← hs]; exact cutT_le _ _
  have hp6 : p.size ≤ 1000000 := by omega
  have hs6 : s.size ≤ 1000000 := by omega
  have hs3 : s.size ≤ 1000 := by omega
  obtain ⟨t, ht⟩ : ∃ t, s.data.toList = t := ⟨_, rfl⟩
  have HS : Hid (cutT a0 12 = p ∧ cutT a1 12 = s) := Lib.hid ⟨hp, hs⟩
  have HB : Hid (Below w.heap.size w w) := Lib.hid (Below.refl _ _)
  clear hp hs
  by_cases he : Ar.ck p = 0
  · obtain ⟨l, hl⟩ : ∃ l, Ar.pat p = l := ⟨_, rfl⟩
    obtain ⟨n, hn⟩ : ∃ n, l.length = n := ⟨_, rfl⟩
    have hn3 : n ≤ 1000 := by have := pat_len he; rw [hl] at this; omega
    obtain ⟨f, m, is, hF⟩ : ∃ f m is, Lg.firstR l t = (f, m, is) := ⟨_, _, _, rfl⟩
    have hle := first_le hF
    have his := sp_is hF
    have htl : t.length = s.size := by rw [← ht]; simp
    have HZ : Hid (Ar.ck p = 0 ∧ Ar.pat p = l ∧ l.length = n ∧ s.data.toList = t) := Lib.hid ⟨he, hl, hn, ht⟩
    cases is with
    | true =>
      obtain ⟨u, hu⟩ : ∃ u, s.extract f m = u := ⟨_, rfl⟩
      obtain ⟨v, hv⟩ : ∃ v, u.data.toList = v := ⟨_, rfl⟩
      have hm : Lg.m l v = true := by rw [← hv, ← hu, ext_list, ht]; exact his.1 rfl
      have hu3 : u.size ≤ 1000 := by rw [← hu, ByteArray.size_extract]; omega
      have HF : Hid (Lg.firstR l t = (f, m, true) ∧ s.extract f m = u ∧ u.data.toList = v ∧ Lg.m l v = true) := Lib.hid ⟨hF, hu, hv, hm⟩
      have m1 : (0 : Int) ≤ (f : Int) := by omega
      have m2 : (f : Int) ≤ (m : Int) := by omega
      have m3 : (m : Int) ≤ (s.size : Int) := by omega
      have m4 : f ≤ m := by omega
      have m5 : m ≤ s.size := by omega
      clear he hl hn ht hF hle his htl hv hm
      go_enter Try.func9, Try.ntmps9
      go_upto_region 4 with (first
        | (go_at_call 31; with_reducible refine (cut_m a0 p 12 (by omega) w0 HS.out.1 12 rfl _).mono ?_; rintro e W1 ⟨rfl, hb1⟩; replace HB := Lib.hid (HB.out.trans (hb1.mono HB.out.size)); clear hb1)
        | (go_at_call 31; with_reducible refine (cut_m a1 s 12 (by omega) w1 HS.out.2 12 rfl _).mono ?_; rintro e W1 ⟨rfl, hb1⟩; replace HB := Lib.hid (HB.out.trans (hb1.mono HB.out.size)); clear hb1)
        | (go_at_call 42; with_reducible refine (sp_text p s t hp6 hs6 HZ.out.2.2.2 HZ.out.1 f m true (by rw [HZ.out.2.1]; exact HF.out.1) u HF.out.2.1 _).mono ?_; rintro e W1 ⟨rfl, hb1⟩; replace HB := Lib.hid (HB.out.trans (hb1.mono HB.out.size)); clear hb1)
        | (go_at_call 43; with_reducible refine (rk_good (fun s l h1 h2 X n e h3 w => rp_rdC s l h1 h2 X n e h3 w)  p hp6 HZ.out.1 _).mono ?_; rintro e W1 ⟨ai, ci, rfl, h1, hb1⟩; rw [HZ.out.2.1, HZ.out.2.2.1]; rw [HZ.out.2.1] at h1; replace HB := Lib.hid (And.intro h1 (HB.out.trans (hb1.mono HB.out.size))); clear h1 hb1))
      go_wp2_with (first
        | (go_at_call 40; with_reducible refine (rg_first l s t hs3 HZ.out.2.2.2 n ai ci HZ.out.2.2.1 hn3 f m true HF.out.1 _ HB.out.1.ia).mono ?_; rintro e W1 ⟨rfl, hb1⟩; replace HB := Lib.hid (And.intro (HB.out.1.below hb1) (HB.out.2.trans (hb1.mono HB.out.2.size))); clear hb1)
        | (go_at_call 34; with_reducible refine (rg_matches l u v hu3 HF.out.2.2.1 true HF.out.2.2.2 n ai ci HZ.out.2.2.1 hn3 _ HB.out.1.ia).mono ?_; rintro e W1 ⟨rfl, hb1⟩; replace HB := Lib.hid (And.intro (HB.out.1.below hb1) (HB.out.2.trans (hb1.mono HB.out.2.size))); clear hb1)
        | (go_at_call 36; with_reducible refine (sp_lives _).mono ?_; rintro e W1 ⟨rfl, hb1⟩; first | (replace HB := Lib.hid (HB.out.trans (hb1.mono HB.out.size)); clear hb1) | (replace HB := Lib.hid (And.intro (HB.out.1.below hb1) (HB.out.2.trans (hb1.mono HB.out.2.size))); clear hb1)))
      go_ret
      exact ⟨rfl, HB.out.2⟩
    | false =>
      obtain ⟨rfl, rfl⟩ := his.2 rfl
      have HF : Hid (Lg.firstR l t = (0, 0, false) ∧ s.extract 0 0 = ByteArray.empty) := Lib.hid ⟨hF, by simp⟩
      clear he hl hn ht hF hle his htl
      go_enter Try.func9, Try.ntmps9
      go_upto_region 4 with (first
        | (go_at_call 31; with_reducible refine (cut_m a0 p 12 (by omega) w0 HS.out.1 12 rfl _).mono ?_; rintro e W1 ⟨rfl, hb1⟩; replace HB := Lib.hid (HB.out.trans (hb1.mono HB.out.size)); clear hb1)
        | (go_at_call 31; with_reducible refine (cut_m a1 s 12 (by omega) w1 HS.out.2 12 rfl _).mono ?_; rintro e W1 ⟨rfl, hb1⟩; replace HB := Lib.hid (HB.out.trans (hb1.mono HB.out.size)); clear hb1)
        | (go_at_call 42; with_reducible refine (sp_text p s t hp6 hs6 HZ.out.2.2.2 HZ.out.1 0 0 false (by rw [HZ.out.2.1]; exact HF.out.1) ByteArray.empty HF.out.2 _).mono ?_; rintro e W1 ⟨rfl, hb1⟩; replace HB := Lib.hid (HB.out.trans (hb1.mono HB.out.size)); clear hb1)
        | (go_at_call 43; with_reducible refine (rk_good (fun s l h1 h2 X n e h3 w => rp_rdC s l h1 h2 X n e h3 w)  p hp6 HZ.out.1 _).mono ?_; rintro e W1 ⟨ai, ci, rfl, h1, hb1⟩; rw [HZ.out.2.1, HZ.out.2.2.1]; rw [HZ.out.2.1] at h1; replace HB := Lib.hid (And.intro h1 (HB.out.trans (hb1.mono HB.out.size))); clear h1 hb1))
      go_wp2_with (first
        | (go_at_call 40; with_reducible refine (rg_first l s t hs3 HZ.out.2.2.2 n ai ci HZ.out.2.2.1 hn3 0 0 false HF.out.1 _ HB.out.1.ia).mono ?_; rintro e W1 ⟨rfl, hb1⟩; replace HB := Lib.hid (And.intro (HB.out.1.below hb1) (HB.out.2.trans (hb1.mono HB.out.2.size))); clear hb1)
        | (go_at_call 36; with_reducible refine (sp_lives _).mono ?_; rintro e W1 ⟨rfl, hb1⟩; first | (replace HB := Lib.hid (HB.out.trans (hb1.mono HB.out.size)); clear hb1) | (replace HB := Lib.hid (And.intro (HB.out.1.below hb1) (HB.out.2.trans (hb1.mono HB.out.2.size))); clear hb1)))
      go_ret
      exact ⟨rfl, HB.out.2⟩
  · obtain ⟨e0, he0⟩ : ∃ e0, Ar.ck p = e0 := ⟨_, rfl⟩
    obtain ⟨pl, hpl⟩ : ∃ pl, Ar.pl p = pl := ⟨_, rfl⟩
    have h0 : e0 ≠ 0 := by rw [← he0]; exact he
    have heI : ((e0 : Int) == 0) = false := by rw [beq_eq_false_iff_ne]; omega
    have HE := Lib.hid (And.intro he0 hpl)
    clear he he0 hpl ht
    go_enter Try.func9, Try.ntmps9
    go_wp2_with (first
      | (go_at_call 31; with_reducible refine (cut_m a0 p 12 (by omega) w0 HS.out.1 12 rfl _).mono ?_; rintro e W1 ⟨rfl, hb1⟩; replace HB := Lib.hid (HB.out.trans (hb1.mono HB.out.size)); clear hb1)
      | (go_at_call 31; with_reducible refine (cut_m a1 s 12 (by omega) w1 HS.out.2 12 rfl _).mono ?_; rintro e W1 ⟨rfl, hb1⟩; replace HB := Lib.hid (HB.out.trans (hb1.mono HB.out.size)); clear hb1)
      | (go_at_call 42; with_reducible refine (sp_text_no p s hp6 e0 HE.out.1 h0 _).mono ?_; rintro e W1 ⟨rfl, hb1⟩; replace HB := Lib.hid (HB.out.trans (hb1.mono HB.out.size)); clear hb1)
      | (go_at_call 43; with_reducible refine (rk_check (fun s l h1 h2 X n e h3 w => rp_rdC s l h1 h2 X n e h3 w)  p hp6 pl e0 HE.out.2 HE.out.1 _).mono ?_; rintro e W1 ⟨v, rfl, hb1⟩; replace HB := Lib.hid (HB.out.trans (hb1.mono HB.out.size)); clear hb1)
      | (go_at_call 36; with_reducible refine (sp_lives _).mono ?_; rintro e W1 ⟨rfl, hb1⟩; first | (replace HB := Lib.hid (HB.out.trans (hb1.mono HB.out.size)); clear hb1) | (replace HB := Lib.hid (And.intro (HB.out.1.below hb1) (HB.out.2.trans (hb1.mono HB.out.2.size))); clear hb1)))
    go_ret
    exact ⟨rfl, HB.out⟩

set_option maxRecDepth 100000 in
theorem lifted (os : Os) (started : os.Started) (H : Type) (enc : TypeId × Value → H) :
    ReturnsInHanded {} Try.checked os 9 .any (Rows.spanTextsSpec.pre6 enc Try.prog Try.f9 Rows.spanTextsRow.domain false) (Rows.spanTextsSpec.post enc Try.prog Try.f9 false true false false) := by
  refine returnsInHanded_of_change (C := Try.checked) ownKn started (by kernel_rfl) Try.func9
    (ChangeSpec.witness6 (enc := enc) (C := Try.checked) false ⟨#[], #[.string ByteArray.empty, .string ByteArray.empty], []⟩ 8 (by kernel_rfl) (by kernel_rfl) (by kernel_rfl) (by kernel_rfl)) ?_
  intro W base args ds gs before hval0 hW hcnd _
  have hval : ∀ (j : Nat) t v, Try.f9.params[j]? = some t → args[j]? = some v → Value.okWide Try.prog W .any base t v := hval0
  have hW' := hW
  obtain ⟨p, q, hA0, hV, rfl, hfz, hnd⟩ := hW
  have hA : DataW.TrodAll enc Try.prog W 0 (fun _ => true) true Try.f9.params.toList args.toList ds p := hA0
  rw [Try.params9] at hA hval
  obtain ⟨v0, vs0, d0, ds0, p0, q0, hargs, rfl, rfl, h0, r0⟩ := trodAll_cons hA
  obtain ⟨v1, vs1, d1, ds1, p1, q1, rfl, rfl, rfl, h1, r1⟩ := trodAll_cons r0
  obtain ⟨rfl, rfl, rfl⟩ := trodAll_nil r1
  obtain rfl : args = #[v0, v1] := by cases args; simp_all
  obtain ⟨rfl, rfl⟩ := trodVars_none hV
  have k0 := h0
  have lt0 : ∀ x ∈ p0, x.block < W.heap.size := by obtain ⟨m, hm⟩ := k0; exact DataW.trod_lt m _ _ _ hm
  obtain ⟨a0, rfl, rfl, rfl, w0⟩ := open_string Try.underlying9 (hval 0 9 v0 rfl rfl) h0
  have k1 := h1
  have lt1 : ∀ x ∈ p1, x.block < W.heap.size := by obtain ⟨m, hm⟩ := k1; exact DataW.trod_lt m _ _ _ hm
  obtain ⟨a1, rfl, rfl, rfl, w1⟩ := open_string Try.underlying9 (hval 1 9 v1 rfl rfl) h1
  clear hA0 hval0
  refine (walk a0 a1 W w0 w1).mono fun e W' ⟨he, bel⟩ => ?_
  subst he
  exact ⟨_, rfl, _, _, _, [], _, [], hW', trodAll_mk1 (shut_bool Try.underlying4 _), (trodAll_cons_mk (Below.trod laidOut (by kernel_rfl) (of_decide_eq_true (by kernel_rfl)) k0 bel lt0) (trodAll_cons_mk (Below.trod laidOut (by kernel_rfl) (of_decide_eq_true (by kernel_rfl)) k1 bel lt1) trodAll_mk0)), rfl, bel.frame _, fun h => by cases h⟩

theorem over : Rows.spanTextsRow.holds Try.pinned (OpenSpec.ofChange Rows.spanTextsSpec) :=
  OpenClaim.holds_of_wide 9 Try.f9 rfl rfl rfl rfl rfl rfl rfl ⟨rfl, rfl, rfl, rfl, rfl⟩ rfl rfl rfl rfl rfl (by kernel_rfl) Try.func9 (by kernel_rfl)
    (of_decide_eq_true (by kernel_rfl)) (by unfold Func.isWrapper; first | (rw [if_pos (by decide +kernel)]; kernel_rfl) | (rw [if_neg (by decide +kernel)]; exact ⟨rfl, rfl⟩))
    (fun os started H enc _ => lifted os started H enc)

/-- The statement. -/
theorem proved : Rows.SpanTextsSaid := over
#print axioms proved
end Go.Proofs.Ytopiiehdgknmgaa.spanTexts
