/- P2.2: for every two texts: the place that is told is that of the first byte with which no text in quotes goes on. No condition. -/
import Derived.Test.YtjcpljjalmejjaaOpen
import Derived.WalkKit
import Derived.ProofKit
import Derived.OpenShut
import Derived.Test.YtjcpljjalmejjaaQtR4
namespace Go.Proofs.Ytjcpljjalmejjaa.quoteStops
open Go.Joins Go.ChangeShapes Go.WideShapes Go.ChangeAt Go.RowKit Go.Deep
open Go.ChangeMaps (open_string)
set_option linter.unusedSimpArgs false
set_option linter.unusedVariables false

set_option maxRecDepth 20000 in
set_option maxHeartbeats 4000000 in

theorem walk (a0 : ByteArray) (a1 : ByteArray) (w : World) (w0 : a0.size ≤ maxLen) (w1 : a1.size ≤ maxLen) :
    Calls Try.prog 6 #[.string a0, .string a1] w fun e w' => e = .returned (.bool true) ∧ Below w.heap.size w w' := by
  obtain ⟨s, hs⟩ : ∃ s, cutT a0 60 = s := ⟨_, rfl⟩
  obtain ⟨b, hb⟩ : ∃ b, cutT a1 20 = b := ⟨_, rfl⟩
  have ls : s.size ≤ 60 := by rw [← hs]; exact cutT_le _ _
  have lb : b.size ≤ 20 := by rw [← hb]; exact cutT_le _ _
  obtain ⟨t, n, z, hr⟩ := read_mk s
  have HR := Lib.hid hr
  have HS := Lib.hid (And.intro hs hb)
  have HB : Hid (Below w.heap.size w w) := Lib.hid (Below.refl _ _)
  have ls2 : s.size ≤ 1000 := by omega
  clear hs hb
  by_cases hz : z = 0
  · subst hz
    clear hr
    go_enter Try.func6, Try.ntmps6
    go_wp2_with (first
      | (go_at_call 7; with_reducible refine (cut_60 a0 s w0 HS.out.1 _).mono ?_; rintro e w' ⟨rfl, rfl⟩)
      | (go_at_call 7; with_reducible refine (cut_20 a1 b w1 HS.out.2 _).mono ?_; rintro e w' ⟨rfl, rfl⟩)
      | (go_at_call 9; with_reducible refine (read_any s t n 0 ls2 HR.out _).mono ?_; rintro e v1 ⟨rfl, kb⟩; replace HB := Lib.hid (HB.out.trans (kb.mono HB.out.size)); clear kb)
      | (go_at_call 11; with_reducible refine (qt_lives _).mono ?_; rintro e v1 ⟨rfl, kb⟩; replace HB := Lib.hid (HB.out.trans (kb.mono HB.out.size)); clear kb))
    go_ret
    exact ⟨rfl, HB.out⟩
  · have hst := Qt.read_stops s.data.toList b.data.toList (by rw [hr]; exact hz)
    rw [hr] at hst
    simp only [len_tx] at hst
    obtain ⟨g1, g2, g3, g4, g5⟩ := hst
    obtain ⟨u, hu⟩ : ∃ u, s.extract 0 n = u := ⟨_, rfl⟩
    have hut := take_ext s u n hu
    have lu : u.size ≤ 1000 := by rw [size_of hut, List.length_take]; omega
    obtain ⟨t2, ht2⟩ := text_mk (Qt.read u.data.toList).1
    have HU : Hid (Qt.read u.data.toList = (t2.data.toList, n, 3)) := Lib.hid (by
      rw [ht2]; rw [← hut] at g3 g4
      exact Prod.ext rfl (Prod.ext g3 g4))
    have hz0 : (z == 0) = false := by rw [beq_eq_false_iff_ne]; exact hz
    have i0 : (0 : Int) ≤ (n : Int) := by omega
    have i1 : (n : Int) ≤ (s.size : Int) := by omega
    have i2 : ¬ (s.size : Int) < (n : Int) := by omega
    by_cases hn : n = s.size
    · have q1 : ((n : Int) == (s.size : Int)) = true := by rw [beq_iff_eq]; omega
      obtain rfl : z = 3 := g2.2 hn
      clear hr hz g2 g3 g4 g5 hut ht2 hn hz0
      go_enter Try.func6, Try.ntmps6
      go_wp2_with (first
        | (go_at_call 7; with_reducible refine (cut_60 a0 s w0 HS.out.1 _).mono ?_; rintro e w' ⟨rfl, rfl⟩)
        | (go_at_call 7; with_reducible refine (cut_20 a1 b w1 HS.out.2 _).mono ?_; rintro e w' ⟨rfl, rfl⟩)
        | (go_at_call 9; with_reducible refine (read_any s t n 3 ls2 HR.out _).mono ?_; rintro e v1 ⟨rfl, kb⟩; replace HB := Lib.hid (HB.out.trans (kb.mono HB.out.size)); clear kb)
        | (go_at_call 9; with_reducible refine (read_any u t2 n 3 lu HU.out _).mono ?_; rintro e v1 ⟨rfl, kb⟩; replace HB := Lib.hid (HB.out.trans (kb.mono HB.out.size)); clear kb)
        | (go_at_call 11; with_reducible refine (qt_lives _).mono ?_; rintro e v1 ⟨rfl, kb⟩; replace HB := Lib.hid (HB.out.trans (kb.mono HB.out.size)); clear kb))
      go_ret
      exact ⟨rfl, HB.out⟩
    · have hnl : n < s.size := by omega
      have q1 : ((n : Int) == (s.size : Int)) = false := by rw [beq_eq_false_iff_ne]; omega
      have q2 : (z == 3) = false := by rw [beq_eq_false_iff_ne]; exact fun e => hn (g2.1 e)
      have i3 : (n : Int) + 1 ≤ (s.size : Int) := by omega
      obtain ⟨x, hx⟩ : ∃ x, s.extract 0 (n + 1) = x := ⟨_, rfl⟩
      have hxt := take_ext s x (n + 1) hx
      have lx : x.size ≤ 61 := by rw [size_of hxt, List.length_take, len_tx]; omega
      obtain ⟨v, hv⟩ : ∃ v, x ++ b = v := ⟨_, rfl⟩
      have lv : v.size ≤ 1000 := by rw [← hv, ByteArray.size_append, size_of hxt, List.length_take]; omega
      obtain ⟨t3, ht3⟩ := text_mk (Qt.read v.data.toList).1
      have HV : Hid (Qt.read v.data.toList = (t3.data.toList, n, 2)) := Lib.hid (by
        have g6 := g5 hnl
        have e1 : v.data.toList = s.data.toList.take (n + 1) ++ b.data.toList := by rw [← hv, ByteArray.data_append, Array.toList_append, hxt]
        rw [← e1] at g6
        rw [ht3]
        exact Prod.ext rfl (Prod.ext g6.1 g6.2))
      clear hr hz g2 g3 g4 g5 hut ht2 hn hxt ht3
      go_enter Try.func6, Try.ntmps6
      go_wp2_with (first
        | (go_at_call 7; with_reducible refine (cut_60 a0 s w0 HS.out.1 _).mono ?_; rintro e w' ⟨rfl, rfl⟩)
        | (go_at_call 7; with_reducible refine (cut_20 a1 b w1 HS.out.2 _).mono ?_; rintro e w' ⟨rfl, rfl⟩)
        | (go_at_call 9; with_reducible refine (read_any s t n z ls2 HR.out _).mono ?_; rintro e v1 ⟨rfl, kb⟩; replace HB := Lib.hid (HB.out.trans (kb.mono HB.out.size)); clear kb)
        | (go_at_call 9; with_reducible refine (read_any u t2 n 3 lu HU.out _).mono ?_; rintro e v1 ⟨rfl, kb⟩; replace HB := Lib.hid (HB.out.trans (kb.mono HB.out.size)); clear kb)
        | (go_at_call 9; with_reducible refine (read_any v t3 n 2 lv HV.out _).mono ?_; rintro e v1 ⟨rfl, kb⟩; replace HB := Lib.hid (HB.out.trans (kb.mono HB.out.size)); clear kb)
        | (go_at_call 11; with_reducible refine (qt_lives _).mono ?_; rintro e v1 ⟨rfl, kb⟩; replace HB := Lib.hid (HB.out.trans (kb.mono HB.out.size)); clear kb))
      go_ret
      exact ⟨rfl, HB.out⟩

set_option maxRecDepth 100000 in
theorem lifted (os : Os) (started : os.Started) (H : Type) (enc : TypeId × Value → H) :
    ReturnsInHanded {} Try.checked os 6 .any (Rows.quoteStopsSpec.pre6 enc Try.prog Try.f6 Rows.quoteStopsRow.domain false) (Rows.quoteStopsSpec.post enc Try.prog Try.f6 false true false false) := by
  refine returnsInHanded_of_change (C := Try.checked) ownKn started (by kernel_rfl) Try.func6
    (ChangeSpec.witness6 (enc := enc) (C := Try.checked) false ⟨#[], #[.string ByteArray.empty, .string ByteArray.empty], []⟩ 8 (by kernel_rfl) (by kernel_rfl) (by kernel_rfl) (by kernel_rfl)) ?_
  intro W base args ds gs before hval0 hW hcnd _
  have hval : ∀ (j : Nat) t v, Try.f6.params[j]? = some t → args[j]? = some v → Value.okWide Try.prog W .any base t v := hval0
  have hW' := hW
  obtain ⟨p, q, hA0, hV, rfl, hfz, hnd⟩ := hW
  have hA : DataW.TrodAll enc Try.prog W 0 (fun _ => true) true Try.f6.params.toList args.toList ds p := hA0
  rw [Try.params6] at hA hval
  obtain ⟨v0, vs0, d0, ds0, p0, q0, hargs, rfl, rfl, h0, r0⟩ := trodAll_cons hA
  obtain ⟨v1, vs1, d1, ds1, p1, q1, rfl, rfl, rfl, h1, r1⟩ := trodAll_cons r0
  obtain ⟨rfl, rfl, rfl⟩ := trodAll_nil r1
  obtain rfl : args = #[v0, v1] := by cases args; simp_all
  obtain ⟨rfl, rfl⟩ := trodVars_none hV
  have k0 := h0
  have lt0 : ∀ x ∈ p0, x.block < W.heap.size := by obtain ⟨m, hm⟩ := k0; exact DataW.trod_lt m _ _ _ hm
  obtain ⟨a0, rfl, rfl, rfl, w0⟩ := open_string Try.underlying9 (hval 0 9 v0 rfl rfl) h0
  have k1 := h1
  have lt1 : ∀ x ∈ p1, x.block < W.heap.size := by obtain ⟨m, hm⟩ := k1; exact DataW.trod_lt m _ _ _ hm
  obtain ⟨a1, rfl, rfl, rfl, w1⟩ := open_string Try.underlying9 (hval 1 9 v1 rfl rfl) h1
  clear hA0 hval0
  refine (walk a0 a1 W w0 w1).mono fun e W' ⟨he, bel⟩ => ?_
  subst he
  exact ⟨_, rfl, _, _, _, [], _, [], hW', trodAll_mk1 (shut_bool Try.underlying4 _), (trodAll_cons_mk (Below.trod laidOut (by kernel_rfl) (of_decide_eq_true (by kernel_rfl)) k0 bel lt0) (trodAll_cons_mk (Below.trod laidOut (by kernel_rfl) (of_decide_eq_true (by kernel_rfl)) k1 bel lt1) trodAll_mk0)), rfl, bel.frame _, fun h => by cases h⟩

theorem over : Rows.quoteStopsRow.holds Try.pinned (OpenSpec.ofChange Rows.quoteStopsSpec) :=
  OpenClaim.holds_of_wide 6 Try.f6 rfl rfl rfl rfl rfl rfl rfl ⟨rfl, rfl, rfl, rfl, rfl⟩ rfl rfl rfl rfl rfl (by kernel_rfl) Try.func6 (by kernel_rfl)
    (of_decide_eq_true (by kernel_rfl)) (by unfold Func.isWrapper; first | (rw [if_pos (by decide +kernel)]; kernel_rfl) | (rw [if_neg (by decide +kernel)]; exact ⟨rfl, rfl⟩))
    (fun os started H enc _ => lifted os started H enc)

/-- The statement. -/
theorem proved : Rows.QuoteStopsSaid := over
#print axioms proved
end Go.Proofs.Ytjcpljjalmejjaa.quoteStops
