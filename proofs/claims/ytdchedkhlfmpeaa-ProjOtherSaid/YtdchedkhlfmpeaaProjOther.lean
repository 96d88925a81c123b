/- P31.4: for every list of events and every number: what is told of others changes no life. No condition. -/
import Derived.Test.YtdchedkhlfmpeaaOpen
import Derived.WalkKit
import Derived.ProofKit
import Derived.OpenShut
import Derived.Test.YtdchedkhlfmpeaaEv10
import Derived.Test.YtdchedkhlfmpeaaClass
namespace Go.Proofs.Ytdchedkhlfmpeaa.projOther
open Go.Joins Go.ChangeShapes Go.WideShapes Go.ChangeAt Go.RowKit Go.Deep
open Go.ChangeMaps (open_string)
set_option linter.unusedSimpArgs false
set_option linter.unusedVariables false

set_option maxRecDepth 100000 in
set_option maxHeartbeats 16000000 in

theorem walk (a0 : Option Addr) (len0 cap0 : Nat) (z0 : List Ev) (a1 : Int) (w : World) (w0 : IsEv w a0 len0 cap0 z0) (w1 : (Lit.int .i64 a1).wf = true) :
    Calls Try.prog 4 #[.slice a0 len0 cap0, .int .i64 a1] w fun e w' => e = .returned (.bool true) ∧ Below w.heap.size w w' := by
  obtain ⟨hl, hlc, hcm, HE⟩ := w0
  obtain ⟨L2, hL2⟩ : ∃ L2, fewE 16 z0 = L2 := ⟨_, rfl⟩
  obtain ⟨m, hm⟩ : ∃ m, L2.length = m := ⟨_, rfl⟩
  have hm16 : m ≤ 16 := by rw [← hm, ← hL2, fewE_len]; omega
  have HL2 : Hid (fewE 16 z0 = L2 ∧ L2.length = m ∧ (∀ x ∈ L2, x.ok) ∧ Ev.sum L2 ≤ 1000) := Lib.hid ⟨hL2, hm, by rw [← hL2]; exact fewE_ok HE.ok, by
    have := Ev.sum_le (L := L2) (B := 24) (by rw [← hL2]; exact fewE_b)
    rw [hm] at this
    have h2 : m * 24 ≤ 16 * 24 := Nat.mul_le_mul_right _ hm16
    omega⟩
  have HIN := Lib.hid (And.intro hl (And.intro hlc (And.intro hcm HE)))
  clear hL2 hm hl hlc hcm HE
  go_enter Try.func4, Try.ntmps4
  go_upto_region 2 with (first
    | (go_at_call 8; (refine (few_ev a0 len0 cap0 z0 HIN.out.1 (by have := HIN.out.2.1; have := HIN.out.2.2.1; omega) 16 (by omega) 16 rfl L2 HL2.out.1 m HL2.out.2.1 _ HIN.out.2.2.2).mono ?_); rintro r4 W4 ⟨gl, cl, rfl, q1, q2, q3⟩; have H1 : Hid (Rn (W4.alloc (.cells #[] 47)) gl cl 12 (evs L2) 47 ∧ Rn (W4.alloc (.cells #[] 47)) W4.heap.size 0 12 (evs []) 47 ∧ gl ≠ W4.heap.size ∧ w.heap.size ≤ gl ∧ w.heap.size ≤ W4.heap.size ∧ Below w.heap.size w (W4.alloc (.cells #[] 47))) := Lib.hid ⟨q1.chg (l := []) ((Chg.refl [] _).alloc _) (by simp), Rn.empty W4 12 47, by have := q1.lt; omega, q2, q3.size, q3.alloc q3.size _⟩; clear q1 q2 q3)
    | fail)
  go_upto_region 3 with fail
  revert H1
  generalize (W4.alloc (.cells #[] 47)) = V
  generalize W4.heap.size = Y
  intro H1
  go_wp2_with fail
  go_loopw [5, 6] (fun o z wr => ∃ (j g c q : Nat), o = .slice (some ⟨g, 0, none⟩) q c ∧ z = .int .i64 j ∧ j ≤ m ∧ Hid (((L2.take j).filter (Pj.his a1)).length = q ∧ Rn wr gl cl 12 (evs L2) 47 ∧ Rn wr g c 12 (evs ((L2.take j).filter (Pj.his a1))) 47 ∧ gl ≠ g ∧ w.heap.size ≤ gl ∧ w.heap.size ≤ g ∧ Below w.heap.size w wr)) (fun _ z _ => m - (intOf z).toNat)
  case atStart => exact ⟨0, _, 0, 0, rfl, rfl, by omega, Lib.hid ⟨rfl, H1.out⟩⟩
  case round =>
    clear H1
    obtain ⟨j, g, c, q, rfl, rfl, hj, HS0⟩ := hrel
    have j0 : (0 : Int) ≤ (j : Int) := by omega
    by_cases hjm : j < m
    · obtain ⟨O, hO⟩ : ∃ O, (L2.take j).filter (Pj.his a1) = O := ⟨_, rfl⟩
      rw [hO] at HS0
      have i1 : (j : Int) < (m : Int) := by omega
      have w1 : IntKind.i64.wrap ((j : Int) + 1) = (j : Int) + 1 := IntWalk.i64_in _ (by omega)
      have hq16 : q ≤ 16 := by rw [← HS0.out.1, ← hO]; exact Nat.le_trans (List.length_filter_le _ _) (by rw [List.length_take]; omega)
      obtain ⟨k, i, n, t, b, e, s0, s1, s2, s3, s4, s5, es⟩ : ∃ k i n t b e s0 s1 s2 s3 s4 s5, L2[j]? = some ⟨k, i, n, t, b, e, s0, s1, s2, s3, s4, s5⟩ := ⟨_, _, _, _, _, _, _, _, _, _, _, _, List.getElem?_eq_getElem (by rw [HL2.out.2.1]; exact hjm)⟩
      have HS := Lib.hid HS0.out.2
      have HQ := Lib.hid HS0.out.1
      clear HS0
      obtain ⟨hb, ga, o, h2, hgw, e0, e1, e2, e3, e4, e5, e6, e7, e8, e9, e10, e11⟩ := (EL.of_rn HS.out.1 HL2.out.2.2.1).get es
      injection h2 with h2
      injection h2 with q1 q2 _
      subst q1 q2
      simp only [Nat.zero_add] at e0 e1 e2 e3 e4 e5 e6 e7 e8 e9 e10 e11
      have hfil : (L2.take (j + 1)).filter (Pj.his a1) = if Pj.his a1 ⟨k, i, n, t, b, e, s0, s1, s2, s3, s4, s5⟩ = true then O ++ [⟨k, i, n, t, b, e, s0, s1, s2, s3, s4, s5⟩] else O := by
        rw [take_snocE es, List.filter_append, hO]
        split <;> simp [*]
      clear es hO hb
      obtain ⟨hv, hhv⟩ : ∃ hv, Pj.his a1 ⟨k, i, n, t, b, e, s0, s1, s2, s3, s4, s5⟩ = hv := ⟨_, rfl⟩
      rw [hhv] at hfil
      unfold Pj.his at hhv
      dsimp only at hhv
      by_cases hi : i = a1
      · subst hi
        obtain rfl : true = hv := by rw [← hhv]; simp
        have HO : Hid ((L2.take (j + 1)).filter (Pj.his i) = O ++ [⟨k, i, n, t, b, e, s0, s1, s2, s3, s4, s5⟩] ∧ (evs O).length = q * 12 ∧ O.length = q ∧ True) := Lib.hid ⟨by rw [hfil, if_pos rfl], by rw [evs_len, HQ.out], HQ.out, trivial⟩
        clear hfil hhv
        go_wp2_with (at_builtin; refine wpList_append_rn _ rfl (.tmp 43) (.tmp 48) 22 22 rfl 47 (.agg #[.int .i64 0, .int .i64 0, .int .i64 0, .int .i64 0, .string ByteArray.empty, .int .i64 0, .int .i64 0, .int .i64 0, .int .i64 0, .int .i64 0, .int .i64 0, .int .i64 0]) 12 104 Try.underlying22 infoEv rfl g q c (evs O) rfl HO.out.2.1 (HS.out.2.1.chg (l := []) ((Chg.refl [] _).alloc _) (by simp)) _ rfl 1 (Ev.c ⟨k, i, n, t, b, e, s0, s1, s2, s3, s4, s5⟩) (Src.ofSlice _ Try.underlying22 ⟨_, 0, none⟩ 1 1 (Ev.c ⟨k, i, n, t, b, e, s0, s1, s2, s3, s4, s5⟩) rfl (new_atE _ _ _) (Ev.c_one _)) (by omega) (by omega) ?_; intro g4 c4 w4 r1 r2 r3; have HN : Hid (Rn w4 gl cl 12 (evs L2) 47 ∧ Rn w4 g4 c4 12 (evs ((L2.take (j + 1)).filter (Pj.his i))) 47 ∧ gl ≠ g4 ∧ w.heap.size ≤ gl ∧ w.heap.size ≤ g4 ∧ Below w.heap.size w w4) := Lib.hid (by
              have k0 : Chg [] wr (wr.alloc (.cells (Ev.c ⟨k, i, n, t, b, e, s0, s1, s2, s3, s4, s5⟩).toArray 47)) := (Chg.refl [] wr).alloc _
              have hs := HS.out.2.2.2.2.2.size
              have l1 := HS.out.1.lt
              refine ⟨(HS.out.1.chg k0 (by simp)).chg r3 (by simp; exact HS.out.2.2.1), by rw [HO.out.1, evs_snoc]; exact r1, ?_, HS.out.2.2.2.1, ?_, r3.onto (HS.out.2.2.2.2.2.alloc hs _) (by simp; omega) (by simp; exact HS.out.2.2.2.2.1)⟩
              · rcases r2 with r2 | r2
                · rw [r2]; exact HS.out.2.2.1
                · simp at r2; omega
              · rcases r2 with r2 | r2
                · rw [r2]; exact HS.out.2.2.2.2.1
                · simp at r2; omega); clear r1 r2 r3)
        go_roundw
        case rel => exact ⟨j + 1, g4, c4, _, rfl, by go_num, by omega, Lib.hid ⟨by rw [HO.out.1, List.length_append]; simp; exact HO.out.2.2.1, HN.out⟩⟩
        case measure => simp [intOf]; omega
      · have hib : (i == a1) = false := by simp [hi]
        rw [hib, Bool.false_or] at hhv
        by_cases h1 : k = 1
        · subst h1
          obtain rfl : true = hv := by rw [← hhv]; simp
          have HO : Hid ((L2.take (j + 1)).filter (Pj.his a1) = O ++ [⟨1, i, n, t, b, e, s0, s1, s2, s3, s4, s5⟩] ∧ (evs O).length = q * 12 ∧ O.length = q ∧ True) := Lib.hid ⟨by rw [hfil, if_pos rfl], by rw [evs_len, HQ.out], HQ.out, trivial⟩
          clear hfil hhv
          go_wp2_with (at_builtin; refine wpList_append_rn _ rfl (.tmp 43) (.tmp 48) 22 22 rfl 47 (.agg #[.int .i64 0, .int .i64 0, .int .i64 0, .int .i64 0, .string ByteArray.empty, .int .i64 0, .int .i64 0, .int .i64 0, .int .i64 0, .int .i64 0, .int .i64 0, .int .i64 0]) 12 104 Try.underlying22 infoEv rfl g q c (evs O) rfl HO.out.2.1 (HS.out.2.1.chg (l := []) ((Chg.refl [] _).alloc _) (by simp)) _ rfl 1 (Ev.c ⟨1, i, n, t, b, e, s0, s1, s2, s3, s4, s5⟩) (Src.ofSlice _ Try.underlying22 ⟨_, 0, none⟩ 1 1 (Ev.c ⟨1, i, n, t, b, e, s0, s1, s2, s3, s4, s5⟩) rfl (new_atE _ _ _) (Ev.c_one _)) (by omega) (by omega) ?_; intro g4 c4 w4 r1 r2 r3; have HN : Hid (Rn w4 gl cl 12 (evs L2) 47 ∧ Rn w4 g4 c4 12 (evs ((L2.take (j + 1)).filter (Pj.his a1))) 47 ∧ gl ≠ g4 ∧ w.heap.size ≤ gl ∧ w.heap.size ≤ g4 ∧ Below w.heap.size w w4) := Lib.hid (by
                have k0 : Chg [] wr (wr.alloc (.cells (Ev.c ⟨1, i, n, t, b, e, s0, s1, s2, s3, s4, s5⟩).toArray 47)) := (Chg.refl [] wr).alloc _
                have hs := HS.out.2.2.2.2.2.size
                have l1 := HS.out.1.lt
                refine ⟨(HS.out.1.chg k0 (by simp)).chg r3 (by simp; exact HS.out.2.2.1), by rw [HO.out.1, evs_snoc]; exact r1, ?_, HS.out.2.2.2.1, ?_, r3.onto (HS.out.2.2.2.2.2.alloc hs _) (by simp; omega) (by simp; exact HS.out.2.2.2.2.1)⟩
                · rcases r2 with r2 | r2
                  · rw [r2]; exact HS.out.2.2.1
                  · simp at r2; omega
                · rcases r2 with r2 | r2
                  · rw [r2]; exact HS.out.2.2.2.2.1
                  · simp at r2; omega); clear r1 r2 r3)
          go_roundw
          case rel => exact ⟨j + 1, g4, c4, _, rfl, by go_num, by omega, Lib.hid ⟨by rw [HO.out.1, List.length_append]; simp; exact HO.out.2.2.1, HN.out⟩⟩
          case measure => simp [intOf]; omega
        · have h1b : (k == 1) = false := by simp [h1]
          rw [h1b, Bool.false_or] at hhv
          by_cases h7 : k = 7
          · subst h7
            obtain rfl : true = hv := by rw [← hhv]; simp
            have HO : Hid ((L2.take (j + 1)).filter (Pj.his a1) = O ++ [⟨7, i, n, t, b, e, s0, s1, s2, s3, s4, s5⟩] ∧ (evs O).length = q * 12 ∧ O.length = q ∧ True) := Lib.hid ⟨by rw [hfil, if_pos rfl], by rw [evs_len, HQ.out], HQ.out, trivial⟩
            clear hfil hhv
            go_wp2_with (at_builtin; refine wpList_append_rn _ rfl (.tmp 43) (.tmp 48) 22 22 rfl 47 (.agg #[.int .i64 0, .int .i64 0, .int .i64 0, .int .i64 0, .string ByteArray.empty, .int .i64 0, .int .i64 0, .int .i64 0, .int .i64 0, .int .i64 0, .int .i64 0, .int .i64 0]) 12 104 Try.underlying22 infoEv rfl g q c (evs O) rfl HO.out.2.1 (HS.out.2.1.chg (l := []) ((Chg.refl [] _).alloc _) (by simp)) _ rfl 1 (Ev.c ⟨7, i, n, t, b, e, s0, s1, s2, s3, s4, s5⟩) (Src.ofSlice _ Try.underlying22 ⟨_, 0, none⟩ 1 1 (Ev.c ⟨7, i, n, t, b, e, s0, s1, s2, s3, s4, s5⟩) rfl (new_atE _ _ _) (Ev.c_one _)) (by omega) (by omega) ?_; intro g4 c4 w4 r1 r2 r3; have HN : Hid (Rn w4 gl cl 12 (evs L2) 47 ∧ Rn w4 g4 c4 12 (evs ((L2.take (j + 1)).filter (Pj.his a1))) 47 ∧ gl ≠ g4 ∧ w.heap.size ≤ gl ∧ w.heap.size ≤ g4 ∧ Below w.heap.size w w4) := Lib.hid (by
                  have k0 : Chg [] wr (wr.alloc (.cells (Ev.c ⟨7, i, n, t, b, e, s0, s1, s2, s3, s4, s5⟩).toArray 47)) := (Chg.refl [] wr).alloc _
                  have hs := HS.out.2.2.2.2.2.size
                  have l1 := HS.out.1.lt
                  refine ⟨(HS.out.1.chg k0 (by simp)).chg r3 (by simp; exact HS.out.2.2.1), by rw [HO.out.1, evs_snoc]; exact r1, ?_, HS.out.2.2.2.1, ?_, r3.onto (HS.out.2.2.2.2.2.alloc hs _) (by simp; omega) (by simp; exact HS.out.2.2.2.2.1)⟩
                  · rcases r2 with r2 | r2
                    · rw [r2]; exact HS.out.2.2.1
                    · simp at r2; omega
                  · rcases r2 with r2 | r2
                    · rw [r2]; exact HS.out.2.2.2.2.1
                    · simp at r2; omega); clear r1 r2 r3)
            go_roundw
            case rel => exact ⟨j + 1, g4, c4, _, rfl, by go_num, by omega, Lib.hid ⟨by rw [HO.out.1, List.length_append]; simp; exact HO.out.2.2.1, HN.out⟩⟩
            case measure => simp [intOf]; omega
          · have h7b : (k == 7) = false := by simp [h7]
            obtain rfl : false = hv := by rw [← hhv]; exact h7b.symm
            have HO : Hid ((L2.take (j + 1)).filter (Pj.his a1) = O) := Lib.hid (by rw [hfil, if_neg (by simp)])
            clear hfil hhv
            go_wp2_with fail
            go_roundw
            case rel => exact ⟨j + 1, g, c, q, rfl, by go_num, by omega, Lib.hid (by rw [HO.out]; exact ⟨HQ.out, HS.out⟩)⟩
            case measure => simp [intOf]; omega
    · obtain rfl : j = m := by omega
      have i1 : ¬ (j : Int) < (j : Int) := by omega
      obtain ⟨O, hO⟩ : ∃ O, L2.filter (Pj.his a1) = O := ⟨_, rfl⟩
      have HS : Hid (O.length = q ∧ Rn wr gl cl 12 (evs L2) 47 ∧ Rn wr g c 12 (evs O) 47 ∧ Below w.heap.size w wr ∧ L2.filter (Pj.his a1) = O) := Lib.hid (by
        have h := HS0.out
        rw [List.take_of_length_le (by rw [HL2.out.2.1]; exact Nat.le_refl _), hO] at h
        exact ⟨h.1, h.2.1, h.2.2.1, h.2.2.2.2.2.2, hO⟩)
      have HR : Hid (EL wr (some ⟨gl, 0, none⟩) L2 ∧ EL wr (some ⟨g, 0, none⟩) O ∧ (∀ x ∈ O, x.ok) ∧ Ev.sum O ≤ 1000 ∧ Pj.life a1 O = Pj.life a1 L2) := Lib.hid (by
        have ho : ∀ x ∈ O, x.ok := fun x hx => HL2.out.2.2.1 x (by rw [← hO] at hx; exact (List.mem_filter.1 hx).1)
        refine ⟨EL.of_rn HS.out.2.1 HL2.out.2.2.1, EL.of_rn HS.out.2.2.1 ho, ho, ?_, by rw [← hO]; exact Pj.life_his a1 L2⟩
        have := Ev.sum_le (L := O) (B := 24) (by rw [← hO]; intro x hx; have := (List.mem_filter.1 hx).1; rw [← HL2.out.1] at this; exact fewE_b x this)
        have h2 : O.length ≤ 16 := by rw [← hO]; exact Nat.le_trans (List.length_filter_le _ _) (by rw [HL2.out.2.1]; exact hm16)
        have h3 : O.length * 24 ≤ 16 * 24 := Nat.mul_le_mul_right _ h2
        omega)
      have hq16 : q ≤ 16 := by rw [← HS.out.1, ← hO]; exact Nat.le_trans (List.length_filter_le _ _) (by rw [HL2.out.2.1]; exact hm16)
      have hcl : j ≤ cl := by have := HS.out.2.1.len; rw [evs_len, HL2.out.2.1] at this; omega
      have hcq : q ≤ c := by have := HS.out.2.2.1.len; rw [evs_len, HS.out.1] at this; omega
      clear HS0 hO
      obtain ⟨lf, hlf⟩ : ∃ lf, Pj.life a1 L2 = lf := ⟨_, rfl⟩
      have HLF := Lib.hid hlf
      clear hlf
      cases lf with
      | none =>
        go_upto_region 9 with (first
          | (go_at_call 9; (refine (pj_of_none (some ⟨gl, 0, none⟩) j cl L2 HL2.out.2.1 (by unfold maxLen; omega) a1 HLF.out _ HR.out.1).mono ?_); rintro r5 W5 ⟨rfl, bb⟩; have H2 : Hid (Blk (W5.alloc (.cells #[.int .i64 0, .int .i64 0, .int .i64 0, .slice none 0 0, .slice none 0 0, .string ⟨#[]⟩, .string ⟨#[]⟩, .bool false, .int .i64 0] 27)) W5.heap.size [.int .i64 0, .int .i64 0, .int .i64 0, .slice none 0 0, .slice none 0 0, .string ⟨#[]⟩, .string ⟨#[]⟩, .bool false, .int .i64 0] 27 ∧ EL (W5.alloc (.cells #[.int .i64 0, .int .i64 0, .int .i64 0, .slice none 0 0, .slice none 0 0, .string ⟨#[]⟩, .string ⟨#[]⟩, .bool false, .int .i64 0] 27)) (some ⟨g, 0, none⟩) O ∧ Below w.heap.size w (W5.alloc (.cells #[.int .i64 0, .int .i64 0, .int .i64 0, .slice none 0 0, .slice none 0 0, .string ⟨#[]⟩, .string ⟨#[]⟩, .bool false, .int .i64 0] 27))) := Lib.hid ⟨Blk.newA _ _ _, (HR.out.2.1.below bb).below ((Below.refl _ _).alloc (Nat.le_refl _) _), (HS.out.2.2.2.1.trans (bb.mono HS.out.2.2.2.1.size)).alloc (HS.out.2.2.2.1.trans (bb.mono HS.out.2.2.2.1.size)).size _⟩; clear bb)
          | fail)
        revert H2
        generalize (W5.alloc (.cells #[.int .i64 0, .int .i64 0, .int .i64 0, .slice none 0 0, .slice none 0 0, .string ⟨#[]⟩, .string ⟨#[]⟩, .bool false, .int .i64 0] 27)) = W6
        generalize hX1 : W5.heap.size = X1
        intro H2
        clear hX1
        go_upto_region 10 with (first
          | (go_at_call 9; (refine (pj_of_none (some ⟨g, 0, none⟩) q c O HS.out.1 (by unfold maxLen; omega) a1 (HR.out.2.2.2.2.trans HLF.out) _ H2.out.2.1).mono ?_); rintro r6 W7 ⟨rfl, bb⟩; have H3 : Hid ((Blk (W7.alloc (.cells #[.int .i64 0, .int .i64 0, .int .i64 0, .slice none 0 0, .slice none 0 0, .string ⟨#[]⟩, .string ⟨#[]⟩, .bool false, .int .i64 0] 27)) X1 [.int .i64 0, .int .i64 0, .int .i64 0, .slice none 0 0, .slice none 0 0, .string ⟨#[]⟩, .string ⟨#[]⟩, .bool false, .int .i64 0] 27 ∧ Blk (W7.alloc (.cells #[.int .i64 0, .int .i64 0, .int .i64 0, .slice none 0 0, .slice none 0 0, .string ⟨#[]⟩, .string ⟨#[]⟩, .bool false, .int .i64 0] 27)) W7.heap.size [.int .i64 0, .int .i64 0, .int .i64 0, .slice none 0 0, .slice none 0 0, .string ⟨#[]⟩, .string ⟨#[]⟩, .bool false, .int .i64 0] 27) ∧ Below w.heap.size w (W7.alloc (.cells #[.int .i64 0, .int .i64 0, .int .i64 0, .slice none 0 0, .slice none 0 0, .string ⟨#[]⟩, .string ⟨#[]⟩, .bool false, .int .i64 0] 27))) := Lib.hid ⟨⟨(H2.out.1.below bb H2.out.1.lt).alloc _, Blk.newA _ _ _⟩, (H2.out.2.2.trans (bb.mono H2.out.2.2.size)).alloc (H2.out.2.2.trans (bb.mono H2.out.2.2.size)).size _⟩; clear bb)
          | fail)
        clear H2
        revert H3
        generalize (W7.alloc (.cells #[.int .i64 0, .int .i64 0, .int .i64 0, .slice none 0 0, .slice none 0 0, .string ⟨#[]⟩, .string ⟨#[]⟩, .bool false, .int .i64 0] 27)) = W8
        generalize W7.heap.size = X2
        intro H3
        have HK : Hid (Below W8.heap.size W8 W8) := Lib.hid (Below.refl _ _)
        have x1 := (H3.out.1.1.below HK.out H3.out.1.1.lt).cell (i := 1) rfl
        have y1 := (H3.out.1.2.below HK.out H3.out.1.2.lt).cell (i := 1) rfl
        have x2 := (H3.out.1.1.below HK.out H3.out.1.1.lt).cell (i := 2) rfl
        have y2 := (H3.out.1.2.below HK.out H3.out.1.2.lt).cell (i := 2) rfl
        have x3 := (H3.out.1.1.below HK.out H3.out.1.1.lt).cell (i := 3) rfl
        have y3 := (H3.out.1.2.below HK.out H3.out.1.2.lt).cell (i := 3) rfl
        have x4 := (H3.out.1.1.below HK.out H3.out.1.1.lt).cell (i := 4) rfl
        have y4 := (H3.out.1.2.below HK.out H3.out.1.2.lt).cell (i := 4) rfl
        have x5 := (H3.out.1.1.below HK.out H3.out.1.1.lt).cell (i := 5) rfl
        have y5 := (H3.out.1.2.below HK.out H3.out.1.2.lt).cell (i := 5) rfl
        have x6 := (H3.out.1.1.below HK.out H3.out.1.1.lt).cell (i := 6) rfl
        have y6 := (H3.out.1.2.below HK.out H3.out.1.2.lt).cell (i := 6) rfl
        have x8 := (H3.out.1.1.below HK.out H3.out.1.1.lt).cell (i := 8) rfl
        have y8 := (H3.out.1.2.below HK.out H3.out.1.2.lt).cell (i := 8) rfl
        go_wp2_with (first
          | (go_at_call 19; refine (pj_sameIn none none 0 0 0 [] rfl (by omega) (by simp) _ (fun j x h => by simp at h) (fun j x h => by simp at h)).mono ?_; rintro rr0 WW0 ⟨rfl, bb⟩; have HK0 := Lib.hid (HK.out.trans (bb.mono HK.out.size)); clear bb; clear x1 y1 x2 y2 x3 y3 x4 y4 x5 y5 x6 y6 x8 y8; have x1 := (H3.out.1.1.below HK0.out H3.out.1.1.lt).cell (i := 1) rfl; have y1 := (H3.out.1.2.below HK0.out H3.out.1.2.lt).cell (i := 1) rfl; have x2 := (H3.out.1.1.below HK0.out H3.out.1.1.lt).cell (i := 2) rfl; have y2 := (H3.out.1.2.below HK0.out H3.out.1.2.lt).cell (i := 2) rfl; have x3 := (H3.out.1.1.below HK0.out H3.out.1.1.lt).cell (i := 3) rfl; have y3 := (H3.out.1.2.below HK0.out H3.out.1.2.lt).cell (i := 3) rfl; have x4 := (H3.out.1.1.below HK0.out H3.out.1.1.lt).cell (i := 4) rfl; have y4 := (H3.out.1.2.below HK0.out H3.out.1.2.lt).cell (i := 4) rfl; have x5 := (H3.out.1.1.below HK0.out H3.out.1.1.lt).cell (i := 5) rfl; have y5 := (H3.out.1.2.below HK0.out H3.out.1.2.lt).cell (i := 5) rfl; have x6 := (H3.out.1.1.below HK0.out H3.out.1.1.lt).cell (i := 6) rfl; have y6 := (H3.out.1.2.below HK0.out H3.out.1.2.lt).cell (i := 6) rfl; have x8 := (H3.out.1.1.below HK0.out H3.out.1.1.lt).cell (i := 8) rfl; have y8 := (H3.out.1.2.below HK0.out H3.out.1.2.lt).cell (i := 8) rfl)
          | (go_at_call 20; refine (pj_sameSteps none none 0 0 0 [] rfl (by omega) _ (fun j x h => by simp at h) (fun j x h => by simp at h)).mono ?_; rintro rr1 WW1 ⟨rfl, bb⟩; have HK1 := Lib.hid (HK0.out.trans (bb.mono HK0.out.size)); clear bb; clear x1 y1 x2 y2 x3 y3 x4 y4 x5 y5 x6 y6 x8 y8; have x1 := (H3.out.1.1.below HK1.out H3.out.1.1.lt).cell (i := 1) rfl; have y1 := (H3.out.1.2.below HK1.out H3.out.1.2.lt).cell (i := 1) rfl; have x2 := (H3.out.1.1.below HK1.out H3.out.1.1.lt).cell (i := 2) rfl; have y2 := (H3.out.1.2.below HK1.out H3.out.1.2.lt).cell (i := 2) rfl; have x3 := (H3.out.1.1.below HK1.out H3.out.1.1.lt).cell (i := 3) rfl; have y3 := (H3.out.1.2.below HK1.out H3.out.1.2.lt).cell (i := 3) rfl; have x4 := (H3.out.1.1.below HK1.out H3.out.1.1.lt).cell (i := 4) rfl; have y4 := (H3.out.1.2.below HK1.out H3.out.1.2.lt).cell (i := 4) rfl; have x5 := (H3.out.1.1.below HK1.out H3.out.1.1.lt).cell (i := 5) rfl; have y5 := (H3.out.1.2.below HK1.out H3.out.1.2.lt).cell (i := 5) rfl; have x6 := (H3.out.1.1.below HK1.out H3.out.1.1.lt).cell (i := 6) rfl; have y6 := (H3.out.1.2.below HK1.out H3.out.1.2.lt).cell (i := 6) rfl; have x8 := (H3.out.1.1.below HK1.out H3.out.1.1.lt).cell (i := 8) rfl; have y8 := (H3.out.1.2.below HK1.out H3.out.1.2.lt).cell (i := 8) rfl)
          | (go_at_call 18; refine (pj_lives31 _).mono ?_; rintro rr2 WW2 ⟨rfl, bb⟩; have HK2 := Lib.hid (HK1.out.trans (bb.mono HK1.out.size)); clear bb; clear x1 y1 x2 y2 x3 y3 x4 y4 x5 y5 x6 y6 x8 y8)
          | fail)
        go_ret
        exact ⟨rfl, H3.out.2.trans (HK2.out.mono H3.out.2.size)⟩
      | some lf =>
        obtain ⟨sc, fr, T⟩ := lf
        obtain ⟨nT, hnT⟩ : ∃ n, T.length = n := ⟨_, rfl⟩
        obtain ⟨nS, hnS⟩ : ∃ n, (Pj.stE T).length = n := ⟨_, rfl⟩
        obtain ⟨rd, hrd⟩ : ∃ x, Pj.rd T = x := ⟨_, rfl⟩
        obtain ⟨tk, htk⟩ : ∃ x, Pj.tk T = x := ⟨_, rfl⟩
        obtain ⟨eo, heo⟩ : ∃ x, Pj.eof T = x := ⟨_, rfl⟩
        obtain ⟨st, hst⟩ : ∃ x, Pj.ss T = x := ⟨_, rfl⟩
        have hT := Pj.life_ok HL2.out.2.2.1 HLF.out
        have HT : Hid (T.length = nT ∧ (Pj.stE T).length = nS ∧ Pj.rd T = rd ∧ Pj.tk T = tk ∧ Pj.eof T = eo ∧ Pj.ss T = st ∧ (∀ x ∈ T, x.ok)) := Lib.hid ⟨hnT, hnS, hrd, htk, heo, hst, hT.1⟩
        have hnT16 : nT ≤ 16 := by rw [← hnT]; exact Nat.le_trans hT.2 (by rw [HL2.out.2.1]; exact hm16)
        have hnS16 : nS ≤ 16 := by rw [← hnS]; exact Nat.le_trans (Pj.nst_le T) (by rw [hnT]; exact hnT16)
        clear hT hnT hnS hrd htk heo hst
        go_upto_region 9 with (first
          | (go_at_call 9; (refine (pj_of_some (some ⟨gl, 0, none⟩) j cl L2 HL2.out.2.1 (by omega) (by omega) (by have := HL2.out.2.2.2; omega) a1 sc fr T HLF.out eo HT.out.2.2.2.2.1 st HT.out.2.2.2.2.2.1 rd tk HT.out.2.2.1 HT.out.2.2.2.1 nT nS HT.out.1 HT.out.2.1 (Pj.ins T) (Pj.sts T) rfl rfl _ HR.out.1).mono ?_); rintro r5 W5 ⟨r1, k1, r2, k2, rfl, p1, p2, bb⟩; have H2 : Hid (Blk (W5.alloc (.cells #[.int .i64 a1, .int .i64 sc, .int .i64 fr, .slice r1 nT k1, .slice r2 nS k2, .string rd, .string tk, .bool eo, .int .i64 st] 27)) W5.heap.size [.int .i64 a1, .int .i64 sc, .int .i64 fr, .slice r1 nT k1, .slice r2 nS k2, .string rd, .string tk, .bool eo, .int .i64 st] 27 ∧ EL (W5.alloc (.cells #[.int .i64 a1, .int .i64 sc, .int .i64 fr, .slice r1 nT k1, .slice r2 nS k2, .string rd, .string tk, .bool eo, .int .i64 st] 27)) (some ⟨g, 0, none⟩) O ∧ Below w.heap.size w (W5.alloc (.cells #[.int .i64 a1, .int .i64 sc, .int .i64 fr, .slice r1 nT k1, .slice r2 nS k2, .string rd, .string tk, .bool eo, .int .i64 st] 27)) ∧ RE (W5.alloc (.cells #[.int .i64 a1, .int .i64 sc, .int .i64 fr, .slice r1 nT k1, .slice r2 nS k2, .string rd, .string tk, .bool eo, .int .i64 st] 27)) r1 4 Pj.inC T ∧ RE (W5.alloc (.cells #[.int .i64 a1, .int .i64 sc, .int .i64 fr, .slice r1 nT k1, .slice r2 nS k2, .string rd, .string tk, .bool eo, .int .i64 st] 27)) r2 6 Ev.st (Pj.stE T)) := Lib.hid ⟨Blk.newA _ _ _, (HR.out.2.1.below bb).below ((Below.refl _ _).alloc (Nat.le_refl _) _), (HS.out.2.2.2.1.trans (bb.mono HS.out.2.2.2.1.size)).alloc (HS.out.2.2.2.1.trans (bb.mono HS.out.2.2.2.1.size)).size _, (RE.of_rm (f := Pj.inC) p1 HT.out.1 Pj.inC_len).below ((Below.refl _ _).alloc (Nat.le_refl _) _), (RE.of_rm (f := Ev.st) (M := Pj.stE T) p2 HT.out.2.1 Ev.st_len).below ((Below.refl _ _).alloc (Nat.le_refl _) _)⟩; clear p1 p2 bb)
          | fail)
        revert H2
        generalize (W5.alloc (.cells #[.int .i64 a1, .int .i64 sc, .int .i64 fr, .slice r1 nT k1, .slice r2 nS k2, .string rd, .string tk, .bool eo, .int .i64 st] 27)) = W6
        generalize hX1 : W5.heap.size = X1
        intro H2
        clear hX1
        go_upto_region 10 with (first
          | (go_at_call 9; (refine (pj_of_some (some ⟨g, 0, none⟩) q c O HS.out.1 (by omega) (by omega) (by have := HR.out.2.2.2.1; omega) a1 sc fr T (HR.out.2.2.2.2.trans HLF.out) eo HT.out.2.2.2.2.1 st HT.out.2.2.2.2.2.1 rd tk HT.out.2.2.1 HT.out.2.2.2.1 nT nS HT.out.1 HT.out.2.1 (Pj.ins T) (Pj.sts T) rfl rfl _ H2.out.2.1).mono ?_); rintro r6 W7 ⟨r3, k3, r4, k4, rfl, p3, p4, bb⟩; have H3 : Hid ((Blk (W7.alloc (.cells #[.int .i64 a1, .int .i64 sc, .int .i64 fr, .slice r3 nT k3, .slice r4 nS k4, .string rd, .string tk, .bool eo, .int .i64 st] 27)) X1 [.int .i64 a1, .int .i64 sc, .int .i64 fr, .slice r1 nT k1, .slice r2 nS k2, .string rd, .string tk, .bool eo, .int .i64 st] 27 ∧ Blk (W7.alloc (.cells #[.int .i64 a1, .int .i64 sc, .int .i64 fr, .slice r3 nT k3, .slice r4 nS k4, .string rd, .string tk, .bool eo, .int .i64 st] 27)) W7.heap.size [.int .i64 a1, .int .i64 sc, .int .i64 fr, .slice r3 nT k3, .slice r4 nS k4, .string rd, .string tk, .bool eo, .int .i64 st] 27) ∧ Below w.heap.size w (W7.alloc (.cells #[.int .i64 a1, .int .i64 sc, .int .i64 fr, .slice r3 nT k3, .slice r4 nS k4, .string rd, .string tk, .bool eo, .int .i64 st] 27)) ∧ RE (W7.alloc (.cells #[.int .i64 a1, .int .i64 sc, .int .i64 fr, .slice r3 nT k3, .slice r4 nS k4, .string rd, .string tk, .bool eo, .int .i64 st] 27)) r1 4 Pj.inC T ∧ RE (W7.alloc (.cells #[.int .i64 a1, .int .i64 sc, .int .i64 fr, .slice r3 nT k3, .slice r4 nS k4, .string rd, .string tk, .bool eo, .int .i64 st] 27)) r2 6 Ev.st (Pj.stE T) ∧ RE (W7.alloc (.cells #[.int .i64 a1, .int .i64 sc, .int .i64 fr, .slice r3 nT k3, .slice r4 nS k4, .string rd, .string tk, .bool eo, .int .i64 st] 27)) r3 4 Pj.inC T ∧ RE (W7.alloc (.cells #[.int .i64 a1, .int .i64 sc, .int .i64 fr, .slice r3 nT k3, .slice r4 nS k4, .string rd, .string tk, .bool eo, .int .i64 st] 27)) r4 6 Ev.st (Pj.stE T)) := Lib.hid ⟨⟨(H2.out.1.below bb H2.out.1.lt).alloc _, Blk.newA _ _ _⟩, (H2.out.2.2.1.trans (bb.mono H2.out.2.2.1.size)).alloc (H2.out.2.2.1.trans (bb.mono H2.out.2.2.1.size)).size _, (H2.out.2.2.2.1.below bb).below ((Below.refl _ _).alloc (Nat.le_refl _) _), (H2.out.2.2.2.2.below bb).below ((Below.refl _ _).alloc (Nat.le_refl _) _), (RE.of_rm (f := Pj.inC) p3 HT.out.1 Pj.inC_len).below ((Below.refl _ _).alloc (Nat.le_refl _) _), (RE.of_rm (f := Ev.st) (M := Pj.stE T) p4 HT.out.2.1 Ev.st_len).below ((Below.refl _ _).alloc (Nat.le_refl _) _)⟩; clear p3 p4 bb)
          | fail)
        clear H2
        revert H3
        generalize (W7.alloc (.cells #[.int .i64 a1, .int .i64 sc, .int .i64 fr, .slice r3 nT k3, .slice r4 nS k4, .string rd, .string tk, .bool eo, .int .i64 st] 27)) = W8
        generalize W7.heap.size = X2
        intro H3
        have HK : Hid (Below W8.heap.size W8 W8) := Lib.hid (Below.refl _ _)
        have x1 := (H3.out.1.1.below HK.out H3.out.1.1.lt).cell (i := 1) rfl
        have y1 := (H3.out.1.2.below HK.out H3.out.1.2.lt).cell (i := 1) rfl
        have x2 := (H3.out.1.1.below HK.out H3.out.1.1.lt).cell (i := 2) rfl
        have y2 := (H3.out.1.2.below HK.out H3.out.1.2.lt).cell (i := 2) rfl
        have x3 := (H3.out.1.1.below HK.out H3.out.1.1.lt).cell (i := 3) rfl
        have y3 := (H3.out.1.2.below HK.out H3.out.1.2.lt).cell (i := 3) rfl
        have x4 := (H3.out.1.1.below HK.out H3.out.1.1.lt).cell (i := 4) rfl
        have y4 := (H3.out.1.2.below HK.out H3.out.1.2.lt).cell (i := 4) rfl
        have x5 := (H3.out.1.1.below HK.out H3.out.1.1.lt).cell (i := 5) rfl
        have y5 := (H3.out.1.2.below HK.out H3.out.1.2.lt).cell (i := 5) rfl
        have x6 := (H3.out.1.1.below HK.out H3.out.1.1.lt).cell (i := 6) rfl
        have y6 := (H3.out.1.2.below HK.out H3.out.1.2.lt).cell (i := 6) rfl
        have x8 := (H3.out.1.1.below HK.out H3.out.1.1.lt).cell (i := 8) rfl
        have y8 := (H3.out.1.2.below HK.out H3.out.1.2.lt).cell (i := 8) rfl
        go_wp2_with (first
          | (go_at_call 19; refine (pj_sameIn r1 r3 nT k1 k3 T HT.out.1 (by omega) HT.out.2.2.2.2.2.2 _ (H3.out.2.2.1.below HK.out) (H3.out.2.2.2.2.1.below HK.out)).mono ?_; rintro rr0 WW0 ⟨rfl, bb⟩; have HK0 := Lib.hid (HK.out.trans (bb.mono HK.out.size)); clear bb; clear x1 y1 x2 y2 x3 y3 x4 y4 x5 y5 x6 y6 x8 y8; have x1 := (H3.out.1.1.below HK0.out H3.out.1.1.lt).cell (i := 1) rfl; have y1 := (H3.out.1.2.below HK0.out H3.out.1.2.lt).cell (i := 1) rfl; have x2 := (H3.out.1.1.below HK0.out H3.out.1.1.lt).cell (i := 2) rfl; have y2 := (H3.out.1.2.below HK0.out H3.out.1.2.lt).cell (i := 2) rfl; have x3 := (H3.out.1.1.below HK0.out H3.out.1.1.lt).cell (i := 3) rfl; have y3 := (H3.out.1.2.below HK0.out H3.out.1.2.lt).cell (i := 3) rfl; have x4 := (H3.out.1.1.below HK0.out H3.out.1.1.lt).cell (i := 4) rfl; have y4 := (H3.out.1.2.below HK0.out H3.out.1.2.lt).cell (i := 4) rfl; have x5 := (H3.out.1.1.below HK0.out H3.out.1.1.lt).cell (i := 5) rfl; have y5 := (H3.out.1.2.below HK0.out H3.out.1.2.lt).cell (i := 5) rfl; have x6 := (H3.out.1.1.below HK0.out H3.out.1.1.lt).cell (i := 6) rfl; have y6 := (H3.out.1.2.below HK0.out H3.out.1.2.lt).cell (i := 6) rfl; have x8 := (H3.out.1.1.below HK0.out H3.out.1.1.lt).cell (i := 8) rfl; have y8 := (H3.out.1.2.below HK0.out H3.out.1.2.lt).cell (i := 8) rfl)
          | (go_at_call 20; refine (pj_sameSteps r2 r4 nS k2 k4 (Pj.stE T) HT.out.2.1 (by omega) _ (H3.out.2.2.2.1.below HK0.out) (H3.out.2.2.2.2.2.below HK0.out)).mono ?_; rintro rr1 WW1 ⟨rfl, bb⟩; have HK1 := Lib.hid (HK0.out.trans (bb.mono HK0.out.size)); clear bb; clear x1 y1 x2 y2 x3 y3 x4 y4 x5 y5 x6 y6 x8 y8; have x1 := (H3.out.1.1.below HK1.out H3.out.1.1.lt).cell (i := 1) rfl; have y1 := (H3.out.1.2.below HK1.out H3.out.1.2.lt).cell (i := 1) rfl; have x2 := (H3.out.1.1.below HK1.out H3.out.1.1.lt).cell (i := 2) rfl; have y2 := (H3.out.1.2.below HK1.out H3.out.1.2.lt).cell (i := 2) rfl; have x3 := (H3.out.1.1.below HK1.out H3.out.1.1.lt).cell (i := 3) rfl; have y3 := (H3.out.1.2.below HK1.out H3.out.1.2.lt).cell (i := 3) rfl; have x4 := (H3.out.1.1.below HK1.out H3.out.1.1.lt).cell (i := 4) rfl; have y4 := (H3.out.1.2.below HK1.out H3.out.1.2.lt).cell (i := 4) rfl; have x5 := (H3.out.1.1.below HK1.out H3.out.1.1.lt).cell (i := 5) rfl; have y5 := (H3.out.1.2.below HK1.out H3.out.1.2.lt).cell (i := 5) rfl; have x6 := (H3.out.1.1.below HK1.out H3.out.1.1.lt).cell (i := 6) rfl; have y6 := (H3.out.1.2.below HK1.out H3.out.1.2.lt).cell (i := 6) rfl; have x8 := (H3.out.1.1.below HK1.out H3.out.1.1.lt).cell (i := 8) rfl; have y8 := (H3.out.1.2.below HK1.out H3.out.1.2.lt).cell (i := 8) rfl)
          | (go_at_call 18; refine (pj_lives31 _).mono ?_; rintro rr2 WW2 ⟨rfl, bb⟩; have HK2 := Lib.hid (HK1.out.trans (bb.mono HK1.out.size)); clear bb; clear x1 y1 x2 y2 x3 y3 x4 y4 x5 y5 x6 y6 x8 y8)
          | fail)
        go_ret
        exact ⟨rfl, H3.out.2.1.trans (HK2.out.mono H3.out.2.1.size)⟩

set_option maxRecDepth 100000 in
theorem lifted (os : Os) (started : os.Started) (H : Type) (enc : TypeId × Value → H) :
    ReturnsInHanded {} Try.checked os 4 .any (Rows.projOtherSpec.pre6 enc Try.prog Try.f4 Rows.projOtherRow.domain false) (Rows.projOtherSpec.post enc Try.prog Try.f4 false true false false) := by
  refine returnsInHanded_of_change (C := Try.checked) ownKn started (by kernel_rfl) Try.func4
    (ChangeSpec.witness6 (enc := enc) (C := Try.checked) false ⟨#[], #[.slice none 0 0, .int .i64 0], []⟩ 8 (by kernel_rfl) (by kernel_rfl) (by kernel_rfl) (by kernel_rfl)) ?_
  intro W base args ds gs before hval0 hW hcnd _
  have hval : ∀ (j : Nat) t v, Try.f4.params[j]? = some t → args[j]? = some v → Value.okWide Try.prog W .any base t v := hval0
  have hW' := hW
  obtain ⟨p, q, hA0, hV, rfl, hfz, hnd⟩ := hW
  have hA : DataW.TrodAll enc Try.prog W 0 (fun _ => true) true Try.f4.params.toList args.toList ds p := hA0
  rw [Try.params4] at hA hval
  obtain ⟨v0, vs0, d0, ds0, p0, q0, hargs, rfl, rfl, h0, r0⟩ := trodAll_cons hA
  obtain ⟨v1, vs1, d1, ds1, p1, q1, rfl, rfl, rfl, h1, r1⟩ := trodAll_cons r0
  obtain ⟨rfl, rfl, rfl⟩ := trodAll_nil r1
  obtain rfl : args = #[v0, v1] := by cases args; simp_all
  obtain ⟨rfl, rfl⟩ := trodVars_none hV
  have k0 := h0
  have lt0 : ∀ x ∈ p0, x.block < W.heap.size := by obtain ⟨m, hm⟩ := k0; exact DataW.trod_lt m _ _ _ hm
  obtain ⟨b0, lb0, cb0, rfl⟩ := okWide_slice Try.underlying22 (hval 0 22 v0 rfl rfl)
  obtain ⟨fu0, hf0⟩ := h0
  simp only [Value.cells] at hf0
  obtain ⟨a0, len0, cap0, z0, e0, w0⟩ := fld_ev hf0
  obtain ⟨rfl, rfl, rfl⟩ : b0 = a0 ∧ lb0 = len0 ∧ cb0 = cap0 := by simpa using e0
  have k1 := h1
  have lt1 : ∀ x ∈ p1, x.block < W.heap.size := by obtain ⟨m, hm⟩ := k1; exact DataW.trod_lt m _ _ _ hm
  obtain ⟨a1, rfl, rfl, rfl, w1⟩ := open_int Try.underlying3 (hval 1 3 v1 rfl rfl) h1
  clear hA0 hval0
  refine (walk b0 lb0 cb0 z0 a1 W w0 w1).mono fun e W' ⟨he, bel⟩ => ?_
  subst he
  exact ⟨_, rfl, _, _, _, [], _, [], hW', trodAll_mk1 (shut_bool Try.underlying4 _), (trodAll_cons_mk (Below.trod laidOut (by kernel_rfl) (of_decide_eq_true (by kernel_rfl)) k0 bel lt0) (trodAll_cons_mk (Below.trod laidOut (by kernel_rfl) (of_decide_eq_true (by kernel_rfl)) k1 bel lt1) trodAll_mk0)), rfl, bel.frame _, fun h => by cases h⟩

theorem over : Rows.projOtherRow.holds Try.pinned (OpenSpec.ofChange Rows.projOtherSpec) :=
  OpenClaim.holds_of_wide 4 Try.f4 rfl rfl rfl rfl rfl rfl rfl ⟨rfl, rfl, rfl, rfl, rfl⟩ rfl rfl rfl rfl rfl (by kernel_rfl) Try.func4 (by kernel_rfl)
    (of_decide_eq_true (by kernel_rfl)) (by unfold Func.isWrapper; first | (rw [if_pos (by decide +kernel)]; kernel_rfl) | (rw [if_neg (by decide +kernel)]; exact ⟨rfl, rfl⟩))
    (fun os started H enc _ => lifted os started H enc)

/-- The statement. -/
theorem proved : Rows.ProjOtherSaid := over
#print axioms proved
end Go.Proofs.Ytdchedkhlfmpeaa.projOther
