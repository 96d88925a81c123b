/- Faults: the document's Text; lives of the law. -/
import Derived.Test.YtlofcccabdocgaaDoorFa6
import Derived.WalkKit
import Derived.ProofKit
import Derived.Handy
import Derived.WalkLawsBesides
import Derived.WalkSpells
import Derived.Lib.Hide
import Derived.Lib.SliceRun
import Derived.Deep.RegionLaw
import Derived.RegionTactic
import Derived.ChangeAlike
import Derived.WalkSmall
import Derived.Deep.QuietTactic
import Derived.BigQuiet
import Derived.OwnWalk
import Derived.Outline
import Derived.Deep.CutRange
import Derived.Deep.CutBlock
import Derived.LoopTactic
namespace Go.Proofs.YtlofcccabdocgaaDoor
open Go.ChangeShapes Go.WideShapes Go.ChangeAt Go.RowKit
set_option linter.unusedSimpArgs false
set_option linter.unusedVariables false

theorem fr_two {w W : World} {L : List Wp} {ga o j : Nat} {ba : Bool} {ln co : Int} {nm : ByteArray} (h : WL w (some ⟨ga, o, none⟩) L) (k : Below w.heap.size w W) (hx : (nm.size ≤ maxLen ∧ Fa.i64 ln ∧ Fa.i64 co) ∧ ∃ g o', (some ⟨ga, o, none⟩ : Option Addr) = some ⟨g, o', none⟩ ∧ g < w.heap.size ∧ w.cell? ⟨g, o' + j * 4, none⟩ = some (.bool ba) ∧ w.cell? ⟨g, o' + j * 4 + 1, none⟩ = some (.int .i64 ln) ∧ w.cell? ⟨g, o' + j * 4 + 2, none⟩ = some (.int .i64 co) ∧ w.cell? ⟨g, o' + j * 4 + 3, none⟩ = some (.string nm)) :
    W.cell? ⟨ga, o + j * 4 + 1, none⟩ = some (.int .i64 ln) ∧ W.cell? ⟨ga, o + j * 4 + 2, none⟩ = some (.int .i64 co) := by
  obtain ⟨_, g, o', e, hg, _, h1, h2, _⟩ := hx
  injection e with e
  injection e with e1 e2 _
  subst e1 e2
  exact ⟨(Chg.cell (l := []) (Chg.of_fresh k) hg (by simp)).trans h1, (Chg.cell (l := []) (Chg.of_fresh k) hg (by simp)).trans h2⟩
theorem fa_l0ok : ∀ x ∈ ([⟨false, 0, 0, ({ data := #[97] } : ByteArray)⟩, ⟨true, 2, 6, ByteArray.empty⟩] : List Wp), x.ok := by
  intro x hx
  simp only [List.mem_cons, List.not_mem_nil, or_false] at hx
  rcases hx with rfl | rfl <;> refine ⟨?_, ?_, ?_⟩ <;> first | (unfold Fa.i64; dsimp only; omega) | (unfold maxLen; decide)
theorem fa_l0n : ∀ x ∈ ([⟨false, 0, 0, ({ data := #[97] } : ByteArray)⟩, ⟨true, 2, 6, ByteArray.empty⟩] : List Wp), x.n.size ≤ 100 := by
  intro x hx
  simp only [List.mem_cons, List.not_mem_nil, or_false] at hx
  rcases hx with rfl | rfl <;> decide
theorem fa_dec1 (n : Nat) (h : n < 10) : Lib.decDigits n = [UInt8.ofNat (48 + n)] := by
  rw [Lib.decDigits, dif_pos h]
theorem fa_ito1 (n : Nat) (h : n < 10) : Lib.itoa (n : Int) = [UInt8.ofNat (48 + n)] := by
  unfold Lib.itoa
  rw [if_neg (by omega)]
  exact fa_dec1 n h
theorem fa_ito13 : Lib.itoa 13 = [49, 51] := by
  unfold Lib.itoa
  rw [if_neg (by omega)]
  show Lib.decDigits 13 = _
  rw [Lib.decDigits, dif_neg (by omega)]
  have h1 := fa_dec1 1 (by omega)
  rw [show 13 / 10 = 1 from rfl, h1]
  rfl
theorem fa_l0t : Fa.txt [⟨false, 0, 0, ({ data := #[97] } : ByteArray)⟩, ⟨true, 2, 6, ByteArray.empty⟩] 13 = ({ data := #[105, 110, 32, 97, 58, 32, 108, 105, 110, 101, 32, 50, 44, 32, 99, 111, 108, 117, 109, 110, 32, 54, 58, 32, 101, 114, 114, 111, 114, 32, 49, 51] } : ByteArray) := by
  unfold Fa.txt Fa.er Fa.pre Fa.w Le.num
  simp only [List.foldl_cons, List.foldl_nil]
  have h2 := fa_ito1 2 (by omega)
  have h6 := fa_ito1 6 (by omega)
  rw [fa_ito13, show Lib.itoa 2 = _ from h2, show Lib.itoa 6 = _ from h6]
  rfl
theorem fa_num (n : Int) (h0 : Fa.i64 n) (N : ByteArray) (hN : Le.num n = N) (w : World) : Calls Tryd.prog 31 #[.int .i64 n] w fun e w' => e = .returned (.string N) ∧ Below w.heap.size w w' :=
  rl_num n h0.1 h0.2 N hN.symm w
set_option maxRecDepth 20000 in
set_option maxHeartbeats 16000000 in
theorem fr_text (a : Option Addr) (len cap : Nat) (L : List Wp) (hl : L.length = len) (hlm : len ≤ 1000) (hn : ∀ x ∈ L, x.n.size ≤ 100) (e : Int) (he : Fa.i64 e) (S : ByteArray) (hS : Fa.txt L e = S) (w : World) (HE : WL w a L) :
    Calls Tryd.prog 15 #[.slice a len cap, .int .i64 e] w fun r w' => r = .returned (.string S) ∧ Below w.heap.size w w' := by
  have HL := Lib.hid (And.intro hl (And.intro hn (And.intro he (And.intro hS HE))))
  clear hl hn he hS HE
  go_enter Tryd.func15, Tryd.ntmps15
  go_wp2_with fail
  go_loopw [5, 6] (fun o i wr => ∃ (j : Nat), o = .string (Fa.pre (L.take j)) ∧ i = .int .i64 j ∧ j ≤ len ∧ Hid (Below w.heap.size w wr)) (fun _ i _ => len - (intOf i).toNat)
  case atStart => exact ⟨0, by rw [List.take_zero]; rfl, rfl, by omega, Lib.hid (Below.refl _ _)⟩
  case round =>
    obtain ⟨j, rfl, rfl, hj, HB⟩ := hrel
    have j0 : (0 : Int) ≤ (j : Int) := by omega
    have hpl := Fa.pre_len (L := L.take j) (fun y hy => HL.out.2.2.2.2.ok y (List.mem_of_mem_take hy)) (fun y hy => HL.out.2.1 y (List.mem_of_mem_take hy))
    obtain ⟨S1, hS1⟩ : ∃ S1, Fa.pre (L.take j) = S1 := ⟨_, rfl⟩
    rw [hS1, List.length_take, HL.out.1] at hpl
    rw [hS1]
    by_cases hjl : j < len
    · have i1 : (j : Int) < (len : Int) := by omega
      have w1 : IntKind.i64.wrap ((j : Int) + 1) = (j : Int) + 1 := IntWalk.i64_in _ (by omega)
      obtain ⟨ba, ln, co, nm, es⟩ : ∃ ba ln co nm, L[j]? = some ⟨ba, ln, co, nm⟩ := ⟨_, _, _, _, List.getElem?_eq_getElem (by rw [HL.out.1]; exact hjl)⟩
      have hxn := HL.out.2.1 _ (List.mem_of_getElem? es)
      have HPR : Hid (Fa.pre (L.take (j + 1)) = S1 ++ Fa.w ⟨ba, ln, co, nm⟩) := Lib.hid (by rw [take_snocE es, Fa.pre_snoc, hS1])
      obtain ⟨⟨_, hi1, hi2⟩, ga, o, rfl, hgw, e0, e1, e2, e3⟩ := (HL.out.2.2.2.2.below HB.out).get es
      dsimp only at hxn
      have HE2 := Lib.hid (HL.out.2.2.2.2.get es)
      clear es hS1
      cases ba with
      | true =>
        have hn1 := Fa.num_len hi1
        have hn2 := Fa.num_len hi2
        obtain ⟨N, hN⟩ : ∃ N, Le.num ln = N := ⟨_, rfl⟩
        obtain ⟨N2, hN2⟩ : ∃ N, Le.num co = N := ⟨_, rfl⟩
        rw [hN] at hn1
        rw [hN2] at hn2
        obtain ⟨S2, hS2⟩ : ∃ S2, S1 ++ ({ data := #[108, 105, 110, 101, 32] } : ByteArray) = S2 := ⟨_, rfl⟩
        obtain ⟨S3, hS3⟩ : ∃ S3, S2 ++ N = S3 := ⟨_, rfl⟩
        obtain ⟨S4, hS4⟩ : ∃ S4, S3 ++ ({ data := #[44, 32, 99, 111, 108, 117, 109, 110, 32] } : ByteArray) = S4 := ⟨_, rfl⟩
        obtain ⟨S5, hS5⟩ : ∃ S5, S4 ++ N2 = S5 := ⟨_, rfl⟩
        obtain ⟨S6, hS6⟩ : ∃ S6, S5 ++ ({ data := #[58, 32] } : ByteArray) = S6 := ⟨_, rfl⟩
        have z2 : S2.size = S1.size + 5 := by rw [← hS2, ByteArray.size_append]; rfl
        have z3 : S3.size = S2.size + N.size := by rw [← hS3, ByteArray.size_append]
        have z4 : S4.size = S3.size + 9 := by rw [← hS4, ByteArray.size_append]; rfl
        have z5 : S5.size = S4.size + N2.size := by rw [← hS5, ByteArray.size_append]
        have c1 : ¬ (9223372036854775807 < S1.size + 5) := by omega
        have c2 : ¬ (9223372036854775807 < S2.size + N.size) := by omega
        have c3 : ¬ (9223372036854775807 < S3.size + 9) := by omega
        have c4 : ¬ (9223372036854775807 < S4.size + N2.size) := by omega
        have c5 : ¬ (9223372036854775807 < S5.size + 2) := by omega
        have HPS : Hid (S6 = Fa.pre (L.take (j + 1))) := Lib.hid (by
          rw [HPR.out, ← hS6, ← hS5, ← hS4, ← hS3, ← hS2, ← hN, ← hN2]
          unfold Fa.w
          rw [if_pos rfl]
          simp only [ByteArray.append_assoc])
        have HN := Lib.hid (And.intro hi1 (And.intro hi2 (And.intro hN hN2)))
        clear z2 z3 z4 z5 hN hN2 hi1 hi2 hpl hn1 hn2 hxn hgw
        go_upto_region 6 with fail
        clear e0 e1 e2 e3
        have HBD := Lib.hid (HB.out.trans ((Below.refl wr.heap.size wr).drew.mono HB.out.size))
        replace HB := HBD
        clear HBD
        have s0 : wr.drew.cell? ⟨ga, o + j * 4 + 1, none⟩ = some (.int .i64 ln) ∧ wr.drew.cell? ⟨ga, o + j * 4 + 2, none⟩ = some (.int .i64 co) := fr_two HL.out.2.2.2.2 HB.out HE2.out
        go_region_held3 (fun W => W.cell? ⟨ga, o + j * 4 + 1, none⟩ = some (.int .i64 ln) ∧ W.cell? ⟨ga, o + j * 4 + 2, none⟩ = some (.int .i64 co)) (first | with_reducible exact sA | with_reducible exact s0 | go_keep) (first
          | (go_at_call 31; (with_reducible refine (fa_num ln HN.out.1 N HN.out.2.2.1 _).mono ?_); rintro e1 V1 ⟨rfl, q3⟩; have HBn := Lib.hid (HB.out.trans (q3.mono HB.out.size)); clear HB; have HB := HBn; clear HBn q3; have sA := fr_two HL.out.2.2.2.2 HB.out HE2.out)
          | (go_at_call 31; (with_reducible refine (fa_num co HN.out.2.1 N2 HN.out.2.2.2 _).mono ?_); rintro e1 V1 ⟨rfl, q3⟩; have HBn := Lib.hid (HB.out.trans (q3.mono HB.out.size)); clear HB; have HB := HBn; clear HBn q3; have sA := fr_two HL.out.2.2.2.2 HB.out HE2.out))
        all_goals
          go_wp2_with fail
          go_roundw
          case rel => exact ⟨j + 1, by rw [← HPS.out], by go_num, by omega, HB⟩
          case measure => simp [intOf]; omega
      | false =>
        obtain ⟨S2, hS2⟩ : ∃ S2, S1 ++ ({ data := #[105, 110, 32] } : ByteArray) = S2 := ⟨_, rfl⟩
        obtain ⟨S3, hS3⟩ : ∃ S3, S2 ++ nm = S3 := ⟨_, rfl⟩
        obtain ⟨S4, hS4⟩ : ∃ S4, S3 ++ ({ data := #[58, 32] } : ByteArray) = S4 := ⟨_, rfl⟩
        have z2 : S2.size = S1.size + 3 := by rw [← hS2, ByteArray.size_append]; rfl
        have z3 : S3.size = S2.size + nm.size := by rw [← hS3, ByteArray.size_append]
        have c1 : ¬ (9223372036854775807 < S1.size + 3) := by omega
        have c2 : ¬ (9223372036854775807 < S2.size + nm.size) := by omega
        have c3 : ¬ (9223372036854775807 < S3.size + 2) := by omega
        have HPS : Hid (S4 = Fa.pre (L.take (j + 1))) := Lib.hid (by
          rw [HPR.out, ← hS4, ← hS3, ← hS2]
          unfold Fa.w
          rw [if_neg (by simp)]
          simp only [ByteArray.append_assoc])
        clear z2 z3 hi1 hi2 hpl hxn hgw
        go_wp2_with fail
        go_roundw
        case rel => exact ⟨j + 1, by rw [← HPS.out], by go_num, by omega, HB⟩
        case measure => simp [intOf]; omega
    · obtain rfl : j = len := by omega
      have i1 : ¬ (j : Int) < (j : Int) := by omega
      have hn1 := Fa.num_len HL.out.2.2.1
      obtain ⟨N, hN⟩ : ∃ N, Le.num e = N := ⟨_, rfl⟩
      rw [hN] at hn1
      obtain ⟨S2, hS2⟩ : ∃ S2, S1 ++ ({ data := #[101, 114, 114, 111, 114, 32] } : ByteArray) = S2 := ⟨_, rfl⟩
      have z2 : S2.size = S1.size + 6 := by rw [← hS2, ByteArray.size_append]; rfl
      have HPS : Hid (S2 ++ N = S) := Lib.hid (by
        rw [← HL.out.2.2.2.1, ← hS2, ← hS1, List.take_of_length_le (by rw [HL.out.1]; exact Nat.le_refl _), ← hN]
        unfold Fa.txt Fa.er
        rw [ByteArray.append_assoc])
      have HN := Lib.hid hN
      have c1 : ¬ (9223372036854775807 < S1.size + 6) := by omega
      have c2 : ¬ (9223372036854775807 < S2.size + N.size) := by omega
      clear hN hS1 z2 hpl hn1
      go_wp2_with (go_at_call 31; (with_reducible refine (fa_num e HL.out.2.2.1 N HN.out _).mono ?_); rintro e1 V1 ⟨rfl, q3⟩; have HBn := Lib.hid (HB.out.trans (q3.mono HB.out.size)); clear q3)
      go_ret
      exact ⟨by rw [← HPS.out]; rfl, HBn.out⟩
set_option maxRecDepth 20000 in
set_option maxHeartbeats 16000000 in
theorem fa_new (l c e : Int) (h0 : e ≠ 0) (w : World) :
    Calls Tryd.prog 17 #[.agg #[.int .i64 l, .int .i64 c], .int .i64 e] w fun r w' => ∃ b, r = .returned (.iface 46 (.pointer (some ⟨b, 0, none⟩))) ∧ Blk w' b [.int .i64 l, .int .i64 c, .iface 23 (.int .i64 e)] 48 ∧ Below w.heap.size w w' := by
  have b0 : (e == 0) = false := by simp [h0]
  have H0 : Hid (Blk ((w.alloc (.cells #[.int .i64 l, .int .i64 c] 33)).alloc (.cells #[.int .i64 l, .int .i64 c, .iface 23 (.int .i64 e)] 48)) (w.heap.size + 1) [.int .i64 l, .int .i64 c, .iface 23 (.int .i64 e)] 48 ∧ Below w.heap.size w ((w.alloc (.cells #[.int .i64 l, .int .i64 c] 33)).alloc (.cells #[.int .i64 l, .int .i64 c, .iface 23 (.int .i64 e)] 48))) := Lib.hid ⟨by have := Blk.newA (w.alloc (.cells #[.int .i64 l, .int .i64 c] 33)) #[.int .i64 l, .int .i64 c, .iface 23 (.int .i64 e)] 48; rw [World.size_alloc] at this; exact this, ((Below.refl _ _).alloc (Nat.le_refl _) _).alloc (by rw [World.size_alloc]; omega) _⟩
  go_enter Tryd.func17, Tryd.ntmps17
  go_wp2_with fail
  go_ret
  exact ⟨_, rfl, H0.out⟩
set_option maxRecDepth 20000 in
set_option maxHeartbeats 16000000 in
theorem fa_lives (w : World) (htab : Lib.TabIs Tryd.prog w "internal/strconv.uint64pow10" .u64 Lib.pow10Tab) :
    Calls Tryd.prog 10 #[] w fun r w' => r = .returned (.bool true) ∧ Below w.heap.size w w' := by
  have HT := Lib.hid htab
  clear htab
  go_enter Tryd.func10, Tryd.ntmps10
  go_wp2_with (first
    | (go_at_call 17; (with_reducible refine (fa_new 2 6 13 (by omega) _).mono ?_); rintro r1 W1 ⟨b1, rfl, q1, q2⟩; have H1 := Lib.hid (And.intro q1 q2); clear q1 q2)
    | (go_at_call 18; (with_reducible refine (fa_within _ _ _ _).mono ?_); rintro r2 W2 ⟨b2, rfl, q1, q2⟩; have H2 : Hid (EV W2 [⟨false, 0, 0, ({ data := #[97] } : ByteArray)⟩, ⟨true, 2, 6, ByteArray.empty⟩] 13 (.iface 49 (.pointer (some ⟨b2, 0, none⟩))) ∧ Below w.heap.size w W2) := Lib.hid ⟨⟨b2, _, (EV.below q2 (L := [⟨true, 2, 6, ByteArray.empty⟩]) ⟨b1, _, rfl, Or.inl ⟨rfl, rfl, H1.out.1⟩⟩), Or.inr ⟨rfl, rfl, q1⟩⟩, H1.out.2.trans (q2.mono H1.out.2.size)⟩; clear q1 q2)
    | (go_at_call 14; (with_reducible refine (fa_text [⟨false, 0, 0, ({ data := #[97] } : ByteArray)⟩, ⟨true, 2, 6, ByteArray.empty⟩] 2 rfl (by omega) fa_l0ok fa_l0n 13 (by unfold Fa.i64; omega) (by omega) _ _ fa_l0t _ (tab_below H2.out.2 HT.out) H2.out.1).mono ?_); rintro r3 W3 ⟨rfl, q2⟩; have H3 := Lib.hid (H2.out.2.trans (q2.mono H2.out.2.size)); clear q2))
  go_ret
  exact ⟨rfl, H3.out⟩
end Go.Proofs.YtlofcccabdocgaaDoor
