/- P1.3, P1.4: for every tick: its text is as the document says and comes back as the tick; for every text (its first 40 bytes): which tick it is, or why none, is as the document says, and a tick's text is that text. No condition but what the card ties. ! tab -/
import Derived.Test.YtfhbaemakaicnaaDoorOpen
import Derived.Test.YtfhbaemakaicnaaDoorCards
import Derived.Test.YtfhbaemakaicnaaDoorTie
import Derived.WalkKit
import Derived.Deep.DeepHandedRow
import Derived.Shelf.Vars
import Derived.Stop.LaidErr
import Derived.Lib.LaidTab
import Derived.ProofKit
import Derived.OpenShut
import Derived.Test.YtfhbaemakaicnaaDoorTx6
import Derived.Test.YtfhbaemakaicnaaDoorTx4
import Derived.Test.YtfhbaemakaicnaaDoorTkLoops
import Derived.Test.YtfhbaemakaicnaaDoorClass
namespace Go.Proofs.YtfhbaemakaicnaaDoor.tickTexts
open Go.Joins Go.ChangeShapes Go.WideShapes Go.ChangeAt Go.RowKit Go.Deep
open Go.ChangeMaps (open_string)
set_option linter.unusedSimpArgs false
set_option linter.unusedVariables false

theorem below_drewN {B : Nat} {w w' : World} (n : Nat) (h : Below B w w') : Below B w (w'.drewN n) := ⟨h.os, h.tape, h.output, h.size, h.block⟩
theorem rown_n (t : Int) (n : Nat) (hn : Tk.own t = (n : Int)) (w : World) : Calls Tryd.prog 8 #[.int .i64 t] w fun e w' => e = .returned (.int .i64 n) ∧ w = w' := by rw [← hn]; exact rown_any t w
set_option maxRecDepth 20000 in
set_option maxHeartbeats 16000000 in

theorem walk (a0 : Int) (a1 : ByteArray) (w : World) (htab : Lib.TabIs Tryd.prog w "internal/strconv.uint64pow10" .u64 Lib.pow10Tab) (w0 : (Lit.int .i64 a0).wf = true) (w1 : a1.size ≤ maxLen) :
    Calls Tryd.prog 3 #[.int .i64 a0, .string a1] w fun e w' => e = .returned (.bool true) ∧ Below w.heap.size w w' := by
  have b0 := bounds_i64 w0
  have hm : maxLen ≤ 9223372036854775807 := by unfold maxLen; omega
  obtain ⟨n, hn⟩ : ∃ n : Nat, Tk.own a0 = (n : Int) := ⟨(Tk.own a0).toNat, by have := Tk.own_nn a0; omega⟩
  have hn9 : n ≤ 9223372036854775807 := by have := Tk.own_le a0 b0.2; omega
  obtain ⟨X, hX⟩ : ∃ X : ByteArray, X.data.toList = Tx.text n := ⟨⟨(Tx.text n).toArray⟩, by simp⟩
  have hXs : X.size ≤ maxLen := by
    rw [Tx.size_of hX]
    unfold Tx.text maxLen
    split
    · decide
    · have := Tx.dec_size n hn9; omega
  have HX : Hid (X.size ≤ maxLen ∧ Tx.parse (Tx.text n) = ((n : Int), 0)) := Lib.hid ⟨hXs, Tx.parse_text n hn9⟩
  have HT := Lib.hid (And.intro hn (And.intro hX b0.2))
  have HTB := Lib.hid htab
  have HB0 : Hid (Below w.heap.size w w) := Lib.hid (Below.refl _ _)
  obtain ⟨S, hS⟩ : ∃ S, (if 40 < a1.size then a1.extract 0 40 else a1) = S := ⟨_, rfl⟩
  have hSs : S.size ≤ maxLen := by
    rw [← hS]
    split
    · rw [ByteArray.size_extract]; omega
    · exact w1
  obtain ⟨⟨m, e⟩, hme⟩ : ∃ z, Tx.parse S.data.toList = z := ⟨_, rfl⟩
  have HS := Lib.hid (And.intro hSs hme)
  have hnn : (((n : Int) != (n : Int))) = false := by simp
  have hnb : (((n : Int) == (n : Int))) = true := by simp
  have hmm : (m == m) = true := by simp
  have hee : (e == e) = true := by simp
  clear hn hX hXs hSs hme htab hn9 b0
  by_cases h40 : 40 < a1.size
  · rw [if_pos h40] at hS
    have i1 : (40 : Int) < (a1.size : Int) := by omega
    by_cases he : e = 0
    · subst he
      have hmb := Tx.text_parse _ _ HS.out.2
      have HM : Hid (Tk.own m = (m.toNat : Int) ∧ m ≤ 9223372036854775807 ∧ S.data.toList = Tx.text m.toNat) := Lib.hid ⟨by rw [Tk.own_of m hmb.1]; omega, hmb.2.1, hmb.2.2.symm⟩
      clear hmb
      go_enter Tryd.func3, Tryd.ntmps3
      go_wp2_with (first
        | (go_at_call 5; (with_reducible refine (tx_text a0 HT.out.2.2 n HT.out.1 X HT.out.2.1 _ (tab_below HB0.out HTB.out)).mono ?_); rintro e1 W1 ⟨rfl, hb1⟩; replace HB0 := Lib.hid (HB0.out.trans (hb1.mono HB0.out.size)); clear hb1)
        | (go_at_call 4; (with_reducible refine (tx_parse X _ HT.out.2.1 HX.out.1 n 0 HX.out.2 _).mono ?_); rintro e1 W1 ⟨rfl, hb1⟩; replace HB0 := Lib.hid (HB0.out.trans (hb1.mono HB0.out.size)); clear hb1)
        | (go_at_call 4; (with_reducible refine (tx_parse S _ rfl HS.out.1 m 0 HS.out.2 _).mono ?_); rintro e1 W1 ⟨rfl, hb1⟩; replace HB0 := Lib.hid (HB0.out.trans (hb1.mono HB0.out.size)); clear hb1)
        | (go_at_call 6; (with_reducible refine (tr_parse S _ rfl HS.out.1 m 0 HS.out.2 _).mono ?_); rintro e1 W1 ⟨rfl, hb1⟩; replace HB0 := Lib.hid (HB0.out.trans (hb1.mono HB0.out.size)); clear hb1)
        | (go_at_call 7; (with_reducible refine (tr_text a0 HT.out.2.2 n HT.out.1 X HT.out.2.1 _).mono ?_); rintro e1 W1 ⟨rfl, hb1⟩; replace HB0 := Lib.hid (HB0.out.trans (hb1.mono HB0.out.size)); clear hb1)
        | (go_at_call 8; (with_reducible refine (rown_n a0 n HT.out.1 _).mono ?_); rintro e1 W1 ⟨rfl, rfl⟩)
        | (go_at_call 5; (with_reducible refine (tx_text m HM.out.2.1 m.toNat HM.out.1 S HM.out.2.2 _ (tab_below HB0.out HTB.out)).mono ?_); rintro e1 W1 ⟨rfl, hb1⟩; replace HB0 := Lib.hid (HB0.out.trans (hb1.mono HB0.out.size)); clear hb1)
        | (go_at_call 9; (with_reducible refine (lives_any _).mono ?_); rintro e1 W1 ⟨rfl, nq, rfl⟩; have hb1 := below_drewN nq HB0.out; replace HB0 := Lib.hid hb1; clear hb1))
      go_ret
      exact ⟨rfl, HB0.out⟩
    · have he1 : (e == 0) = false := by rw [beq_eq_false_iff_ne]; exact he
      have he2 : (e != 0) = true := by rw [bne, he1]; rfl
      go_enter Tryd.func3, Tryd.ntmps3
      go_wp2_with (first
        | (go_at_call 5; (with_reducible refine (tx_text a0 HT.out.2.2 n HT.out.1 X HT.out.2.1 _ (tab_below HB0.out HTB.out)).mono ?_); rintro e1 W1 ⟨rfl, hb1⟩; replace HB0 := Lib.hid (HB0.out.trans (hb1.mono HB0.out.size)); clear hb1)
        | (go_at_call 4; (with_reducible refine (tx_parse X _ HT.out.2.1 HX.out.1 n 0 HX.out.2 _).mono ?_); rintro e1 W1 ⟨rfl, hb1⟩; replace HB0 := Lib.hid (HB0.out.trans (hb1.mono HB0.out.size)); clear hb1)
        | (go_at_call 4; (with_reducible refine (tx_parse S _ rfl HS.out.1 m e HS.out.2 _).mono ?_); rintro e1 W1 ⟨rfl, hb1⟩; replace HB0 := Lib.hid (HB0.out.trans (hb1.mono HB0.out.size)); clear hb1)
        | (go_at_call 6; (with_reducible refine (tr_parse S _ rfl HS.out.1 m e HS.out.2 _).mono ?_); rintro e1 W1 ⟨rfl, hb1⟩; replace HB0 := Lib.hid (HB0.out.trans (hb1.mono HB0.out.size)); clear hb1)
        | (go_at_call 7; (with_reducible refine (tr_text a0 HT.out.2.2 n HT.out.1 X HT.out.2.1 _).mono ?_); rintro e1 W1 ⟨rfl, hb1⟩; replace HB0 := Lib.hid (HB0.out.trans (hb1.mono HB0.out.size)); clear hb1)
        | (go_at_call 8; (with_reducible refine (rown_n a0 n HT.out.1 _).mono ?_); rintro e1 W1 ⟨rfl, rfl⟩)
        | (go_at_call 9; (with_reducible refine (lives_any _).mono ?_); rintro e1 W1 ⟨rfl, nq, rfl⟩; have hb1 := below_drewN nq HB0.out; replace HB0 := Lib.hid hb1; clear hb1))
      go_ret
      exact ⟨rfl, HB0.out⟩
  · rw [if_neg h40] at hS
    have i1 : ¬ (40 : Int) < (a1.size : Int) := by omega
    subst hS
    by_cases he : e = 0
    · subst he
      have hmb := Tx.text_parse _ _ HS.out.2
      have HM : Hid (Tk.own m = (m.toNat : Int) ∧ m ≤ 9223372036854775807 ∧ a1.data.toList = Tx.text m.toNat) := Lib.hid ⟨by rw [Tk.own_of m hmb.1]; omega, hmb.2.1, hmb.2.2.symm⟩
      clear hmb
      go_enter Tryd.func3, Tryd.ntmps3
      go_wp2_with (first
        | (go_at_call 5; (with_reducible refine (tx_text a0 HT.out.2.2 n HT.out.1 X HT.out.2.1 _ (tab_below HB0.out HTB.out)).mono ?_); rintro e1 W1 ⟨rfl, hb1⟩; replace HB0 := Lib.hid (HB0.out.trans (hb1.mono HB0.out.size)); clear hb1)
        | (go_at_call 4; (with_reducible refine (tx_parse X _ HT.out.2.1 HX.out.1 n 0 HX.out.2 _).mono ?_); rintro e1 W1 ⟨rfl, hb1⟩; replace HB0 := Lib.hid (HB0.out.trans (hb1.mono HB0.out.size)); clear hb1)
        | (go_at_call 4; (with_reducible refine (tx_parse a1 _ rfl HS.out.1 m 0 HS.out.2 _).mono ?_); rintro e1 W1 ⟨rfl, hb1⟩; replace HB0 := Lib.hid (HB0.out.trans (hb1.mono HB0.out.size)); clear hb1)
        | (go_at_call 6; (with_reducible refine (tr_parse a1 _ rfl HS.out.1 m 0 HS.out.2 _).mono ?_); rintro e1 W1 ⟨rfl, hb1⟩; replace HB0 := Lib.hid (HB0.out.trans (hb1.mono HB0.out.size)); clear hb1)
        | (go_at_call 7; (with_reducible refine (tr_text a0 HT.out.2.2 n HT.out.1 X HT.out.2.1 _).mono ?_); rintro e1 W1 ⟨rfl, hb1⟩; replace HB0 := Lib.hid (HB0.out.trans (hb1.mono HB0.out.size)); clear hb1)
        | (go_at_call 8; (with_reducible refine (rown_n a0 n HT.out.1 _).mono ?_); rintro e1 W1 ⟨rfl, rfl⟩)
        | (go_at_call 5; (with_reducible refine (tx_text m HM.out.2.1 m.toNat HM.out.1 a1 HM.out.2.2 _ (tab_below HB0.out HTB.out)).mono ?_); rintro e1 W1 ⟨rfl, hb1⟩; replace HB0 := Lib.hid (HB0.out.trans (hb1.mono HB0.out.size)); clear hb1)
        | (go_at_call 9; (with_reducible refine (lives_any _).mono ?_); rintro e1 W1 ⟨rfl, nq, rfl⟩; have hb1 := below_drewN nq HB0.out; replace HB0 := Lib.hid hb1; clear hb1))
      go_ret
      exact ⟨rfl, HB0.out⟩
    · have he1 : (e == 0) = false := by rw [beq_eq_false_iff_ne]; exact he
      have he2 : (e != 0) = true := by rw [bne, he1]; rfl
      go_enter Tryd.func3, Tryd.ntmps3
      go_wp2_with (first
        | (go_at_call 5; (with_reducible refine (tx_text a0 HT.out.2.2 n HT.out.1 X HT.out.2.1 _ (tab_below HB0.out HTB.out)).mono ?_); rintro e1 W1 ⟨rfl, hb1⟩; replace HB0 := Lib.hid (HB0.out.trans (hb1.mono HB0.out.size)); clear hb1)
        | (go_at_call 4; (with_reducible refine (tx_parse X _ HT.out.2.1 HX.out.1 n 0 HX.out.2 _).mono ?_); rintro e1 W1 ⟨rfl, hb1⟩; replace HB0 := Lib.hid (HB0.out.trans (hb1.mono HB0.out.size)); clear hb1)
        | (go_at_call 4; (with_reducible refine (tx_parse a1 _ rfl HS.out.1 m e HS.out.2 _).mono ?_); rintro e1 W1 ⟨rfl, hb1⟩; replace HB0 := Lib.hid (HB0.out.trans (hb1.mono HB0.out.size)); clear hb1)
        | (go_at_call 6; (with_reducible refine (tr_parse a1 _ rfl HS.out.1 m e HS.out.2 _).mono ?_); rintro e1 W1 ⟨rfl, hb1⟩; replace HB0 := Lib.hid (HB0.out.trans (hb1.mono HB0.out.size)); clear hb1)
        | (go_at_call 7; (with_reducible refine (tr_text a0 HT.out.2.2 n HT.out.1 X HT.out.2.1 _).mono ?_); rintro e1 W1 ⟨rfl, hb1⟩; replace HB0 := Lib.hid (HB0.out.trans (hb1.mono HB0.out.size)); clear hb1)
        | (go_at_call 8; (with_reducible refine (rown_n a0 n HT.out.1 _).mono ?_); rintro e1 W1 ⟨rfl, rfl⟩)
        | (go_at_call 9; (with_reducible refine (lives_any _).mono ?_); rintro e1 W1 ⟨rfl, nq, rfl⟩; have hb1 := below_drewN nq HB0.out; replace HB0 := Lib.hid hb1; clear hb1))
      go_ret
      exact ⟨rfl, HB0.out⟩


theorem own3 : ownKnob Tryd.prog.godebug = none := by kernel_rfl
theorem tab_rows : (Rows.laid_internal_strconv_uint64pow10 : DataW Unit) = Lib.tabData .u64 Lib.pow10Tab := by kernel_rfl
theorem tab_of (W : World) (hL : laidMetH Tryd.prog Rows.tickTextsRow.laid W) : Lib.TabIs Tryd.prog W "internal/strconv.uint64pow10" .u64 Lib.pow10Tab := by
  have h1 : laidMet Tryd.prog Rows.tickTextsRow.laid W := hL
  have h2 : laidMet Tryd.prog [("math/bits.deBruijn32tab", Rows.laid_math_bits_deBruijn32tab), ("math/bits.deBruijn64tab", Rows.laid_math_bits_deBruijn64tab), ("internal/strconv.uint64pow10", Rows.laid_internal_strconv_uint64pow10)] W := h1
  have h3 := h2.tail.tail
  rw [tab_rows] at h3
  exact Lib.tabIs_of_head (g := 0) (t := 44) (e := 36) (n := 20) (by kernel_rfl) (by kernel_rfl) (by kernel_rfl) (by kernel_rfl) (by kernel_rfl) (by kernel_rfl) h3
theorem contract (H : Type) (enc : TypeId × Value → H) (W : World) (base : Nat) (args : Array Value) (ds gs : List (DataW H)) (before : List MemPlace)
    (hval0 : ∀ (j : Nat) t v, Tryd.f3.params[j]? = some t → args[j]? = some v → Value.okWide Tryd.prog W .any base t v)
    (hW : DataW.Whole enc Tryd.prog Tryd.f3.params.toList Rows.tickTextsSpec.vars false W args.toList ds gs before) (hSh : W.ShapedOpen Tryd.prog) (htab : Lib.TabIs Tryd.prog W "internal/strconv.uint64pow10" .u64 Lib.pow10Tab) :
    Calls Tryd.prog 3 args W fun e W' => ∃ v, e = .returned v ∧ Rows.tickTextsSpec.post enc Tryd.prog Tryd.f3 false true false false W args v W' := by
  have hval : ∀ (j : Nat) t v, Tryd.f3.params[j]? = some t → args[j]? = some v → Value.okWide Tryd.prog W .any base t v := hval0
  have hW' := hW
  obtain ⟨p, q, hA0, hV, rfl, hfz, hnd⟩ := hW
  have hA : DataW.TrodAll enc Tryd.prog W 0 (fun _ => true) true Tryd.f3.params.toList args.toList ds p := hA0
  rw [Tryd.params3] at hA hval
  obtain ⟨v0, vs0, d0, ds0, p0, q0, hargs, rfl, rfl, h0, r0⟩ := trodAll_cons hA
  obtain ⟨v1, vs1, d1, ds1, p1, q1, rfl, rfl, rfl, h1, r1⟩ := trodAll_cons r0
  obtain ⟨rfl, rfl, rfl⟩ := trodAll_nil r1
  obtain rfl : args = #[v0, v1] := by cases args; simp_all
  obtain ⟨rfl, rfl⟩ := trodVars_none hV
  have k0 := h0
  have lt0 : ∀ x ∈ p0, x.block < W.heap.size := by obtain ⟨m, hm⟩ := k0; exact DataW.trod_lt m _ _ _ hm
  obtain ⟨a0, rfl, rfl, rfl, w0⟩ := open_int Tryd.underlying2 (hval 0 2 v0 rfl rfl) h0
  have k1 := h1
  have lt1 : ∀ x ∈ p1, x.block < W.heap.size := by obtain ⟨m, hm⟩ := k1; exact DataW.trod_lt m _ _ _ hm
  obtain ⟨a1, rfl, rfl, rfl, w1⟩ := open_string Tryd.underlying9 (hval 1 9 v1 rfl rfl) h1
  clear hA0 hval0
  refine (walk a0 a1 W htab w0 w1).mono fun e W' ⟨he, bel⟩ => ?_
  subst he
  exact ⟨_, rfl, _, _, _, [], _, [], hW', trodAll_mk1 (shut_bool Tryd.underlying4 _), (trodAll_cons_mk (Below.trod laidOut (by kernel_rfl) (of_decide_eq_true (by kernel_rfl)) k0 bel lt0) (trodAll_cons_mk (Below.trod laidOut (by kernel_rfl) (of_decide_eq_true (by kernel_rfl)) k1 bel lt1) trodAll_mk0)), rfl, bel.frame _, fun h => by cases h⟩

noncomputable def laidWorld (os : Os) : World :=
  { World.holding Tryd.prog os ⟨#[], #[], []⟩ with heap := ((((World.holding Tryd.prog os ⟨#[], #[], []⟩).heap.modify 1 fun
      | .cells _ t frozen => .cells #[.int .u8 0, .int .u8 1, .int .u8 28, .int .u8 2, .int .u8 29, .int .u8 14, .int .u8 24, .int .u8 3, .int .u8 30, .int .u8 22, .int .u8 20, .int .u8 15, .int .u8 25, .int .u8 17, .int .u8 4, .int .u8 8, .int .u8 31, .int .u8 27, .int .u8 13, .int .u8 23, .int .u8 21, .int .u8 19, .int .u8 16, .int .u8 7, .int .u8 26, .int .u8 12, .int .u8 18, .int .u8 6, .int .u8 11, .int .u8 5, .int .u8 10, .int .u8 9] t frozen
      | o => o).modify 2 fun
      | .cells _ t frozen => .cells #[.int .u8 0, .int .u8 1, .int .u8 56, .int .u8 2, .int .u8 57, .int .u8 49, .int .u8 28, .int .u8 3, .int .u8 61, .int .u8 58, .int .u8 42, .int .u8 50, .int .u8 38, .int .u8 29, .int .u8 17, .int .u8 4, .int .u8 62, .int .u8 47, .int .u8 59, .int .u8 36, .int .u8 45, .int .u8 43, .int .u8 51, .int .u8 22, .int .u8 53, .int .u8 39, .int .u8 33, .int .u8 30, .int .u8 24, .int .u8 18, .int .u8 12, .int .u8 5, .int .u8 63, .int .u8 55, .int .u8 48, .int .u8 27, .int .u8 60, .int .u8 41, .int .u8 37, .int .u8 16, .int .u8 46, .int .u8 35, .int .u8 44, .int .u8 21, .int .u8 52, .int .u8 32, .int .u8 23, .int .u8 11, .int .u8 54, .int .u8 26, .int .u8 40, .int .u8 15, .int .u8 34, .int .u8 20, .int .u8 31, .int .u8 10, .int .u8 25, .int .u8 14, .int .u8 19, .int .u8 9, .int .u8 13, .int .u8 8, .int .u8 7, .int .u8 6] t frozen
      | o => o).modify 0 fun
      | .cells _ t frozen => .cells #[.int .u64 1, .int .u64 10, .int .u64 100, .int .u64 1000, .int .u64 10000, .int .u64 100000, .int .u64 1000000, .int .u64 10000000, .int .u64 100000000, .int .u64 1000000000, .int .u64 10000000000, .int .u64 100000000000, .int .u64 1000000000000, .int .u64 10000000000000, .int .u64 100000000000000, .int .u64 1000000000000000, .int .u64 10000000000000000, .int .u64 100000000000000000, .int .u64 1000000000000000000, .int .u64 10000000000000000000] t frozen
      | o => o) }
theorem laid_met (os : Os) : laidMet Tryd.prog Rows.tickTextsRow.laid ((laidWorld os).forCall (fun _ _ => 0) ⟨#[], #[.int .i64 0, .string ByteArray.empty], []⟩).memory :=
  laidMet_of_run' 8 (by kernel_rfl) (by kernel_rfl)
theorem reads (os : Os) {H : Type} (enc : TypeId × Value → H) : ∃ places, DataW.whole enc Tryd.prog ((laidWorld os).forCall (fun _ _ => 0) ⟨#[], #[.int .i64 0, .string ByteArray.empty], []⟩).memory Tryd.f3.params.toList Rows.tickTextsSpec.vars false (#[.int .i64 0, .string ByteArray.empty] : Array Value).toList 8 = some ([.lit (.int .i64 0), .lit (.string [])], [], places) :=
  ⟨[], by kernel_rfl⟩
set_option maxRecDepth 100000 in
theorem lifted (os : Os) (started : os.Started) (H : Type) (enc : TypeId × Value → H) (F : Stop.Interp) :
    ReturnsInHanded {} Tryd.checked os 3 .any ((OpenSpec.ofChange Rows.tickTextsSpec).preRow enc Tryd.prog Tryd.f3 Rows.tickTextsRow.domain false Rows.tickTextsRow.laid) (((OpenSpec.ofChange Rows.tickTextsSpec).at F).post enc Tryd.prog Tryd.f3 false true false false) := by
  obtain ⟨places, hx⟩ := reads os enc
  refine returnsInHanded_of_row (C := Tryd.checked) (s := OpenSpec.ofChange Rows.tickTextsSpec) own3 started (by kernel_rfl) Tryd.func3
    (witness_row_at (enc := enc) (C := Tryd.checked) false (laidWorld os) #[.int .i64 0, .string ByteArray.empty] rfl (by kernel_rfl) (by kernel_rfl) (by kernel_rfl)
      (OpenSpec.preRow_of_cond 8 hx (by kernel_rfl) (fun k hk => by cases hk) (by kernel_rfl) (laid_met os))) ?_
  intro W base args ds gs before hval hW _ _ _ hL hSh _
  exact contract H enc W base args ds gs before hval hW hSh (tab_of W hL)
theorem said : Rows.TickTextsSaid :=
  OpenClaim.holds_of_cond 3 Tryd.f3 rfl rfl rfl rfl rfl rfl rfl ⟨rfl, rfl, rfl, rfl, rfl⟩ rfl rfl rfl rfl rfl (by kernel_rfl) Tryd.func3 (by kernel_rfl)
    (of_decide_eq_true (by kernel_rfl)) (by unfold Func.isWrapper; first | (rw [if_pos (by decide +kernel)]; kernel_rfl) | (rw [if_neg (by decide +kernel)]; exact ⟨rfl, rfl⟩))
    (fun os started H enc _ F => by rw [OpenClaim.pre_eq_preRow]; exact lifted os started H enc F)
theorem plain (f : FuncId) (fn : Func) (hf : Tryd.pinned.checked.prog.funcNamed "repartee/reparteelaw01.TickTexts" = some f) (hfn : Tryd.pinned.checked.prog.funcs[f]? = some fn) :
    false = Tryd.pinned.checked.prog.looks [] ∧ ∀ (j : Nat) t, fn.params[j]? = some t → Tryd.pinned.checked.prog.wantsStandIn t = false := by
  obtain rfl : f = 3 := Option.some.inj ((show Tryd.prog.funcNamed "repartee/reparteelaw01.TickTexts" = some 3 by kernel_rfl).symm.trans hf) |>.symm
  obtain rfl : fn = Tryd.f3 := (Option.some.inj (Tryd.func3.symm.trans hfn)).symm
  refine ⟨by kernel_rfl, fun j t ht => ?_⟩
  rw [Tryd.params3] at ht
  have hm : t ∈ [2, 9] := by simpa using Array.mem_of_getElem? ht
  have hall : ([2, 9].all fun u => !Tryd.prog.wantsStandIn u) = true := by kernel_rfl
  exact (show Tryd.prog.wantsStandIn t = false by simpa using List.all_eq_true.1 hall t hm)
/-- The statement. -/
theorem proved : Rows.TickTextsCardSaid :=
  Claim7.holds_tied_plain_at .later [] _ _ _ _ said (fun _ h => by cases h) (by kernel_rfl) (fun _ h => by cases h) tickTexts_row_tie rfl ⟨rfl, rfl⟩ (by kernel_rfl) rfl plain (by kernel_rfl)
#print axioms proved
end Go.Proofs.YtfhbaemakaicnaaDoor.tickTexts
