/- A set is read, and printed: the small literal of layer 6; a text that is cut. -/
import Derived.Test.YtigabmceecpdnaaCsR7
namespace Go.Proofs.Ytigabmceecpdnaa
open Go.ChangeShapes Go.WideShapes Go.ChangeAt Go.RowKit
set_option linter.unusedSimpArgs false
set_option linter.unusedVariables false

def cutT (s : ByteArray) (m : Nat) : ByteArray := if m < s.size then s.extract 0 m else s
theorem cutT_le (s : ByteArray) (m : Nat) : (cutT s m).size ≤ m := by
  unfold cutT
  split
  · rw [ByteArray.size_extract]; omega
  · omega
theorem cut_any (s t : ByteArray) (m : Nat) (hm : m ≤ 1000) (hs : s.size ≤ maxLen) (ht : cutT s m = t) (w : World) :
    Calls Try.prog 6 #[.string s, .int .i64 m] w fun e w' => e = .returned (.string t) ∧ w = w' := by
  unfold maxLen at hs
  unfold cutT at ht
  by_cases h : m < s.size
  · rw [if_pos h] at ht
    have i1 : (m : Int) < (s.size : Int) := by omega
    go_enter Try.func6, Try.ntmps6
    go_wp2
    go_ret
    exact ⟨rfl, rfl⟩
  · rw [if_neg h] at ht
    subst ht
    have i1 : ¬ (m : Int) < (s.size : Int) := by omega
    go_enter Try.func6, Try.ntmps6
    go_wp2
    go_ret
    exact ⟨rfl, rfl⟩
theorem cut_40 (s t : ByteArray) (hs : s.size ≤ maxLen) (ht : cutT s 40 = t) (w : World) :
    Calls Try.prog 6 #[.string s, .int .i64 40] w fun e w' => e = .returned (.string t) ∧ w = w' := cut_any s t 40 (by decide) hs ht w
theorem cut_10 (s t : ByteArray) (hs : s.size ≤ maxLen) (ht : cutT s 10 = t) (w : World) :
    Calls Try.prog 6 #[.string s, .int .i64 10] w fun e w' => e = .returned (.string t) ∧ w = w' := cut_any s t 10 (by decide) hs ht w
theorem lives_set : Cs.memT (Cs.setP [(97, some 99), (93, none)]) 256 = [93, 97, 98, 99] := by decide +kernel
theorem lives_prt : Cs.prt (Cs.ofL [120, 99, 98, 97]) = [91, 97, 45, 99, 120, 93] := by decide +kernel
theorem lives_read (F : BitVec 256) (hF : Cs.setP [(97, some 99), (93, none)] = F) (w : World) :
    Calls Try.prog 23 #[.string ({ data := #[91, 97, 45, 99, 37, 93, 93, 120] } : ByteArray)] w fun e w' => e = .returned (.tuple #[Cs.sv F, .int .i64 7, .int .i64 0]) ∧ Below w.heap.size w w' :=
  cs_read_plain ({ data := #[91, 97, 45, 99, 37, 93, 93, 120] } : ByteArray) [(97, some 99), (93, none)] [120] (by decide) (by decide) (by intro p hp d hd; simp at hp; rcases hp with rfl | rfl <;> simp at hd; subst hd; decide) (by simp) F hF w
set_option maxRecDepth 20000 in
theorem cs_lives (w : World) :
    Calls Try.prog 11 #[] w fun e w' => e = .returned (.bool true) ∧ Below w.heap.size w w' := by
  obtain ⟨F, hF⟩ : ∃ F, Cs.setP [(97, some 99), (93, none)] = F := ⟨_, rfl⟩
  have hm := lives_set
  rw [hF] at hm
  have HF := Lib.hid (And.intro hF hm)
  obtain ⟨G, hG⟩ : ∃ G, Cs.ofL [120, 99, 98, 97] = G := ⟨_, rfl⟩
  have hp := lives_prt
  rw [hG] at hp
  have HG := Lib.hid (And.intro hG hp)
  clear hF hm hG hp
  go_enter Try.func11, Try.ntmps11
  go_upto_region 2 with (go_at_call 23; refine (lives_read F HF.out.1 _).mono ?_; rintro e W1 ⟨rfl, hb1⟩; unfold Cs.sv; have HB1 : Hid (SB (W1.alloc (.cells #[.int .u64 (Cs.wd F 0), .int .u64 (Cs.wd F 1), .int .u64 (Cs.wd F 2), .int .u64 (Cs.wd F 3)] 25)) W1.heap.size F ∧ Below w.heap.size w (W1.alloc (.cells #[.int .u64 (Cs.wd F 0), .int .u64 (Cs.wd F 1), .int .u64 (Cs.wd F 2), .int .u64 (Cs.wd F 3)] 25))) := Lib.hid ⟨SB.new W1 F, hb1.alloc hb1.size _⟩; clear hb1)
  revert HB1
  generalize W1.alloc (.cells #[.int .u64 (Cs.wd F 0), .int .u64 (Cs.wd F 1), .int .u64 (Cs.wd F 2), .int .u64 (Cs.wd F 3)] 25) = V
  generalize W1.heap.size = D
  intro HB1
  have x0 := HB1.out.1.at (i := 0) (by decide)
  have x1 := HB1.out.1.at (i := 1) (by decide)
  have x2 := HB1.out.1.at (i := 2) (by decide)
  have x3 := HB1.out.1.at (i := 3) (by decide)
  go_wp2_with (first
    | (go_at_call 19; rw [sv_def F]; refine (cs_bytes F { data := #[93, 97, 98, 99] } (by rw [HF.out.2]) _).mono ?_; rintro e W2 ⟨rfl, hb2⟩; have HB2 : Hid (Below w.heap.size w W2) := Lib.hid (HB1.out.2.trans (hb2.mono HB1.out.2.size)); clear hb2)
    | (go_at_call 7; refine (cs_of _ (by decide) _).mono ?_; rintro e W3 ⟨rfl, hb3⟩; rw [HG.out.1]; have HB3 : Hid (Below w.heap.size w W3) := Lib.hid (HB2.out.trans (hb3.mono HB2.out.size)); clear hb3)
    | (go_at_call 24; refine (cs_print G { data := #[91, 97, 45, 99, 120, 93] } (by rw [HG.out.2]) _).mono ?_; rintro e W4 ⟨rfl, hb4⟩; have HB4 : Hid (Below w.heap.size w W4) := Lib.hid (HB3.out.trans (hb4.mono HB3.out.size)); clear hb4))
  go_ret
  exact ⟨rfl, HB4.out⟩
end Go.Proofs.Ytigabmceecpdnaa
