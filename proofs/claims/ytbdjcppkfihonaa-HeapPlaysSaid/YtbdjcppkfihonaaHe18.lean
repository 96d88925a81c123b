/- Heap: no heap; lives. -/
import Derived.Test.YtbdjcppkfihonaaHe17
import Derived.WalkKit
import Derived.ProofKit
import Derived.Handy
import Derived.WalkLawsBesides
import Derived.WalkSpells
import Derived.Lib.Hide
import Derived.RegionTactic
import Derived.ChangeAlike
import Derived.WalkSmall
import Derived.Deep.QuietTactic
import Derived.BigQuiet
import Derived.OwnWalk
import Derived.Outline
import Derived.Deep.CutRange
import Derived.Deep.CutBlock
import Derived.LoopTactic
namespace Go.Proofs.Ytbdjcppkfihonaa
open Go.ChangeShapes Go.WideShapes Go.ChangeAt Go.RowKit
set_option linter.unusedSimpArgs false
set_option linter.unusedVariables false

set_option maxRecDepth 20000 in
theorem he_set_nil (id at_ : Int) (w : World) : Calls Try.prog 17 #[.pointer none, .int .i64 id, .int .i64 at_] w fun e w' => e = .returned (.bool false) ∧ w = w' := by
  go_enter Try.func17, Try.ntmps17
  go_wp2_with (go_at_call 52; refine (he_may_nil id _).mono ?_; rintro e W1 ⟨rfl, rfl⟩)
  go_ret
  exact ⟨rfl, rfl⟩
set_option maxRecDepth 20000 in
theorem he_cut_nil (id : Int) (w : World) : Calls Try.prog 18 #[.pointer none, .int .i64 id] w fun e w' => e = .returned (.bool false) ∧ w = w' := by
  go_enter Try.func18, Try.ntmps18
  go_wp2_with (go_at_call 27; refine (he_at_nil id _).mono ?_; rintro e W1 ⟨rfl, rfl⟩)
  go_ret
  exact ⟨rfl, rfl⟩
set_option maxRecDepth 20000 in
theorem he_min_nil (w : World) : Calls Try.prog 30 #[.pointer none] w fun e w' => e = .returned (.tuple #[.agg #[.int .i64 0, .int .i64 0], .bool false]) ∧ Below w.heap.size w w' := by
  have hb : ((0 : Int) == 0) = true := by simp
  go_enter Try.func30, Try.ntmps30
  go_wp2_with (go_at_call 26; refine (he_len_nil _).mono ?_; rintro e W1 ⟨rfl, rfl⟩)
  exact bodyPost_ret (v := .tuple #[.agg #[.int .i64 0, .int .i64 0], .bool false]) (by simp [results, Try.results30, go_sem]) rfl ⟨rfl, ((Below.refl _ _).alloc (Nat.le_refl _) _)⟩
set_option maxRecDepth 20000 in
theorem he_pop_nil (w : World) : Calls Try.prog 21 #[.pointer none] w fun e w' => e = .returned (.tuple #[.agg #[.int .i64 0, .int .i64 0], .bool false]) ∧ Below w.heap.size w w' := by
  have H := Lib.hid ((Below.refl w.heap.size w).alloc (Nat.le_refl _) (.cells #[.int .i64 0, .int .i64 0] 38))
  go_enter Try.func21, Try.ntmps21
  go_wp2_with (go_at_call 30; refine (he_min_nil _).mono ?_; rintro e W1 ⟨rfl, hb⟩; have HB : Hid (Blk W1 w.heap.size [.int .i64 0, .int .i64 0] 38 ∧ Below w.heap.size w W1 ∧ w.heap.size < W1.heap.size) := Lib.hid ⟨(Blk.newA w _ _).below hb (by simp), H.out.trans (hb.mono (by simp)), by have := hb.size; simp at this; omega⟩; have r0 := HB.out.1.cell (i := 0) rfl; have r1 := HB.out.1.cell (i := 1) rfl; have f0 := HB.out.1.free 0; have f1 := HB.out.1.free 1; have hs := HB.out.2.2; clear hb)
  refine bodyPost_ret (v := .tuple #[.agg #[.int .i64 0, .int .i64 0], .bool false]) (by simp [results, Try.results21, go_sem, r0, r1, hs]) rfl ?_
  exact ⟨rfl, ((HB.out.2.1.setCell (Nat.le_refl _) _).setCell (Nat.le_refl _) _).alloc (by simp; omega) _⟩
set_option maxRecDepth 20000 in
theorem he_list_nil (w : World) : Calls Try.prog 31 #[.pointer none] w fun e w' => e = .returned (.slice none 0 0) ∧ w = w' := by
  go_enter Try.func31, Try.ntmps31
  go_wp2
  go_ret
  exact ⟨rfl, rfl⟩
set_option maxRecDepth 20000 in
set_option maxHeartbeats 4000000 in
theorem he_due_nil (now : Int) (w : World) : Calls Try.prog 24 #[.pointer none, .int .i64 now] w fun e w' => e = .returned (.slice none 0 0) ∧ Below w.heap.size w w' := by
  go_enter Try.func24, Try.ntmps24
  go_wp2_with (go_at_call 30; refine (he_min_nil _).mono ?_; rintro e W1 ⟨rfl, hb1⟩; have HB := Lib.hid hb1; clear hb1)
  have HI : Hid (Below w.heap.size w (W1.alloc (.cells #[.int .i64 0, .int .i64 0] 38))) := Lib.hid (HB.out.alloc HB.out.size _)
  revert HI
  generalize (W1.alloc (.cells #[.int .i64 0, .int .i64 0] 38)) = W2
  intro HI
  go_wp2_with fail
  go_loopw [5, 6, 7] (fun v5 v6 v7 wr => v5 = .slice none 0 0 ∧ v7 = .bool false ∧ Hid (Below w.heap.size w wr)) (fun _ _ _ _ => 0)
  case atStart => exact ⟨rfl, rfl, HI⟩
  case round =>
    obtain ⟨rfl, rfl, HR⟩ := hrel
    go_wp2
    go_ret
    exact ⟨rfl, HR.out⟩
/-- Set, the number as it comes. -/
theorem he_set2 (p ga k n c : Nat) (r : Option Addr) (l : List (Int × Int)) (id at_ : Int) (hid : 0 ≤ id ∧ id < k) (hat : at_ ≤ 9223372036854775807) (m : List (Int × Int)) (hm : He.set l id at_ = m) (w : World) (h : HP w p ga k n c r l) : Calls Try.prog 17 #[.pointer (some ⟨p, 0, none⟩), .int .i64 id, .int .i64 at_] w fun e w' => ∃ n' c' r', e = .returned (.bool true) ∧ HP w' p ga k n' c' r' m ∧ (∀ g ∈ rvB r', g ∈ rvB r ∨ w.heap.size ≤ g) ∧ Chg (p :: ga :: rvB r) w w' := by
  obtain ⟨q, rfl⟩ : ∃ q : Nat, id = q := ⟨id.toNat, by omega⟩
  exact he_set p ga k n c r l q (by omega) at_ hat m hm w h
/-- A heap that was made behind w. -/
def HQ (w W : World) (p ga k n c : Nat) (r : Option Addr) (l : List (Int × Int)) : Prop := HP W p ga k n c r l ∧ Below w.heap.size w W ∧ w.heap.size ≤ p ∧ w.heap.size ≤ ga ∧ ∀ g ∈ rvB r, w.heap.size ≤ g
theorem HQ.all {w W : World} {p ga k n c : Nat} {r : Option Addr} {l : List (Int × Int)} (h : HQ w W p ga k n c r l) : ∀ x ∈ p :: ga :: rvB r, w.heap.size ≤ x := by
  intro x hx
  simp at hx
  rcases hx with rfl | rfl | hx
  · exact h.2.2.1
  · exact h.2.2.2.1
  · exact h.2.2.2.2 x hx
theorem HQ.step {w W W' : World} {p ga k n c n' c' : Nat} {r r' : Option Addr} {l m : List (Int × Int)} (h : HQ w W p ga k n c r l) (h1 : HP W' p ga k n' c' r' m) (h2 : ∀ g ∈ rvB r', g ∈ rvB r ∨ W.heap.size ≤ g) (h3 : Chg (p :: ga :: rvB r) W W') : HQ w W' p ga k n' c' r' m := by
  have hs := h.2.1.size
  refine ⟨h1, h3.onto h.2.1 hs h.all, h.2.2.1, h.2.2.2.1, fun g hg => ?_⟩
  rcases h2 g hg with h4 | h4
  · exact h.2.2.2.2 g h4
  · omega
theorem HQ.below {w W W' : World} {p ga k n c : Nat} {r : Option Addr} {l : List (Int × Int)} (h : HQ w W p ga k n c r l) (q : Below W.heap.size W W') : HQ w W' p ga k n c r l :=
  ⟨h.1.below q, h.2.1.trans (q.mono h.2.1.size), h.2.2⟩
set_option maxRecDepth 20000 in
set_option maxHeartbeats 8000000 in
theorem he_lives (w : World) : Calls Try.prog 25 #[] w fun e w' => e = .returned (.bool true) ∧ Below w.heap.size w w' := by
  go_enter Try.func25, Try.ntmps25
  go_wp2_with fail
  refine (he_new 3 3 (by decide) w).mono ?_
  rintro e W1 ⟨rfl, k1, k2⟩
  have H1 : Hid (HQ w W1 (w.heap.size + 1) w.heap.size 3 0 0 none []) := Lib.hid ⟨k1, k2, by omega, by omega, by simp [rvB]⟩
  clear k1 k2
  revert H1
  generalize w.heap.size + 1 = p
  intro H1
  go_wp2_with fail
  refine (he_set2 p w.heap.size 3 0 0 none [] 2 5 (by decide) (by decide) [(5, 2)] (by decide +kernel) W1 H1.out.1).mono ?_
  rintro e W2 ⟨n2, c2, r2, rfl, k1, k2, k3⟩
  have H2 := Lib.hid (H1.out.step k1 k2 k3)
  clear k1 k2 k3 H1
  go_wp2_with fail
  refine (he_set2 p w.heap.size 3 n2 c2 r2 [(5, 2)] 0 5 (by decide) (by decide) [(5, 0), (5, 2)] (by decide +kernel) W2 H2.out.1).mono ?_
  rintro e W3 ⟨n3, c3, r3, rfl, k1, k2, k3⟩
  have H3 := Lib.hid (H2.out.step k1 k2 k3)
  clear k1 k2 k3 H2
  go_wp2_with fail
  refine (he_set2 p w.heap.size 3 n3 c3 r3 [(5, 0), (5, 2)] 1 4 (by decide) (by decide) [(4, 1), (5, 0), (5, 2)] (by decide +kernel) W3 H3.out.1).mono ?_
  rintro e W4 ⟨n4, c4, r4, rfl, k1, k2, k3⟩
  have H4 := Lib.hid (H3.out.step k1 k2 k3)
  clear k1 k2 k3 H3
  go_wp2_with fail
  refine (he_set2 p w.heap.size 3 n4 c4 r4 [(4, 1), (5, 0), (5, 2)] 2 3 (by decide) (by decide) [(3, 2), (4, 1), (5, 0)] (by decide +kernel) W4 H4.out.1).mono ?_
  rintro e W5 ⟨n5, c5, r5, rfl, k1, k2, k3⟩
  have H5 := Lib.hid (H4.out.step k1 k2 k3)
  clear k1 k2 k3 H4
  go_wp2_with fail
  refine (he_due p w.heap.size 3 n5 c5 r5 [(3, 2), (4, 1), (5, 0)] 4 (by decide) 2 (by decide +kernel) W5 H5.out.1).mono ?_
  rintro e W6 ⟨n6, rD, cD, rfl, k0, k1, k3⟩
  have H6 : Hid (HQ w W6 p w.heap.size 3 n6 c5 r5 [(5, 0)] ∧ EA W6 rD [(3, 2), (4, 1)]) := Lib.hid ⟨H5.out.step k1 (fun g hg => Or.inl hg) k3, EA.of_rm k0⟩
  clear k0 k1 k3 H5
  obtain rfl : n6 = 1 := H6.out.1.1.len.symm
  go_wp2_with fail
  have HS := (Below.refl W6.heap.size W6).alloc (Nat.le_refl _) (.cells #[.int .i64 3, .int .i64 2, .int .i64 4, .int .i64 1] 38)
  have HE : EA (W6.alloc (.cells #[.int .i64 3, .int .i64 2, .int .i64 4, .int .i64 1] 38)) (some ⟨W6.heap.size, 0, none⟩) [(3, 2), (4, 1)] := EA.of_rm (base := 0) (n := 2) (c := 2) ⟨rfl, by omega, Or.inr ⟨_, rfl, by omega, [], rfl, by omega, by simpa [es] using Blk.newA W6 #[.int .i64 3, .int .i64 2, .int .i64 4, .int .i64 1] 38⟩⟩
  refine (rf_same5 [(3, 2), (4, 1)] [(3, 2), (4, 1)] 2 cD 2 2 rfl rfl (by omega) rD _ true (by decide) _ (H6.out.2.below HS) HE).mono ?_
  rintro e W7 ⟨rfl, hb⟩
  have H7 : Hid (HQ w W7 p w.heap.size 3 1 c5 r5 [(5, 0)]) := Lib.hid ((H6.out.1.below HS).below hb)
  clear HS HE hb
  go_wp2_with (go_at_call 26; refine (he_len p 1 c5 r5 _ H7.out.1.c0).mono ?_; rintro e W8 ⟨rfl, rfl⟩)
  go_ret
  exact ⟨rfl, H7.out.2.1⟩
end Go.Proofs.Ytbdjcppkfihonaa
