/- Heap: New, Min, Pop, List. -/
import Derived.Test.YtbdjcppkfihonaaHe13
import Derived.Test.YtbdjcppkfihonaaBytes
import Derived.WalkKit
import Derived.ProofKit
import Derived.Handy
import Derived.WalkLawsBesides
import Derived.WalkSpells
import Derived.Lib.Hide
import Derived.RegionTactic
import Derived.ChangeAlike
import Derived.WalkSmall
import Derived.Deep.QuietTactic
import Derived.BigQuiet
import Derived.OwnWalk
import Derived.Outline
import Derived.Deep.CutRange
import Derived.Deep.CutBlock
import Derived.LoopTactic
namespace Go.Proofs.Ytbdjcppkfihonaa
open Go.ChangeShapes Go.WideShapes Go.ChangeAt Go.RowKit
set_option linter.unusedSimpArgs false
set_option linter.unusedVariables false

theorem infoI64 : (Try.prog.info? 2).map (fun i => (i.zero, i.size, i.bytes)) = some (some (.int .i64 0), 1, 8) := by kernel_rfl
/-- As far as k the deadlines are set to Never. -/
def He.fil (j k : Nat) : List Value := List.replicate j (.int .i64 9223372036854775807) ++ List.replicate (k - j) (.int .i64 0)
theorem fil_length (j k : Nat) (h : j ≤ k) : (He.fil j k).length = k := by simp [He.fil]; omega
theorem fil_set (j k : Nat) (h : j < k) : (He.fil j k).set j (.int .i64 9223372036854775807) = He.fil (j + 1) k := by
  unfold He.fil
  obtain ⟨m, hm⟩ : ∃ m, k - j = m + 1 := ⟨k - j - 1, by omega⟩
  rw [hm, show k - (j + 1) = m by omega, List.set_append_right _ _ (by simp), List.replicate_succ]
  simp [List.replicate_succ']
set_option maxRecDepth 20000 in
set_option maxHeartbeats 4000000 in
theorem he_new (most : Int) (k : Nat) (hk : min (max most 1) 1024 = (k : Int)) (w : World) : Calls Try.prog 12 #[.int .i64 most] w fun e w' => e = .returned (.pointer (some ⟨w.heap.size + 1, 0, none⟩)) ∧ HP w' (w.heap.size + 1) w.heap.size k 0 0 none [] ∧ Below w.heap.size w w' := by
  have hk1 : 1 ≤ k ∧ k ≤ 1024 := by omega
  obtain ⟨k1, k2⟩ := hk1
  have kI : (0 : Int) ≤ (k : Int) := by omega
  have hmk : ∀ W, (Instr.makeSlice 46 (.int .i64 k) (.int .i64 k)).run Try.prog W = .ok (.slice (some ⟨W.heap.size, 0, none⟩) k k) (W.alloc (.cells (List.replicate k (.int .i64 0)).toArray 2)) := fun W =>
    run_make_blk W _ _ _ Try.underlying46 8 infoI64 rfl k k (Nat.le_refl _) (by omega) (by omega)
  go_enter Try.func12, Try.ntmps12
  go_wp2_with fail
  have HB : Hid (Blk ((w.alloc (Obj.cells (Array.replicate k (Value.int IntKind.i64 0)) 2)).alloc (.cells #[.slice none 0 0, .slice (some ⟨w.heap.size, 0, none⟩) k k] 98)) (w.heap.size + 1) [.slice none 0 0, .slice (some ⟨w.heap.size, 0, none⟩) k k] 98 ∧ Blk ((w.alloc (Obj.cells (Array.replicate k (Value.int IntKind.i64 0)) 2)).alloc (.cells #[.slice none 0 0, .slice (some ⟨w.heap.size, 0, none⟩) k k] 98)) w.heap.size (He.fil 0 k) 2 ∧ Below w.heap.size w ((w.alloc (Obj.cells (Array.replicate k (Value.int IntKind.i64 0)) 2)).alloc (.cells #[.slice none 0 0, .slice (some ⟨w.heap.size, 0, none⟩) k k] 98))) := Lib.hid (by
    refine ⟨?_, ?_, ((Below.refl _ _).alloc (Nat.le_refl _) _).alloc (by simp) _⟩
    · have := Blk.newA (w.alloc (Obj.cells (Array.replicate k (Value.int IntKind.i64 0)) 2)) #[.slice none 0 0, .slice (some ⟨w.heap.size, 0, none⟩) k k] 98
      simpa using this
    · have := (Blk.newA w (Array.replicate k (Value.int IntKind.i64 0)) 2).alloc (.cells #[.slice none 0 0, .slice (some ⟨w.heap.size, 0, none⟩) k k] 98)
      rw [Array.toList_replicate] at this
      simpa [He.fil] using this)
  revert HB
  generalize ((w.alloc (Obj.cells (Array.replicate k (Value.int IntKind.i64 0)) 2)).alloc (.cells #[.slice none 0 0, .slice (some ⟨w.heap.size, 0, none⟩) k k] 98)) = W
  intro HB
  have c1 := HB.out.1.cell (i := 1) rfl
  go_wp2_with fail
  go_loopw [16] (fun iv wr => ∃ j : Nat, j ≤ k ∧ iv = .int .i64 j ∧ Hid (Blk wr (w.heap.size + 1) [.slice none 0 0, .slice (some ⟨w.heap.size, 0, none⟩) k k] 98 ∧ Blk wr w.heap.size (He.fil j k) 2 ∧ Below w.heap.size w wr)) (fun iv _ => k - (intOf iv).toNat)
  case atStart => exact ⟨0, by omega, rfl, HB⟩
  case round =>
    clear HB c1
    obtain ⟨j, hj, rfl, HR⟩ := hrel
    have c1 := HR.out.1.cell (i := 1) rfl
    have j0 : (0 : Int) ≤ (j : Int) := by omega
    by_cases hlt : j < k
    · have jI : (j : Int) < (k : Int) := by omega
      have cj := HR.out.2.1.cell (List.getElem?_eq_getElem (by rw [fil_length j k hj]; exact hlt : j < (He.fil j k).length))
      have fj := HR.out.2.1.free j
      have HN : Hid (Blk (wr.setCell ⟨w.heap.size, j, none⟩ (.int .i64 9223372036854775807)) (w.heap.size + 1) [.slice none 0 0, .slice (some ⟨w.heap.size, 0, none⟩) k k] 98 ∧ Blk (wr.setCell ⟨w.heap.size, j, none⟩ (.int .i64 9223372036854775807)) w.heap.size (He.fil (j + 1) k) 2 ∧ Below w.heap.size w (wr.setCell ⟨w.heap.size, j, none⟩ (.int .i64 9223372036854775807))) := Lib.hid (by
        refine ⟨HR.out.1.other (by omega) j _, ?_, HR.out.2.2.setCell (Nat.le_refl _) _⟩
        rw [← fil_set j k hlt]
        exact HR.out.2.1.set j _)
      go_wp2
      refine ⟨?_, ?measure⟩
      case measure => simp [intOf]; omega
      first
        | exact ⟨j + 1, by omega, by go_num, HN⟩
        | ((repeat apply Exists.intro); exact ⟨⟨j + 1, by omega, by go_num, HN⟩, rfl⟩)
    · obtain rfl : j = k := by omega
      have jI : ¬ (j : Int) < (j : Int) := by omega
      go_wp2
      go_ret
      refine ⟨rfl, ⟨HR.out.1, ?_, RM.nil _ 0 2 _ (by omega), by omega, by simp [rvB], by simp [rvB], rfl, ok_nil j, ⟨k1, k2⟩⟩, HR.out.2.2⟩
      rw [ats_nil]
      have := HR.out.2.1
      simpa [He.fil] using this
set_option maxRecDepth 20000 in
set_option maxHeartbeats 4000000 in
theorem he_min_none (p ga k n c : Nat) (r : Option Addr) (w : World) (h : HP w p ga k n c r []) : Calls Try.prog 30 #[.pointer (some ⟨p, 0, none⟩)] w fun e w' => e = .returned (.tuple #[.agg #[.int .i64 0, .int .i64 0], .bool false]) ∧ Below w.heap.size w w' := by
  obtain rfl : n = 0 := h.len.symm
  have H := Lib.hid (And.intro (h.below ((Below.refl _ _).alloc (Nat.le_refl _) (.cells #[.int .i64 0, .int .i64 0] 38))) ((Below.refl w.heap.size w).alloc (Nat.le_refl _) (.cells #[.int .i64 0, .int .i64 0] 38)))
  have hb : ((0 : Int) == 0) = true := by simp
  clear h
  go_enter Try.func30, Try.ntmps30
  go_wp2_with (go_at_call 26; refine (he_len p 0 c r _ H.out.1.c0).mono ?_; rintro e W1 ⟨rfl, rfl⟩)
  exact bodyPost_ret (v := .tuple #[.agg #[.int .i64 0, .int .i64 0], .bool false]) (by simp [results, Try.results30, go_sem]) rfl ⟨rfl, ((Below.refl _ _).alloc (Nat.le_refl _) _)⟩
set_option maxRecDepth 20000 in
set_option maxHeartbeats 4000000 in
theorem he_min_some (p ga k n c : Nat) (r : Option Addr) (l : List (Int × Int)) (x1 x2 : Int) (hx : l[0]? = some (x1, x2)) (w : World) (h : HP w p ga k n c r l) : Calls Try.prog 30 #[.pointer (some ⟨p, 0, none⟩)] w fun e w' => e = .returned (.tuple #[.agg #[.int .i64 x1, .int .i64 x2], .bool true]) ∧ Below w.heap.size w w' := by
  have hn : 0 < n := by
    have := (List.getElem?_eq_some_iff.1 hx).1
    rw [h.len] at this; exact this
  obtain ⟨h0, h1, h2 | ⟨g, rfl, h3, h4⟩⟩ := h.m
  · omega
  have hgl := h4.lt
  have hb : ((n : Int) == 0) = false := by rw [beq_eq_false_iff_ne]; omega
  have nI : (0 : Int) < (n : Int) := by omega
  have d0 := h4.cell (es_get l 0 x1 x2 hx).1
  have d1 := h4.cell (es_get l 0 x1 x2 hx).2
  have hpl := h.o.lt
  have H := Lib.hid (And.intro h (And.intro h4 hx))
  have c0 := h.c0
  clear h h4 hx h0 h1 h3
  go_enter Try.func30, Try.ntmps30
  go_wp2_with (go_at_call 26; refine (he_len p n c _ _ (by first | exact H.out.1.c0 | exact (H.out.1.below ((Below.refl _ _).alloc (Nat.le_refl _) _)).c0)).mono ?_; rintro e W1 ⟨rfl, rfl⟩)
  refine bodyPost_ret (v := .tuple #[.agg #[.int .i64 x1, .int .i64 x2], .bool true]) (by simp [results, Try.results30, go_sem]) rfl ?_
  exact ⟨rfl, by first | exact (Below.refl _ _).alloc (Nat.le_refl _) _ | exact (((Below.refl _ _).alloc (Nat.le_refl _) _).setCell (by simp) _).setCell (by simp) _⟩
/-- The first entry, or zeros. -/
def He.hd (l : List (Int × Int)) : Int × Int := l.headD (0, 0)
theorem he_min (p ga k n c : Nat) (r : Option Addr) (l : List (Int × Int)) (x1 x2 : Int) (hx : He.hd l = (x1, x2)) (b : Bool) (hb : decide (0 < l.length) = b) (w : World) (h : HP w p ga k n c r l) : Calls Try.prog 30 #[.pointer (some ⟨p, 0, none⟩)] w fun e w' => e = .returned (.tuple #[.agg #[.int .i64 x1, .int .i64 x2], .bool b]) ∧ Below w.heap.size w w' := by
  cases l with
  | nil =>
    simp [He.hd] at hx hb
    obtain ⟨rfl, rfl⟩ := hx
    subst hb
    exact he_min_none p ga k n c r w h
  | cons a l =>
    simp [He.hd] at hx hb
    subst hb
    exact he_min_some p ga k n c r _ x1 x2 (by rw [hx]; rfl) w h
set_option maxRecDepth 20000 in
set_option maxHeartbeats 4000000 in
theorem he_pop_none (p ga k n c : Nat) (r : Option Addr) (w : World) (h : HP w p ga k n c r []) : Calls Try.prog 21 #[.pointer (some ⟨p, 0, none⟩)] w fun e w' => e = .returned (.tuple #[.agg #[.int .i64 0, .int .i64 0], .bool false]) ∧ Below w.heap.size w w' := by
  have H := Lib.hid (And.intro (h.below ((Below.refl _ _).alloc (Nat.le_refl _) (.cells #[.int .i64 0, .int .i64 0] 38))) ((Below.refl w.heap.size w).alloc (Nat.le_refl _) (.cells #[.int .i64 0, .int .i64 0] 38)))
  clear h
  go_enter Try.func21, Try.ntmps21
  go_wp2_with (go_at_call 30; refine (he_min_none p ga k n c r _ H.out.1).mono ?_; rintro e W1 ⟨rfl, hb⟩; have HB : Hid (Blk W1 w.heap.size [.int .i64 0, .int .i64 0] 38 ∧ Below w.heap.size w W1 ∧ w.heap.size < W1.heap.size) := Lib.hid ⟨(Blk.newA w _ _).below hb (by simp), H.out.2.trans (hb.mono (by simp)), by have := hb.size; simp at this; omega⟩; have r0 := HB.out.1.cell (i := 0) rfl; have r1 := HB.out.1.cell (i := 1) rfl; have f0 := HB.out.1.free 0; have f1 := HB.out.1.free 1; have hs := HB.out.2.2; clear hb)
  refine bodyPost_ret (v := .tuple #[.agg #[.int .i64 0, .int .i64 0], .bool false]) (by simp [results, Try.results21, go_sem, r0, r1, hs]) rfl ?_
  exact ⟨rfl, ((HB.out.2.1.setCell (Nat.le_refl _) _).setCell (Nat.le_refl _) _).alloc (by simp; omega) _⟩
set_option maxRecDepth 20000 in
set_option maxHeartbeats 4000000 in
theorem he_pop_some (p ga k n c : Nat) (r : Option Addr) (l m : List (Int × Int)) (x1 x2 : Int) (hl : l = (x1, x2) :: m) (w : World) (h : HP w p ga k n c r l) : Calls Try.prog 21 #[.pointer (some ⟨p, 0, none⟩)] w fun e w' => ∃ n', e = .returned (.tuple #[.agg #[.int .i64 x1, .int .i64 x2], .bool true]) ∧ HP w' p ga k n' c r m ∧ Chg (p :: ga :: rvB r) w w' := by
  have hx : l[0]? = some (x1, x2) := by rw [hl]; rfl
  have hcut : He.cut l x2 = m := by
    have := h.ok.nod
    rw [hl] at this ⊢
    exact cut_head this
  have hat : decide (He.at l x2 ≠ 9223372036854775807) = true := by
    have hm : (x1, x2) ∈ l := by rw [hl]; simp
    rw [at_mem h.ok.nod hm]
    have := (h.ok.rng _ hm).2.2.2
    simp at this ⊢
    omega
  have H := Lib.hid (And.intro (h.below ((Below.refl _ _).alloc (Nat.le_refl _) (.cells #[.int .i64 0, .int .i64 0] 38))) (And.intro ((Below.refl w.heap.size w).alloc (Nat.le_refl _) (.cells #[.int .i64 0, .int .i64 0] 38)) (And.intro hx (And.intro hcut (And.intro hat (And.intro h.o.lt (And.intro h.a.lt h.m.lt)))))))
  clear h hl hx hcut hat
  go_enter Try.func21, Try.ntmps21
  go_wp2_with (first
    | (go_at_call 30
       refine (he_min_some p ga k n c r l x1 x2 H.out.2.2.1 _ H.out.1).mono ?_
       rintro e W1 ⟨rfl, hb⟩
       have HB : Hid (Blk (W1.alloc (.cells #[.int .i64 x1, .int .i64 x2] 38)) w.heap.size [.int .i64 0, .int .i64 0] 38 ∧ Blk (W1.alloc (.cells #[.int .i64 x1, .int .i64 x2] 38)) W1.heap.size [.int .i64 x1, .int .i64 x2] 38 ∧ HP (W1.alloc (.cells #[.int .i64 x1, .int .i64 x2] 38)) p ga k n c r l ∧ Below w.heap.size w (W1.alloc (.cells #[.int .i64 x1, .int .i64 x2] 38)) ∧ w.heap.size < W1.heap.size) := Lib.hid (by
         have hs : w.heap.size < W1.heap.size := by have := hb.size; simp at this; omega
         exact ⟨((Blk.newA w _ _).below hb (by simp)).alloc _, Blk.newA W1 _ _, (H.out.1.below hb).below ((Below.refl _ _).alloc (Nat.le_refl _) _), (H.out.2.1.trans (hb.mono (by simp))).alloc (by omega) _, hs⟩)
       have hs := HB.out.2.2.2.2
       clear hb)
    | (go_at_call 18
       refine (he_cut p ga k n c r l x2 m H.out.2.2.2.1 true H.out.2.2.2.2.1 _ HB.out.2.2.1).mono ?_
       rintro e W2 ⟨n', rfl, q1, q2⟩
       have HC : Hid (Blk W2 w.heap.size [.int .i64 0, .int .i64 0] 38 ∧ Blk W2 W1.heap.size [.int .i64 x1, .int .i64 x2] 38 ∧ HP W2 p ga k n' c r m ∧ Chg (p :: ga :: rvB r) w W2) := Lib.hid (by
         have h1 := H.out.2.2.2.2.2.1; have h2 := H.out.2.2.2.2.2.2.1; have h3 := H.out.2.2.2.2.2.2.2; have h4 := HB.out.2.2.2.2
         refine ⟨HB.out.1.chg q2 ?_, HB.out.2.1.chg q2 ?_, q1, (Chg.of_fresh HB.out.2.2.2.1).trans q2 (fun x hx => Or.inl hx)⟩
         · simp; exact ⟨by omega, by omega, fun h => by have := h3 _ h; omega⟩
         · simp; exact ⟨by omega, by omega, fun h => by have := h3 _ h; omega⟩)
       have r0 := HC.out.1.cell (i := 0) rfl
       have r1 := HC.out.1.cell (i := 1) rfl
       have f0 := HC.out.1.free 0
       have f1 := HC.out.1.free 1
       have d0 := HC.out.2.1.cell (i := 0) rfl
       have d1 := HC.out.2.1.cell (i := 1) rfl
       clear q1 q2))
  refine bodyPost_ret (v := .tuple #[.agg #[.int .i64 x1, .int .i64 x2], .bool true]) (by simp [results, Try.results21, go_sem, r0, r1]) rfl ?_
  have h1 := H.out.2.2.2.2.2.1; have h2 := H.out.2.2.2.2.2.2.1; have h3 := H.out.2.2.2.2.2.2.2
  refine ⟨n', rfl, HC.out.2.2.1.chg (((Chg.refl [w.heap.size] W2).set (Or.inl (by simp)) 0 _).set (Or.inl (by simp)) 1 _) (by simp; omega) (by simp; omega) (fun g hg => by simp; have := h3 g hg; omega), (HC.out.2.2.2.set (Or.inr (Nat.le_refl _)) 0 _).set (Or.inr (Nat.le_refl _)) 1 _⟩
set_option maxRecDepth 20000 in
theorem he_clone_nil (w : World) : Calls Try.prog 59 #[.slice none 0 0] w fun e w' => e = .returned (.slice none 0 0) ∧ w = w' := by
  have q24 : ∀ (w : World) (a : Option Addr) (n c n' c' : Nat), (binOp .eql 25 (.slice a n c) (.slice none n' c')).run Try.prog w = .ok (.bool a.isNone) w := fun w a n c n' c' => Lib.run_eql_slice_nil w _ _ a n c n' c' Try.underlying25
  go_enter Try.func59, Try.ntmps59
  go_wp2
  go_ret
  exact ⟨rfl, rfl⟩
set_option maxRecDepth 20000 in
set_option maxHeartbeats 4000000 in
theorem he_list (p ga k n c : Nat) (r : Option Addr) (l : List (Int × Int)) (w : World) (h : HP w p ga k n c r l) : Calls Try.prog 31 #[.pointer (some ⟨p, 0, none⟩)] w fun e w' => ∃ r' c', e = .returned (.slice r' n c') ∧ ER w' r' l ∧ Below w.heap.size w w' := by
  have hnk := h.nk
  have hk := h.k1.2
  have c0 := h.c0
  have H := Lib.hid h
  obtain ⟨h0, h1, ⟨rfl, rfl, rfl⟩ | ⟨g, rfl, h3, h4⟩⟩ := h.m
  · clear h h0 h1
    go_enter Try.func31, Try.ntmps31
    go_wp2_with (go_at_call 59; refine (he_clone_nil _).mono ?_; rintro e W1 ⟨rfl, rfl⟩)
    go_ret
    exact ⟨none, 0, rfl, Or.inl (List.length_eq_zero_iff.1 H.out.len), Below.refl _ _⟩
  · have HX := Lib.hid h4
    clear h h0 h1 h3 h4
    go_enter Try.func31, Try.ntmps31
    go_wp2_with (go_at_call 59; refine (he_clone l n g c H.out.len (by omega) _ (fun j u hj => by rw [Nat.zero_add]; exact HX.out.cell hj)).mono ?_; rintro e W1 ⟨g', c', rfl, q1, q2, q3⟩; have HQ := Lib.hid (And.intro q1 q3); clear q1 q2 q3)
    go_ret
    exact ⟨_, _, rfl, HQ.out⟩
end Go.Proofs.Ytbdjcppkfihonaa
