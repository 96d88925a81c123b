/- Heap: Set. -/
import Derived.Test.YtbdjcppkfihonaaHe12
import Derived.WalkKit
import Derived.Deep.RegionLaw
import Derived.StillTailTactics
import Derived.ProofKit
import Derived.Handy
import Derived.WalkLawsBesides
import Derived.WalkSpells
import Derived.Lib.Hide
import Derived.RegionTactic
import Derived.ChangeAlike
import Derived.WalkSmall
import Derived.Deep.QuietTactic
import Derived.BigQuiet
import Derived.OwnWalk
import Derived.Outline
import Derived.Deep.CutRange
import Derived.Deep.CutBlock
import Derived.LoopTactic
namespace Go.Proofs.Ytbdjcppkfihonaa
open Go.ChangeShapes Go.WideShapes Go.ChangeAt Go.RowKit
set_option linter.unusedSimpArgs false
set_option linter.unusedVariables false

theorem HP.may {w : World} {p ga k n c : Nat} {r : Option Addr} {l : List (Int × Int)} (h : HP w p ga k n c r l) (id : Int) (b : Bool) (hb : decide (0 ≤ id ∧ id < k) = b) : Calls Try.prog 52 #[.pointer (some ⟨p, 0, none⟩), .int .i64 id] w fun e w' => e = .returned (.bool b) ∧ w = w' := (he_may p ga k id b hb w h.c1).mono fun _ _ h => ⟨h.1, h.2.symm⟩
set_option maxRecDepth 20000 in
set_option maxHeartbeats 4000000 in
theorem he_set_no (p ga k n c : Nat) (r : Option Addr) (l : List (Int × Int)) (id at_ : Int) (hid : ¬ (0 ≤ id ∧ id < k)) (w : World) (h : HP w p ga k n c r l) : Calls Try.prog 17 #[.pointer (some ⟨p, 0, none⟩), .int .i64 id, .int .i64 at_] w fun e w' => e = .returned (.bool false) ∧ w = w' := by
  have H := Lib.hid (h.may id false (decide_eq_false hid))
  clear h hid
  go_enter Try.func17, Try.ntmps17
  go_wp2_with (go_at_call 52; refine H.out.mono ?_; rintro e W1 ⟨rfl, rfl⟩)
  go_ret
  exact ⟨rfl, rfl⟩
set_option maxRecDepth 20000 in
set_option maxHeartbeats 4000000 in
theorem he_set_never (p ga k n c : Nat) (r : Option Addr) (l : List (Int × Int)) (q : Nat) (hq : q < k) (at_ : Int) (ha : Tk.own at_ = 9223372036854775807) (m : List (Int × Int)) (hm : He.cut l q = m) (w : World) (h : HP w p ga k n c r l) : Calls Try.prog 17 #[.pointer (some ⟨p, 0, none⟩), .int .i64 q, .int .i64 at_] w fun e w' => ∃ n', e = .returned (.bool true) ∧ HP w' p ga k n' c r m ∧ Chg (p :: ga :: rvB r) w w' := by
  have H := Lib.hid (And.intro h (And.intro (h.may q true (decide_eq_true ⟨by omega, by omega⟩)) (he_cut p ga k n c r l q m hm _ rfl w h)))
  have hb : ((9223372036854775807 : Int) != 9223372036854775807) = false := by simp
  have HA := Lib.hid ha
  clear h hm ha
  go_enter Try.func17, Try.ntmps17
  go_wp2_with (first
    | (go_at_call 52; refine H.out.2.1.mono ?_; rintro e W1 ⟨rfl, rfl⟩)
    | (go_at_call 18; refine H.out.2.2.mono ?_; rintro e W1 ⟨n', rfl, q1, q2⟩; have HQ := Lib.hid (And.intro q1 q2); clear q1 q2)
    | (go_at_call 53; refine (own_any _ _).mono ?_; rintro e W2 ⟨rfl, rfl⟩; rw [HA.out]))
  go_ret
  exact ⟨n', rfl, HQ.out.1.below ((Below.refl _ _).alloc (Nat.le_refl _) _), HQ.out.2.alloc _⟩
set_option maxRecDepth 20000 in
set_option maxHeartbeats 4000000 in
theorem he_set_some (p ga k n c : Nat) (r : Option Addr) (l : List (Int × Int)) (q : Nat) (hq : q < k) (at_ : Int) (hat : at_ ≤ 9223372036854775807) (t : Int) (ht : Tk.own at_ = t) (ha : t ≠ 9223372036854775807) (m : List (Int × Int)) (hm : He.cut l q = m) (w : World) (h : HP w p ga k n c r l) : Calls Try.prog 17 #[.pointer (some ⟨p, 0, none⟩), .int .i64 q, .int .i64 at_] w fun e w' => ∃ n' c' r', e = .returned (.bool true) ∧ HP w' p ga k n' c' r' (He.ins m (t, (q : Int))) ∧ (∀ g ∈ rvB r', g ∈ rvB r ∨ w.heap.size ≤ g) ∧ Chg (p :: ga :: rvB r) w w' := by
  have H := Lib.hid (And.intro h (And.intro (h.may q true (decide_eq_true ⟨by omega, by omega⟩)) (And.intro (he_cut p ga k n c r l q m hm _ rfl w h) (And.intro ht (And.intro (own_lt hat (by rw [ht]; exact ha)) hm)))))
  have hb : (t != 9223372036854775807) = true := by simpa using ha
  have hk1 := h.k1.2
  clear h hm ha ht
  go_enter Try.func17, Try.ntmps17
  go_upto_region 6 with (first
    | (go_at_call 52; refine H.out.2.1.mono ?_; rintro e W1 ⟨rfl, rfl⟩)
    | (go_at_call 18; refine H.out.2.2.1.mono ?_; rintro e W1 ⟨n1, rfl, q1, q2⟩; have HQ := Lib.hid (And.intro q1 q2); clear q1 q2)
    | (go_at_call 53; refine (own_any _ _).mono ?_; rintro e W2 ⟨rfl, rfl⟩; rw [H.out.2.2.2.1]))
  have HB : Hid (HP (W1.alloc (.cells #[.int .i64 t, .int .i64 q] 38)) p ga k n1 c r m ∧ Blk (W1.alloc (.cells #[.int .i64 t, .int .i64 q] 38)) W1.heap.size [.int .i64 t, .int .i64 q] 38 ∧ Chg (p :: ga :: rvB r) w (W1.alloc (.cells #[.int .i64 t, .int .i64 q] 38)) ∧ w.heap.size ≤ W1.heap.size) :=
    Lib.hid ⟨HQ.out.1.below ((Below.refl _ _).alloc (Nat.le_refl _) _), Blk.newA W1 _ _, HQ.out.2.alloc _, HQ.out.2.size⟩
  revert HB
  generalize (W1.alloc (.cells #[.int .i64 t, .int .i64 q] 38)) = W
  obtain ⟨X, hX⟩ : ∃ X, W1.heap.size = X := ⟨_, rfl⟩
  rw [hX]
  intro HB
  obtain ⟨pl, hpl⟩ : ∃ pl, He.pl m (t, (q : Int)) = pl := ⟨_, rfl⟩
  obtain ⟨fd, hfd⟩ : ∃ fd, decide (m[pl]? = some (t, (q : Int))) = fd := ⟨_, rfl⟩
  have hnk := HB.out.1.nk
  have hpn : pl ≤ n1 := by rw [← hpl, ← HB.out.1.len]; exact (pl_parts m (t, (q : Int)) HB.out.1.ok.srt).1
  have HP2 : Hid (He.pl m (t, (q : Int)) = pl ∧ ∀ w', HP w' p ga k n1 c r m → Calls Try.prog 54 #[.slice r n1 c, .agg #[.int .i64 t, .int .i64 q], .func (.func 55) #[] #[]] w' fun e w'' => e = .returned (.tuple #[.int .i64 pl, .bool fd]) ∧ Below w'.heap.size w' w'') := Lib.hid ⟨hpl, fun w' hw' =>
    he_search m n1 hw'.len (by omega) t q pl (by rw [← hpl]; exact pl_parts m _ hw'.ok.srt) fd (by rw [← hfd]; simp) r c _ rfl w' hw'.m.er⟩
  clear hpl hfd hX HQ
  refine wp_region_class (fun w' => HP w' p ga k n1 c r m ∧ Blk w' X [.int .i64 t, .int .i64 q] 38 ∧ Below W.heap.size W w') (by kernel_rfl) (by kernel_rfl) ⟨HB.out.1.drew, HB.out.2.1, (Below.refl _ _).drew⟩ ?_
  repeat (first
      | go_big_quiet_skip
      | (go_big_quiet_want
         unfold Oper.quiet
         apply Exists.intro
         refine ⟨fun wq hwq => ?_, ?_⟩
         · (obtain ⟨hq1, hq2, hq3⟩ := hwq
            have c0 := hq1.c0
            have e1 := hq2.cell (i := 0) rfl
            have e2 := hq2.cell (i := 1) rfl
            unfold Oper.quietAt
            go_simp
            first
              | exact ⟨rfl, hq1, hq2, hq3⟩
              | exact rfl
              | (go_at_call 54; refine (HP2.out.2 _ hq1).mono ?_; rintro e w3 ⟨he, hb⟩; exact ⟨he, hq1.below hb, Blk.chg hq2 (Chg.of_fresh (l := []) hb) (by simp), hq3.trans (hb.mono hq3.size)⟩))
         simp only [Act.put, List.setIfInBounds_toArray, List.set_cons_zero, List.set_cons_succ]
         go_big_quiet_on))
  refine wpQuiet_nil ?_
  intro w4 hw4
  have HB4 : Hid (HP w4 p ga k n1 c r m ∧ Blk w4 X [.int .i64 t, .int .i64 q] 38 ∧ Chg (p :: ga :: rvB r) w w4 ∧ w.heap.size ≤ X) := Lib.hid ⟨hw4.1, hw4.2.1, HB.out.2.2.1.trans (Chg.of_fresh (l := []) hw4.2.2) (by simp), HB.out.2.2.2⟩
  clear hw4 HB
  have c0 := HB4.out.1.c0
  have e1 := HB4.out.2.1.cell (i := 0) rfl
  have e2 := HB4.out.2.1.cell (i := 1) rfl
  have f0 := HB4.out.1.o.free 0
  have pi0 : (0 : Int) ≤ (pl : Int) := by omega
  have HI : Hid (HP (w4.alloc (Obj.cells #[Value.int IntKind.i64 t, Value.int IntKind.i64 q] 38)).drew p ga k n1 c r m ∧ Blk (w4.alloc (Obj.cells #[Value.int IntKind.i64 t, Value.int IntKind.i64 q] 38)).drew w4.heap.size [.int .i64 t, .int .i64 q] 38 ∧ Blk (w4.alloc (Obj.cells #[Value.int IntKind.i64 t, Value.int IntKind.i64 q] 38)).drew X [.int .i64 t, .int .i64 q] 38 ∧ Chg (p :: ga :: rvB r) w (w4.alloc (Obj.cells #[Value.int IntKind.i64 t, Value.int IntKind.i64 q] 38)).drew) :=
    Lib.hid ⟨HB4.out.1.below (((Below.refl _ _).alloc (Nat.le_refl _) _).drew), (Blk.newA w4 _ _).drew, (HB4.out.2.1.alloc _).drew, (HB4.out.2.2.1.alloc _).drew⟩
  have HR : Hid (X ∉ rvB r ∧ w4.heap.size ∉ rvB r ∧ X ≠ p ∧ X ≠ ga ∧ p < w4.heap.size ∧ ga < w4.heap.size) := Lib.hid (by
    have h1 := H.out.1.m.lt
    have h2 := H.out.1.o.lt
    have h3 := H.out.1.a.lt
    have h4 := HB4.out.2.2.1.size
    have h5 := HB4.out.2.2.2
    exact ⟨fun h => by have := (h1 _ h).2; omega, fun h => by have := (h1 _ h).2; omega, by omega, by omega, by omega, by omega⟩)
  have a0 : (w4.alloc (Obj.cells #[Value.int IntKind.i64 t, Value.int IntKind.i64 q] 38)).cell? ⟨p, 0, none⟩ = some (.slice r n1 c) := HI.out.1.c0
  have a1 : (w4.alloc (Obj.cells #[Value.int IntKind.i64 t, Value.int IntKind.i64 q] 38)).cell? ⟨X, 0, none⟩ = some (.int .i64 t) := HI.out.2.2.1.cell (i := 0) rfl
  have a2 : (w4.alloc (Obj.cells #[Value.int IntKind.i64 t, Value.int IntKind.i64 q] 38)).cell? ⟨X, 1, none⟩ = some (.int .i64 q) := HI.out.2.2.1.cell (i := 1) rfl
  go_wp2_with fail
  go_region_law (first
    | (rw [if_pos (by simp [Region.wanted])]
       unfold Oper.wp
       go_simp
       go_at_call 56
       refine (he_insert m n1 pl HI.out.1.len (by omega) hpn t q 0 r c w4.heap.size _ HI.out.1.m HI.out.2.1 HR.out.2.1).mono ?_
       rintro e w5 ⟨g', c', rfl, q1, q2, q3⟩
       have HJ : Hid (RM w5 0 (some ⟨g', 0, none⟩) (n1 + 1) c' 2 (es (He.ins m (t, (q : Int)))) 38 ∧ Blk w5 p [.slice r n1 c, .slice (some ⟨ga, 0, none⟩) k k] 98 ∧ Blk w5 ga (He.ats k m) 2 ∧ Blk w5 X [.int .i64 t, .int .i64 q] 38 ∧ (g' ∈ rvB r ∨ w.heap.size ≤ g') ∧ Chg (p :: ga :: rvB r) w w5 ∧ g' ≠ p ∧ g' ≠ ga) := Lib.hid (by
         rw [← HP2.out.1] at q1
         refine ⟨q1, HI.out.1.o.chg q3 HI.out.1.pr, HI.out.1.a.chg q3 HI.out.1.gr, HI.out.2.2.1.chg q3 HR.out.1, ?_, HI.out.2.2.2.trans q3 (fun x hx => Or.inl (by simp [hx])), ?_, ?_⟩
         · rcases q2 with q2 | q2
           · exact Or.inl q2
           · have := HI.out.2.2.2.size; exact Or.inr (by omega)
         · rcases q2 with q2 | q2
           · exact fun e => HI.out.1.pr (e ▸ q2)
           · have := HR.out.2.2.2.2.1; simp at q2; omega
         · rcases q2 with q2 | q2
           · exact fun e => HI.out.1.gr (e ▸ q2)
           · have := HR.out.2.2.2.2.2; simp at q2; omega)
       have c5 := HJ.out.2.1.cell (i := 0) rfl
       have f5 := HJ.out.2.1.free 0
       clear q1 q2 q3))
  all_goals
    have HV : Hid (Blk (w5.setCell ⟨p, 0, none⟩ (.slice (some ⟨g', 0, none⟩) (n1 + 1) c')) p [.slice (some ⟨g', 0, none⟩) (n1 + 1) c', .slice (some ⟨ga, 0, none⟩) k k] 98 ∧ Blk (w5.setCell ⟨p, 0, none⟩ (.slice (some ⟨g', 0, none⟩) (n1 + 1) c')) ga (He.ats k m) 2 ∧ Blk (w5.setCell ⟨p, 0, none⟩ (.slice (some ⟨g', 0, none⟩) (n1 + 1) c')) X [.int .i64 t, .int .i64 q] 38 ∧ RM (w5.setCell ⟨p, 0, none⟩ (.slice (some ⟨g', 0, none⟩) (n1 + 1) c')) 0 (some ⟨g', 0, none⟩) (n1 + 1) c' 2 (es (He.ins m (t, (q : Int)))) 38 ∧ Chg (p :: ga :: rvB r) w (w5.setCell ⟨p, 0, none⟩ (.slice (some ⟨g', 0, none⟩) (n1 + 1) c'))) := Lib.hid (by
      refine ⟨HJ.out.2.1.set 0 _, HJ.out.2.2.1.other (fun e => H.out.1.pg e.symm) 0 _, HJ.out.2.2.2.1.other HR.out.2.2.1 0 _, HJ.out.1.chg ((Chg.refl [p] w5).set (Or.inl (by simp)) 0 _) ?_, HJ.out.2.2.2.2.2.1.set (Or.inl (by simp)) 0 _⟩
      intro g hg; rw [rvB_some] at hg; simp at hg ⊢; rw [hg]; exact HJ.out.2.2.2.2.2.2.1)
    revert HV
    generalize w5.setCell ⟨p, 0, none⟩ (.slice (some ⟨g', 0, none⟩) (n1 + 1) c') = W6
    intro HV
    clear c0 e1 e2 f0 c5 f5 a0 a1 a2
    have c1 := HV.out.1.cell (i := 1) rfl
    have e1 := HV.out.2.2.1.cell (i := 0) rfl
    have cq := HV.out.2.1.cell (ats_get m hq)
    have fq := HV.out.2.1.free q
    have q0 : (0 : Int) ≤ (q : Int) := by omega
    have q1 : (q : Int) < (k : Int) := by omega
    go_wp2_with fail
    go_still_tail 8, (by kernel_rfl)
    change wpList _ _ _ _ _ W6.drew
    have HW : Hid (HP (W6.drew.setCell ⟨ga, q, none⟩ (.int .i64 t)) p ga k (n1 + 1) c' (some ⟨g', 0, none⟩) (He.ins m (t, (q : Int))) ∧ Chg (p :: ga :: rvB r) w (W6.drew.setCell ⟨ga, q, none⟩ (.int .i64 t))) := Lib.hid (by
      have ok := HB4.out.1.ok
      have hcn : ∀ s, (s, (q : Int)) ∉ m := by rw [← H.out.2.2.2.2.2]; exact cut_no l q
      have hr2 : 0 ≤ t ∧ t < 9223372036854775807 := by have := H.out.2.2.2.2.1; rw [H.out.2.2.2.1] at this; exact this
      have hr1 : 0 ≤ (q : Int) ∧ (q : Int) < k := ⟨q0, q1⟩
      have hats : (He.ats k m).set q (.int .i64 t) = He.ats k (He.ins m (t, (q : Int))) := ats_put hq fun j hj => at_ins ok hcn hr1 hr2 j
      refine ⟨⟨HV.out.1.drew.other H.out.1.pg q _, ?_, HV.out.2.2.2.1.chg ((Chg.refl [ga] W6).drew.set (Or.inl (by simp)) q _) ?_, H.out.1.pg, ?_, ?_, ?_, ok_ins ok hcn hr1 hr2, H.out.1.k1⟩, HV.out.2.2.2.2.drew.set (Or.inl (by simp)) q _⟩
      · have := HV.out.2.1.drew.set q (.int .i64 t)
        rw [hats] at this
        exact this
      · intro g hg; rw [rvB_some] at hg; simp at hg ⊢; rw [hg]; exact HJ.out.2.2.2.2.2.2.2
      · rw [rvB_some]; simp; exact fun e => HJ.out.2.2.2.2.2.2.1 e.symm
      · rw [rvB_some]; simp; exact fun e => HJ.out.2.2.2.2.2.2.2 e.symm
      · rw [(ins_perm m (t, (q : Int))).length_eq, List.length_cons, HB4.out.1.len])
    go_wp2
    go_ret
    refine ⟨n1 + 1, c', some ⟨g', 0, none⟩, rfl, HW.out.1, ?_, HW.out.2⟩
    intro g hg
    rw [rvB_some] at hg
    simp at hg
    rw [hg]
    exact HJ.out.2.2.2.2.1
/-- Set, whatever the number and the deadline. -/
theorem he_set (p ga k n c : Nat) (r : Option Addr) (l : List (Int × Int)) (q : Nat) (hq : q < k) (at_ : Int) (hat : at_ ≤ 9223372036854775807) (m : List (Int × Int)) (hm : He.set l q at_ = m) (w : World) (h : HP w p ga k n c r l) : Calls Try.prog 17 #[.pointer (some ⟨p, 0, none⟩), .int .i64 q, .int .i64 at_] w fun e w' => ∃ n' c' r', e = .returned (.bool true) ∧ HP w' p ga k n' c' r' m ∧ (∀ g ∈ rvB r', g ∈ rvB r ∨ w.heap.size ≤ g) ∧ Chg (p :: ga :: rvB r) w w' := by
  by_cases ha : Tk.own at_ = 9223372036854775807
  · refine (he_set_never p ga k n c r l q hq at_ ha m (by rw [← hm]; unfold He.set; rw [if_pos ha]) w h).mono ?_
    rintro e w' ⟨n', he, q1, q2⟩
    exact ⟨n', c, r, he, q1, fun g hg => Or.inl hg, q2⟩
  · refine (he_set_some p ga k n c r l q hq at_ hat _ rfl ha _ rfl w h).mono ?_
    rintro e w' ⟨n', c', r', he, q1, q2, q3⟩
    refine ⟨n', c', r', he, ?_, q2, q3⟩
    rw [← hm]; unfold He.set; rw [if_neg ha]; exact q1
end Go.Proofs.Ytbdjcppkfihonaa
