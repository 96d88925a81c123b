/- Heap: Due. -/
import Derived.Test.YtbdjcppkfihonaaHe14
import Derived.WalkKit
import Derived.ProofKit
import Derived.Handy
import Derived.WalkLawsBesides
import Derived.WalkSpells
import Derived.Lib.Hide
import Derived.RegionTactic
import Derived.ChangeAlike
import Derived.WalkSmall
import Derived.Deep.QuietTactic
import Derived.BigQuiet
import Derived.OwnWalk
import Derived.Outline
import Derived.Deep.CutRange
import Derived.Deep.CutBlock
import Derived.LoopTactic
namespace Go.Proofs.Ytbdjcppkfihonaa
open Go.ChangeShapes Go.WideShapes Go.ChangeAt Go.RowKit
set_option linter.unusedSimpArgs false
set_option linter.unusedVariables false

theorem tw_lt {α : Type} (P : α → Bool) : ∀ (l : List α) (j : Nat), j < (l.takeWhile P).length → ∃ x, l[j]? = some x ∧ P x = true
  | [], j, h => by simp at h
  | a :: r, j, h => by
    by_cases ha : P a = true
    · rw [List.takeWhile_cons_of_pos ha] at h
      cases j with
      | zero => exact ⟨a, rfl, ha⟩
      | succ j => simpa using tw_lt P r j (by simpa using h)
    · rw [List.takeWhile_cons_of_neg ha] at h; simp at h
theorem tw_eq {α : Type} (P : α → Bool) : ∀ (l : List α) (x : α), l[(l.takeWhile P).length]? = some x → P x = false
  | [], x, h => by simp at h
  | a :: r, x, h => by
    by_cases ha : P a = true
    · rw [List.takeWhile_cons_of_pos ha] at h
      exact tw_eq P r x (by simpa using h)
    · rw [List.takeWhile_cons_of_neg ha] at h
      simp at h; subst h; simpa using ha
theorem tw_le {α : Type} (P : α → Bool) (l : List α) : (l.takeWhile P).length ≤ l.length := (List.takeWhile_sublist P).length_le
def cellLen : Option Value → Nat
  | some (.slice _ n _) => n
  | _ => 0
/-- What stands at the head of Due's loop. -/
def DueI (w wr : World) (p ga k c : Nat) (r : Option Addr) (l : List (Int × Int)) (d j : Nat) (rD : Option Addr) (cD B n' : Nat) (x1 x2 : Int) (b : Bool) : Prop :=
  decide (0 < (l.drop j).length) = b ∧ He.hd (l.drop j) = (x1, x2) ∧ j ≤ d ∧ HP wr p ga k n' c r (l.drop j) ∧ Blk wr B [.int .i64 x1, .int .i64 x2] 38 ∧ RM wr w.heap.size rD j cD 2 (es (l.take j)) 38 ∧ w.heap.size ≤ B ∧ B ∉ rvB rD ∧ Chg (p :: ga :: rvB r) w wr
set_option maxRecDepth 20000 in
set_option maxHeartbeats 8000000 in
theorem he_due (p ga k n c : Nat) (r : Option Addr) (l : List (Int × Int)) (now : Int) (hnow : now ≤ 9223372036854775807) (d : Nat) (hd : (l.takeWhile (fun x => Tk.dueB x.1 now)).length = d) (w : World) (h : HP w p ga k n c r l) : Calls Try.prog 24 #[.pointer (some ⟨p, 0, none⟩), .int .i64 now] w fun e w' => ∃ n' rD cD, e = .returned (.slice rD d cD) ∧ RM w' w.heap.size rD d cD 2 (es (l.take d)) 38 ∧ HP w' p ga k n' c r (l.drop d) ∧ Chg (p :: ga :: rvB r) w w' := by
  have hdl : d ≤ l.length := by rw [← hd]; exact tw_le _ l
  have hlt : ∀ j, j < d → ∃ x, l[j]? = some x ∧ Tk.dueB x.1 now = true := fun j hj => tw_lt (fun x => Tk.dueB x.1 now) l j (by rw [hd]; exact hj)
  have heq : ∀ x, l[d]? = some x → Tk.dueB x.1 now = false := fun x hx => tw_eq (fun x => Tk.dueB x.1 now) l x (by rw [hd]; exact hx)
  have hlk : l.length ≤ k ∧ k ≤ 1024 := ⟨h.ok.len, h.k1.2⟩
  have HL := Lib.hid (And.intro hlt (And.intro heq (And.intro hdl (And.intro hlk (And.intro h.o.lt (And.intro h.a.lt (And.intro h.m.lt (And.intro h.pg (And.intro h.pr (And.intro h.gr h.ok))))))))))
  obtain ⟨⟨x1, x2⟩, hx⟩ : ∃ x, He.hd l = x := ⟨_, rfl⟩
  obtain ⟨b, hb⟩ : ∃ b, decide (0 < l.length) = b := ⟨_, rfl⟩
  have H := Lib.hid (And.intro h (And.intro hx hb))
  clear h hx hb hd hlt heq hdl hlk
  go_enter Try.func24, Try.ntmps24
  go_wp2_with (go_at_call 30; refine (he_min p ga k n c r l x1 x2 H.out.2.1 b H.out.2.2 _ H.out.1).mono ?_; rintro e W1 ⟨rfl, hb1⟩; have HB := Lib.hid hb1; clear hb1)
  have HI : Hid (DueI w (W1.alloc (.cells #[.int .i64 x1, .int .i64 x2] 38)) p ga k c r l d 0 none 0 W1.heap.size n x1 x2 b) := Lib.hid (by
    have hs := HB.out.size
    exact ⟨H.out.2.2, H.out.2.1, Nat.zero_le _, (H.out.1.below HB.out).below ((Below.refl _ _).alloc (Nat.le_refl _) _), Blk.newA W1 _ _, RM.nil _ _ 2 _ (by simp; omega), hs, by simp [rvB], (Chg.of_fresh (HB.out.alloc hs _))⟩)
  revert HI
  generalize (W1.alloc (.cells #[.int .i64 x1, .int .i64 x2] 38)) = W2
  obtain ⟨B, hB⟩ : ∃ B, W1.heap.size = B := ⟨_, rfl⟩
  rw [hB]
  intro HI
  clear hB HB
  go_wp2_with fail
  go_loopw [5, 6, 7] (fun v5 v6 v7 wr => ∃ (j : Nat) (rD : Option Addr) (cD B n' : Nat) (x1 x2 : Int) (b : Bool), v5 = .slice rD j cD ∧ v6 = .pointer (some ⟨B, 0, none⟩) ∧ v7 = .bool b ∧ Hid (DueI w wr p ga k c r l d j rD cD B n' x1 x2 b)) (fun _ _ _ wr => cellLen (wr.cell? ⟨p, 0, none⟩))
  case atStart => exact ⟨0, none, 0, B, n, x1, x2, b, rfl, rfl, rfl, HI⟩
  case round =>
    clear HI H
    obtain ⟨j, rD, cD, B, n', x1, x2, b, rfl, rfl, rfl, HI⟩ := hrel
    have hc0 := HI.out.2.2.2.1.c0
    have hms : cellLen (wr.cell? ⟨p, 0, none⟩) = n' := by rw [hc0]; rfl
    have HM := Lib.hid hms
    have d0 := HI.out.2.2.2.2.1.cell (i := 0) rfl
    have d1 := HI.out.2.2.2.2.1.cell (i := 1) rfl
    clear hc0 hms
    cases b with
    | false =>
      have hj : j = d := by
        have h1 := of_decide_eq_false HI.out.1
        have h2 := HI.out.2.2.1
        have h3 := HL.out.2.2.1
        rw [List.length_drop] at h1
        omega
      subst hj
      go_wp2
      go_ret
      exact ⟨n', rD, cD, rfl, HI.out.2.2.2.2.2.1, HI.out.2.2.2.1, HI.out.2.2.2.2.2.2.2.2⟩
    | true =>
      have hjl : j < l.length := by have h1 := of_decide_eq_true HI.out.1; rw [List.length_drop] at h1; omega
      have hlj : l[j]? = some (x1, x2) := by
        have h1 := HI.out.2.1
        unfold He.hd at h1
        rw [List.drop_eq_getElem_cons hjl, List.headD_cons] at h1
        rw [List.getElem?_eq_getElem hjl, h1]
      have hx1 : x1 ≤ 9223372036854775807 := by have := (HL.out.2.2.2.2.2.2.2.2.2.2.rng _ (List.mem_of_getElem? hlj)).2.2.2; dsimp only at this; omega
      by_cases hdue : Tk.dueB x1 now = true
      · have hjd : j < d := by
          rcases Nat.lt_or_ge j d with h | h
          · exact h
          · have h2 := HI.out.2.2.1
            obtain rfl : j = d := by omega
            have := HL.out.2.1 _ hlj
            rw [hdue] at this; cases this
        have hdrop : l.drop j = (x1, x2) :: l.drop (j + 1) := by
          rw [List.drop_eq_getElem_cons hjl]
          rw [List.getElem?_eq_getElem hjl] at hlj
          injection hlj with hlj
          rw [hlj]
        have htake : l.take (j + 1) = l.take j ++ [(x1, x2)] := by
          rw [List.take_succ_eq_append_getElem hjl]
          rw [List.getElem?_eq_getElem hjl] at hlj
          injection hlj with hlj
          rw [hlj]
        have hcut : He.cut (l.drop j) x2 = l.drop (j + 1) := by
          have := HI.out.2.2.2.1.ok.nod
          rw [hdrop] at this ⊢
          exact cut_head this
        have hat : decide (He.at (l.drop j) x2 ≠ 9223372036854775807) = true := by
          have hm : (x1, x2) ∈ l.drop j := by rw [hdrop]; simp
          rw [at_mem HI.out.2.2.2.1.ok.nod hm]
          have := (HI.out.2.2.2.1.ok.rng _ hm).2.2.2
          simp at this ⊢
          omega
        obtain ⟨⟨y1, y2⟩, hy⟩ : ∃ y, He.hd (l.drop (j + 1)) = y := ⟨_, rfl⟩
        obtain ⟨b2, hb2⟩ : ∃ b, decide (0 < (l.drop (j + 1)).length) = b := ⟨_, rfl⟩
        have HD : Hid ((∀ W, Calls Try.prog 58 #[.int .i64 x1, .int .i64 now] W fun e w' => e = .returned (.bool true) ∧ W = w') ∧ l.take (j + 1) = l.take j ++ [(x1, x2)] ∧ He.cut (l.drop j) x2 = l.drop (j + 1) ∧ decide (He.at (l.drop j) x2 ≠ 9223372036854775807) = true ∧ He.hd (l.drop (j + 1)) = (y1, y2) ∧ decide (0 < (l.drop (j + 1)).length) = b2 ∧ j < d ∧ d ≤ 1024) := Lib.hid ⟨fun W => (due_any x1 now hx1 hnow W).mono fun e w' h => ⟨by rw [h.1, hdue], h.2⟩, htake, hcut, hat, hy, hb2, hjd, by have := HL.out.2.2.1; have := HL.out.2.2.2.1; omega⟩
        have HN : Hid (B ∉ (p :: ga :: rvB r)) := Lib.hid (by
          have h1 := HL.out.2.2.2.2.1; have h2 := HL.out.2.2.2.2.2.1; have h3 := HL.out.2.2.2.2.2.2.1; have h4 := HI.out.2.2.2.2.2.2.1
          simp; exact ⟨by omega, by omega, fun h => by have := h3 _ h; omega⟩)
        have HR : Hid (∀ g ∈ rvB rD, g ∉ (p :: ga :: rvB r)) := Lib.hid (by
          have h1 := HL.out.2.2.2.2.1; have h2 := HL.out.2.2.2.2.2.1; have h3 := HL.out.2.2.2.2.2.2.1; have h4 := HI.out.2.2.2.2.2.1.lt
          intro g hg
          have := h4 g hg
          simp; exact ⟨by omega, by omega, fun h => by have := h3 _ h; omega⟩)
        clear htake hcut hat hy hb2 hjd hdrop hlj hdue hjl hx1
        go_wp2_with (first
          | (go_at_call 58; refine (HD.out.1 _).mono ?_; rintro e W3 ⟨rfl, rfl⟩)
          | (go_at_call 18
             refine (he_cut p ga k n' c r (l.drop j) x2 (l.drop (j + 1)) HD.out.2.2.1 true HD.out.2.2.2.1 _ HI.out.2.2.2.1).mono ?_
             rintro e W3 ⟨n2, rfl, q1, q2⟩
             have HC : Hid (HP W3 p ga k n2 c r (l.drop (j + 1)) ∧ Blk W3 B [.int .i64 x1, .int .i64 x2] 38 ∧ RM W3 w.heap.size rD j cD 2 (es (l.take j)) 38 ∧ Chg (p :: ga :: rvB r) w W3) := Lib.hid ⟨q1, HI.out.2.2.2.2.1.chg q2 HN.out, HI.out.2.2.2.2.2.1.chg q2 HR.out, HI.out.2.2.2.2.2.2.2.2.trans q2 (fun x hx => Or.inl hx)⟩
             have d0 := HC.out.2.1.cell (i := 0) rfl
             have d1 := HC.out.2.1.cell (i := 1) rfl
             clear q1 q2)
          | (at_builtin
             refine wpList_append_rm _ rfl (.tmp 29) (.tmp 31) 25 25 rfl 38 (.agg #[.int .i64 0, .int .i64 0]) 2 16 Try.underlying25 infoE rfl w.heap.size rD j cD (es (l.take j)) rfl (HC.out.2.2.1.chg (l := []) ((Chg.refl _ _).alloc _) (by simp)) _ rfl 1 (by omega) [.int .i64 x1, .int .i64 x2] (Src.ofSlice _ Try.underlying25 _ _ _ _ rfl (fun i u hi => by rw [Addr.add_lit, Nat.zero_add]; exact (Blk.newA W3 #[.int .i64 x1, .int .i64 x2] 38).cell hi) (by intro v hv; simp at hv; rcases hv with rfl | rfl <;> rfl)) (by have := HD.out.2.2.2.2.2.2; omega) (by omega) ?_
             intro g' c' w4 q1 q2 q3
             rw [← es_snoc, ← HD.out.2.1] at q1
             have HE : Hid (RM w4 w.heap.size (some ⟨g', 0, none⟩) (j + 1) c' 2 (es (l.take (j + 1))) 38 ∧ HP w4 p ga k n2 c r (l.drop (j + 1)) ∧ Blk w4 B [.int .i64 x1, .int .i64 x2] 38 ∧ Chg (p :: ga :: rvB r) w w4 ∧ g' < w4.heap.size) := Lib.hid (by
               have hr := HR.out
               have h1 : p ∉ rvB rD := fun h => hr p h (by simp)
               have h2 : ga ∉ rvB rD := fun h => hr ga h (by simp)
               have q0 := (Chg.refl [] W3).alloc (.cells #[.int .i64 x1, .int .i64 x2] 38)
               refine ⟨q1, (HC.out.1.chg q0 (by simp) (by simp) (by simp)).chg q3 h1 h2 (fun g hg h => hr g h (by simp [hg])), (HC.out.2.1.chg q0 (by simp)).chg q3 HI.out.2.2.2.2.2.2.2.1, (HC.out.2.2.2.alloc _).trans q3 (fun x hx => Or.inr ?_), ?_⟩
               · exact (HC.out.2.2.1.lt x hx).1
               · exact (q1.lt g' (by rw [rvB_some]; simp)).2)
             have d0 := HE.out.2.2.1.cell (i := 0) rfl
             have d1 := HE.out.2.2.1.cell (i := 1) rfl
             clear q1 q2 q3)
          | (go_at_call 30
             refine (he_min p ga k n2 c r (l.drop (j + 1)) y1 y2 HD.out.2.2.2.2.1 b2 HD.out.2.2.2.2.2.1 _ (HE.out.2.1.below ((Below.refl _ _).alloc (Nat.le_refl _) _))).mono ?_
             rintro e W5 ⟨rfl, hb⟩
             have HG : Hid (HP W5 p ga k n2 c r (l.drop (j + 1)) ∧ Blk W5 w4.heap.size [.int .i64 x1, .int .i64 x2] 38 ∧ RM W5 w.heap.size (some ⟨g', 0, none⟩) (j + 1) c' 2 (es (l.take (j + 1))) 38 ∧ Chg (p :: ga :: rvB r) w W5) := Lib.hid (by
               have q0 := (Below.refl w4.heap.size w4).alloc (Nat.le_refl _) (.cells #[.int .i64 x1, .int .i64 x2] 38)
               have qb := q0.trans (hb.mono q0.size)
               exact ⟨HE.out.2.1.below qb, (Blk.newA w4 _ _).below hb (by simp), HE.out.1.chg (Chg.of_fresh (l := []) qb) (by simp), HE.out.2.2.2.1.trans (Chg.of_fresh (l := []) qb) (by simp)⟩)
             have f0 := HG.out.2.1.free 0
             have f1 := HG.out.2.1.free 1
             have d0 := HG.out.2.1.cell (i := 0) rfl
             have d1 := HG.out.2.1.cell (i := 1) rfl
             clear hb))
        all_goals
          have HZ : Hid (DueI w ((W5.setCell ⟨w4.heap.size, 0, none⟩ (.int .i64 y1)).setCell ⟨w4.heap.size, 1, none⟩ (.int .i64 y2)) p ga k c r l d (j + 1) (some ⟨g', 0, none⟩) c' w4.heap.size n2 y1 y2 b2) := Lib.hid (by
            have h1 := HL.out.2.2.2.2.1; have h2 := HL.out.2.2.2.2.2.1; have h3 := HL.out.2.2.2.2.2.2.1; have h4 := HE.out.2.2.2.1.size; have h5 := HE.out.2.2.2.2
            have q0 : Chg [w4.heap.size] W5 ((W5.setCell ⟨w4.heap.size, 0, none⟩ (.int .i64 y1)).setCell ⟨w4.heap.size, 1, none⟩ (.int .i64 y2)) := ((Chg.refl [w4.heap.size] W5).set (Or.inl (by simp)) 0 _).set (Or.inl (by simp)) 1 _
            refine ⟨HD.out.2.2.2.2.2.1, HD.out.2.2.2.2.1, HD.out.2.2.2.2.2.2.1, HG.out.1.chg q0 (by simp; omega) (by simp; omega) (fun g hg => by simp; have := h3 g hg; omega), (HG.out.2.1.set 0 _).set 1 _, HG.out.2.2.1.chg q0 (by intro g hg; rw [rvB_some] at hg; simp at hg ⊢; omega), h4, by rw [rvB_some]; simp; omega, HG.out.2.2.2.trans q0 (fun x hx => by simp at hx; right; omega)⟩)
          have hz0 := HZ.out.2.2.2.1.c0
          refine ⟨?_, ?measure⟩
          case measure =>
            rw [HM.out, hz0]
            have e1 := HZ.out.2.2.2.1.len
            have e2 := HI.out.2.2.2.1.len
            have e3 := HD.out.2.2.2.2.2.2.1
            have e4 := HL.out.2.2.1
            rw [List.length_drop] at e1 e2
            show n2 < n'
            omega
          first
            | exact ⟨j + 1, _, _, _, _, _, _, _, rfl, rfl, rfl, HZ⟩
            | ((repeat apply Exists.intro); exact ⟨⟨j + 1, _, _, _, _, _, _, _, rfl, rfl, rfl, HZ⟩, rfl⟩)
      · have hdf : Tk.dueB x1 now = false := by simpa using hdue
        have hj : j = d := by
          have h2 := HI.out.2.2.1
          rcases Nat.lt_or_ge j d with h | h
          · obtain ⟨x, hx, hp⟩ := HL.out.1 j h
            rw [hlj] at hx; injection hx with hx; rw [← hx] at hp
            exact absurd hp (by simp [hdf])
          · omega
        subst hj
        have HD : Hid (∀ W, Calls Try.prog 58 #[.int .i64 x1, .int .i64 now] W fun e w' => e = .returned (.bool false) ∧ W = w') := Lib.hid fun W => (due_any x1 now hx1 hnow W).mono fun e w' h => ⟨by rw [h.1, hdf], h.2⟩
        clear hdue hdf hlj hjl hx1
        go_wp2_with (go_at_call 58; refine (HD.out _).mono ?_; rintro e W3 ⟨rfl, rfl⟩)
        go_ret
        exact ⟨n', rD, cD, rfl, HI.out.2.2.2.2.2.1, HI.out.2.2.2.1, HI.out.2.2.2.2.2.2.2.2⟩
end Go.Proofs.Ytbdjcppkfihonaa
