/- Contracts of purses (package purse): what each method tells of one number, and what it has behind it. -/
import Derived.Test.YtgldildepechaaaRows
import Derived.WalkKit
import Derived.ProofKit
import Derived.OpenShut
import Derived.Handy
import Derived.WalkLawsBesides
import Derived.WalkSpells
import Derived.Lib.Hide
import Derived.RegionTactic
import Derived.ChangeAlike
import Derived.WalkSmall
import Derived.Deep.QuietTactic
import Derived.BigQuiet
import Derived.Deep.RegionHeld3
import Derived.StillTailTactics
import Derived.OwnWalk
namespace Go.Proofs.Ytgldildepechaaa
open Go.ChangeShapes Go.WideShapes Go.ChangeAt Go.RowKit
set_option linter.unusedSimpArgs false
set_option linter.unusedVariables false

theorem ret_i64 {a b : Int} (h : a = b) : Ending.returned (.int .i64 a) = .returned (.int .i64 b) := by rw [h]
theorem ret_str {a b : ByteArray} (h : a = b) : Ending.returned (.string a) = .returned (.string b) := by rw [h]

theorem ret_b {a b : Bool} (h : a = b) : Ending.returned (.bool a) = .returned (.bool b) := by rw [h]
/-- Nothing but block b has changed. -/
def Upd (b : Nat) (w w' : World) : Prop := ∀ B a, B ≤ b → Below B a w → Below B a w'
theorem Upd.refl (b : Nat) (w : World) : Upd b w w := fun _ _ _ h => h
theorem Upd.set {b : Nat} {w w' : World} (h : Upd b w w') (j : Nat) (v : Value) : Upd b w (w'.setCell ⟨b, j, none⟩ v) := fun B a hB hb => (h B a hB hb).setCell (by simpa using hB) v
theorem Upd.drew {b : Nat} {w w' : World} (h : Upd b w w') : Upd b w w'.drew := fun B a hB hb => (h B a hB hb).drew
theorem Upd.drewN {b : Nat} {w w' : World} (h : Upd b w w') (n : Nat) : Upd b w (w'.drewN n) := fun B a hB hb => below_drewN (h B a hB hb) n
/-- Purses in memory, as far as one number goes: what is given at once, and how much it has. -/
def UAt (w : World) (b h n : Nat) (q : Int) (id : Nat) (v : Int) : Prop :=
  w.cell? ⟨b, 0, none⟩ = some (.slice (some ⟨h, 0, none⟩) n n) ∧ w.cell? ⟨b, 1, none⟩ = some (.int .i64 q) ∧ w.cell? ⟨h, id, none⟩ = some (.int .i64 v) ∧ w.frozen? ⟨h, id, none⟩ = false ∧ h < b
theorem UAt.drewN {w : World} {b h n : Nat} {q : Int} {id : Nat} {v : Int} (u : UAt w b h n q id v) (k : Nat) : UAt (w.drewN k) b h n q id v := by
  obtain ⟨h0, h1, h2, f, hne⟩ := u
  exact ⟨by simpa using h0, by simpa using h1, by simpa using h2, by simpa using f, hne⟩
theorem UAt.drew {w : World} {b h n : Nat} {q : Int} {id : Nat} {v : Int} (u : UAt w b h n q id v) : UAt w.drew b h n q id v := by
  obtain ⟨h0, h1, h2, f, hne⟩ := u
  exact ⟨by simpa using h0, by simpa using h1, by simpa using h2, by simpa using f, hne⟩
theorem UAt.set {w : World} {b h n : Nat} {q : Int} {id : Nat} {v : Int} (u : UAt w b h n q id v) (v' : Int) : UAt (w.setCell ⟨h, id, none⟩ (.int .i64 v')) b h n q id v' := by
  obtain ⟨h0, h1, h2, f, hne⟩ := u
  exact ⟨by rw [World.cell?_setCell_other _ _ _ _ (by first | (simp; done) | (simp; omega))]; exact h0, by rw [World.cell?_setCell_other _ _ _ _ (by first | (simp; done) | (simp; omega))]; exact h1, World.cell?_setCell_same _ _ _ h2, by rw [World.frozen?_setCell]; exact f, hne⟩

set_option maxHeartbeats 600000 in
theorem has_any (b h n id : Nat) (q v : Int) (w : World) (hid : id < n) (hn : n ≤ 1024) (u : UAt w b h n q id v) :
    Calls Try.prog 17 #[.pointer (some ⟨b, 0, none⟩), .int .i64 id] w fun e w' => e = .returned (.int .i64 v) ∧ UAt w' b h n q id v ∧ Upd h w w' := by
  have HU := Lib.hid u
  obtain ⟨h0, h1, h2, f, hne⟩ := u
  have g1 : (0 : Int) ≤ (id : Int) := by omega
  have g2 : (id : Int) < (n : Int) := by omega
  go_enter Try.func17, Try.ntmps17
  go_wp2
  go_ret
  exact ⟨rfl, HU.out, Upd.refl _ _⟩
set_option maxHeartbeats 600000 in
theorem give_any (b h n id : Nat) (q v : Int) (w : World) (hid : id < n) (hn : n ≤ 1024) (hq : 0 ≤ q ∧ q ≤ 1000000) (hv : 0 ≤ v) (hvq : v + q < 2000000000) (u : UAt w b h n q id v) :
    Calls Try.prog 11 #[.pointer (some ⟨b, 0, none⟩), .int .i64 id] w fun e w' => e = .returned (.int .i64 (v + q)) ∧ UAt w' b h n q id (v + q) ∧ Upd h w w' := by
  have HU := Lib.hid u
  obtain ⟨h0, h1, h2, f, hne⟩ := u
  have g1 : (0 : Int) ≤ (id : Int) := by omega
  have g2 : (id : Int) < (n : Int) := by omega
  have s1 : IntKind.i64.wrap (v + q) = v + q := IntWalk.i64_in _ (by omega)
  go_enter Try.func11, Try.ntmps11
  go_wp2
  go_still_tail 19, (by kernel_rfl)
  go_wp2
  all_goals
    go_ret
    exact ⟨rfl, HU.out.drew.set _, (Upd.refl _ _).drew.set _ _⟩
set_option maxHeartbeats 600000 in
theorem pay_any (b h n id : Nat) (q v p : Int) (w : World) (hid : id < n) (hn : n ≤ 1024) (hv : 0 ≤ v ∧ v ≤ 2000000000) (hp : 0 ≤ p) (u : UAt w b h n q id v) :
    Calls Try.prog 14 #[.pointer (some ⟨b, 0, none⟩), .int .i64 id, .int .i64 p] w fun e w' => e = .returned (.bool (decide (p ≤ v))) ∧ UAt w' b h n q id (if p ≤ v then v - p else v) ∧ Upd h w w' := by
  have HU := Lib.hid u
  obtain ⟨h0, h1, h2, f, hne⟩ := u
  have g1 : (0 : Int) ≤ (id : Int) := by omega
  have g2 : (id : Int) < (n : Int) := by omega
  by_cases hpv : p ≤ v
  · rw [if_pos hpv]
    have HD : Hid (decide (p ≤ v) = true) := Lib.hid (by simpa using hpv)
    go_enter Try.func14, Try.ntmps14
    go_wp2
    all_goals
      go_ret
      exact ⟨ret_b HD.out.symm, HU.out.set _, (Upd.refl _ _).set _ _⟩
  · rw [if_neg hpv]
    have HD : Hid (decide (p ≤ v) = false) := Lib.hid (by simpa using hpv)
    have hpv' : v < p := by omega
    go_enter Try.func14, Try.ntmps14
    go_wp2
    all_goals
      go_ret
      exact ⟨ret_b HD.out.symm, HU.out, Upd.refl _ _⟩
set_option maxHeartbeats 600000 in
theorem give_rich (b h n id : Nat) (q v : Int) (w : World) (hid : id < n) (hn : n ≤ 1024) (hq : 0 ≤ q ∧ q ≤ 1000000) (hv : 0 ≤ v ∧ v ≤ 2000000000) (hvq : 2000000000 ≤ v + q) (u : UAt w b h n q id v) :
    Calls Try.prog 11 #[.pointer (some ⟨b, 0, none⟩), .int .i64 id] w fun e w' => e = .returned (.int .i64 2000000000) ∧ w' = w.drew.setCell ⟨h, id, none⟩ (.int .i64 2000000000) := by
  have HU := Lib.hid u
  obtain ⟨h0, h1, h2, f, hne⟩ := u
  have g1 : (0 : Int) ≤ (id : Int) := by omega
  have g2 : (id : Int) < (n : Int) := by omega
  have s1 : IntKind.i64.wrap (v + q) = v + q := IntWalk.i64_in _ (by omega)
  go_enter Try.func11, Try.ntmps11
  go_wp2
  go_still_tail 19, (by kernel_rfl)
  go_wp2
  all_goals
    go_ret
    first | exact ⟨rfl, rfl⟩ | exact ⟨ret_i64 (by omega), by rw [show v + q = 2000000000 by omega]⟩
set_option maxHeartbeats 600000 in
theorem give_plain (b h n id : Nat) (q v : Int) (w : World) (hid : id < n) (hn : n ≤ 1024) (hq : 0 ≤ q ∧ q ≤ 1000000) (hv : 0 ≤ v) (hvq : v + q < 2000000000) (u : UAt w b h n q id v) :
    Calls Try.prog 11 #[.pointer (some ⟨b, 0, none⟩), .int .i64 id] w fun e w' => e = .returned (.int .i64 (v + q)) ∧ w' = w.drew.setCell ⟨h, id, none⟩ (.int .i64 (v + q)) := by
  have HU := Lib.hid u
  obtain ⟨h0, h1, h2, f, hne⟩ := u
  have g1 : (0 : Int) ≤ (id : Int) := by omega
  have g2 : (id : Int) < (n : Int) := by omega
  have s1 : IntKind.i64.wrap (v + q) = v + q := IntWalk.i64_in _ (by omega)
  go_enter Try.func11, Try.ntmps11
  go_wp2
  go_still_tail 19, (by kernel_rfl)
  go_wp2
  all_goals
    go_ret
    exact ⟨rfl, rfl⟩
def clampI (x a b : Int) : Int := if x < a then a else if b < x then b else x
theorem info3 : (Try.prog.info? 3).map (fun i => (i.zero, i.size, i.bytes)) = some (some (.int .i64 0), 1, 8) := by kernel_rfl
theorem made_at (n i : Nat) (h : i < n) : ((madeCells #[Value.int .i64 0] n).toList)[i]? = some (.int .i64 0) := by
  simp [madeCells, h, Nat.mod_one]
theorem own_cell {W : World} {b g n : Nat} {c : Nat} (h : W.ownsRow b 3 1 (.slice (some ⟨g, 0, none⟩) n c) n (madeCells #[Value.int .i64 0] n).toList) (hn : 0 < n) (i : Nat) (hi : i < n) :
    W.cell? ⟨g, i, none⟩ = some (.int .i64 0) ∧ W.frozen? ⟨g, i, none⟩ = false := by
  rcases h with ⟨_, ⟨hv, h0⟩ | ⟨g', cap, cur, hv, hg, hh, hnc, hcm, hcs, ht⟩⟩
  · omega
  · simp at hv
    obtain ⟨rfl, rfl⟩ := hv
    have e := made_at n i hi
    rw [← ht, List.getElem?_take_of_lt (by omega)] at e
    exact ⟨by simp only [World.cell?, hh]; simpa using e, by simp [World.frozen?, hh]⟩
set_option maxHeartbeats 1000000 in
theorem new_any (n : Nat) (x : Int) (w : World) (hn : 1 ≤ n ∧ n ≤ 1024) :
    Calls Try.prog 7 #[.int .i64 n, .int .i64 x] w fun e w' => ∃ b, e = .returned (.pointer (some ⟨b, 0, none⟩)) ∧ (∀ id, id < n → UAt w' b w.heap.size n (clampI x 1 1000000) id 0) ∧ Below w.heap.size w w' := by
  obtain ⟨i0, hi, hz0, hz1, hz2⟩ := info_parts info3
  have HI := Lib.hid hi
  have HI0 := Lib.hid hz0
  have HI1 := Lib.hid hz1
  have HI2 := Lib.hid hz2
  have hby : i0.bytes * n ≤ 281474976710656 := by rw [hz2]; omega
  clear hi hz0 hz1 hz2
  by_cases c1 : x < 1
  · have HC : Hid (clampI x 1 1000000 = 1) := by unfold Hid clampI; rw [if_pos c1]
    go_enter Try.func7, Try.ntmps7
    go_wp2_with (at_make; refine wpList_make_full _ rfl _ _ 46 rfl w.heap.size 3 i0 (.int .i64 0) 1 Try.underlying46 HI.out HI0.out HI1.out .i64 .i64 n n n rfl rfl rfl rfl hby (by unfold maxLen; omega) (Nat.le_refl _) ?_)
    intro w1 hown hgrow
    have hlt := (hown.lt w.heap.size rfl).2
    have HO := Lib.hid hown
    have HB : Hid (Below w.heap.size w w1) := Lib.hid ((Below.refl _ _).grown hgrow (Nat.le_refl _) (fun k hk => by cases hk))
    clear hown hgrow
    go_wp2
    all_goals
      go_ret
      refine ⟨_, rfl, fun id hid => ?_, HB.out.alloc (by omega) _⟩
      obtain ⟨k1, k2⟩ := own_cell HO.out (by omega) id hid
      exact ⟨by simp [go_sem], by rw [HC.out]; simp [go_sem], by rw [World.cell?_alloc_past _ _ _ hlt]; exact k1, by rw [World.frozen?_alloc_past _ _ _ hlt]; exact k2, hlt⟩
  · by_cases c2 : 1000000 < x
    · have HC : Hid (clampI x 1 1000000 = 1000000) := by unfold Hid clampI; rw [if_neg c1, if_pos c2]
      go_enter Try.func7, Try.ntmps7
      go_wp2_with (at_make; refine wpList_make_full _ rfl _ _ 46 rfl w.heap.size 3 i0 (.int .i64 0) 1 Try.underlying46 HI.out HI0.out HI1.out .i64 .i64 n n n rfl rfl rfl rfl hby (by unfold maxLen; omega) (Nat.le_refl _) ?_)
      intro w1 hown hgrow
      have hlt := (hown.lt w.heap.size rfl).2
      have HO := Lib.hid hown
      have HB : Hid (Below w.heap.size w w1) := Lib.hid ((Below.refl _ _).grown hgrow (Nat.le_refl _) (fun k hk => by cases hk))
      clear hown hgrow
      go_wp2
      all_goals
        go_ret
        refine ⟨_, rfl, fun id hid => ?_, HB.out.alloc (by omega) _⟩
        obtain ⟨k1, k2⟩ := own_cell HO.out (by omega) id hid
        exact ⟨by simp [go_sem], by rw [HC.out]; simp [go_sem], by rw [World.cell?_alloc_past _ _ _ hlt]; exact k1, by rw [World.frozen?_alloc_past _ _ _ hlt]; exact k2, hlt⟩
    · have HC : Hid (clampI x 1 1000000 = x) := by unfold Hid clampI; rw [if_neg c1, if_neg c2]
      go_enter Try.func7, Try.ntmps7
      go_wp2_with (at_make; refine wpList_make_full _ rfl _ _ 46 rfl w.heap.size 3 i0 (.int .i64 0) 1 Try.underlying46 HI.out HI0.out HI1.out .i64 .i64 n n n rfl rfl rfl rfl hby (by unfold maxLen; omega) (Nat.le_refl _) ?_)
      intro w1 hown hgrow
      have hlt := (hown.lt w.heap.size rfl).2
      have HO := Lib.hid hown
      have HB : Hid (Below w.heap.size w w1) := Lib.hid ((Below.refl _ _).grown hgrow (Nat.le_refl _) (fun k hk => by cases hk))
      clear hown hgrow
      go_wp2
      all_goals
        go_ret
        refine ⟨_, rfl, fun id hid => ?_, HB.out.alloc (by omega) _⟩
        obtain ⟨k1, k2⟩ := own_cell HO.out (by omega) id hid
        exact ⟨by simp [go_sem], by rw [HC.out]; simp [go_sem], by rw [World.cell?_alloc_past _ _ _ hlt]; exact k1, by rw [World.frozen?_alloc_past _ _ _ hlt]; exact k2, hlt⟩
set_option maxHeartbeats 1000000 in
theorem lives_any (w : World) : Calls Try.prog 19 #[] w fun e w' => e = .returned (.bool true) ∧ Below w.heap.size w w' := by
  have e0 : clampI 3 1 1000000 = 3 := by decide
  go_enter Try.func19, Try.ntmps19
  go_wp2_with fail
  refine (new_any 2 3 w (by omega)).mono ?_
  rintro e w1 ⟨b, rfl, hu, B1⟩
  have p1 := hu 1 (by omega)
  rw [e0] at p1
  have HB1 := Lib.hid B1
  clear hu B1
  go_wp2_with fail
  refine (give_any b w.heap.size 2 1 3 0 _ (by omega) (by omega) (by omega) (by omega) (by omega) p1).mono ?_
  rintro e w2 ⟨rfl, p2, u2⟩
  have HB2 := Lib.hid (u2 w.heap.size w (Nat.le_refl _) HB1.out)
  clear u2 p1
  go_wp2_with fail
  refine (pay_any b w.heap.size 2 1 3 (0 + 3) 5 _ (by omega) (by omega) (by omega) (by omega) p2).mono ?_
  rintro e w3 ⟨rfl, p3, u3⟩
  have HB3 := Lib.hid (u3 w.heap.size w (Nat.le_refl _) HB2.out)
  clear u3 p2
  go_wp2_with fail
  refine (give_any b w.heap.size 2 1 3 3 _ (by omega) (by omega) (by omega) (by omega) (by omega) p3).mono ?_
  rintro e w4 ⟨rfl, p4, u4⟩
  have HB4 := Lib.hid (u4 w.heap.size w (Nat.le_refl _) HB3.out)
  clear u4 p3
  go_wp2_with fail
  refine (pay_any b w.heap.size 2 1 3 (3 + 3) 5 _ (by omega) (by omega) (by omega) (by omega) p4).mono ?_
  rintro e w5 ⟨rfl, p5, u5⟩
  have HB5 := Lib.hid (u5 w.heap.size w (Nat.le_refl _) HB4.out)
  clear u5 p4
  go_wp2_with fail
  refine (has_any b w.heap.size 2 1 3 1 _ (by omega) (by omega) p5).mono ?_
  rintro e w6 ⟨rfl, p6, u6⟩
  have HB6 := Lib.hid (u6 w.heap.size w (Nat.le_refl _) HB5.out)
  clear u6 p5
  go_wp2
  go_ret
  exact ⟨rfl, HB6.out⟩
theorem within_any (n a m : Int) (w : World) (ham : a ≤ m) : Calls Try.prog 20 #[.int .i64 n, .int .i64 a, .int .i64 m] w fun e w' => e = .returned (.int .i64 (clampI n a m)) ∧ w = w' := by
  by_cases h1 : n < a
  · go_enter Try.func20, Try.ntmps20
    go_wp2
    go_ret
    exact ⟨ret_i64 (by unfold clampI; omega), rfl⟩
  · by_cases h2 : m < n
    · go_enter Try.func20, Try.ntmps20
      go_wp2
      go_ret
      exact ⟨ret_i64 (by unfold clampI; omega), rfl⟩
    · go_enter Try.func20, Try.ntmps20
      go_wp2
      go_ret
      exact ⟨ret_i64 (by unfold clampI; omega), rfl⟩
/-- Purses in memory, all numbers, with 7 for number k. -/
def PAll (w : World) (b h n : Nat) (q : Int) (k : Nat) : Prop :=
  h < b ∧ b < w.heap.size ∧ w.cell? ⟨b, 0, none⟩ = some (.slice (some ⟨h, 0, none⟩) n n) ∧ w.cell? ⟨b, 1, none⟩ = some (.int .i64 q) ∧ w.cell? ⟨h, k, none⟩ = some (.int .i64 7) ∧
  ∀ i, i < n → ∃ v : Int, 0 ≤ v ∧ v ≤ 2000000000 ∧ w.cell? ⟨h, i, none⟩ = some (.int .i64 v) ∧ w.frozen? ⟨h, i, none⟩ = false
theorem PAll.at {w : World} {b h n k : Nat} {q : Int} (p : PAll w b h n q k) {i : Nat} (hi : i < n) : ∃ v, 0 ≤ v ∧ v ≤ 2000000000 ∧ UAt w b h n q i v := by
  obtain ⟨hb, hs, c0, c1, _, hall⟩ := p
  obtain ⟨v, h0, h1, hc, hf⟩ := hall i hi
  exact ⟨v, h0, h1, c0, c1, hc, hf, hb⟩
theorem PAll.drewN {w : World} {b h n k : Nat} {q : Int} (p : PAll w b h n q k) (m : Nat) : PAll (w.drewN m) b h n q k := by
  obtain ⟨hb, hs, c0, c1, ck, hall⟩ := p
  refine ⟨hb, by simpa using hs, by simpa using c0, by simpa using c1, by simpa using ck, fun i hi => ?_⟩
  obtain ⟨v, h0, h1, hc, hf⟩ := hall i hi
  exact ⟨v, h0, h1, by simpa using hc, by simpa using hf⟩
theorem PAll.drew {w : World} {b h n k : Nat} {q : Int} (p : PAll w b h n q k) : PAll w.drew b h n q k := by
  obtain ⟨hb, hs, c0, c1, ck, hall⟩ := p
  refine ⟨hb, by simpa using hs, by simpa using c0, by simpa using c1, by simpa using ck, fun i hi => ?_⟩
  obtain ⟨v, h0, h1, hc, hf⟩ := hall i hi
  exact ⟨v, h0, h1, by simpa using hc, by simpa using hf⟩
theorem PAll.alloc {w : World} {b h n k : Nat} {q : Int} (p : PAll w b h n q k) (o : Obj) : PAll (w.alloc o) b h n q k := by
  obtain ⟨hb, hs, c0, c1, ck, hall⟩ := p
  refine ⟨hb, by simp; omega, by rw [World.cell?_alloc_past _ _ _ hs]; exact c0, by rw [World.cell?_alloc_past _ _ _ hs]; exact c1, by rw [World.cell?_alloc_past _ _ _ (by omega)]; exact ck, fun i hi => ?_⟩
  obtain ⟨v, h0, h1, hc, hf⟩ := hall i hi
  exact ⟨v, h0, h1, by rw [World.cell?_alloc_past _ _ _ (by omega)]; exact hc, by rw [World.frozen?_alloc_past _ _ _ (by omega)]; exact hf⟩
theorem PAll.set {w : World} {b h n k : Nat} {q : Int} (p : PAll w b h n q k) {id : Nat} (hk : id ≠ k) (v : Int) (hv : 0 ≤ v ∧ v ≤ 2000000000) : PAll (w.setCell ⟨h, id, none⟩ (.int .i64 v)) b h n q k := by
  obtain ⟨hb, hs, c0, c1, ck, hall⟩ := p
  refine ⟨hb, by simpa using hs, by rw [World.cell?_setCell_other _ _ _ _ (by first | (simp; done) | (simp; omega))]; exact c0, by rw [World.cell?_setCell_other _ _ _ _ (by first | (simp; done) | (simp; omega))]; exact c1, by rw [World.cell?_setCell_other _ _ _ _ (by first | (simp; done) | (simp; omega) | (simp; exact fun e => hk e.symm))]; exact ck, fun i hi => ?_⟩
  obtain ⟨v0, h0, h1, hc, hf⟩ := hall i hi
  by_cases e : i = id
  · subst e
    exact ⟨v, hv.1, hv.2, World.cell?_setCell_same _ _ _ hc, by rw [World.frozen?_setCell]; exact hf⟩
  · exact ⟨v0, h0, h1, by rw [World.cell?_setCell_other _ _ _ _ (by first | (simp; done) | (simp; omega))]; exact hc, by rw [World.frozen?_setCell]; exact hf⟩
set_option maxHeartbeats 600000 in
theorem may_no (b h n : Nat) (q id : Int) (k : Nat) (w : World) (hn : n ≤ 1024) (hid : id < 0 ∨ (n : Int) ≤ id) (p : PAll w b h n q k) :
    Calls Try.prog 22 #[.pointer (some ⟨b, 0, none⟩), .int .i64 id] w fun e w' => e = .returned (.bool false) ∧ w = w' := by
  obtain ⟨hb, hs, c0, c1, ck, hall⟩ := p
  clear hall
  by_cases h0 : id < 0
  · go_enter Try.func22, Try.ntmps22
    go_wp2
    go_ret
    exact ⟨rfl, rfl⟩
  · have h1 : (n : Int) ≤ id := by omega
    go_enter Try.func22, Try.ntmps22
    go_wp2
    go_ret
    exact ⟨ret_b (by simp; omega), rfl⟩
theorem give_all (b h n : Nat) (q id : Int) (k : Nat) (w : World) (hn : n ≤ 1024) (hq : 0 ≤ q ∧ q ≤ 1000000) (hk : id ≠ k) (p : PAll w b h n q k) :
    Calls Try.prog 11 #[.pointer (some ⟨b, 0, none⟩), .int .i64 id] w fun e w' => ∃ m : Int, e = .returned (.int .i64 m) ∧ PAll w' b h n q k ∧ Upd h w w' := by
  by_cases hid : id < 0 ∨ (n : Int) ≤ id
  · have HP := Lib.hid p
    go_enter Try.func11, Try.ntmps11
    clear p
    go_wp2_with (go_at_call 22; refine (may_no b h n q id k _ hn hid HP.out).mono ?_; rintro e w' ⟨rfl, rfl⟩)
    go_ret
    exact ⟨_, rfl, HP.out, Upd.refl _ _⟩
  · obtain ⟨j, rfl⟩ : ∃ j : Nat, id = (j : Int) := ⟨id.toNat, by omega⟩
    obtain ⟨v, h0, h1, u⟩ := p.at (i := j) (by omega)
    by_cases hr : v + q < 2000000000
    · exact (give_plain b h n j q v w (by omega) hn hq h0 hr u).mono fun e w' ⟨he, hw⟩ => ⟨_, he, by rw [hw]; exact p.drew.set (by omega) _ (by omega), by rw [hw]; exact (Upd.refl _ _).drew.set _ _⟩
    · exact (give_rich b h n j q v w (by omega) hn hq ⟨h0, h1⟩ (by omega) u).mono fun e w' ⟨he, hw⟩ => ⟨_, he, by rw [hw]; exact p.drew.set (by omega) _ (by omega), by rw [hw]; exact (Upd.refl _ _).drew.set _ _⟩
set_option maxHeartbeats 600000 in
theorem pay_yes (b h n id : Nat) (q v p : Int) (w : World) (hid : id < n) (hn : n ≤ 1024) (hv : 0 ≤ v ∧ v ≤ 2000000000) (hp : 0 ≤ p) (hpv : p ≤ v) (u : UAt w b h n q id v) :
    Calls Try.prog 14 #[.pointer (some ⟨b, 0, none⟩), .int .i64 id, .int .i64 p] w fun e w' => e = .returned (.bool true) ∧ w' = w.setCell ⟨h, id, none⟩ (.int .i64 (v - p)) := by
  obtain ⟨h0, h1, h2, f, hne⟩ := u
  have g1 : (0 : Int) ≤ (id : Int) := by omega
  have g2 : (id : Int) < (n : Int) := by omega
  go_enter Try.func14, Try.ntmps14
  go_wp2
  all_goals
    go_ret
    exact ⟨rfl, rfl⟩
set_option maxHeartbeats 600000 in
theorem pay_no (b h n id : Nat) (q v p : Int) (w : World) (hid : id < n) (hn : n ≤ 1024) (hv : 0 ≤ v ∧ v ≤ 2000000000) (hp : 0 ≤ p) (hpv : v < p) (u : UAt w b h n q id v) :
    Calls Try.prog 14 #[.pointer (some ⟨b, 0, none⟩), .int .i64 id, .int .i64 p] w fun e w' => e = .returned (.bool false) ∧ w' = w := by
  obtain ⟨h0, h1, h2, f, hne⟩ := u
  have g1 : (0 : Int) ≤ (id : Int) := by omega
  have g2 : (id : Int) < (n : Int) := by omega
  go_enter Try.func14, Try.ntmps14
  go_wp2
  all_goals
    go_ret
    exact ⟨rfl, rfl⟩
set_option maxHeartbeats 600000 in
theorem pay_neg (b h n id : Nat) (q v p : Int) (w : World) (hid : id < n) (hn : n ≤ 1024) (hv : 0 ≤ v ∧ v ≤ 2000000000) (hp : p < 0) (u : UAt w b h n q id v) :
    Calls Try.prog 14 #[.pointer (some ⟨b, 0, none⟩), .int .i64 id, .int .i64 p] w fun e w' => e = .returned (.bool true) ∧ w' = w.setCell ⟨h, id, none⟩ (.int .i64 v) := by
  obtain ⟨h0, h1, h2, f, hne⟩ := u
  have g1 : (0 : Int) ≤ (id : Int) := by omega
  have g2 : (id : Int) < (n : Int) := by omega
  go_enter Try.func14, Try.ntmps14
  go_wp2
  all_goals
    go_ret
    exact ⟨rfl, rfl⟩
theorem pay_out (b h n : Nat) (q id price : Int) (k : Nat) (w : World) (hn : n ≤ 1024) (hid : id < 0 ∨ (n : Int) ≤ id) (p : PAll w b h n q k) :
    Calls Try.prog 14 #[.pointer (some ⟨b, 0, none⟩), .int .i64 id, .int .i64 price] w fun e w' => e = .returned (.bool false) ∧ w = w' := by
  have HP := Lib.hid p
  go_enter Try.func14, Try.ntmps14
  clear p
  go_wp2_with (go_at_call 22; refine (may_no b h n q id k _ hn hid HP.out).mono ?_; rintro e w' ⟨rfl, rfl⟩)
  all_goals
    go_ret
    exact ⟨rfl, rfl⟩
theorem pay_all (b h n : Nat) (q id price : Int) (k : Nat) (w : World) (hn : n ≤ 1024) (hk : id ≠ k) (p : PAll w b h n q k) :
    Calls Try.prog 14 #[.pointer (some ⟨b, 0, none⟩), .int .i64 id, .int .i64 price] w fun e w' => ∃ m : Bool, e = .returned (.bool m) ∧ PAll w' b h n q k ∧ Upd h w w' := by
  by_cases hid : id < 0 ∨ (n : Int) ≤ id
  · exact (pay_out b h n q id price k w hn hid p).mono fun e w' ⟨he, hw⟩ => ⟨_, he, by rw [← hw]; exact p, by rw [← hw]; exact Upd.refl _ _⟩
  · obtain ⟨j, rfl⟩ : ∃ j : Nat, id = (j : Int) := ⟨id.toNat, by omega⟩
    obtain ⟨v, h0, h1, u⟩ := p.at (i := j) (by omega)
    by_cases hp : price < 0
    · exact (pay_neg b h n j q v price w (by omega) hn ⟨h0, h1⟩ hp u).mono fun e w' ⟨he, hw⟩ => ⟨_, he, by rw [hw]; exact p.set (by omega) _ ⟨h0, h1⟩, by rw [hw]; exact (Upd.refl _ _).set _ _⟩
    · by_cases hpv : price ≤ v
      · exact (pay_yes b h n j q v price w (by omega) hn ⟨h0, h1⟩ (by omega) hpv u).mono fun e w' ⟨he, hw⟩ => ⟨_, he, by rw [hw]; exact p.set (by omega) _ (by omega), by rw [hw]; exact (Upd.refl _ _).set _ _⟩
      · exact (pay_no b h n j q v price w (by omega) hn ⟨h0, h1⟩ (by omega) (by omega) u).mono fun e w' ⟨he, hw⟩ => ⟨_, he, by rw [hw]; exact p, by rw [hw]; exact Upd.refl _ _⟩
set_option maxHeartbeats 600000 in
theorem clear_some (b h n id : Nat) (q v : Int) (w : World) (hid : id < n) (hn : n ≤ 1024) (hv : 0 < v) (u : UAt w b h n q id v) :
    Calls Try.prog 15 #[.pointer (some ⟨b, 0, none⟩), .int .i64 id] w fun e w' => e = .returned (.int .i64 v) ∧ w' = w.setCell ⟨h, id, none⟩ (.int .i64 0) := by
  obtain ⟨h0, h1, h2, f, hne⟩ := u
  have g1 : (0 : Int) ≤ (id : Int) := by omega
  have g2 : (id : Int) < (n : Int) := by omega
  go_enter Try.func15, Try.ntmps15
  go_wp2
  all_goals
    go_ret
    exact ⟨rfl, rfl⟩
set_option maxHeartbeats 600000 in
theorem clear_none (b h n id : Nat) (q : Int) (w : World) (hid : id < n) (hn : n ≤ 1024) (u : UAt w b h n q id 0) :
    Calls Try.prog 15 #[.pointer (some ⟨b, 0, none⟩), .int .i64 id] w fun e w' => e = .returned (.int .i64 0) ∧ w' = w := by
  obtain ⟨h0, h1, h2, f, hne⟩ := u
  have g1 : (0 : Int) ≤ (id : Int) := by omega
  have g2 : (id : Int) < (n : Int) := by omega
  go_enter Try.func15, Try.ntmps15
  go_wp2
  all_goals
    go_ret
    exact ⟨rfl, rfl⟩
theorem clear_all (b h n : Nat) (q id : Int) (k : Nat) (w : World) (hn : n ≤ 1024) (hk : id ≠ k) (p : PAll w b h n q k) :
    Calls Try.prog 15 #[.pointer (some ⟨b, 0, none⟩), .int .i64 id] w fun e w' => ∃ m : Int, e = .returned (.int .i64 m) ∧ PAll w' b h n q k ∧ Upd h w w' := by
  by_cases hid : id < 0 ∨ (n : Int) ≤ id
  · have HP := Lib.hid p
    go_enter Try.func15, Try.ntmps15
    clear p
    go_wp2_with (first | (go_at_call 17; go_in) | (go_at_call 22; refine (may_no b h n q id k _ hn hid HP.out).mono ?_; rintro e w' ⟨rfl, rfl⟩))
    all_goals
      go_ret
      exact ⟨_, rfl, HP.out, Upd.refl _ _⟩
  · obtain ⟨j, rfl⟩ : ∃ j : Nat, id = (j : Int) := ⟨id.toNat, by omega⟩
    obtain ⟨v, h0, h1, u⟩ := p.at (i := j) (by omega)
    by_cases hz : v = 0
    · subst hz
      exact (clear_none b h n j q w (by omega) hn u).mono fun e w' ⟨he, hw⟩ => ⟨_, he, by rw [hw]; exact p, by rw [hw]; exact Upd.refl _ _⟩
    · exact (clear_some b h n j q v w (by omega) hn (by omega) u).mono fun e w' ⟨he, hw⟩ => ⟨_, he, by rw [hw]; exact p.set (by omega) _ (by omega), by rw [hw]; exact (Upd.refl _ _).set _ _⟩
theorem PAll.init {w : World} {b h n k : Nat} {q : Int} (hu : ∀ i, i < n → UAt w b h n q i 0) (hk : k < n) : PAll (w.drew.setCell ⟨h, k, none⟩ (.int .i64 7)) b h n q k := by
  obtain ⟨c0, c1, ck, fk, hb⟩ := (hu k hk).drew
  have hs := World.block_lt_of_cell? _ _ c0
  refine ⟨hb, by simpa using hs, by rw [World.cell?_setCell_other _ _ _ _ (by first | (simp; done) | (simp; omega))]; exact c0, by rw [World.cell?_setCell_other _ _ _ _ (by first | (simp; done) | (simp; omega))]; exact c1, World.cell?_setCell_same _ _ _ ck, fun i hi => ?_⟩
  obtain ⟨_, _, ci, fi, _⟩ := (hu i hi).drew
  by_cases e : i = k
  · subst e
    exact ⟨7, by omega, by omega, World.cell?_setCell_same _ _ _ ci, by rw [World.frozen?_setCell]; exact fi⟩
  · exact ⟨0, by omega, by omega, by rw [World.cell?_setCell_other _ _ _ _ (by first | (simp; done) | (simp; omega))]; exact ci, by rw [World.frozen?_setCell]; exact fi⟩
theorem PAll.has {w : World} {b h n k : Nat} {q : Int} (p : PAll w b h n q k) (hk : k < n) : UAt w b h n q k 7 := by
  obtain ⟨v, h0, h1, u0, u1, u2, u3, u4⟩ := p.at hk
  obtain ⟨hb, hs, c0, c1, ck, hall⟩ := p
  exact ⟨u0, u1, ck, u3, u4⟩
end Go.Proofs.Ytgldildepechaaa
