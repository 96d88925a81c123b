/- Purses whole: what each method of package purse tells, and what it leaves, whatever number it is asked of. -/
import Derived.Test.YticdpcbmnahenaaBytes
import Derived.ProofKit
import Derived.OpenShut
import Derived.Handy
import Derived.WalkLawsBesides
import Derived.WalkSpells
import Derived.Lib.Hide
import Derived.Lib.MinMax
import Derived.RegionTactic
import Derived.ChangeAlike
import Derived.BigRegion
import Derived.Deep.QuietTactic
import Derived.BigQuiet
import Derived.Deep.RegionHeld3
import Derived.StillTailTactics
namespace Go.Proofs.Yticdpcbmnahenaa
open Go.ChangeShapes Go.WideShapes Go.ChangeAt Go.RowKit
set_option linter.unusedSimpArgs false
set_option linter.unusedVariables false

namespace Pur
theorem ret_i64 {a b : Int} (h : a = b) : Ending.returned (.int .i64 a) = .returned (.int .i64 b) := by rw [h]
theorem ret_b {a b : Bool} (h : a = b) : Ending.returned (.bool a) = .returned (.bool b) := by rw [h]
theorem infoi : (Try.prog.info? 3).map (fun i => (i.zero, i.size, i.bytes)) = some (some (.int .i64 0), 1, 8) := by kernel_rfl
end Pur
/-- A number as a cell. -/
def pv (x : Int) : Value := .int .i64 x
/-- What one has. -/
def pHas (V : List Int) (id : Int) : Int := if 0 ≤ id then V.getD id.toNat 0 else 0
/-- Purses of which one has so much. -/
def pSet (V : List Int) (id v : Int) : List Int := if 0 ≤ id then V.set id.toNat v else V
theorem pHas_out {V : List Int} {id : Int} (h : id < 0 ∨ (V.length : Int) ≤ id) : pHas V id = 0 := by
  unfold pHas
  by_cases h0 : 0 ≤ id
  · rw [if_pos h0, List.getD_eq_getElem?_getD, List.getElem?_eq_none (by omega)]; rfl
  · rw [if_neg h0]
theorem pSet_out {V : List Int} {id v : Int} (h : id < 0 ∨ (V.length : Int) ≤ id) : pSet V id v = V := by
  unfold pSet
  by_cases h0 : 0 ≤ id
  · rw [if_pos h0, List.set_eq_of_length_le (by omega)]
  · rw [if_neg h0]
theorem pHas_nat {V : List Int} {j : Nat} {v : Int} (h : V[j]? = some v) : pHas V (j : Int) = v := by
  unfold pHas
  rw [if_pos (by omega), Int.toNat_natCast, List.getD_eq_getElem?_getD, h]; rfl
theorem pSet_nat (V : List Int) (j : Nat) (v : Int) : pSet V (j : Int) v = V.set j v := by
  unfold pSet
  rw [if_pos (by omega), Int.toNat_natCast]
theorem pSet_length (V : List Int) (id v : Int) : (pSet V id v).length = V.length := by
  unfold pSet; split <;> simp
theorem pSet_mem {V : List Int} {id v x : Int} (h : x ∈ pSet V id v) : x ∈ V ∨ x = v := by
  unfold pSet at h
  split at h
  · exact List.mem_or_eq_of_mem_set h
  · exact Or.inl h
theorem pHas_set_same {V : List Int} {id v : Int} (h : 0 ≤ id ∧ id < V.length) : pHas (pSet V id v) id = v := by
  obtain ⟨j, rfl⟩ : ∃ j : Nat, id = (j : Int) := ⟨id.toNat, by omega⟩
  rw [pSet_nat]
  exact pHas_nat (by rw [List.getElem?_set]; simp; omega)
theorem pHas_set_other {V : List Int} {id k v : Int} (h : id ≠ k) : pHas (pSet V id v) k = pHas V k := by
  by_cases h0 : 0 ≤ id
  · obtain ⟨j, rfl⟩ : ∃ j : Nat, id = (j : Int) := ⟨id.toNat, by omega⟩
    rw [pSet_nat]
    by_cases h1 : 0 ≤ k
    · obtain ⟨m, rfl⟩ : ∃ m : Nat, k = (m : Int) := ⟨k.toNat, by omega⟩
      unfold pHas
      rw [if_pos (by omega), if_pos (by omega), Int.toNat_natCast, List.getD_eq_getElem?_getD, List.getD_eq_getElem?_getD, List.getElem?_set_ne (by omega)]
    · unfold pHas; rw [if_neg h1, if_neg h1]
  · rw [pSet_out (Or.inl (by omega))]
theorem pSet_self {V : List Int} {id v : Int} (h : pHas V id = v) (hr : 0 ≤ id ∧ id < V.length) : pSet V id v = V := by
  obtain ⟨j, rfl⟩ : ∃ j : Nat, id = (j : Int) := ⟨id.toNat, by omega⟩
  rw [pSet_nat]
  have hj : V[j]? = some V[j] := List.getElem?_eq_getElem (by omega)
  rw [pHas_nat hj] at h
  rw [← h]
  exact List.set_getElem_self _
/-- Purses in memory: how much is given at once, and what each number has. -/
def PU (w : World) (b h n : Nat) (q : Int) (V : List Int) : Prop :=
  (b ≠ h ∧ 1 ≤ n ∧ n ≤ 1024) ∧ (1 ≤ q ∧ q ≤ 1000000) ∧ V.length = n ∧ (∀ v ∈ V, 0 ≤ v ∧ v ≤ 2000000000) ∧ Blk w b [.slice (some ⟨h, 0, none⟩) n n, pv q] 74 ∧ Blk w h (V.map pv) 3
theorem PU.chg {w w' : World} {b h n : Nat} {q : Int} {V : List Int} (u : PU w b h n q V) {l : List Nat} (k : Chg l w w') (hb : b ∉ l) (hh : h ∉ l) : PU w' b h n q V := by
  obtain ⟨u1, u2, u3, u4, u5, u6⟩ := u
  exact ⟨u1, u2, u3, u4, u5.chg k hb, u6.chg k hh⟩
theorem PU.fresh {w w' : World} {b h n : Nat} {q : Int} {V : List Int} (u : PU w b h n q V) (k : Below w.heap.size w w') : PU w' b h n q V := u.chg (Chg.of_fresh k (l := [])) (by simp) (by simp)
theorem PU.drew {w : World} {b h n : Nat} {q : Int} {V : List Int} (u : PU w b h n q V) : PU w.drew b h n q V := u
theorem PU.drewN {w : World} {b h n : Nat} {q : Int} {V : List Int} (u : PU w b h n q V) (k : Nat) : PU (w.drewN k) b h n q V := u
theorem PU.lts {w : World} {b h n : Nat} {q : Int} {V : List Int} (u : PU w b h n q V) : b < w.heap.size ∧ h < w.heap.size := ⟨u.2.2.2.2.1.lt, u.2.2.2.2.2.lt⟩
theorem PU.bound {w : World} {b h n : Nat} {q : Int} {V : List Int} (u : PU w b h n q V) (id : Int) : 0 ≤ pHas V id ∧ pHas V id ≤ 2000000000 := by
  by_cases hr : id < 0 ∨ (V.length : Int) ≤ id
  · rw [pHas_out hr]; omega
  · obtain ⟨j, rfl⟩ : ∃ j : Nat, id = (j : Int) := ⟨id.toNat, by omega⟩
    have hj : V[j]? = some V[j] := List.getElem?_eq_getElem (by omega)
    rw [pHas_nat hj]
    exact u.2.2.2.1 _ (List.getElem_mem _)
theorem PU.row {w : World} {b h n : Nat} {q : Int} {V : List Int} (u : PU w b h n q V) (j : Nat) (hj : j < n) : w.cell? ⟨h, j, none⟩ = some (.int .i64 (pHas V (j : Int))) := by
  have hl := u.2.2.1
  have hv : V[j]? = some V[j] := List.getElem?_eq_getElem (by omega)
  rw [pHas_nat hv]
  exact u.2.2.2.2.2.cell (by rw [List.getElem?_map, hv]; rfl)
theorem PU.set {w : World} {b h n : Nat} {q : Int} {V : List Int} (u : PU w b h n q V) (j : Nat) (v : Int) (hv : 0 ≤ v ∧ v ≤ 2000000000) : PU (w.setCell ⟨h, j, none⟩ (.int .i64 v)) b h n q (pSet V (j : Int) v) := by
  obtain ⟨u1, u2, u3, u4, u5, u6⟩ := u
  refine ⟨u1, u2, by rw [pSet_length]; exact u3, fun x hx => ?_, u5.other u1.1 _ _, ?_⟩
  · rcases pSet_mem hx with h | h
    · exact u4 x h
    · rw [h]; exact hv
  · rw [pSet_nat, List.map_set]
    exact u6.set j (pv v)
set_option maxHeartbeats 600000 in
theorem pu_may_no (b h n : Nat) (id : Int) (w : World) (hn : n ≤ 1024) (c0 : w.cell? ⟨b, 0, none⟩ = some (.slice (some ⟨h, 0, none⟩) n n)) (hid : id < 0 ∨ (n : Int) ≤ id) :
    Calls Try.prog 51 #[.pointer (some ⟨b, 0, none⟩), .int .i64 id] w fun e w' => e = .returned (.bool false) ∧ w = w' := by
  by_cases h0 : id < 0
  · go_enter Try.func51, Try.ntmps51
    go_wp2
    go_ret
    exact ⟨rfl, rfl⟩
  · have h1 : (n : Int) ≤ id := by omega
    go_enter Try.func51, Try.ntmps51
    go_wp2
    go_ret
    exact ⟨Pur.ret_b (by simp; omega), rfl⟩
theorem pu_may_yes (b h n j : Nat) (w : World) (hn : n ≤ 1024) (c0 : w.cell? ⟨b, 0, none⟩ = some (.slice (some ⟨h, 0, none⟩) n n)) (hj : j < n) :
    Calls Try.prog 51 #[.pointer (some ⟨b, 0, none⟩), .int .i64 j] w fun e w' => e = .returned (.bool true) ∧ w = w' := by
  have h0 : (0 : Int) ≤ (j : Int) := by omega
  go_enter Try.func51, Try.ntmps51
  go_wp2
  go_ret
  exact ⟨Pur.ret_b (by first | (simp; done) | (simp; omega)), rfl⟩
set_option maxHeartbeats 600000 in
theorem pu_has (b h n : Nat) (q : Int) (V : List Int) (id : Int) (w : World) (u : PU w b h n q V) :
    Calls Try.prog 44 #[.pointer (some ⟨b, 0, none⟩), .int .i64 id] w fun e w' => e = .returned (.int .i64 (pHas V id)) ∧ w = w' := by
  have c0 := u.2.2.2.2.1.cell (i := 0) rfl
  have hn := u.1.2
  have hl := u.2.2.1
  by_cases hid : id < 0 ∨ (n : Int) ≤ id
  · have HE := Lib.hid (pHas_out (V := V) (id := id) (by omega))
    clear u
    go_enter Try.func44, Try.ntmps44
    go_wp2_with (go_at_call 51; refine (pu_may_no b h n id _ hn.2 c0 hid).mono ?_; rintro e w' ⟨rfl, rfl⟩)
    go_ret
    exact ⟨Pur.ret_i64 HE.out.symm, rfl⟩
  · obtain ⟨j, rfl⟩ : ∃ j : Nat, id = (j : Int) := ⟨id.toNat, by omega⟩
    have hj : j < n := by omega
    have c1 := u.row j hj
    obtain ⟨v, hv⟩ : ∃ v, pHas V (j : Int) = v := ⟨_, rfl⟩
    rw [hv] at c1 ⊢
    have g1 : (0 : Int) ≤ (j : Int) := by omega
    have g2 : (j : Int) < (n : Int) := by omega
    clear u hv
    go_enter Try.func44, Try.ntmps44
    go_wp2_with (go_at_call 51; refine (pu_may_yes b h n j _ hn.2 c0 hj).mono ?_; rintro e w' ⟨rfl, rfl⟩)
    go_ret
    exact ⟨rfl, rfl⟩
set_option maxHeartbeats 600000 in
theorem pu_give_out (b h n : Nat) (q : Int) (V : List Int) (id : Int) (w : World) (u : PU w b h n q V) (hid : id < 0 ∨ (n : Int) ≤ id) :
    Calls Try.prog 34 #[.pointer (some ⟨b, 0, none⟩), .int .i64 id] w fun e w' => e = .returned (.int .i64 0) ∧ w = w' := by
  have c0 := u.2.2.2.2.1.cell (i := 0) rfl
  have hn := u.1.2
  clear u
  go_enter Try.func34, Try.ntmps34
  go_wp2_with (go_at_call 51; refine (pu_may_no b h n id _ hn.2 c0 hid).mono ?_; rintro e w' ⟨rfl, rfl⟩)
  go_ret
  exact ⟨rfl, rfl⟩
set_option maxHeartbeats 600000 in
theorem pu_give_in (b h n j : Nat) (q v s : Int) (w : World) (hj : j < n) (hn : n ≤ 1024) (hq : 1 ≤ q ∧ q ≤ 1000000) (hv : 0 ≤ v ∧ v ≤ 2000000000) (hs : min (v + q) 2000000000 = s)
    (c0 : w.cell? ⟨b, 0, none⟩ = some (.slice (some ⟨h, 0, none⟩) n n)) (c1 : w.cell? ⟨b, 1, none⟩ = some (.int .i64 q)) (c2 : w.cell? ⟨h, j, none⟩ = some (.int .i64 v)) (f : w.frozen? ⟨h, j, none⟩ = false) (hne : b ≠ h) :
    Calls Try.prog 34 #[.pointer (some ⟨b, 0, none⟩), .int .i64 j] w fun e w' => e = .returned (.int .i64 s) ∧ w' = w.drew.setCell ⟨h, j, none⟩ (.int .i64 s) := by
  have g1 : (0 : Int) ≤ (j : Int) := by omega
  have g2 : (j : Int) < (n : Int) := by omega
  have s1 : IntKind.i64.wrap (v + q) = v + q := IntWalk.i64_in _ (by omega)
  go_enter Try.func34, Try.ntmps34
  go_wp2_with (go_at_call 51; refine (pu_may_yes b h n j _ hn c0 hj).mono ?_; rintro e w' ⟨rfl, rfl⟩)
  go_still_tail 19, (by kernel_rfl)
  go_wp2
  all_goals
    go_ret
    exact ⟨rfl, rfl⟩
/-- A gift to anyone. -/
theorem pu_give (b h n : Nat) (q : Int) (V : List Int) (id : Int) (w : World) (u : PU w b h n q V) :
    Calls Try.prog 34 #[.pointer (some ⟨b, 0, none⟩), .int .i64 id] w fun e w' => (∃ m, e = .returned (.int .i64 m)) ∧ PU w' b h n q (pSet V id (min (pHas V id + q) 2000000000)) ∧ Chg [h] w w' := by
  by_cases hid : id < 0 ∨ (n : Int) ≤ id
  · refine (pu_give_out b h n q V id w u hid).mono ?_
    rintro e w' ⟨rfl, rfl⟩
    rw [pSet_out (by have := u.2.2.1; omega)]
    exact ⟨⟨_, rfl⟩, u, Chg.refl _ _⟩
  · obtain ⟨j, rfl⟩ : ∃ j : Nat, id = (j : Int) := ⟨id.toNat, by omega⟩
    have hb := u.bound (j : Int)
    refine (pu_give_in b h n j q (pHas V (j : Int)) _ w (by omega) u.1.2.2 u.2.1 hb rfl (u.2.2.2.2.1.cell (i := 0) rfl) (u.2.2.2.2.1.cell (i := 1) rfl) (u.row j (by omega)) (u.2.2.2.2.2.free j) u.1.1).mono ?_
    rintro e w' ⟨rfl, rfl⟩
    have h2 := u.2.1
    exact ⟨⟨_, rfl⟩, u.drew.set j _ (by omega), ((Chg.refl [h] w).drew).set (Or.inl (by simp)) _ _⟩
/-- Whether one can pay. -/
def pCan (V : List Int) (id price : Int) : Bool := decide (0 ≤ id ∧ id < (V.length : Int) ∧ max price 0 ≤ pHas V id)
set_option maxHeartbeats 600000 in
theorem pu_pay_out (b h n : Nat) (q : Int) (V : List Int) (id price : Int) (w : World) (u : PU w b h n q V) (hid : id < 0 ∨ (n : Int) ≤ id) :
    Calls Try.prog 36 #[.pointer (some ⟨b, 0, none⟩), .int .i64 id, .int .i64 price] w fun e w' => e = .returned (.bool false) ∧ w = w' := by
  have c0 := u.2.2.2.2.1.cell (i := 0) rfl
  have hn := u.1.2
  clear u
  go_enter Try.func36, Try.ntmps36
  go_wp2_with (go_at_call 51; refine (pu_may_no b h n id _ hn.2 c0 hid).mono ?_; rintro e w' ⟨rfl, rfl⟩)
  go_ret
  exact ⟨rfl, rfl⟩
set_option maxHeartbeats 600000 in
theorem pu_pay_in (b h n j : Nat) (q v price p : Int) (w : World) (hj : j < n) (hn : n ≤ 1024) (hv : 0 ≤ v ∧ v ≤ 2000000000) (hp : max price 0 = p) (hp0 : 0 ≤ p)
    (c0 : w.cell? ⟨b, 0, none⟩ = some (.slice (some ⟨h, 0, none⟩) n n)) (c2 : w.cell? ⟨h, j, none⟩ = some (.int .i64 v)) (f : w.frozen? ⟨h, j, none⟩ = false) (hne : b ≠ h) :
    Calls Try.prog 36 #[.pointer (some ⟨b, 0, none⟩), .int .i64 j, .int .i64 price] w fun e w' => if p ≤ v then e = .returned (.bool true) ∧ w' = w.setCell ⟨h, j, none⟩ (.int .i64 (v - p)) else e = .returned (.bool false) ∧ w = w' := by
  have g1 : (0 : Int) ≤ (j : Int) := by omega
  have g2 : (j : Int) < (n : Int) := by omega
  by_cases hpv : p ≤ v
  · rw [show (fun (e : Ending) (w' : World) => if p ≤ v then e = .returned (.bool true) ∧ w' = w.setCell ⟨h, j, none⟩ (.int .i64 (v - p)) else e = .returned (.bool false) ∧ w = w') = (fun (e : Ending) (w' : World) => e = .returned (.bool true) ∧ w' = w.setCell ⟨h, j, none⟩ (.int .i64 (v - p))) by funext e w'; rw [if_pos hpv]]
    have hpv2 : ¬ v < p := by omega
    go_enter Try.func36, Try.ntmps36
    go_wp2_with (go_at_call 51; refine (pu_may_yes b h n j _ hn c0 hj).mono ?_; rintro e w' ⟨rfl, rfl⟩)
    all_goals
      go_ret
      exact ⟨rfl, rfl⟩
  · rw [show (fun (e : Ending) (w' : World) => if p ≤ v then e = .returned (.bool true) ∧ w' = w.setCell ⟨h, j, none⟩ (.int .i64 (v - p)) else e = .returned (.bool false) ∧ w = w') = (fun (e : Ending) (w' : World) => e = .returned (.bool false) ∧ w = w') by funext e w'; rw [if_neg hpv]]
    have hpv2 : v < p := by omega
    go_enter Try.func36, Try.ntmps36
    go_wp2_with (go_at_call 51; refine (pu_may_yes b h n j _ hn c0 hj).mono ?_; rintro e w' ⟨rfl, rfl⟩)
    all_goals
      go_ret
      exact ⟨rfl, rfl⟩
/-- Purses behind a payment. -/
def pPay (V : List Int) (id price : Int) : List Int := if pCan V id price = true then pSet V id (pHas V id - max price 0) else V
theorem pu_pay (b h n : Nat) (q : Int) (V : List Int) (id price : Int) (w : World) (u : PU w b h n q V) :
    Calls Try.prog 36 #[.pointer (some ⟨b, 0, none⟩), .int .i64 id, .int .i64 price] w fun e w' => e = .returned (.bool (pCan V id price)) ∧ PU w' b h n q (pPay V id price) ∧ Chg [h] w w' := by
  have hl := u.2.2.1
  by_cases hid : id < 0 ∨ (n : Int) ≤ id
  · refine (pu_pay_out b h n q V id price w u hid).mono ?_
    rintro e w' ⟨rfl, rfl⟩
    have e1 : pCan V id price = false := by unfold pCan; simp; omega
    unfold pPay
    rw [e1]
    exact ⟨rfl, u, Chg.refl _ _⟩
  · obtain ⟨j, rfl⟩ : ∃ j : Nat, id = (j : Int) := ⟨id.toNat, by omega⟩
    have hb := u.bound (j : Int)
    refine (pu_pay_in b h n j q (pHas V (j : Int)) price _ w (by omega) u.1.2.2 hb rfl (by omega) (u.2.2.2.2.1.cell (i := 0) rfl) (u.row j (by omega)) (u.2.2.2.2.2.free j) u.1.1).mono ?_
    intro e w' hh
    unfold pPay
    by_cases hpv : max price 0 ≤ pHas V (j : Int)
    · rw [if_pos hpv] at hh
      obtain ⟨rfl, rfl⟩ := hh
      have e1 : pCan V (j : Int) price = true := by unfold pCan; simp only [decide_eq_true_eq]; omega
      rw [e1]
      exact ⟨rfl, u.set j _ (by omega), (Chg.refl [h] w).set (Or.inl (by simp)) _ _⟩
    · rw [if_neg hpv] at hh
      obtain ⟨rfl, rfl⟩ := hh
      have e1 : pCan V (j : Int) price = false := by unfold pCan; rw [decide_eq_false_iff_not]; omega
      rw [e1]
      exact ⟨rfl, u, Chg.refl _ _⟩
set_option maxHeartbeats 600000 in
theorem pu_clear (b h n : Nat) (q : Int) (V : List Int) (id : Int) (w : World) (u : PU w b h n q V) :
    Calls Try.prog 38 #[.pointer (some ⟨b, 0, none⟩), .int .i64 id] w fun e w' => e = .returned (.int .i64 (pHas V id)) ∧ PU w' b h n q (pSet V id 0) ∧ Chg [h] w w' := by
  have hb := u.bound id
  have hl := u.2.2.1
  obtain ⟨v, hv⟩ : ∃ v, pHas V id = v := ⟨_, rfl⟩
  rw [hv] at hb ⊢
  by_cases h0 : v = 0
  · have HE : Hid (pSet V id 0 = V) := Lib.hid (by
      by_cases hr : id < 0 ∨ (n : Int) ≤ id
      · exact pSet_out (by omega)
      · exact pSet_self (by rw [hv, h0]) (by omega))
    have HU := Lib.hid u
    have HV := Lib.hid hv
    subst h0
    clear u hv
    go_enter Try.func38, Try.ntmps38
    go_wp2_with (go_at_call 44; refine (pu_has b h n q V id _ HU.out).mono ?_; rintro e w' ⟨rfl, rfl⟩; rw [HV.out])
    all_goals
      go_ret
      exact ⟨rfl, by rw [HE.out]; exact HU.out, Chg.refl _ _⟩
  · have hr : 0 ≤ id ∧ id < (n : Int) := by
      by_cases hr : id < 0 ∨ (n : Int) ≤ id
      · exact absurd (hv.symm.trans (pHas_out (by omega))) h0
      · omega
    obtain ⟨j, rfl⟩ : ∃ j : Nat, id = (j : Int) := ⟨id.toNat, by omega⟩
    have hn := u.1
    have c0 := u.2.2.2.2.1.cell (i := 0) rfl
    have c1 := u.row j (by omega)
    have f := u.2.2.2.2.2.free j
    rw [hv] at c1
    have HU := Lib.hid u
    have HV := Lib.hid hv
    have hpos : 0 < v := by omega
    clear u hv h0
    go_enter Try.func38, Try.ntmps38
    go_wp2_with (go_at_call 44; refine (pu_has b h n q V (j : Int) _ HU.out).mono ?_; rintro e w' ⟨rfl, rfl⟩; rw [HV.out])
    all_goals
      go_ret
      exact ⟨rfl, HU.out.set j 0 (by omega), (Chg.refl [h] _).set (Or.inl (by simp)) _ _⟩
theorem pu_new_end (n : Nat) (q : Int) (w : World) (n1 : 1 ≤ n ∧ n ≤ 1024) (hq : 1 ≤ q ∧ q ≤ 1000000) :
    PU (((w.alloc (.cells (Array.replicate n (.int .i64 0)) 3))).alloc (.cells #[.slice (some ⟨w.heap.size, 0, none⟩) n n, .int .i64 q] 74)) (w.heap.size + 1) w.heap.size n q (List.replicate n 0) ∧ Below w.heap.size w (((w.alloc (.cells (Array.replicate n (.int .i64 0)) 3))).alloc (.cells #[.slice (some ⟨w.heap.size, 0, none⟩) n n, .int .i64 q] 74)) := by
  refine ⟨⟨⟨by omega, n1.1, n1.2⟩, hq, by simp, fun v hv => ?_, ?_, ?_⟩, ((Below.refl _ _).alloc (Nat.le_refl _) _).alloc (by simp) _⟩
  · rw [List.eq_of_mem_replicate hv]; omega
  · have := Blk.newA (w.alloc (.cells (Array.replicate n (.int .i64 0)) 3)) #[.slice (some ⟨w.heap.size, 0, none⟩) n n, .int .i64 q] 74
    rw [World.size_alloc] at this
    exact this
  · have := Blk.newA w (Array.replicate n (.int .i64 0)) 3
    rw [Array.toList_replicate] at this
    rw [List.map_replicate]
    exact this.alloc _
set_option maxHeartbeats 1000000 in
theorem pu_new (n : Nat) (x y q : Int) (w : World) (hn : min (max x 1) 1024 = (n : Int)) (hq : min (max y 1) 1000000 = q) :
    Calls Try.prog 28 #[.int .i64 x, .int .i64 y] w fun e w' => ∃ b h, e = .returned (.pointer (some ⟨b, 0, none⟩)) ∧ PU w' b h n q (List.replicate n 0) ∧ Below w.heap.size w w' ∧ w.heap.size ≤ b ∧ w.heap.size ≤ h := by
  have n1 : 1 ≤ n ∧ n ≤ 1024 := by omega
  have q1 : 1 ≤ q ∧ q ≤ 1000000 := by omega
  have hm1 : ∀ W, (Instr.makeSlice 27 (.int .i64 n) (.int .i64 n)).run Try.prog W = .ok (.slice (some ⟨W.heap.size, 0, none⟩) n n) (W.alloc (.cells (List.replicate n (.int .i64 0)).toArray 3)) := fun W =>
    run_make_blk W _ _ _ Try.underlying27 8 Pur.infoi rfl n n (Nat.le_refl _) (by omega) (by omega)
  go_enter Try.func28, Try.ntmps28
  go_wp2
  all_goals
    go_ret
    obtain ⟨k1, k2⟩ := pu_new_end n q w n1 q1
    exact ⟨_, _, rfl, k1, k2, by omega, by omega⟩
end Go.Proofs.Yticdpcbmnahenaa
