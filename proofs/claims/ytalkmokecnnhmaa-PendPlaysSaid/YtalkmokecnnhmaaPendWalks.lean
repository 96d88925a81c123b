/- Contracts of a text that is written piece by piece (package pend): what each method tells, and how the writer stands behind it. -/
import Derived.Test.YtalkmokecnnhmaaRows
import Derived.WalkKit
import Derived.ProofKit
import Derived.OpenShut
import Derived.Handy
import Derived.WalkLawsBesides
import Derived.WalkSpells
import Derived.Lib.Hide
import Derived.RegionTactic
import Derived.ChangeAlike
import Derived.WalkSmall
import Derived.Deep.QuietTactic
import Derived.BigQuiet
import Derived.Deep.RegionHeld3
namespace Go.Proofs.Ytalkmokecnnhmaa
open Go.ChangeShapes Go.WideShapes Go.ChangeAt Go.RowKit
set_option linter.unusedSimpArgs false
set_option linter.unusedVariables false

theorem ret_i64 {a b : Int} (h : a = b) : Ending.returned (.int .i64 a) = .returned (.int .i64 b) := by rw [h]
theorem ret_str {a b : ByteArray} (h : a = b) : Ending.returned (.string a) = .returned (.string b) := by rw [h]

/-- A writer in memory: how much is laid out at once, the text, how much was taken, how much is laid out, how often not all was taken. -/
def PAt (w : World) (b : Nat) (o : Int) (T : ByteArray) (s l t : Nat) : Prop :=
  w.cell? ⟨b, 0, none⟩ = some (.int .i64 o) ∧ w.cell? ⟨b, 1, none⟩ = some (.string T) ∧ w.cell? ⟨b, 2, none⟩ = some (.int .i64 s) ∧ w.cell? ⟨b, 3, none⟩ = some (.int .i64 l) ∧ w.cell? ⟨b, 4, none⟩ = some (.int .i64 t) ∧
  w.frozen? ⟨b, 2, none⟩ = false ∧ w.frozen? ⟨b, 3, none⟩ = false ∧ w.frozen? ⟨b, 4, none⟩ = false
/-- Nothing but block b has changed. -/
def Upd (b : Nat) (w w' : World) : Prop := ∀ B a, B ≤ b → Below B a w → Below B a w'
theorem Upd.refl (b : Nat) (w : World) : Upd b w w := fun _ _ _ h => h
theorem Upd.set {b : Nat} {w w' : World} (h : Upd b w w') (j : Nat) (v : Value) : Upd b w (w'.setCell ⟨b, j, none⟩ v) := fun B a hB hb => (h B a hB hb).setCell (by simpa using hB) v
theorem PAt.set3 {w : World} {b : Nat} {o : Int} {T : ByteArray} {s l t : Nat} (h : PAt w b o T s l t) (l' : Nat) : PAt (w.setCell ⟨b, 3, none⟩ (.int .i64 l')) b o T s l' t := by
  obtain ⟨h0, h1, h2, h3, h4, f2, f3, f4⟩ := h
  exact ⟨by rw [World.cell?_setCell_other _ _ _ _ (by simp)]; exact h0, by rw [World.cell?_setCell_other _ _ _ _ (by simp)]; exact h1, by rw [World.cell?_setCell_other _ _ _ _ (by simp)]; exact h2, World.cell?_setCell_same _ _ _ h3, by rw [World.cell?_setCell_other _ _ _ _ (by simp)]; exact h4, by rw [World.frozen?_setCell]; exact f2, by rw [World.frozen?_setCell]; exact f3, by rw [World.frozen?_setCell]; exact f4⟩
theorem PAt.set2 {w : World} {b : Nat} {o : Int} {T : ByteArray} {s l t : Nat} (h : PAt w b o T s l t) (s' : Nat) : PAt (w.setCell ⟨b, 2, none⟩ (.int .i64 s')) b o T s' l t := by
  obtain ⟨h0, h1, h2, h3, h4, f2, f3, f4⟩ := h
  exact ⟨by rw [World.cell?_setCell_other _ _ _ _ (by simp)]; exact h0, by rw [World.cell?_setCell_other _ _ _ _ (by simp)]; exact h1, World.cell?_setCell_same _ _ _ h2, by rw [World.cell?_setCell_other _ _ _ _ (by simp)]; exact h3, by rw [World.cell?_setCell_other _ _ _ _ (by simp)]; exact h4, by rw [World.frozen?_setCell]; exact f2, by rw [World.frozen?_setCell]; exact f3, by rw [World.frozen?_setCell]; exact f4⟩
theorem PAt.set4 {w : World} {b : Nat} {o : Int} {T : ByteArray} {s l t : Nat} (h : PAt w b o T s l t) (t' : Nat) : PAt (w.setCell ⟨b, 4, none⟩ (.int .i64 t')) b o T s l t' := by
  obtain ⟨h0, h1, h2, h3, h4, f2, f3, f4⟩ := h
  exact ⟨by rw [World.cell?_setCell_other _ _ _ _ (by simp)]; exact h0, by rw [World.cell?_setCell_other _ _ _ _ (by simp)]; exact h1, by rw [World.cell?_setCell_other _ _ _ _ (by simp)]; exact h2, by rw [World.cell?_setCell_other _ _ _ _ (by simp)]; exact h3, World.cell?_setCell_same _ _ _ h4, by rw [World.frozen?_setCell]; exact f2, by rw [World.frozen?_setCell]; exact f3, by rw [World.frozen?_setCell]; exact f4⟩

theorem PAt.drewN {w : World} {b : Nat} {o : Int} {T : ByteArray} {s l t : Nat} (h : PAt w b o T s l t) (n : Nat) : PAt (w.drewN n) b o T s l t := by
  obtain ⟨h0, h1, h2, h3, h4, f2, f3, f4⟩ := h
  exact ⟨by simpa using h0, by simpa using h1, by simpa using h2, by simpa using h3, by simpa using h4, by simpa using f2, by simpa using f3, by simpa using f4⟩
theorem PAt.drew {w : World} {b : Nat} {o : Int} {T : ByteArray} {s l t : Nat} (h : PAt w b o T s l t) : PAt w.drew b o T s l t := by
  obtain ⟨h0, h1, h2, h3, h4, f2, f3, f4⟩ := h
  exact ⟨by simpa using h0, by simpa using h1, by simpa using h2, by simpa using h3, by simpa using h4, by simpa using f2, by simpa using f3, by simpa using f4⟩
theorem Upd.drew {b : Nat} {w w' : World} (h : Upd b w w') : Upd b w w'.drew := fun B a hB hb => (h B a hB hb).drew
theorem Upd.drewN {b : Nat} {w w' : World} (h : Upd b w w') (n : Nat) : Upd b w (w'.drewN n) := fun B a hB hb => below_drewN (h B a hB hb) n
theorem Upd.trans {b : Nat} {w w' w'' : World} (h : Upd b w w') (k : Upd b w' w'') : Upd b w w'' := fun B a hB hb => k B a hB (h B a hB hb)

/-- How much is laid out behind Load. -/
def ldI (o : Int) (size s l : Nat) : Nat := if 0 < l then l else if (size - s : Int) ≤ o then size - s else o.toNat
theorem ldI_bd (o : Int) (size s l : Nat) (ho : 1 ≤ o) (h : s + l ≤ size) : s + ldI o size s l ≤ size ∧ (s < size → 0 < ldI o size s l) := by
  unfold ldI; split
  · omega
  · split <;> omega
theorem ldI_zero (o : Int) (size s : Nat) (ho : 1 ≤ o) (h : s ≤ size) : (if (size : Int) - (s : Int) < o then (size : Int) - (s : Int) else o) = ((ldI o size s 0 : Nat) : Int) := by
  unfold ldI
  simp only [Nat.lt_irrefl, if_false]
  split <;> split <;> omega
def tkI (n : Int) (l : Nat) : Nat := if n < 0 then 0 else if (l : Int) < n then l else n.toNat
theorem tkI_le (n : Int) (l : Nat) : tkI n l ≤ l := by
  unfold tkI; split
  · omega
  · split <;> omega
theorem cut_cut (T : ByteArray) (s l n : Nat) (h : n ≤ l) : (T.extract s (s + l)).extract 0 n = T.extract s (s + n) := by
  rw [ByteArray.extract_extract]; congr 1 <;> omega
theorem size_cut (T : ByteArray) (s l : Nat) (h : s + l ≤ T.size) : (T.extract s (s + l)).size = l := by rw [ByteArray.size_extract]; omega

theorem extract_zero (G : ByteArray) : G.extract 0 0 = ByteArray.empty := ByteArray.ext (Array.eq_empty_of_size_eq_zero (by simp))
theorem cut_none (G : ByteArray) (n : Int) (h : n ≤ 0) : G.extract 0 n.toNat = ByteArray.empty := by rw [show n.toNat = 0 by omega]; exact extract_zero G
theorem take_world {w : World} {b : Nat} {o : Int} {T : ByteArray} {s l t : Nat} (h : PAt w b o T s l t) (k : Nat) (a c d : Int) (s' l' t' : Nat) (ha : a = (t' : Int)) (hc : c = (s' : Int)) (hd : d = (l' : Int)) :
    PAt ((((w.drewN k).setCell ⟨b, 4, none⟩ (.int .i64 a)).setCell ⟨b, 2, none⟩ (.int .i64 c)).setCell ⟨b, 3, none⟩ (.int .i64 d)) b o T s' l' t' ∧ Upd b w ((((w.drewN k).setCell ⟨b, 4, none⟩ (.int .i64 a)).setCell ⟨b, 2, none⟩ (.int .i64 c)).setCell ⟨b, 3, none⟩ (.int .i64 d)) := by
  subst ha hc hd
  exact ⟨(((h.drewN k).set4 t').set2 s').set3 l', ((((Upd.refl _ _).drewN k).set _ _).set _ _).set _ _⟩
theorem take_world2 {w : World} {b : Nat} {o : Int} {T : ByteArray} {s l t : Nat} (h : PAt w b o T s l t) (k : Nat) (c d : Int) (s' l' : Nat) (hc : c = (s' : Int)) (hd : d = (l' : Int)) :
    PAt (((w.drewN k).setCell ⟨b, 2, none⟩ (.int .i64 c)).setCell ⟨b, 3, none⟩ (.int .i64 d)) b o T s' l' t ∧ Upd b w (((w.drewN k).setCell ⟨b, 2, none⟩ (.int .i64 c)).setCell ⟨b, 3, none⟩ (.int .i64 d)) := by
  subst hc hd
  exact ⟨((h.drewN k).set2 s').set3 l', (((Upd.refl _ _).drewN k).set _ _).set _ _⟩
theorem rest_any (b : Nat) (o : Int) (T : ByteArray) (s l t : Nat) (w : World) (hT : T.size ≤ 1000000) (hs : s + l ≤ T.size) (h : PAt w b o T s l t) :
    Calls Try.prog 21 #[.pointer (some ⟨b, 0, none⟩)] w fun e w' => e = .returned (.int .i64 ((T.size : Int) - s - l)) ∧ ∃ n, w' = w.drewN n := by
  obtain ⟨h0, h1, h2, h3, h4, f2, f3, f4⟩ := h
  have s1 : IntKind.i64.wrap ((T.size : Int) - s) = (T.size : Int) - s := IntWalk.i64_in _ (by omega)
  have s2 : IntKind.i64.wrap ((T.size : Int) - s - l) = (T.size : Int) - s - l := IntWalk.i64_in _ (by omega)
  go_enter Try.func21, Try.ntmps21
  go_wp2
  go_quiet (fail)
  go_wp2
  go_ret
  exact ⟨rfl, _, rfl⟩
theorem peek_any (b : Nat) (o : Int) (T : ByteArray) (s l t : Nat) (w : World) (hT : T.size ≤ 1000000) (hs : s + l ≤ T.size) (h : PAt w b o T s l t) :
    Calls Try.prog 22 #[.pointer (some ⟨b, 0, none⟩)] w fun e w' => e = .returned (.string (T.extract s (s + l))) ∧ ∃ n, w' = w.drewN n := by
  obtain ⟨h0, h1, h2, h3, h4, f2, f3, f4⟩ := h
  have s1 : IntKind.i64.wrap ((s : Int) + l) = (s : Int) + l := IntWalk.i64_in _ (by omega)
  have g1 : (0 : Int) ≤ s := by omega
  have g2 : (s : Int) ≤ (s : Int) + l := by omega
  have g3 : (s : Int) + l ≤ T.size := by omega
  have g4 : (s : Int) ≤ T.size := by omega
  have g5 : ((s : Int) + l).toNat = s + l := by omega
  go_enter Try.func22, Try.ntmps22
  go_wp2
  go_quiet (fail)
  go_wp2
  go_ret
  exact ⟨rfl, _, rfl⟩
set_option maxHeartbeats 1000000 in
theorem load_any (b : Nat) (o : Int) (T : ByteArray) (s l t : Nat) (w : World) (ho : 1 ≤ o ∧ o ≤ 4096) (hT : T.size ≤ 1000000) (hs : s + l ≤ T.size) (h : PAt w b o T s l t) :
    Calls Try.prog 12 #[.pointer (some ⟨b, 0, none⟩)] w fun e w' => e = .returned (.int .i64 (if 0 < l then 0 else (ldI o T.size s l : Int))) ∧ PAt w' b o T s (ldI o T.size s l) t ∧ Upd b w w' := by
  have HP := Lib.hid h
  have HD := Lib.hid h.drew
  obtain ⟨h0, h1, h2, h3, h4, f2, f3, f4⟩ := h
  by_cases hl : 0 < l
  · have e : ldI o T.size s l = l := by unfold ldI; rw [if_pos hl]
    rw [e]
    clear e
    have HV : Hid ((if 0 < l then (0 : Int) else (l : Int)) = 0) := by unfold Hid; rw [if_pos hl]
    go_enter Try.func12, Try.ntmps12
    go_wp2
    go_ret
    exact ⟨rfl, HP.out, Upd.refl _ _⟩
  · obtain rfl : l = 0 := by omega
    have HV : Hid ((if (T.size : Int) - (s : Int) < o then (T.size : Int) - (s : Int) else o) = ((ldI o T.size s 0 : Nat) : Int)) := by
      exact ldI_zero o T.size s ho.1 (by omega)
    go_enter Try.func12, Try.ntmps12
    go_wp2
    go_region_held3 (fun w' => w'.cell? ⟨b, 0, none⟩ = some (.int .i64 o)) (first | go_keep | (rw [World.cell?_setCell_other _ _ _ _ (by simp)]; simpa using h0)) ((go_at_call 21; refine (rest_any _ _ _ _ _ _ _ hT hs HD.out).mono ?_; rintro e w2 ⟨rfl, n, rfl⟩))
    rw [HV.out]
    have HQ := (HP.out.drewN (1 + n)).set3 (ldI o T.size s 0)
    have HQ2 := Lib.hid HQ
    obtain ⟨q0, q1, q2, q3, q4, k2, k3, k4⟩ := HQ
    go_wp2
    go_ret
    exact ⟨ret_i64 (by simp), HQ2.out, ((Upd.refl _ _).drewN _).set _ _⟩
set_option maxHeartbeats 1000000 in
theorem take_none (b : Nat) (o : Int) (T : ByteArray) (s t : Nat) (n : Int) (w : World) (hT : T.size ≤ 1000000) (hs : s ≤ T.size) (h : PAt w b o T s 0 t) :
    Calls Try.prog 14 #[.pointer (some ⟨b, 0, none⟩), .int .i64 n] w fun e w' => e = .returned (.string ⟨#[]⟩) ∧ PAt w' b o T s 0 t ∧ Upd b w w' := by
  have HP := Lib.hid h
  have he : T.extract s (s + 0) = ⟨#[]⟩ := by
    exact ByteArray.ext (Array.eq_empty_of_size_eq_zero (by simp))
  have HE := Lib.hid he
  clear h he
  go_enter Try.func14, Try.ntmps14
  go_wp2_with (go_at_call 22; refine (peek_any b o T s 0 t _ hT (by omega) HP.out).mono ?_; rintro e w2 ⟨rfl, k, rfl⟩; rw [HE.out])
  go_ret
  exact ⟨rfl, HP.out.drewN _, (Upd.refl _ _).drewN _⟩
set_option maxHeartbeats 600000 in
theorem take_low (b : Nat) (o : Int) (T : ByteArray) (s l t : Nat) (n : Int) (w : World) (hT : T.size ≤ 1000000) (ht : t ≤ 1000000) (hl : 0 < l) (hs : s + l ≤ T.size) (hn : n ≤ 0) (h : PAt w b o T s l t) :
    Calls Try.prog 14 #[.pointer (some ⟨b, 0, none⟩), .int .i64 n] w fun e w' => e = .returned (.string (T.extract s (s + 0))) ∧ PAt w' b o T (s + 0) (l - 0) (t + 1) ∧ Upd b w w' := by
  have HP := Lib.hid h
  clear h
  obtain ⟨G, hG⟩ : ∃ G, T.extract s (s + l) = G := ⟨_, rfl⟩
  have hz : G.size = l := by rw [← hG]; exact size_cut T s l hs
  have hge : G.toList.isEmpty = false := by
    rw [← decide_eq_emptyBytes]
    simp only [decide_eq_false_iff_not]
    intro h0
    rw [h0] at hz
    simp at hz
    omega
  have HC : Hid (G.extract 0 (0) = T.extract s (s + 0)) := by rw [← hG]; exact cut_cut T s l _ (by omega)
  have HG := Lib.hid hG
  clear hG
  have n1 : (0 : Int) ≤ n ∨ n < 0 := by omega
  go_enter Try.func14, Try.ntmps14
  go_wp2_with (go_at_call 22; refine (peek_any b o T s l t _ hT hs HP.out).mono ?_; rintro e w2 ⟨rfl, k, rfl⟩; rw [HG.out]; obtain ⟨q0, q1, q2, q3, q4, k2, k3, k4⟩ := HP.out.drewN k)
  all_goals go_ret
  all_goals
    refine ⟨?_, ?_⟩
    · first
        | (with_reducible exact ret_str HC.out)
        | (refine ret_str ?_; first | (with_reducible rfl) | (with_reducible exact HC.out) | exact cut_none G n (by omega) | exact (cut_none G n (by omega)).symm)
    · first
        | exact take_world HP.out k _ _ _ _ _ _ (by omega) (by omega) (by omega)
        | exact take_world2 HP.out k _ _ _ _ (by omega) (by omega)
set_option maxHeartbeats 600000 in
theorem take_mid (b : Nat) (o : Int) (T : ByteArray) (s l t : Nat) (n : Int) (w : World) (hT : T.size ≤ 1000000) (ht : t ≤ 1000000) (hl : 0 < l) (hs : s + l ≤ T.size) (hn : 0 < n ∧ n < l) (h : PAt w b o T s l t) :
    Calls Try.prog 14 #[.pointer (some ⟨b, 0, none⟩), .int .i64 n] w fun e w' => e = .returned (.string (T.extract s (s + n.toNat))) ∧ PAt w' b o T (s + n.toNat) (l - n.toNat) (t + 1) ∧ Upd b w w' := by
  have HP := Lib.hid h
  clear h
  obtain ⟨G, hG⟩ : ∃ G, T.extract s (s + l) = G := ⟨_, rfl⟩
  have hz : G.size = l := by rw [← hG]; exact size_cut T s l hs
  have hge : G.toList.isEmpty = false := by
    rw [← decide_eq_emptyBytes]
    simp only [decide_eq_false_iff_not]
    intro h0
    rw [h0] at hz
    simp at hz
    omega
  have HC : Hid (G.extract 0 (n.toNat) = T.extract s (s + n.toNat)) := by rw [← hG]; exact cut_cut T s l _ (by omega)
  have HG := Lib.hid hG
  clear hG
  have n1 : (0 : Int) ≤ n ∨ n < 0 := by omega
  go_enter Try.func14, Try.ntmps14
  go_wp2_with (go_at_call 22; refine (peek_any b o T s l t _ hT hs HP.out).mono ?_; rintro e w2 ⟨rfl, k, rfl⟩; rw [HG.out]; obtain ⟨q0, q1, q2, q3, q4, k2, k3, k4⟩ := HP.out.drewN k)
  all_goals go_ret
  all_goals
    refine ⟨?_, ?_⟩
    · first
        | (with_reducible exact ret_str HC.out)
        | (refine ret_str ?_; first | (with_reducible rfl) | (with_reducible exact HC.out) | exact cut_none G n (by omega) | exact (cut_none G n (by omega)).symm)
    · first
        | exact take_world HP.out k _ _ _ _ _ _ (by omega) (by omega) (by omega)
        | exact take_world2 HP.out k _ _ _ _ (by omega) (by omega)
set_option maxHeartbeats 600000 in
theorem take_high (b : Nat) (o : Int) (T : ByteArray) (s l t : Nat) (n : Int) (w : World) (hT : T.size ≤ 1000000) (ht : t ≤ 1000000) (hl : 0 < l) (hs : s + l ≤ T.size) (hn : (l : Int) < n) (h : PAt w b o T s l t) :
    Calls Try.prog 14 #[.pointer (some ⟨b, 0, none⟩), .int .i64 n] w fun e w' => e = .returned (.string (T.extract s (s + l))) ∧ PAt w' b o T (s + l) (l - l) (t) ∧ Upd b w w' := by
  have HP := Lib.hid h
  clear h
  obtain ⟨G, hG⟩ : ∃ G, T.extract s (s + l) = G := ⟨_, rfl⟩
  have hz : G.size = l := by rw [← hG]; exact size_cut T s l hs
  have hge : G.toList.isEmpty = false := by
    rw [← decide_eq_emptyBytes]
    simp only [decide_eq_false_iff_not]
    intro h0
    rw [h0] at hz
    simp at hz
    omega
  have HC : Hid (G.extract 0 (l) = T.extract s (s + l)) := by rw [← hG]; exact cut_cut T s l _ (by omega)
  have HG := Lib.hid hG
  clear hG
  have n1 : (0 : Int) ≤ n ∨ n < 0 := by omega
  go_enter Try.func14, Try.ntmps14
  go_wp2_with (go_at_call 22; refine (peek_any b o T s l t _ hT hs HP.out).mono ?_; rintro e w2 ⟨rfl, k, rfl⟩; rw [HG.out]; obtain ⟨q0, q1, q2, q3, q4, k2, k3, k4⟩ := HP.out.drewN k)
  all_goals go_ret
  all_goals
    refine ⟨?_, ?_⟩
    · first
        | (with_reducible exact ret_str HC.out)
        | (refine ret_str ?_; first | (with_reducible rfl) | (with_reducible exact HC.out) | exact cut_none G n (by omega) | exact (cut_none G n (by omega)).symm)
    · first
        | exact take_world2 HP.out k _ _ _ _ (by omega) (by omega)
set_option maxHeartbeats 600000 in
theorem take_eq (b : Nat) (o : Int) (T : ByteArray) (s l t : Nat) (w : World) (hT : T.size ≤ 1000000) (ht : t ≤ 1000000) (hl : 0 < l) (hs : s + l ≤ T.size) (h : PAt w b o T s l t) :
    Calls Try.prog 14 #[.pointer (some ⟨b, 0, none⟩), .int .i64 (l : Int)] w fun e w' => e = .returned (.string (T.extract s (s + l))) ∧ PAt w' b o T (s + l) (l - l) (t) ∧ Upd b w w' := by
  have HP := Lib.hid h
  clear h
  obtain ⟨G, hG⟩ : ∃ G, T.extract s (s + l) = G := ⟨_, rfl⟩
  have hz : G.size = l := by rw [← hG]; exact size_cut T s l hs
  have hge : G.toList.isEmpty = false := by
    rw [← decide_eq_emptyBytes]
    simp only [decide_eq_false_iff_not]
    intro h0
    rw [h0] at hz
    simp at hz
    omega
  have HC : Hid (G.extract 0 (l) = T.extract s (s + l)) := by rw [← hG]; exact cut_cut T s l _ (by omega)
  have HG := Lib.hid hG
  clear hG
  go_enter Try.func14, Try.ntmps14
  go_wp2_with (go_at_call 22; refine (peek_any b o T s l t _ hT hs HP.out).mono ?_; rintro e w2 ⟨rfl, k, rfl⟩; rw [HG.out]; obtain ⟨q0, q1, q2, q3, q4, k2, k3, k4⟩ := HP.out.drewN k)
  all_goals go_ret
  all_goals
    refine ⟨?_, ?_⟩
    · first
        | (with_reducible exact ret_str HC.out)
        | (refine ret_str ?_; first | (with_reducible rfl) | (with_reducible exact HC.out) | exact cut_none G n (by omega) | exact (cut_none G n (by omega)).symm)
    · first
        | exact take_world2 HP.out k _ _ _ _ (by omega) (by omega)
theorem take_any (b : Nat) (o : Int) (T : ByteArray) (s l t : Nat) (n : Int) (w : World) (hT : T.size ≤ 1000000) (ht : t ≤ 1000000) (hs : s + l ≤ T.size) (h : PAt w b o T s l t) :
    Calls Try.prog 14 #[.pointer (some ⟨b, 0, none⟩), .int .i64 n] w fun e w' => ∃ j t' : Nat, j ≤ l ∧ t' ≤ t + 1 ∧ (0 < n → 0 < l → 0 < j) ∧ e = .returned (.string (T.extract s (s + j))) ∧ PAt w' b o T (s + j) (l - j) t' ∧ Upd b w w' := by
  by_cases h0 : l = 0
  · subst h0
    refine (take_none b o T s t n w hT (by omega) h).mono fun e w' ⟨he, hp, hu⟩ => ⟨0, t, by omega, by omega, fun _ h => by omega, ?_, hp, hu⟩
    rw [he]; exact (ret_str (ByteArray.ext (Array.eq_empty_of_size_eq_zero (by simp)))).symm
  · by_cases h1 : n ≤ 0
    · exact (take_low b o T s l t n w hT ht (by omega) hs h1 h).mono fun e w' ⟨he, hp, hu⟩ => ⟨0, t + 1, by omega, by omega, fun h _ => by omega, he, hp, hu⟩
    · by_cases h2 : n < l
      · exact (take_mid b o T s l t n w hT ht (by omega) hs ⟨by omega, h2⟩ h).mono fun e w' ⟨he, hp, hu⟩ => ⟨n.toNat, t + 1, by omega, by omega, fun _ _ => by omega, he, hp, hu⟩
      · by_cases h3 : n = l
        · subst h3
          exact (take_eq b o T s l t w hT ht (by omega) hs h).mono fun e w' ⟨he, hp, hu⟩ => ⟨l, t, by omega, by omega, fun _ _ => by omega, he, hp, hu⟩
        · exact (take_high b o T s l t n w hT ht (by omega) hs (by omega) h).mono fun e w' ⟨he, hp, hu⟩ => ⟨l, t, by omega, by omega, fun _ _ => by omega, he, hp, hu⟩
theorem left_any (b : Nat) (o : Int) (T : ByteArray) (s l t : Nat) (w : World) (h : PAt w b o T s l t) :
    Calls Try.prog 20 #[.pointer (some ⟨b, 0, none⟩)] w fun e w' => e = .returned (.int .i64 l) ∧ w = w' := by
  obtain ⟨h0, h1, h2, h3, h4, f2, f3, f4⟩ := h
  go_enter Try.func20, Try.ntmps20
  go_wp2
  go_ret
  exact ⟨rfl, rfl⟩
theorem sent_any (b : Nat) (o : Int) (T : ByteArray) (s l t : Nat) (w : World) (h : PAt w b o T s l t) :
    Calls Try.prog 19 #[.pointer (some ⟨b, 0, none⟩)] w fun e w' => e = .returned (.int .i64 s) ∧ w = w' := by
  obtain ⟨h0, h1, h2, h3, h4, f2, f3, f4⟩ := h
  go_enter Try.func19, Try.ntmps19
  go_wp2
  go_ret
  exact ⟨rfl, rfl⟩
theorem tries_any (b : Nat) (o : Int) (T : ByteArray) (s l t : Nat) (w : World) (h : PAt w b o T s l t) :
    Calls Try.prog 23 #[.pointer (some ⟨b, 0, none⟩)] w fun e w' => e = .returned (.int .i64 t) ∧ w = w' := by
  obtain ⟨h0, h1, h2, h3, h4, f2, f3, f4⟩ := h
  go_enter Try.func23, Try.ntmps23
  go_wp2
  go_ret
  exact ⟨rfl, rfl⟩
def abcde : ByteArray := ⟨#[97, 98, 99, 100, 101]⟩
set_option maxHeartbeats 1000000 in
theorem lives_any (w : World) : Calls Try.prog 18 #[] w fun e w' => e = .returned (.bool true) ∧ Below w.heap.size w w' := by
  go_enter Try.func18, Try.ntmps18
  go_wp2_with (first | (go_at_call 6; go_in) | (go_at_call 9; go_in))
  refine (load_any w.heap.size 3 abcde 0 0 0 _ (by omega) (by decide) (by decide) ⟨by simp [go_sem], by simp [go_sem]; rfl, by simp [go_sem], by simp [go_sem], by simp [go_sem], by simp [go_sem], by simp [go_sem], by simp [go_sem]⟩).mono ?_
  rintro e w1 ⟨rfl, p1, u1⟩
  have B1 := Lib.hid (u1 w.heap.size w (Nat.le_refl _) (by go_grown))
  clear u1
  go_wp2_with fail
  refine (take_mid w.heap.size 3 abcde 0 3 0 2 _ (by decide) (by decide) (by decide) (by decide) (by decide) p1).mono ?_
  rintro e w2 ⟨rfl, p2, u2⟩
  have B2 := Lib.hid (u2 w.heap.size w (Nat.le_refl _) B1.out)
  clear u2 B1 p1
  go_wp2_with fail
  refine (load_any w.heap.size 3 abcde 2 1 1 _ (by omega) (by decide) (by decide) p2).mono ?_
  rintro e w3 ⟨rfl, p3, u3⟩
  have B3 := Lib.hid (u3 w.heap.size w (Nat.le_refl _) B2.out)
  clear u3 B2 p2
  go_wp2_with fail
  refine (take_high w.heap.size 3 abcde 2 1 1 9 _ (by decide) (by decide) (by decide) (by decide) (by decide) p3).mono ?_
  rintro e w4 ⟨rfl, p4, u4⟩
  have B4 := Lib.hid (u4 w.heap.size w (Nat.le_refl _) B3.out)
  clear u4 B3 p3
  have e1 : abcde.extract 0 2 = ⟨#[97, 98]⟩ := by decide
  have e2 : abcde.extract 2 3 = ⟨#[99]⟩ := by decide
  have e3 : abcde.extract 3 5 = ⟨#[100, 101]⟩ := by decide
  have i0 : ldI 3 abcde.size 0 0 = 3 := by decide
  have i1 : ldI 3 abcde.size 3 0 = 2 := by decide
  go_wp2_with fail
  refine (tries_any w.heap.size 3 abcde 3 0 1 _ p4).mono ?_
  rintro e w5 ⟨rfl, rfl⟩
  go_wp2_with fail
  refine (load_any w.heap.size 3 abcde 3 0 1 _ (by omega) (by decide) (by decide) p4).mono ?_
  rintro e w5 ⟨rfl, p5, u5⟩
  have B5 := Lib.hid (u5 w.heap.size w (Nat.le_refl _) B4.out)
  rw [i1] at p5
  go_wp2_with fail
  refine (peek_any w.heap.size 3 abcde 3 2 1 _ (by decide) (by decide) p5).mono ?_
  rintro e w6 ⟨rfl, n, rfl⟩
  go_wp2
  go_ret
  exact ⟨rfl, below_drewN B5.out _⟩
end Go.Proofs.Ytalkmokecnnhmaa
