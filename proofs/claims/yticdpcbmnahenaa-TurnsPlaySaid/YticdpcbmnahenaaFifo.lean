/- Contracts of a row of numbers (package fifo), first half: what is asked of it. -/
import Derived.Test.YticdpcbmnahenaaBytes
import Derived.Test.YticdpcbmnahenaaShelf
import Derived.ProofKit
import Derived.OpenShut
import Derived.Handy
import Derived.WalkLawsBesides
import Derived.WalkSpells
import Derived.Lib.Hide
import Derived.Lib.MinMax
import Derived.RegionTactic
import Derived.ChangeAlike
import Derived.BigRegion
import Derived.Deep.QuietTactic
import Derived.BigQuiet
import Derived.Deep.RegionHeld3
import Derived.StillTailTactics
namespace Go.Proofs.Yticdpcbmnahenaa
open Go.ChangeShapes Go.WideShapes Go.ChangeAt Go.RowKit
set_option linter.unusedSimpArgs false
set_option linter.unusedVariables false

theorem ret_i64 {a b : Int} (h : a = b) : Ending.returned (.int .i64 a) = .returned (.int .i64 b) := by rw [h]
theorem ret_b {a b : Bool} (h : a = b) : Ending.returned (.bool a) = .returned (.bool b) := by rw [h]
theorem info3 : (Try.prog.info? 3).map (fun i => (i.zero, i.size, i.bytes)) = some (some (.int .i64 0), 1, 8) := by kernel_rfl
theorem info4 : (Try.prog.info? 4).map (fun i => (i.zero, i.size, i.bytes)) = some (some (.bool false), 1, 1) := by kernel_rfl
/-- A number as a cell. -/
def iv (x : Nat) : Value := .int .i64 (x : Int)
theorem nodup_le : ∀ (n : Nat) (L : List Nat), L.Nodup → (∀ x ∈ L, x < n) → L.length ≤ n
  | 0, L, _, h => by
    cases L with
    | nil => simp
    | cons a l => exact absurd (h a (by simp)) (by omega)
  | n + 1, L, hn, h => by
    have h1 := nodup_le n (L.erase n) (hn.erase n) (fun x hx => by
      have hm := (hn.mem_erase_iff).1 hx
      have := h x hm.2
      have := hm.1
      omega)
    by_cases hm : n ∈ L
    · have := List.length_erase_of_mem hm
      omega
    · rw [List.erase_of_not_mem hm] at h1
      omega
/-- Whether a number stands in a row, as a cell. -/
def fl (L : List Nat) (n : Nat) : List Value := (List.range n).map fun i => .bool (decide (i ∈ L))
theorem fl_length (L : List Nat) (n : Nat) : (fl L n).length = n := by simp [fl]
theorem fl_at (L : List Nat) (n i : Nat) (h : i < n) : (fl L n)[i]? = some (.bool (decide (i ∈ L))) := by simp [fl, h]
/-- A row of numbers in memory: the numbers in order, each at most once, and of each number whether it stands there. -/
def FAt (w : World) (b R I n : Nat) (L : List Nat) : Prop :=
  (1 ≤ n ∧ n ≤ 1024 ∧ b ≠ R ∧ b ≠ I ∧ R ≠ I) ∧ L.Nodup ∧ (∀ x ∈ L, x < n) ∧ Blk w b [.slice (some ⟨R, 0, none⟩) L.length n, .slice (some ⟨I, 0, none⟩) n n] 72 ∧
  (∃ rest : List Value, L.length + rest.length = n ∧ Blk w R (L.map iv ++ rest) 3) ∧ Blk w I (fl L n) 4
theorem FAt.chg {w w' : World} {b R I n : Nat} {L : List Nat} (h : FAt w b R I n L) {l : List Nat} (k : Chg l w w') (hb : b ∉ l) (hR : R ∉ l) (hI : I ∉ l) : FAt w' b R I n L := by
  obtain ⟨h1, h2, h3, h4, ⟨rest, h5, h6⟩, h7⟩ := h
  exact ⟨h1, h2, h3, h4.chg k hb, ⟨rest, h5, h6.chg k hR⟩, h7.chg k hI⟩
theorem FAt.fresh {w w' : World} {b R I n : Nat} {L : List Nat} (h : FAt w b R I n L) (k : Below w.heap.size w w') : FAt w' b R I n L := h.chg (Chg.of_fresh k (l := [])) (by simp) (by simp) (by simp)
theorem FAt.drewN {w : World} {b R I n : Nat} {L : List Nat} (h : FAt w b R I n L) (q : Nat) : FAt (w.drewN q) b R I n L := h
theorem FAt.lts {w : World} {b R I n : Nat} {L : List Nat} (h : FAt w b R I n L) : b < w.heap.size ∧ R < w.heap.size ∧ I < w.heap.size := by
  obtain ⟨h1, h2, h3, h4, ⟨rest, h5, h6⟩, h7⟩ := h
  exact ⟨h4.lt, h6.lt, h7.lt⟩
theorem FAt.len {w : World} {b R I n : Nat} {L : List Nat} (h : FAt w b R I n L) : L.length ≤ n := nodup_le n L h.2.1 h.2.2.1
theorem FAt.row {w : World} {b R I n : Nat} {L : List Nat} (h : FAt w b R I n L) (j : Nat) (hj : j < L.length) : w.cell? ⟨R, j, none⟩ = some (.int .i64 (L[j] : Int)) := by
  obtain ⟨h1, h2, h3, h4, ⟨rest, h5, h6⟩, h7⟩ := h
  refine h6.cell ?_
  rw [List.getElem?_append_left (by simpa using hj), List.getElem?_map, List.getElem?_eq_getElem hj]
  rfl
theorem FAt.flag {w : World} {b R I n : Nat} {L : List Nat} (h : FAt w b R I n L) (j : Nat) (hj : j < n) : w.cell? ⟨I, j, none⟩ = some (.bool (decide (j ∈ L))) := h.2.2.2.2.2.cell (fl_at L n j hj)
theorem len_any (b R I n : Nat) (L : List Nat) (w : World) (h : FAt w b R I n L) :
    Calls Try.prog 55 #[.pointer (some ⟨b, 0, none⟩)] w fun e w' => e = .returned (.int .i64 L.length) ∧ w = w' := by
  have c0 := h.2.2.2.1.cell (i := 0) rfl
  clear h
  go_enter Try.func55, Try.ntmps55
  go_wp2
  go_ret
  exact ⟨rfl, rfl⟩
theorem most_any (b R I n : Nat) (L : List Nat) (w : World) (h : FAt w b R I n L) :
    Calls Try.prog 48 #[.pointer (some ⟨b, 0, none⟩)] w fun e w' => e = .returned (.int .i64 n) ∧ w = w' := by
  have c0 := h.2.2.2.1.cell (i := 1) rfl
  clear h
  go_enter Try.func48, Try.ntmps48
  go_wp2
  go_ret
  exact ⟨rfl, rfl⟩
/-- A number that came in, looked for in a row. -/
def isIn (L : List Nat) (id : Int) : Bool := decide (0 ≤ id ∧ id.toNat ∈ L)
theorem isIn_nat (L : List Nat) (x : Nat) : isIn L (x : Int) = decide (x ∈ L) := by simp [isIn]
set_option maxHeartbeats 600000 in
theorem has_any (b R I n : Nat) (L : List Nat) (id : Int) (w : World) (h : FAt w b R I n L) :
    Calls Try.prog 45 #[.pointer (some ⟨b, 0, none⟩), .int .i64 id] w fun e w' => e = .returned (.bool (isIn L id)) ∧ ∃ q, w' = w.drewN q := by
  have HF := Lib.hid h
  have hn := h.1
  have h3 := h.2.2.1
  by_cases a1 : id < 0
  · have HV : Hid (false = isIn L id) := by unfold isIn; rw [Hid]; simp; omega
    go_enter Try.func45, Try.ntmps45
    go_wp2_with (go_at_call 48; refine (most_any _ _ _ _ _ _ HF.out).mono ?_; rintro e w' ⟨rfl, rfl⟩)
    go_ret
    exact ⟨ret_b HV.out, 0, rfl⟩
  · obtain ⟨x, rfl⟩ : ∃ x : Nat, id = (x : Int) := ⟨id.toNat, by omega⟩
    by_cases a2 : (n : Int) ≤ (x : Int)
    · have HV : Hid (false = isIn L x) := by
        rw [Hid, isIn_nat]
        have : ¬ x ∈ L := fun hm => by have := h3 x hm; omega
        simp [this]
      go_enter Try.func45, Try.ntmps45
      go_wp2_with (go_at_call 48; refine (most_any _ _ _ _ _ _ HF.out).mono ?_; rintro e w' ⟨rfl, rfl⟩)
      go_ret
      exact ⟨ret_b HV.out, 0, rfl⟩
    · rw [isIn_nat]
      obtain ⟨bo, hbo⟩ : ∃ bo, decide (x ∈ L) = bo := ⟨_, rfl⟩
      have c1 := h.2.2.2.1.cell (i := 1) rfl
      have c2 := h.flag x (by omega)
      rw [hbo] at c2 ⊢
      have i0 : (0 : Int) ≤ (x : Int) := by omega
      have i1 : (x : Int) < (n : Int) := by omega
      clear h h3 a1 hbo
      go_enter Try.func45, Try.ntmps45
      go_wp2_with (go_at_call 48; refine (most_any _ _ _ _ _ _ HF.out).mono ?_; rintro e w' ⟨rfl, rfl⟩)
      go_ret
      exact ⟨rfl, 0, rfl⟩
/-- The place of a number, -1 if it isn't there. -/
def plc (L : List Nat) (id : Int) : Int := if isIn L id then (L.idxOf id.toNat : Int) else -1
set_option maxHeartbeats 1000000 in
theorem index_any (b R I n : Nat) (L : List Nat) (x : Nat) (c : Nat) (w : World) (h : FAt w b R I n L) (hx : x ∈ L) :
    Calls Try.prog 56 #[.slice (some ⟨R, 0, none⟩) L.length c, .int .i64 x] w fun e w' => e = .returned (.int .i64 (L.idxOf x : Int)) ∧ w = w' := by
  have hl := h.len
  have hn := h.1
  have HF := Lib.hid h
  clear h
  go_enter Try.func56, Try.ntmps56
  go_wp2
  go_loop [8] (fun i => ∃ k : Nat, i = .int .i64 k ∧ k ≤ L.idxOf x) (fun i => L.length - (intOf i).toNat)
  case atStart => exact ⟨0, rfl, by omega⟩
  case round =>
    obtain ⟨k, rfl, hk⟩ := hrel
    have hxl := List.idxOf_lt_length_of_mem hx
    have hkl : k < L.length := by omega
    have i1 : (k : Int) < (L.length : Int) := by omega
    have i0 : (0 : Int) ≤ (k : Int) := by omega
    obtain ⟨y, hy⟩ : ∃ y, L[k] = y := ⟨_, rfl⟩
    have c0 := HF.out.row k hkl
    rw [hy] at c0
    by_cases e : k = L.idxOf x
    · have hyx : y = x := by
        subst e
        rw [← hy]
        simp
      subst hyx
      have HE : Hid ((k : Int) = (L.idxOf y : Int)) := by rw [Hid, ← e]
      clear hk hxl e hy
      go_wp2
      go_ret
      exact ⟨ret_i64 HE.out, rfl⟩
    · have hne : ((x : Int) == (y : Int)) = false := by
        have := List.not_of_lt_findIdx (p := (· == x)) (xs := L) (show k < L.idxOf x by omega)
        have h2 : y ≠ x := by rw [← hy]; simpa using this
        simp
        omega
      have hk2 : k + 1 ≤ L.idxOf x := by omega
      clear hy
      go_wp2
      go_round
      case rel => exact ⟨k + 1, by go_num, hk2⟩
      case measure => simp [intOf]; omega
theorem place_any (b R I n : Nat) (L : List Nat) (id : Int) (w : World) (h : FAt w b R I n L) :
    Calls Try.prog 52 #[.pointer (some ⟨b, 0, none⟩), .int .i64 id] w fun e w' => e = .returned (.int .i64 (plc L id)) ∧ ∃ q, w' = w.drewN q := by
  have HF := Lib.hid h
  unfold plc
  by_cases hi : isIn L id = true
  · rw [if_pos hi]
    have hx : 0 ≤ id ∧ id.toNat ∈ L := by simpa [isIn] using hi
    obtain ⟨x, rfl⟩ : ∃ x : Nat, id = (x : Int) := ⟨id.toNat, by omega⟩
    rw [Int.toNat_natCast] at hx ⊢
    have hi2 : isIn L x = true := hi
    clear h hi
    go_enter Try.func52, Try.ntmps52
    go_wp2_with (go_at_call 45; refine (has_any _ _ _ _ _ _ _ HF.out).mono ?_; rintro e w' ⟨rfl, q, rfl⟩; rw [hi2]; have c0 := (HF.out.drewN q).2.2.2.1.cell (i := 0) rfl)
    refine (index_any b R I n L x n _ (HF.out.drewN q) hx.2).mono ?_
    rintro e w' ⟨rfl, rfl⟩
    go_wp2
    go_ret
    exact ⟨rfl, _, rfl⟩
  · have hi2 : isIn L id = false := by simpa using hi
    rw [if_neg hi]
    clear h hi
    go_enter Try.func52, Try.ntmps52
    go_wp2_with (go_at_call 45; refine (has_any _ _ _ _ _ _ _ HF.out).mono ?_; rintro e w' ⟨rfl, q, rfl⟩; rw [hi2])
    go_ret
    exact ⟨rfl, _, rfl⟩
theorem front_none (b R I n : Nat) (w : World) (h : FAt w b R I n []) :
    Calls Try.prog 50 #[.pointer (some ⟨b, 0, none⟩)] w fun e w' => e = .returned (.tuple #[.int .i64 0, .bool false]) ∧ w = w' := by
  have HF := Lib.hid h
  clear h
  go_enter Try.func50, Try.ntmps50
  go_wp2_with (go_at_call 55; refine (len_any _ _ _ _ _ _ HF.out).mono ?_; rintro e w' ⟨rfl, rfl⟩)
  go_ret2
  exact ⟨rfl, rfl⟩
theorem front_some (b R I n x : Nat) (L : List Nat) (w : World) (h : FAt w b R I n (x :: L)) :
    Calls Try.prog 50 #[.pointer (some ⟨b, 0, none⟩)] w fun e w' => e = .returned (.tuple #[.int .i64 x, .bool true]) ∧ ∃ q, w' = w.drewN q := by
  have HF := Lib.hid h
  have c0 : w.cell? ⟨b, 0, none⟩ = some (.slice (some ⟨R, 0, none⟩) (x :: L).length n) := h.2.2.2.1.cell (i := 0) rfl
  have c1 : w.cell? ⟨R, 0, none⟩ = some (.int .i64 x) := h.row 0 (by simp)
  obtain ⟨m, hm⟩ : ∃ m, (x :: L).length = m := ⟨_, rfl⟩
  have hm0 : 0 < m := by rw [← hm]; simp
  have i1 : (0 : Int) < (m : Int) := by omega
  have i2 : ((m : Int) == 0) = false := by simp; omega
  have i3 : ¬ m = 0 := by omega
  rw [hm] at c0
  have HM := Lib.hid hm
  clear h hm
  go_enter Try.func50, Try.ntmps50
  go_wp2_with (go_at_call 55; refine (len_any _ _ _ _ _ _ HF.out).mono ?_; rintro e w' ⟨rfl, rfl⟩; rw [HM.out])
  go_ret2
  exact ⟨rfl, 0, rfl⟩
end Go.Proofs.Yticdpcbmnahenaa
