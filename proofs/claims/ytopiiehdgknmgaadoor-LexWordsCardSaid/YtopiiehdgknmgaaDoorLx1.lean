/- Lex: the word with which a text begins. -/
import Derived.Test.YtopiiehdgknmgaaDoorQt4
import Derived.Test.YtopiiehdgknmgaaDoorQtR4
import Derived.Test.YtopiiehdgknmgaaDoorRm
namespace Go.Proofs.YtopiiehdgknmgaaDoor
open Go.ChangeShapes Go.WideShapes Go.ChangeAt Go.RowKit
set_option linter.unusedSimpArgs false
set_option linter.unusedVariables false

theorem size_full {G : ByteArray} (h : 0 < G.size) : G.toList.isEmpty = false := by
  rw [Lib.toList_data]
  cases hl : G.data.toList with
  | nil =>
    have h2 : G.data.toList.length = G.size := by simp
    rw [hl] at h2; simp at h2; omega
  | cons a r => rfl
def mkT (l : List UInt8) : ByteArray := ⟨l.toArray⟩
theorem mkT_list (l : List UInt8) : (mkT l).data.toList = l := by simp [mkT]
theorem mkT_eq {s : ByteArray} {l : List UInt8} (h : s.data.toList = l) : s = mkT l := by
  subst h; simp [mkT]
theorem mkT_size (l : List UInt8) : (mkT l).size = l.length := by rw [size_of (mkT_list l)]
theorem eqT {s t : ByteArray} (h : s.data.toList = t.data.toList) : s = t := by rw [mkT_eq h, ← mkT_eq rfl]
/-- May the byte stand in a word without quotes? -/
def Lx.bare (b : UInt8) : Bool := decide (32 < b.toNat) && decide (b.toNat < 127) && !(b.toNat == 34) && !(b.toNat == 92)
/-- How many such bytes come first. -/
def Lx.run (l : List UInt8) : Nat := (l.takeWhile Lx.bare).length
theorem lxrun_le (l : List UInt8) : Lx.run l ≤ l.length := (List.takeWhile_prefix _).length_le
theorem lxrun_stop (l : List UInt8) (k : Nat) (hk : k ≤ l.length) (h1 : ∀ j b, j < k → l[j]? = some b → Lx.bare b = true) (h2 : ∀ b, l[k]? = some b → Lx.bare b = false) : Lx.run l = k := by
  unfold Lx.run
  induction l generalizing k with
  | nil => simp at hk; simp [hk]
  | cons a r ih =>
    cases k with
    | zero =>
      have := h2 a rfl
      rw [List.takeWhile_cons_of_neg (by rw [this]; simp)]; rfl
    | succ k =>
      have := h1 0 a (by omega) rfl
      rw [List.takeWhile_cons_of_pos this, List.length_cons, ih k (by simpa using hk) (fun j b hj hb => h1 (j + 1) b (by omega) (by simpa using hb)) (fun b hb => h2 b (by simpa using hb))]
/-- The word with which a text begins: its text, whether it stands in quotes, how many bytes it takes, what is wrong. -/
def Lx.read (l : List UInt8) : List UInt8 × Bool × Nat × Int := match l with
  | [] => ([], false, 0, 3)
  | c :: _ => if c = 34 then ((Qt.read l).1, true, (Qt.read l).2.1, (Qt.read l).2.2) else if Lx.run l = 0 then ([], false, 0, 2) else (l.take (Lx.run l), false, Lx.run l, 0)
/-- A word as a value. -/
def wvv (t : ByteArray) (q : Bool) (k : Int) : Value := .agg #[.string t, .bool q, .int .i64 k]
/-- Three cells of a word. -/
def WB (T : TypeId) (w : World) (B : Nat) (t : ByteArray) (q : Bool) (k : Int) : Prop := Blk w B [.string t, .bool q, .int .i64 k] T
theorem WB.res {T : TypeId} {w W : World} {R : Nat} {t0 : ByteArray} {q0 : Bool} {k0 : Int} (h : WB T W R t0 q0 k0) (b : Below w.heap.size w W) (hR : w.heap.size ≤ R) (t : ByteArray) (q : Bool) (k : Int) : WB T (((W.setCell ⟨R, 0, none⟩ (.string t)).setCell ⟨R, 1, none⟩ (.bool q)).setCell ⟨R, 2, none⟩ (.int .i64 k)) R t q k ∧ Below w.heap.size w (((W.setCell ⟨R, 0, none⟩ (.string t)).setCell ⟨R, 1, none⟩ (.bool q)).setCell ⟨R, 2, none⟩ (.int .i64 k)) :=
  ⟨((Blk.set h 0 (.string t)).set 1 (.bool q)).set 2 (.int .i64 k), ((b.setCell (p := ⟨R, 0, none⟩) hR _).setCell (p := ⟨R, 1, none⟩) hR _).setCell (p := ⟨R, 2, none⟩) hR _⟩
theorem WB.c0 {T : TypeId} {w : World} {R : Nat} {t : ByteArray} {q : Bool} {k : Int} (h : WB T w R t q k) : w.cell? ⟨R, 0, none⟩ = some (.string t) := Blk.cell h (i := 0) rfl
theorem WB.c1 {T : TypeId} {w : World} {R : Nat} {t : ByteArray} {q : Bool} {k : Int} (h : WB T w R t q k) : w.cell? ⟨R, 1, none⟩ = some (.bool q) := Blk.cell h (i := 1) rfl
theorem WB.c2 {T : TypeId} {w : World} {R : Nat} {t : ByteArray} {q : Bool} {k : Int} (h : WB T w R t q k) : w.cell? ⟨R, 2, none⟩ = some (.int .i64 k) := Blk.cell h (i := 2) rfl
theorem WB.f {T : TypeId} {w : World} {R : Nat} {t : ByteArray} {q : Bool} {k : Int} (h : WB T w R t q k) (i : Nat) : w.frozen? ⟨R, i, none⟩ = false := Blk.free h i
theorem WB.below {T : TypeId} {w W : World} {R : Nat} {t : ByteArray} {q : Bool} {k : Int} (h : WB T w R t q k) (b : Below w.heap.size w W) : WB T W R t q k := Blk.chg h (Chg.of_fresh (l := []) b) (by simp)
set_option maxRecDepth 20000 in
theorem lx_bare (b : UInt8) (r : Bool) (hr : Lx.bare b = r) (x : Int) (hx : (b.toNat : Int) = x) (w : World) : Calls Tryd.prog 25 #[.int .u8 x] w fun e w' => e = .returned (.bool r) ∧ Below w.heap.size w w' := by
  obtain ⟨n, hn⟩ : ∃ n, b.toNat = n := ⟨_, rfl⟩
  have hr2 : r = (decide (32 < n) && decide (n < 127) && !(n == 34) && !(n == 92)) := by rw [← hr]; unfold Lx.bare; rw [hn]
  have HR := Lib.hid hr2
  obtain rfl : x = (n : Int) := by rw [← hx, hn]
  clear hr hr2 hn hx
  by_cases a1 : 32 < n
  · have i1 : (32 : Int) < (n : Int) := by omega
    by_cases a2 : n < 127
    · have i2 : (n : Int) < 127 := by omega
      by_cases a3 : n = 34
      · subst a3
        obtain rfl : r = false := by rw [HR.out]; simp; try omega
        go_enter Tryd.func25, Tryd.ntmps25
        go_wp2
        go_ret
        exact ⟨by first | rfl | simp [*], Below.refl _ _⟩
      · have i3 : ¬ (n : Int) = 34 := by omega
        have i3' : ((n : Int) == 34) = false := by rw [beq_eq_false_iff_ne]; exact i3
        have i3q : ((n : Int) != 34) = true := by rw [bne, i3']; rfl
        by_cases a4 : n = 92
        · subst a4
          obtain rfl : r = false := by rw [HR.out]; simp; try omega
          go_enter Tryd.func25, Tryd.ntmps25
          go_wp2
          go_ret
          exact ⟨by first | rfl | simp [*], Below.refl _ _⟩
        · have i4 : ¬ (n : Int) = 92 := by omega
          have i4' : ((n : Int) == 92) = false := by rw [beq_eq_false_iff_ne]; exact i4
          have i4q : ((n : Int) != 92) = true := by rw [bne, i4']; rfl
          obtain rfl : r = true := by rw [HR.out]; simp; try omega
          go_enter Tryd.func25, Tryd.ntmps25
          go_wp2
          go_ret
          exact ⟨by first | rfl | simp [*], Below.refl _ _⟩
    · have i2 : ¬ (n : Int) < 127 := by omega
      obtain rfl : r = false := by rw [HR.out]; simp; try omega
      go_enter Tryd.func25, Tryd.ntmps25
      go_wp2
      go_ret
      exact ⟨by first | rfl | simp [*], Below.refl _ _⟩
  · have i1 : ¬ (32 : Int) < (n : Int) := by omega
    obtain rfl : r = false := by rw [HR.out]; simp; try omega
    go_enter Tryd.func25, Tryd.ntmps25
    go_wp2
    go_ret
    exact ⟨by first | rfl | simp [*], Below.refl _ _⟩
set_option maxRecDepth 20000 in
theorem rx_plain (b : UInt8) (r : Bool) (hr : Lx.bare b = r) (x : Int) (hx : (b.toNat : Int) = x) (w : World) : Calls Tryd.prog 27 #[.int .u8 x] w fun e w' => e = .returned (.bool r) ∧ Below w.heap.size w w' := by
  obtain ⟨n, hn⟩ : ∃ n, b.toNat = n := ⟨_, rfl⟩
  have hr2 : r = (decide (32 < n) && decide (n < 127) && !(n == 34) && !(n == 92)) := by rw [← hr]; unfold Lx.bare; rw [hn]
  have HR := Lib.hid hr2
  obtain rfl : x = (n : Int) := by rw [← hx, hn]
  clear hr hr2 hn hx
  by_cases a1 : 32 < n
  · have i1 : (32 : Int) < (n : Int) := by omega
    by_cases a2 : n < 127
    · have i2 : (n : Int) < 127 := by omega
      by_cases a3 : n = 34
      · subst a3
        obtain rfl : r = false := by rw [HR.out]; simp; try omega
        go_enter Tryd.func27, Tryd.ntmps27
        go_wp2
        go_ret
        exact ⟨by first | rfl | simp [*], Below.refl _ _⟩
      · have i3 : ¬ (n : Int) = 34 := by omega
        have i3' : ((n : Int) == 34) = false := by rw [beq_eq_false_iff_ne]; exact i3
        have i3q : ((n : Int) != 34) = true := by rw [bne, i3']; rfl
        by_cases a4 : n = 92
        · subst a4
          obtain rfl : r = false := by rw [HR.out]; simp; try omega
          go_enter Tryd.func27, Tryd.ntmps27
          go_wp2
          go_ret
          exact ⟨by first | rfl | simp [*], Below.refl _ _⟩
        · have i4 : ¬ (n : Int) = 92 := by omega
          have i4' : ((n : Int) == 92) = false := by rw [beq_eq_false_iff_ne]; exact i4
          have i4q : ((n : Int) != 92) = true := by rw [bne, i4']; rfl
          obtain rfl : r = true := by rw [HR.out]; simp; try omega
          go_enter Tryd.func27, Tryd.ntmps27
          go_wp2
          go_ret
          exact ⟨by first | rfl | simp [*], Below.refl _ _⟩
    · have i2 : ¬ (n : Int) < 127 := by omega
      obtain rfl : r = false := by rw [HR.out]; simp; try omega
      go_enter Tryd.func27, Tryd.ntmps27
      go_wp2
      go_ret
      exact ⟨by first | rfl | simp [*], Below.refl _ _⟩
  · have i1 : ¬ (32 : Int) < (n : Int) := by omega
    obtain rfl : r = false := by rw [HR.out]; simp; try omega
    go_enter Tryd.func27, Tryd.ntmps27
    go_wp2
    go_ret
    exact ⟨by first | rfl | simp [*], Below.refl _ _⟩
end Go.Proofs.YtopiiehdgknmgaaDoor
