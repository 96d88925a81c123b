/- The document's own answers of layer 4: lists of numbers: Find, Same, Cut, Push. -/
import Derived.Test.YticdpcbmnahenaaFifo3
import Derived.Test.YticdpcbmnahenaaRw
import Derived.BigQuiet
import Derived.Deep.QuietTactic
namespace Go.Proofs.Yticdpcbmnahenaa
open Go.ChangeShapes Go.WideShapes Go.ChangeAt Go.RowKit
set_option linter.unusedSimpArgs false
set_option linter.unusedVariables false

/-- The list L stands in block g, from place o on. -/
def LAt (w : World) (g o : Nat) (L : List Nat) : Prop := g < w.heap.size ∧ ∀ j (h : j < L.length), w.cell? ⟨g, o + j, none⟩ = some (.int .i64 ((L[j] : Nat) : Int))
theorem LAt.drewN {w : World} {g o : Nat} {L : List Nat} (h : LAt w g o L) (q : Nat) : LAt (w.drewN q) g o L := by
  refine ⟨by simpa using h.1, fun j hj => by simpa using h.2 j hj⟩
theorem LAt.chg {w w' : World} {g o : Nat} {L : List Nat} (h : LAt w g o L) {l : List Nat} (k : Chg l w w') (hg : g ∉ l) : LAt w' g o L :=
  ⟨Nat.lt_of_lt_of_le h.1 k.size, fun j hj => by rw [k.cell (p := ⟨g, o + j, none⟩) h.1 hg]; exact h.2 j hj⟩
theorem LAt.below {w w' : World} {g o B : Nat} {L : List Nat} (h : LAt w g o L) (k : Below B w w') (hg : g < B) : LAt w' g o L :=
  ⟨Nat.lt_of_lt_of_le h.1 k.size, fun j hj => by rw [k.cell (p := ⟨g, o + j, none⟩) hg]; exact h.2 j hj⟩
theorem LAt.of_rw {w : World} {g cap : Nat} {L : List Nat} {T : TypeId} (h : Rw w g cap (L.map iv) T) : LAt w g 0 L :=
  ⟨h.lt, fun j hj => by rw [Nat.zero_add]; exact h.cell (by rw [List.getElem?_map, List.getElem?_eq_getElem hj]; rfl)⟩
theorem LAt.tail {w : World} {g o : Nat} {x : Nat} {L : List Nat} (h : LAt w g o (x :: L)) : LAt w g (o + 1) L :=
  ⟨h.1, fun j hj => by have := h.2 (j + 1) (by simp; omega); rw [Nat.add_assoc, Nat.add_comm 1]; simpa using this⟩
set_option maxHeartbeats 1000000 in
theorem same_true (g1 o1 c1 g2 o2 c2 : Nat) (L : List Nat) (w : World) (hl : L.length ≤ 1000000) (h1 : LAt w g1 o1 L) (h2 : LAt w g2 o2 L) :
    Calls Try.prog 42 #[.slice (some ⟨g1, o1, none⟩) L.length c1, .slice (some ⟨g2, o2, none⟩) L.length c2] w fun e w' => e = .returned (.bool true) ∧ ∃ q, w' = w.drewN q := by
  obtain ⟨n, hn⟩ : ∃ n, L.length = n := ⟨_, rfl⟩
  have H1 := Lib.hid h1
  have H2 := Lib.hid h2
  rw [hn]
  rw [hn] at hl
  have HN := Lib.hid hn
  clear h1 h2 hn
  go_enter Try.func42, Try.ntmps42
  go_wp2
  go_loopw [5] (fun i wr => ∃ k q : Nat, i = .int .i64 k ∧ k ≤ n ∧ wr = w.drewN q) (fun i _ => n - (intOf i).toNat)
  case atStart => exact ⟨0, 0, rfl, by omega, rfl⟩
  case round =>
    obtain ⟨k, q, rfl, hk, rfl⟩ := hrel
    by_cases hkn : k < n
    · have i1 : (k : Int) < (n : Int) := by omega
      have i0 : (0 : Int) ≤ (k : Int) := by omega
      obtain ⟨y, hy⟩ : ∃ y, L[k]'(by rw [HN.out]; exact hkn) = y := ⟨_, rfl⟩
      have d1 := H1.out.2 k (by rw [HN.out]; exact hkn)
      have d2 := H2.out.2 k (by rw [HN.out]; exact hkn)
      rw [hy] at d1 d2
      clear hy
      go_wp2_with fail
      go_quiet (fail)
      go_wp2
      go_roundw
      case rel => exact ⟨k + 1, q + nq, by go_num, by omega, by simp [World.drewN_drewN]⟩
      case measure => simp [intOf]; omega
    · have i1 : ¬ (k : Int) < (n : Int) := by omega
      go_wp2
      go_ret
      exact ⟨rfl, _, rfl⟩
end Go.Proofs.Yticdpcbmnahenaa
