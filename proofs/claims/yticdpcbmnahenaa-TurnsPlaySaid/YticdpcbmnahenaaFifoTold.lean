/- What 'told' and the document's own Push come to (layer 4). -/
import Derived.Test.YticdpcbmnahenaaFifoRef2
namespace Go.Proofs.Yticdpcbmnahenaa
open Go.ChangeShapes Go.WideShapes Go.ChangeAt Go.RowKit
set_option linter.unusedSimpArgs false
set_option linter.unusedVariables false

theorem plc_in {L : List Nat} {id : Int} (h : isIn L id = true) : 0 ≤ plc L id := by unfold plc; rw [h]; simp
theorem plc_out {L : List Nat} {id : Int} (h : isIn L id = false) : plc L id = -1 := by unfold plc; rw [h]; rfl
set_option maxHeartbeats 1000000 in
theorem pushl_no (g o c n : Nat) (L : List Nat) (id : Int) (w : World) (hl : L.length ≤ 100000) (h : LAt w g o L) (hi : id < 0 ∨ (n : Int) ≤ id ∨ isIn L id = true) :
    Calls Try.prog 30 #[.slice (some ⟨g, o, none⟩) L.length c, .int .i64 n, .int .i64 id] w fun e w' => e = .returned (.tuple #[.slice (some ⟨g, o, none⟩) L.length c, .bool false]) ∧ w = w' := by
  have H := Lib.hid h
  by_cases a1 : id < 0
  · clear h hi
    go_enter Try.func30, Try.ntmps30
    go_wp2
    go_ret2
    exact ⟨rfl, rfl⟩
  · by_cases a2 : (n : Int) ≤ id
    · clear h hi
      go_enter Try.func30, Try.ntmps30
      go_wp2
      go_ret2
      exact ⟨rfl, rfl⟩
    · have hin : isIn L id = true := by
        rcases hi with hi | hi | hi
        · omega
        · omega
        · exact hi
      have hp := plc_in hin
      obtain ⟨p, hpp⟩ : ∃ p, plc L id = p := ⟨_, rfl⟩
      rw [hpp] at hp
      have HP := Lib.hid hpp
      clear h hi hin hpp
      go_enter Try.func30, Try.ntmps30
      go_wp2_with (go_at_call 47; refine (find_any g o c L id _ (by omega) H.out).mono ?_; rintro e w' ⟨rfl, rfl⟩; rw [HP.out])
      go_ret2
      exact ⟨rfl, rfl⟩
set_option maxRecDepth 20000 in
set_option maxHeartbeats 2000000 in
theorem pushl_yes (g o c n x : Nat) (L : List Nat) (w : World) (hl : L.length ≤ 100000) (h : LAt w g o L) (hxn : x < n) (hx : ¬ x ∈ L) :
    Calls Try.prog 30 #[.slice (some ⟨g, o, none⟩) L.length c, .int .i64 n, .int .i64 x] w fun e w' => ∃ g' c', e = .returned (.tuple #[.slice (some ⟨g', 0, none⟩) (L.length + 1) c', .bool true]) ∧ Rw w' g' c' ((L ++ [x]).map iv) 3 ∧ w.heap.size ≤ g' ∧ Below w.heap.size w w' := by
  have H := Lib.hid h
  have hf : isIn L (x : Int) = false := by rw [isIn_nat]; simpa using hx
  have HP := Lib.hid (plc_out hf)
  have a1 : ¬ (x : Int) < 0 := by omega
  have a2 : ¬ (n : Int) ≤ (x : Int) := by omega
  clear h hf
  go_enter Try.func30, Try.ntmps30
  have HK : Hid (LAt (w.alloc (Obj.cells #[] 3)) g o L ∧ Rw (w.alloc (Obj.cells #[] 3)) w.heap.size 0 [] 3) := Lib.hid ⟨H.out.below ((Below.refl _ _).alloc (Nat.le_refl _) _) H.out.1, Rw.empty w 3⟩
  go_wp2_with (first
    | (go_at_call 47; refine (find_any g o c L x _ (by omega) H.out).mono ?_; rintro e w' ⟨rfl, rfl⟩; rw [HP.out])
    | (at_builtin; refine wpList_append_rw _ rfl (.tmp 22) (.tmp 23) 27 27 rfl 3 (.int .i64 0) 8 Try.underlying27 info3 rfl w.heap.size _ 0 [] rfl (by simp) HK.out.2 _ rfl L.length _ (Src.ofSlice _ Try.underlying27 ⟨g, o, none⟩ L.length c (L.map iv) (by simp) (LAt.src HK.out.1) (all_iv L)) (by omega) (by omega) ?_; intro g3 c3 w3 r1 r2 r3; rw [List.nil_append] at r1; have HR : Hid (Rw w3 g3 c3 (L.map iv) 3 ∧ w.heap.size ≤ g3 ∧ Below w.heap.size w w3) := Lib.hid (by
        rw [World.size_alloc] at r2
        exact ⟨r1, by omega, r3.onto ((Below.refl _ _).alloc (Nat.le_refl _) _) (by simp) (by simp)⟩); clear r1 r2 r3 HK)
    | (at_builtin; refine wpList_append_rw _ rfl (.tmp 24) (.tmp 26) 27 27 rfl 3 (.int .i64 0) 8 Try.underlying27 info3 rfl g3 _ c3 (L.map iv) rfl (by simp) (HR.out.1.chg ((Chg.refl [] _).alloc _) (by simp)) _ rfl 1 _ (Src.ofSlice _ Try.underlying27 ⟨_, 0, none⟩ 1 1 [iv x] rfl (one_cell _ _ _) (one_iv x)) (by omega) (by omega) ?_; intro g4 c4 w4 r1 r2 r3; rw [map_snoc] at r1; have HQ : Hid (Rw w4 g4 c4 ((L ++ [x]).map iv) 3 ∧ w.heap.size ≤ g4 ∧ Below w.heap.size w w4) := Lib.hid (by
        obtain ⟨q1, q2, q3⟩ := HR.out
        have hs := q3.size
        rw [World.size_alloc] at r2
        exact ⟨r1, by omega, r3.onto (q3.alloc hs _) (by simp; omega) (by simp; omega)⟩); clear r1 r2 r3 HR))
  go_ret2
  exact ⟨_, _, rfl, HQ.out⟩

theorem same_zero (g1 o1 c1 g2 o2 c2 : Nat) (L : List Nat) (hz : L.length = 0) (w : World) (h1 : LAt w g1 o1 L) (h2 : LAt w g2 o2 L) :
    Calls Try.prog 42 #[.slice (some ⟨g1, o1, none⟩) 0 c1, .slice (some ⟨g2, o2, none⟩) 0 c2] w fun e w' => e = .returned (.bool true) ∧ ∃ q, w' = w.drewN q := by
  have := same_true g1 o1 c1 g2 o2 c2 L w (by omega) h1 h2
  rwa [hz] at this
theorem find_zero (g o c : Nat) (L : List Nat) (hz : L.length = 0) (id : Int) (w : World) (h : LAt w g o L) :
    Calls Try.prog 47 #[.slice (some ⟨g, o, none⟩) 0 c, .int .i64 id] w fun e w' => e = .returned (.int .i64 (plc L id)) ∧ w = w' := by
  have := find_any g o c L id w (by omega) h
  rwa [hz] at this
theorem front_nil' (b R I n : Nat) (L : List Nat) (hL : L = []) (w : World) (h : FAt w b R I n L) :
    Calls Try.prog 50 #[.pointer (some ⟨b, 0, none⟩)] w fun e w' => e = .returned (.tuple #[.int .i64 0, .bool false]) ∧ w = w' := by
  subst hL; exact front_none b R I n w h
theorem front_cons (b R I n x : Nat) (Ls L : List Nat) (hL : L = x :: Ls) (w : World) (h : FAt w b R I n L) :
    Calls Try.prog 50 #[.pointer (some ⟨b, 0, none⟩)] w fun e w' => e = .returned (.tuple #[.int .i64 x, .bool true]) ∧ ∃ q, w' = w.drewN q := by
  subst hL; exact front_some b R I n x Ls w h
theorem LAt.first {w : World} {g o x : Nat} {L Ls : List Nat} (h : LAt w g o L) (hL : L = x :: Ls) : w.cell? ⟨g, o, none⟩ = some (.int .i64 (x : Int)) := by
  subst hL
  exact h.2 0 (by simp)
end Go.Proofs.Yticdpcbmnahenaa
