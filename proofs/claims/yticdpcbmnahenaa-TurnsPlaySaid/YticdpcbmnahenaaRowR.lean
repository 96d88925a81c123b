/- Rows of numbers by value, which may be nil: what the document's Find, Push and Cut of layer 4 tell of them. -/
import Derived.Test.YticdpcbmnahenaaFifoTold
namespace Go.Proofs.Yticdpcbmnahenaa
open Go.ChangeShapes Go.WideShapes Go.ChangeAt Go.RowKit
set_option linter.unusedSimpArgs false
set_option linter.unusedVariables false

/-- The row by value: nil, or numbers in memory, no lower than lo. -/
def LR (w : World) (lo : Nat) (r : Option Addr) (L : List Nat) (c : Nat) : Prop :=
  lo ≤ w.heap.size ∧ (L.length ≤ c ∧ c ≤ 9223372036854775807) ∧ ((r = none ∧ L = [] ∧ c = 0) ∨ ∃ g o, r = some ⟨g, o, none⟩ ∧ lo ≤ g ∧ LAt w g o L)
theorem LR.chg {w w' : World} {lo : Nat} {r : Option Addr} {L : List Nat} {c : Nat} (h : LR w lo r L c) {l : List Nat} (k : Chg l w w') (hl : ∀ x ∈ l, x < lo) : LR w' lo r L c := by
  obtain ⟨h1, h2, h3⟩ := h
  refine ⟨Nat.le_trans h1 k.size, h2, ?_⟩
  rcases h3 with h3 | ⟨g, o, e, h4, h5⟩
  · exact Or.inl h3
  · exact Or.inr ⟨g, o, e, h4, h5.chg k (fun hm => absurd (hl g hm) (by omega))⟩
theorem LR.fresh {w w' : World} {lo : Nat} {r : Option Addr} {L : List Nat} {c : Nat} (h : LR w lo r L c) (k : Below w.heap.size w w') : LR w' lo r L c := h.chg (Chg.of_fresh k (l := [])) (by simp)
theorem LR.down {w : World} {lo lo' : Nat} {r : Option Addr} {L : List Nat} {c : Nat} (h : LR w lo r L c) (hl : lo' ≤ lo) : LR w lo' r L c := by
  obtain ⟨h1, h2, h3⟩ := h
  refine ⟨by omega, h2, ?_⟩
  rcases h3 with h3 | ⟨g, o, e, h4, h5⟩
  · exact Or.inl h3
  · exact Or.inr ⟨g, o, e, by omega, h5⟩
theorem LR.of_rw {w : World} {g c lo : Nat} {L : List Nat} {T : TypeId} (h : Rw w g c (L.map iv) T) (hg : lo ≤ g) : LR w lo (some ⟨g, 0, none⟩) L c := by
  have h1 := h.lt
  have h2 := h.len
  obtain ⟨_, _, h3, _⟩ := id h
  exact ⟨by omega, ⟨by simpa using h2, h3⟩, Or.inr ⟨g, 0, rfl, hg, LAt.of_rw h⟩⟩
theorem LR.nil {w : World} {lo : Nat} (h : lo ≤ w.heap.size) : LR w lo none [] 0 := ⟨h, by simp, Or.inl ⟨rfl, rfl, rfl⟩⟩
theorem find_none (id : Int) (w : World) :
    Calls Try.prog 47 #[.slice none 0 0, .int .i64 id] w fun e w' => e = .returned (.int .i64 (-1)) ∧ w = w' := by
  go_enter Try.func47, Try.ntmps47
  go_wp2
  go_loop [5] (fun i => i = .int .i64 0) (fun i => 1)
  case atStart => rfl
  case round =>
    subst hrel
    go_wp2
    go_ret
    exact ⟨rfl, rfl⟩
theorem plc_nil (id : Int) : plc [] id = -1 := by unfold plc isIn; simp
theorem find_r (lo : Nat) (r : Option Addr) (L : List Nat) (c : Nat) (id : Int) (w : World) (hl : L.length ≤ 1000000) (h : LR w lo r L c) :
    Calls Try.prog 47 #[.slice r L.length c, .int .i64 id] w fun e w' => e = .returned (.int .i64 (plc L id)) ∧ w = w' := by
  rcases h.2.2 with ⟨rfl, rfl, rfl⟩ | ⟨g, o, rfl, h4, h5⟩
  · rw [plc_nil]
    exact find_none id w
  · exact find_any g o c L id w hl h5
theorem push_none_no (n : Nat) (id : Int) (w : World) (hi : id < 0 ∨ (n : Int) ≤ id) :
    Calls Try.prog 30 #[.slice none 0 0, .int .i64 n, .int .i64 id] w fun e w' => e = .returned (.tuple #[.slice none 0 0, .bool false]) ∧ w = w' := by
  by_cases a1 : id < 0
  · clear hi
    go_enter Try.func30, Try.ntmps30
    go_wp2
    go_ret2
    exact ⟨rfl, rfl⟩
  · have a2 : (n : Int) ≤ id := by omega
    clear hi
    go_enter Try.func30, Try.ntmps30
    go_wp2
    go_ret2
    exact ⟨rfl, rfl⟩
theorem push_r_no (lo : Nat) (r : Option Addr) (L : List Nat) (c n : Nat) (id : Int) (w : World) (hl : L.length ≤ 100000) (h : LR w lo r L c) (hi : id < 0 ∨ (n : Int) ≤ id ∨ isIn L id = true) :
    Calls Try.prog 30 #[.slice r L.length c, .int .i64 n, .int .i64 id] w fun e w' => e = .returned (.tuple #[.slice r L.length c, .bool false]) ∧ w = w' := by
  rcases h.2.2 with ⟨rfl, rfl, rfl⟩ | ⟨g, o, rfl, h4, h5⟩
  · exact push_none_no n id w (by
      rcases hi with h | h | h
      · exact Or.inl h
      · exact Or.inr h
      · simp [isIn] at h)
  · exact pushl_no g o c n L id w hl h5 hi
set_option maxRecDepth 20000 in
set_option maxHeartbeats 2000000 in
theorem push_none_yes (n x : Nat) (w : World) (hxn : x < n) :
    Calls Try.prog 30 #[.slice none 0 0, .int .i64 n, .int .i64 x] w fun e w' => ∃ g' c', e = .returned (.tuple #[.slice (some ⟨g', 0, none⟩) 1 c', .bool true]) ∧ Rw w' g' c' ([x].map iv) 3 ∧ w.heap.size ≤ g' ∧ Below w.heap.size w w' := by
  have a1 : ¬ (x : Int) < 0 := by omega
  have a2 : ¬ (n : Int) ≤ (x : Int) := by omega
  go_enter Try.func30, Try.ntmps30
  have HK : Hid (Rw (w.alloc (Obj.cells #[] 3)) w.heap.size 0 [] 3) := Lib.hid (Rw.empty w 3)
  go_wp2_with (first
    | (go_at_call 47; refine (find_none (x : Int) _).mono ?_; rintro e w' ⟨rfl, rfl⟩)
    | (at_builtin; refine wpList_append_rw _ rfl (.tmp 22) (.tmp 23) 27 27 rfl 3 (.int .i64 0) 8 Try.underlying27 info3 rfl w.heap.size _ 0 [] rfl (by simp) HK.out _ rfl 0 _ (Src.ofNil _ Try.underlying27 0) (by omega) (by omega) ?_; intro g3 c3 w3 r1 r2 r3; rw [List.nil_append] at r1; have HR : Hid (Rw w3 g3 c3 [] 3 ∧ w.heap.size ≤ g3 ∧ Below w.heap.size w w3) := Lib.hid (by
        rw [World.size_alloc] at r2
        exact ⟨r1, by omega, r3.onto ((Below.refl _ _).alloc (Nat.le_refl _) _) (by simp) (by simp)⟩); clear r1 r2 r3 HK)
    | (at_builtin; refine wpList_append_rw _ rfl (.tmp 24) (.tmp 26) 27 27 rfl 3 (.int .i64 0) 8 Try.underlying27 info3 rfl g3 _ c3 [] rfl (by simp) (HR.out.1.chg ((Chg.refl [] _).alloc _) (by simp)) _ rfl 1 _ (Src.ofSlice _ Try.underlying27 ⟨_, 0, none⟩ 1 1 [iv x] rfl (one_cell _ _ _) (one_iv x)) (by omega) (by omega) ?_; intro g4 c4 w4 r1 r2 r3; rw [List.nil_append] at r1; have HQ : Hid (Rw w4 g4 c4 [iv x] 3 ∧ w.heap.size ≤ g4 ∧ Below w.heap.size w w4) := Lib.hid (by
        obtain ⟨q1, q2, q3⟩ := HR.out
        have hs := q3.size
        rw [World.size_alloc] at r2
        exact ⟨r1, by omega, r3.onto (q3.alloc hs _) (by simp; omega) (by simp; omega)⟩); clear r1 r2 r3 HR))
  go_ret2
  exact ⟨_, _, rfl, HQ.out⟩
theorem push_r_yes (lo : Nat) (r : Option Addr) (L : List Nat) (c n x : Nat) (w : World) (hl : L.length ≤ 100000) (h : LR w lo r L c) (hxn : x < n) (hx : ¬ x ∈ L) :
    Calls Try.prog 30 #[.slice r L.length c, .int .i64 n, .int .i64 x] w fun e w' => ∃ g' c', e = .returned (.tuple #[.slice (some ⟨g', 0, none⟩) (L.length + 1) c', .bool true]) ∧ LR w' w.heap.size (some ⟨g', 0, none⟩) (L ++ [x]) c' ∧ Below w.heap.size w w' := by
  rcases h.2.2 with ⟨rfl, rfl, rfl⟩ | ⟨g, o, rfl, h4, h5⟩
  · exact (push_none_yes n x w hxn).mono fun e w' ⟨g', c', he, r1, r2, r3⟩ => ⟨g', c', he, LR.of_rw r1 r2, r3⟩
  · exact (pushl_yes g o c n x L w hl h5 hxn hx).mono fun e w' ⟨g', c', he, r1, r2, r3⟩ => ⟨g', c', he, LR.of_rw r1 r2, r3⟩
theorem cut_r (lo : Nat) (r : Option Addr) (L : List Nat) (c x : Nat) (w : World) (hl : L.length ≤ 100000) (h : LR w lo r L c) (hx : x ∈ L) (hn : L.Nodup) :
    Calls Try.prog 40 #[.slice r L.length c, .int .i64 x] w fun e w' => ∃ g' c', e = .returned (.slice (some ⟨g', 0, none⟩) (L.erase x).length c') ∧ LR w' w.heap.size (some ⟨g', 0, none⟩) (L.erase x) c' ∧ Below w.heap.size w w' := by
  rcases h.2.2 with ⟨rfl, rfl, rfl⟩ | ⟨g, o, rfl, h4, h5⟩
  · simp at hx
  · rw [← sans_nat L x hn]
    exact (cutl_any g o c L (x : Int) w hl h5).mono fun e w' ⟨g', c', he, r1, r2, r3⟩ => ⟨g', c', he, LR.of_rw r1 r2, r3⟩
end Go.Proofs.Yticdpcbmnahenaa
