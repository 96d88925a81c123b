/- Contracts of patterns as texts: whether a list is a pattern. -/
import Derived.Test.YtoniipmgkoogbaaGlA
namespace Go.Proofs.Ytoniipmgkoogbaa
open Go.ChangeShapes Go.WideShapes Go.ChangeAt Go.RowKit
set_option linter.unusedSimpArgs false
set_option linter.unusedVariables false

/-- Items at the head of a block. -/
def IL (w : World) (g : Nat) (l : List (Bool × BitVec 256)) : Prop := g < w.heap.size ∧ ∀ (i : Nat) (v : Value), (its l)[i]? = some v → w.cell? ⟨g, i, none⟩ = some v
theorem its_at : ∀ (l : List (Bool × BitVec 256)) (j : Nat) (x : Bool × BitVec 256), l[j]? = some x → (its l)[j * 5]? = some (.bool x.1) ∧ (its l)[j * 5 + 1]? = some (.int .u64 (Cs.wd x.2 0)) ∧ (its l)[j * 5 + 2]? = some (.int .u64 (Cs.wd x.2 1)) ∧ (its l)[j * 5 + 3]? = some (.int .u64 (Cs.wd x.2 2)) ∧ (its l)[j * 5 + 4]? = some (.int .u64 (Cs.wd x.2 3))
  | [], j, x, h => by simp at h
  | y :: l, 0, x, h => by
    simp at h; subst h
    exact ⟨rfl, rfl, rfl, rfl, rfl⟩
  | y :: l, j + 1, x, h => by
    have := its_at l j x (by simpa using h)
    rw [show (j + 1) * 5 = j * 5 + 5 by omega]
    exact this
theorem IL.cell {w : World} {g : Nat} {l : List (Bool × BitVec 256)} (h : IL w g l) {j : Nat} {x : Bool × BitVec 256} (hx : l[j]? = some x) : w.cell? ⟨g, j * 5, none⟩ = some (.bool x.1) ∧ w.cell? ⟨g, j * 5 + 1, none⟩ = some (.int .u64 (Cs.wd x.2 0)) ∧ w.cell? ⟨g, j * 5 + 2, none⟩ = some (.int .u64 (Cs.wd x.2 1)) ∧ w.cell? ⟨g, j * 5 + 3, none⟩ = some (.int .u64 (Cs.wd x.2 2)) ∧ w.cell? ⟨g, j * 5 + 4, none⟩ = some (.int .u64 (Cs.wd x.2 3)) := by
  obtain ⟨a, b, c, d, e⟩ := its_at l j x hx
  exact ⟨h.2 _ _ a, h.2 _ _ b, h.2 _ _ c, h.2 _ _ d, h.2 _ _ e⟩
theorem IL.below {w w' : World} {g : Nat} {l : List (Bool × BitVec 256)} (h : IL w g l) (k : Below w.heap.size w w') : IL w' g l :=
  ⟨Nat.lt_of_lt_of_le h.1 k.size, fun i v hi => by rw [k.cell (p := ⟨g, i, none⟩) h.1]; exact h.2 i v hi⟩
theorem IL.blk {w : World} {g : Nat} {l : List (Bool × BitVec 256)} {cs : List Value} {T : TypeId} (h : Blk w g cs T) (hc : ∀ (i : Nat) (v : Value), (its l)[i]? = some v → cs[i]? = some v) : IL w g l := ⟨h.lt, fun i v hi => h.cell (hc i v hi)⟩
/-- Items by value: none, or at the head of a block. -/
def LI (w : World) (a : Option Addr) (l : List (Bool × BitVec 256)) : Prop := l = [] ∨ ∃ g, a = some ⟨g, 0, none⟩ ∧ IL w g l
theorem LI.below {w w' : World} {a : Option Addr} {l : List (Bool × BitVec 256)} (h : LI w a l) (k : Below w.heap.size w w') : LI w' a l := by
  rcases h with h | ⟨g, h1, h2⟩
  · exact Or.inl h
  · exact Or.inr ⟨g, h1, h2.below k⟩
theorem LI.own {w : World} {base : Nat} {v : Value} {n : Nat} {l : List (Bool × BitVec 256)} (h : w.ownsRow base 69 5 v n (its l)) : ∃ a c, v = .slice a l.length c ∧ LI w a l := by
  have hl : l.length = n := by have := h.1; rw [its_length] at this; omega
  rcases h.2 with ⟨h1, h2⟩ | ⟨g, cap, cur, h1, h2, h3, h4, h5, h6, h7⟩
  · refine ⟨none, 0, by rw [h1, hl, h2], Or.inl (List.eq_nil_of_length_eq_zero (by omega))⟩
  · refine ⟨some ⟨g, 0, none⟩, cap, by rw [h1, hl], Or.inr ⟨g, rfl, (Array.getElem?_eq_some_iff.1 h3).1, fun i v hi => ?_⟩⟩
    have hb : Blk w g cur.toList 69 := by unfold Blk; exact h3
    refine hb.cell ?_
    have hlt : i < n * 5 := by
      have := (List.getElem?_eq_some_iff.1 hi).1
      rw [its_length] at this; omega
    rw [← h7, List.getElem?_take, if_pos hlt] at hi
    exact hi
def goodB (l : List (Bool × BitVec 256)) : Bool := decide (l.length ≤ 60) && l.all fun x => !(x.1 && decide (x.2 ≠ 0))
theorem goodB_ok {l : List (Bool × BitVec 256)} (h : goodB l = true) : okI l ∧ l.length ≤ 60 := by
  unfold goodB at h
  simp only [Bool.and_eq_true, decide_eq_true_eq, List.all_eq_true] at h
  refine ⟨fun x hx h1 => ?_, h.1⟩
  have := h.2 x hx
  rw [h1] at this
  simpa using this
theorem eqIn_zero (X : BitVec 256) (w : World) : (Op.equalIn 10000 67 (.agg #[.int .u64 (Cs.wd X 0), .int .u64 (Cs.wd X 1), .int .u64 (Cs.wd X 2), .int .u64 (Cs.wd X 3)]) (.agg #[.int .u64 0, .int .u64 0, .int .u64 0, .int .u64 0])).run Try.prog w = .ok (decide (X = 0)) w := eqIn_gen X 0 w
set_option maxRecDepth 20000 in
set_option maxHeartbeats 1000000 in
theorem gl_good (l : List (Bool × BitVec 256)) (b : Bool) (hb : goodB l = b) (a : Option Addr) (n c : Nat) (hn : l.length = n) (hn6 : n ≤ 1000000) (w : World) (h : LI w a l) :
    Calls Try.prog 36 #[.slice a n c] w fun e w' => e = .returned (.bool b) ∧ Below w.heap.size w w' := by
  have HG := Lib.hid (And.intro hb hn)
  by_cases h60 : 60 < n
  · obtain rfl : b = false := by rw [← hb]; unfold goodB; rw [hn]; simp; omega
    have h61 : (60 : Int) < (n : Int) := by omega
    clear hb hn
    go_enter Try.func36, Try.ntmps36
    go_wp2
    go_ret
    exact ⟨rfl, Below.refl _ _⟩
  · have h61 : ¬ (60 : Int) < (n : Int) := by omega
    have HL := Lib.hid h
    clear hb hn h
    have eqz := eqIn_zero
    go_enter Try.func36, Try.ntmps36
    go_wp2
    go_loopw [10] (fun i wr => ∃ k : Nat, i = .int .i64 k ∧ k ≤ n ∧ Hid ((l.take k).all (fun x => !(x.1 && decide (x.2 ≠ 0))) = true) ∧ Hid (LI wr a l ∧ Below w.heap.size w wr)) (fun i _ => n - (intOf i).toNat)
    case atStart => exact ⟨0, rfl, by omega, Lib.hid (by simp), Lib.hid ⟨HL.out, Below.refl _ _⟩⟩
    case round =>
      obtain ⟨k, rfl, hk, HK, HB⟩ := hrel
      have j0 : (0 : Int) ≤ (k : Int) := by omega
      by_cases hkl : k < n
      · obtain ⟨x, hx⟩ : ∃ x, l[k]? = some x := ⟨_, List.getElem?_eq_getElem (by rw [HG.out.2]; exact hkl)⟩
        rcases HB.out.1 with e | ⟨g, ha, HIL⟩
        · rw [e] at hx; simp at hx
        · subst ha
          obtain ⟨r, X⟩ := x
          have z0 := (HIL.cell hx).1
          have z1 := (HIL.cell hx).2.1
          have z2 := (HIL.cell hx).2.2.1
          have z3 := (HIL.cell hx).2.2.2.1
          have z4 := (HIL.cell hx).2.2.2.2
          have HX := Lib.hid hx
          have hd : Hid (Below w.heap.size w (wr.alloc (.cells #[.bool r, .int .u64 (Cs.wd X 0), .int .u64 (Cs.wd X 1), .int .u64 (Cs.wd X 2), .int .u64 (Cs.wd X 3)] 69)) ∧ IB (wr.alloc (.cells #[.bool r, .int .u64 (Cs.wd X 0), .int .u64 (Cs.wd X 1), .int .u64 (Cs.wd X 2), .int .u64 (Cs.wd X 3)] 69)) wr.heap.size r X ∧ LI (wr.alloc (.cells #[.bool r, .int .u64 (Cs.wd X 0), .int .u64 (Cs.wd X 1), .int .u64 (Cs.wd X 2), .int .u64 (Cs.wd X 3)] 69)) (some ⟨g, 0, none⟩) l) := Lib.hid ⟨HB.out.2.alloc HB.out.2.size _, IB.new wr r X, HB.out.1.below ((Below.refl _ _).alloc (Nat.le_refl _) _)⟩
          clear hx HIL
          go_upto_region 6 with fail
          clear z0 z1 z2 z3 z4
          revert hd
          generalize wr.alloc (.cells #[.bool r, .int .u64 (Cs.wd X 0), .int .u64 (Cs.wd X 1), .int .u64 (Cs.wd X 2), .int .u64 (Cs.wd X 3)] 69) = V
          generalize wr.heap.size = D
          intro hd
          have yb := Blk.cell hd.out.2.1 (i := 0) rfl
          have y0 := Blk.cell hd.out.2.1 (i := 1) rfl
          have y1 := Blk.cell hd.out.2.1 (i := 2) rfl
          have y2 := Blk.cell hd.out.2.1 (i := 3) rfl
          have y3 := Blk.cell hd.out.2.1 (i := 4) rfl
          cases r with
          | false =>
            have HK2 : Hid ((l.take (k + 1)).all (fun x => !(x.1 && decide (x.2 ≠ 0))) = true) := Lib.hid (by
              rw [List.take_add_one, HX.out, List.all_append, HK.out]; rfl)
            go_wp2
            refine ⟨?_, ?measure⟩
            case measure => simp [intOf]; omega
            first
              | exact ⟨k + 1, by go_num, by omega, HK2, Lib.hid ⟨hd.out.2.2, hd.out.1⟩⟩
              | ((repeat apply Exists.intro); exact ⟨⟨k + 1, by go_num, by omega, HK2, Lib.hid ⟨hd.out.2.2, hd.out.1⟩⟩, rfl⟩)
          | true =>
            by_cases hX : X = 0
            · have HK2 : Hid ((l.take (k + 1)).all (fun x => !(x.1 && decide (x.2 ≠ 0))) = true) := Lib.hid (by
                rw [List.take_add_one, HX.out, List.all_append, HK.out, hX]; rfl)
              have eq0 : decide (X = 0) = true := decide_eq_true hX
              have eqx : ∀ w, (Op.equalIn 10000 67 (.agg #[.int .u64 (Cs.wd X 0), .int .u64 (Cs.wd X 1), .int .u64 (Cs.wd X 2), .int .u64 (Cs.wd X 3)]) (.agg #[.int .u64 0, .int .u64 0, .int .u64 0, .int .u64 0])).run Try.prog w = .ok true w := fun w => by rw [eqz X w, eq0]
              clear eqz eq0 hX
              go_wp2
              refine ⟨?_, ?measure⟩
              case measure => simp [intOf]; omega
              first
                | exact ⟨k + 1, by go_num, by omega, HK2, Lib.hid ⟨hd.out.2.2, hd.out.1⟩⟩
                | ((repeat apply Exists.intro); exact ⟨⟨k + 1, by go_num, by omega, HK2, Lib.hid ⟨hd.out.2.2, hd.out.1⟩⟩, rfl⟩)
            · have eq0 : decide (X = 0) = false := decide_eq_false hX
              have eqx : ∀ w, (Op.equalIn 10000 67 (.agg #[.int .u64 (Cs.wd X 0), .int .u64 (Cs.wd X 1), .int .u64 (Cs.wd X 2), .int .u64 (Cs.wd X 3)]) (.agg #[.int .u64 0, .int .u64 0, .int .u64 0, .int .u64 0])).run Try.prog w = .ok false w := fun w => by rw [eqz X w, eq0]
              have HE : Hid (b = false) := Lib.hid (by
                rw [← HG.out.1]
                unfold goodB
                have : (l.all fun x => !(x.1 && decide (x.2 ≠ 0))) = false := by
                  rw [Bool.eq_false_iff]
                  intro h
                  rw [List.all_eq_true] at h
                  have := h (true, X) (List.mem_of_getElem? HX.out)
                  simp at this
                  exact hX (by simpa using this)
                rw [this]; simp)
              have nq : ¬X = 0#256 := hX
              clear eqz eq0 hX
              go_wp2
              go_ret
              exact ⟨by rw [HE.out]; rfl, hd.out.1⟩
      · obtain rfl : k = n := by omega
        have HE : Hid (b = true) := Lib.hid (by
          rw [← HG.out.1]
          unfold goodB
          have := HK.out
          rw [List.take_of_length_le (by rw [HG.out.2]; exact Nat.le_refl _)] at this
          rw [this, HG.out.2]
          simp; omega)
        go_wp2
        go_ret
        exact ⟨by rw [HE.out]; rfl, HB.out.2⟩
end Go.Proofs.Ytoniipmgkoogbaa
