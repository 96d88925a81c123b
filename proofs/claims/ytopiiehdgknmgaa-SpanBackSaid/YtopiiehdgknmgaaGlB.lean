/- Several texts in one. -/
import Derived.Test.YtopiiehdgknmgaaGl8
/- Items anywhere; the items of a list that are taken. -/
namespace Go.Proofs.Ytopiiehdgknmgaa
open Go.ChangeShapes Go.WideShapes Go.ChangeAt Go.RowKit
set_option linter.unusedSimpArgs false
set_option linter.unusedVariables false

/-- Items by value: none, or anywhere in a block. -/
def IA (w : World) (a : Option Addr) (l : List (Bool × BitVec 256)) : Prop := l = [] ∨ ∃ g o, a = some ⟨g, o, none⟩ ∧ g < w.heap.size ∧ ∀ (i : Nat) (v : Value), (its l)[i]? = some v → w.cell? ⟨g, o + i, none⟩ = some v
theorem LI.any {w : World} {a : Option Addr} {l : List (Bool × BitVec 256)} (h : LI w a l) : IA w a l := by
  rcases h with h | ⟨g, h1, h2, h3⟩
  · exact Or.inl h
  · exact Or.inr ⟨g, 0, h1, h2, fun i v hi => by rw [Nat.zero_add]; exact h3 i v hi⟩
theorem IA.below {w w' : World} {a : Option Addr} {l : List (Bool × BitVec 256)} (h : IA w a l) (k : Below w.heap.size w w') : IA w' a l := by
  rcases h with h | ⟨g, o, h1, h2, h3⟩
  · exact Or.inl h
  · exact Or.inr ⟨g, o, h1, Nat.lt_of_lt_of_le h2 k.size, fun i v hi => by rw [k.cell (p := ⟨g, o + i, none⟩) h2]; exact h3 i v hi⟩
theorem IA.cell {w : World} {a : Option Addr} {l : List (Bool × BitVec 256)} (h : IA w a l) {j : Nat} {x : Bool × BitVec 256} (hx : l[j]? = some x) : ∃ g o, a = some ⟨g, o, none⟩ ∧ g < w.heap.size ∧ w.cell? ⟨g, o + j * 5, none⟩ = some (.bool x.1) ∧ w.cell? ⟨g, o + j * 5 + 1, none⟩ = some (.int .u64 (Cs.wd x.2 0)) ∧ w.cell? ⟨g, o + j * 5 + 2, none⟩ = some (.int .u64 (Cs.wd x.2 1)) ∧ w.cell? ⟨g, o + j * 5 + 3, none⟩ = some (.int .u64 (Cs.wd x.2 2)) ∧ w.cell? ⟨g, o + j * 5 + 4, none⟩ = some (.int .u64 (Cs.wd x.2 3)) := by
  rcases h with h | ⟨g, o, h1, h2, h3⟩
  · rw [h] at hx; simp at hx
  · obtain ⟨a, b, c, d, e⟩ := its_at l j x hx
    exact ⟨g, o, h1, h2, by have := h3 _ _ a; exact this, by have := h3 _ _ b; rw [← Nat.add_assoc] at this; exact this, by have := h3 _ _ c; rw [← Nat.add_assoc] at this; exact this, by have := h3 _ _ d; rw [← Nat.add_assoc] at this; exact this, by have := h3 _ _ e; rw [← Nat.add_assoc] at this; exact this⟩
set_option maxRecDepth 20000 in
set_option maxHeartbeats 1000000 in
theorem gl_few (l : List (Bool × BitVec 256)) (a : Option Addr) (n c : Nat) (hn : l.length = n) (hn6 : n ≤ maxLen) (w : World) (h : IA w a l) :
    Calls Try.prog 30 #[.slice a n c, .int .i64 64] w fun e w' => ∃ v, e = .returned v ∧ w'.ownsRow w.heap.size 62 5 v (l.take 64).length (its (l.take 64)) ∧ Below w.heap.size w w' := by
  obtain ⟨i0, hi, hz0, hz1, hz2⟩ := info_split infoI
  have HI := Lib.hid hi
  have HI0 := Lib.hid hz0
  have HI1 := Lib.hid hz1
  have HI2 := Lib.hid hz2
  have HP := Lib.hid (And.intro hn h)
  have hn9 : n ≤ 9223372036854775807 := by unfold maxLen at hn6; omega
  have hstart : Hid ((w.alloc (.cells #[] 62)).ownsRow w.heap.size 62 5 (.slice (some ⟨w.heap.size, 0, none⟩) 0 0) 0 (its []) ∧ Below w.heap.size w (w.alloc (.cells #[] 62))) := Lib.hid ⟨World.ownsRow_lit w #[] 0 (Nat.le_refl _) (by decide) rfl, (Below.refl _ _).alloc (Nat.le_refl _) _⟩
  clear hi hz0 hz1 hz2 hn h hn6
  go_enter Try.func30, Try.ntmps30
  go_upto_region 2 with fail
  revert hstart
  generalize w.alloc (.cells #[] 62) = W
  intro hstart
  go_wp2
  go_loopw [5, 6] (fun v i wr => ∃ k : Nat, i = .int .i64 k ∧ k ≤ n ∧ k ≤ 64 ∧ Hid (wr.ownsRow w.heap.size 62 5 v k (its (l.take k)) ∧ Below w.heap.size w wr)) (fun _ i _ => n - (intOf i).toNat)
  case atStart => exact ⟨0, rfl, by omega, by omega, Lib.hid ⟨by simpa using hstart.out.1, hstart.out.2⟩⟩
  case round =>
    clear hstart
    obtain ⟨k, rfl, hk, hk64, HB⟩ := hrel
    have j0 : (0 : Int) ≤ (k : Int) := by omega
    by_cases hkn : k < n
    · by_cases hk6 : k < 64
      · obtain ⟨x, hx⟩ : ∃ x, l[k]? = some x := ⟨_, List.getElem?_eq_getElem (by rw [HP.out.1]; exact hkn)⟩
        obtain ⟨r, X⟩ := x
        obtain ⟨a', c', hv⟩ := own_slice HB.out.1
        subst hv
        have HX := Lib.hid hx
        have hIA : IA wr a l := HP.out.2.below HB.out.2
        obtain ⟨g, o, ha, hg, z0, z1, z2, z3, z4⟩ := hIA.cell hx
        subst ha
        have w1 : IntKind.i64.wrap ((k : Int) + 1) = (k : Int) + 1 := IntWalk.i64_in _ (by omega)
        clear hIA hx
        dsimp only at z0 z1 z2 z3 z4
        have hd : Hid (Below w.heap.size w (wr.alloc (.cells #[.bool r, .int .u64 (Cs.wd X 0), .int .u64 (Cs.wd X 1), .int .u64 (Cs.wd X 2), .int .u64 (Cs.wd X 3)] 62)) ∧ (wr.alloc (.cells #[.bool r, .int .u64 (Cs.wd X 0), .int .u64 (Cs.wd X 1), .int .u64 (Cs.wd X 2), .int .u64 (Cs.wd X 3)] 62)).ownsRow w.heap.size 62 5 (.slice a' k c') k (its (l.take k))) := Lib.hid ⟨HB.out.2.alloc HB.out.2.size _, HB.out.1.alloc _⟩
        go_wp2_with (at_builtin; refine wpList_append_own _ rfl _ _ 54 rfl w.heap.size 62 i0 (.agg #[.bool false, .int .u64 0, .int .u64 0, .int .u64 0, .int .u64 0]) 5 40 Try.underlying54 HI.out HI0.out HI1.out HI2.out rfl (by decide) _ _ _ rfl hd.out.2 ⟨wr.heap.size, 0, none⟩ 1 1 [.bool r, .int .u64 (Cs.wd X 0), .int .u64 (Cs.wd X 1), .int .u64 (Cs.wd X 2), .int .u64 (Cs.wd X 3)] rfl rfl (new_cells _ _ _) (one_item _ _ _ _ _) (by unfold maxLen; omega) (by omega) (by have := hd.out.1.size; simp; have := HB.out.2.size; omega) ?_)
        intro v' w3 hown hgrow _
        have HN : Hid (w3.ownsRow w.heap.size 62 5 v' (k + 1) (its (l.take (k + 1))) ∧ Below w.heap.size w w3) := by
          refine Lib.hid ⟨?_, hd.out.1.grown hgrow (by have := HB.out.2.size; simp; omega) (fun q hq => (hd.out.2.lt q hq).1)⟩
          rw [take_more l k (r, X) HX.out, its_append]; exact hown
        clear hown hgrow
        go_wp2
        refine ⟨?_, ?measure⟩
        case measure => simp [intOf]; omega
        first
          | exact ⟨k + 1, by go_num, by omega, by omega, HN⟩
          | ((repeat apply Exists.intro); exact ⟨⟨k + 1, by go_num, by omega, by omega, HN⟩, rfl⟩)
      · obtain rfl : k = 64 := by omega
        have hlt : (l.take 64).length = 64 := by rw [List.length_take, HP.out.1]; omega
        go_wp2
        go_ret
        exact ⟨_, rfl, by rw [hlt]; exact HB.out.1, HB.out.2⟩
    · obtain rfl : k = n := by omega
      have hlt : (l.take 64).length = k := by rw [List.length_take, HP.out.1]; omega
      have hlt2 : l.take 64 = l.take k := by rw [List.take_of_length_le (by rw [HP.out.1]; omega), List.take_of_length_le (by rw [HP.out.1]; omega)]
      go_wp2
      go_ret
      exact ⟨_, rfl, by rw [hlt, hlt2]; exact HB.out.1, HB.out.2⟩
end Go.Proofs.Ytopiiehdgknmgaa
/- Contracts of patterns: whether a list may be, by the document. -/
namespace Go.Proofs.Ytopiiehdgknmgaa
open Go.ChangeShapes Go.WideShapes Go.ChangeAt Go.RowKit
set_option linter.unusedSimpArgs false
set_option linter.unusedVariables false

set_option maxRecDepth 20000 in
set_option maxHeartbeats 1000000 in
theorem rg_good (l : List (Bool × BitVec 256)) (b : Bool) (hb : goodB l = b) (a : Option Addr) (n c : Nat) (hn : l.length = n) (hn6 : n ≤ 1000000) (w : World) (h : LI w a l) :
    Calls Try.prog 33 #[.slice a n c] w fun e w' => e = .returned (.bool b) ∧ Below w.heap.size w w' := by
  have HG := Lib.hid (And.intro hb hn)
  have HL := Lib.hid h
  clear hb hn h
  have eqz := eqIn_zero
  go_enter Try.func33, Try.ntmps33
  go_wp2
  go_loopw [3] (fun i wr => ∃ k : Nat, i = .int .i64 k ∧ k ≤ n ∧ Hid ((l.take k).all (fun x => !(x.1 && decide (x.2 ≠ 0))) = true) ∧ Hid (LI wr a l ∧ Below w.heap.size w wr)) (fun i _ => n - (intOf i).toNat)
  case atStart => exact ⟨0, rfl, by omega, Lib.hid (by simp), Lib.hid ⟨HL.out, Below.refl _ _⟩⟩
  case round =>
    obtain ⟨k, rfl, hk, HK, HB⟩ := hrel
    have j0 : (0 : Int) ≤ (k : Int) := by omega
    by_cases hkl : k < n
    · obtain ⟨x, hx⟩ : ∃ x, l[k]? = some x := ⟨_, List.getElem?_eq_getElem (by rw [HG.out.2]; exact hkl)⟩
      rcases HB.out.1 with e | ⟨g, ha, HIL⟩
      · rw [e] at hx; simp at hx
      · subst ha
        obtain ⟨r, X⟩ := x
        have z0 := (HIL.cell hx).1
        have z1 := (HIL.cell hx).2.1
        have z2 := (HIL.cell hx).2.2.1
        have z3 := (HIL.cell hx).2.2.2.1
        have z4 := (HIL.cell hx).2.2.2.2
        dsimp only at z0 z1 z2 z3 z4
        have w1 : IntKind.i64.wrap ((k : Int) + 1) = (k : Int) + 1 := IntWalk.i64_in _ (by omega)
        have HX := Lib.hid hx
        have HB2 : Hid (LI wr (some ⟨g, 0, none⟩) l ∧ Below w.heap.size w wr) := Lib.hid ⟨Or.inr ⟨g, rfl, HIL⟩, HB.out.2⟩
        clear hx HIL HB
        cases r with
        | false =>
          have HK2 : Hid ((l.take (k + 1)).all (fun x => !(x.1 && decide (x.2 ≠ 0))) = true) := Lib.hid (by
            rw [List.take_add_one, HX.out, List.all_append, HK.out]; rfl)
          go_wp2
          refine ⟨?_, ?measure⟩
          case measure => simp [intOf]; omega
          first
            | exact ⟨k + 1, by go_num, by omega, HK2, HB2⟩
            | ((repeat apply Exists.intro); exact ⟨⟨k + 1, by go_num, by omega, HK2, HB2⟩, rfl⟩)
        | true =>
          by_cases hX : X = 0
          · have HK2 : Hid ((l.take (k + 1)).all (fun x => !(x.1 && decide (x.2 ≠ 0))) = true) := Lib.hid (by
              rw [List.take_add_one, HX.out, List.all_append, HK.out, hX]; rfl)
            have eq0 : decide (X = 0) = true := decide_eq_true hX
            have eqx : ∀ w, (Op.equalIn 10000 60 (.agg #[.int .u64 (Cs.wd X 0), .int .u64 (Cs.wd X 1), .int .u64 (Cs.wd X 2), .int .u64 (Cs.wd X 3)]) (.agg #[.int .u64 0, .int .u64 0, .int .u64 0, .int .u64 0])).run Try.prog w = .ok true w := fun w => by rw [eqz X w, eq0]
            clear eqz eq0 hX
            go_wp2
            refine ⟨?_, ?measure⟩
            case measure => simp [intOf]; omega
            first
              | exact ⟨k + 1, by go_num, by omega, HK2, HB2⟩
              | ((repeat apply Exists.intro); exact ⟨⟨k + 1, by go_num, by omega, HK2, HB2⟩, rfl⟩)
          · have eq0 : decide (X = 0) = false := decide_eq_false hX
            have eqx : ∀ w, (Op.equalIn 10000 60 (.agg #[.int .u64 (Cs.wd X 0), .int .u64 (Cs.wd X 1), .int .u64 (Cs.wd X 2), .int .u64 (Cs.wd X 3)]) (.agg #[.int .u64 0, .int .u64 0, .int .u64 0, .int .u64 0])).run Try.prog w = .ok false w := fun w => by rw [eqz X w, eq0]
            have HE : Hid (b = false) := Lib.hid (by
              rw [← HG.out.1]
              unfold goodB
              have : (l.all fun x => !(x.1 && decide (x.2 ≠ 0))) = false := by
                rw [Bool.eq_false_iff]
                intro h
                rw [List.all_eq_true] at h
                have := h (true, X) (List.mem_of_getElem? HX.out)
                simp at this
                exact hX (by simpa using this)
              rw [this]; simp)
            have nq : ¬X = 0#256 := hX
            clear eqz eq0 hX
            go_wp2
            go_ret
            exact ⟨by rw [HE.out]; rfl, HB2.out.2⟩
    · obtain rfl : k = n := by omega
      have HE : Hid (b = decide ((k : Int) < 61)) := Lib.hid (by
        rw [← HG.out.1]
        unfold goodB
        have := HK.out
        rw [List.take_of_length_le (by rw [HG.out.2]; exact Nat.le_refl _)] at this
        rw [this, HG.out.2, Bool.and_true]
        exact decide_eq_decide.2 (by omega))
      go_wp2
      go_ret
      exact ⟨by rw [HE.out]; try rfl, HB.out.2⟩
end Go.Proofs.Ytopiiehdgknmgaa
/- Contracts of patterns: two lists item by item, by the program and by the document. -/
namespace Go.Proofs.Ytopiiehdgknmgaa
open Go.ChangeShapes Go.WideShapes Go.ChangeAt Go.RowKit
set_option linter.unusedSimpArgs false
set_option linter.unusedVariables false

end Go.Proofs.Ytopiiehdgknmgaa
/- Contracts of patterns: a pattern's text, by the document. -/
namespace Go.Proofs.Ytopiiehdgknmgaa
open Go.ChangeShapes Go.WideShapes Go.ChangeAt Go.RowKit
set_option linter.unusedSimpArgs false
set_option linter.unusedVariables false

theorem cnt_full (f : Nat → Bool) : ∀ n, Cs.cnt f n = n → ∀ i < n, f i = true
  | 0, _, i, hi => by omega
  | n + 1, h, i, hi => by
    have e := Cs.cnt_add f n 1
    have l0 := Cs.cnt_le f n
    have e1 : Cs.cnt (fun j => f (n + j)) 1 = if f n = true then 1 else 0 := by
      unfold Cs.cnt
      cases hfn : f n <;> simp [List.range_one, hfn]
    rw [e1] at e
    by_cases hf : f n = true
    · rw [if_pos hf] at e
      by_cases hin : i = n
      · rw [hin]; exact hf
      · exact cnt_full f n (by omega) i (by omega)
    · rw [if_neg hf] at e; omega
theorem all_len : (Cs.memT Cs.all 256).length = 256 := by decide +kernel
theorem len_all (X : BitVec 256) (h : (Cs.memT X 256).length = 256) : X = Cs.all := by
  rw [Cs.memT_len] at h
  refine Cs.ext_get fun i hi => ?_
  rw [cnt_full _ _ h i hi]
  unfold Cs.all
  rw [BitVec.getLsbD_not]; simp [hi]
end Go.Proofs.Ytopiiehdgknmgaa
