/- Items anywhere; the items of a list that are taken. -/
import Derived.Test.YtkihlnomchhiiaaGl8
namespace Go.Proofs.Ytkihlnomchhiiaa
open Go.ChangeShapes Go.WideShapes Go.ChangeAt Go.RowKit
set_option linter.unusedSimpArgs false
set_option linter.unusedVariables false

/-- Items by value: none, or anywhere in a block. -/
def IA (w : World) (a : Option Addr) (l : List (Bool × BitVec 256)) : Prop := l = [] ∨ ∃ g o, a = some ⟨g, o, none⟩ ∧ g < w.heap.size ∧ ∀ (i : Nat) (v : Value), (its l)[i]? = some v → w.cell? ⟨g, o + i, none⟩ = some v
theorem LI.any {w : World} {a : Option Addr} {l : List (Bool × BitVec 256)} (h : LI w a l) : IA w a l := by
  rcases h with h | ⟨g, h1, h2, h3⟩
  · exact Or.inl h
  · exact Or.inr ⟨g, 0, h1, h2, fun i v hi => by rw [Nat.zero_add]; exact h3 i v hi⟩
theorem IA.below {w w' : World} {a : Option Addr} {l : List (Bool × BitVec 256)} (h : IA w a l) (k : Below w.heap.size w w') : IA w' a l := by
  rcases h with h | ⟨g, o, h1, h2, h3⟩
  · exact Or.inl h
  · exact Or.inr ⟨g, o, h1, Nat.lt_of_lt_of_le h2 k.size, fun i v hi => by rw [k.cell (p := ⟨g, o + i, none⟩) h2]; exact h3 i v hi⟩
theorem IA.cell {w : World} {a : Option Addr} {l : List (Bool × BitVec 256)} (h : IA w a l) {j : Nat} {x : Bool × BitVec 256} (hx : l[j]? = some x) : ∃ g o, a = some ⟨g, o, none⟩ ∧ g < w.heap.size ∧ w.cell? ⟨g, o + j * 5, none⟩ = some (.bool x.1) ∧ w.cell? ⟨g, o + j * 5 + 1, none⟩ = some (.int .u64 (Cs.wd x.2 0)) ∧ w.cell? ⟨g, o + j * 5 + 2, none⟩ = some (.int .u64 (Cs.wd x.2 1)) ∧ w.cell? ⟨g, o + j * 5 + 3, none⟩ = some (.int .u64 (Cs.wd x.2 2)) ∧ w.cell? ⟨g, o + j * 5 + 4, none⟩ = some (.int .u64 (Cs.wd x.2 3)) := by
  rcases h with h | ⟨g, o, h1, h2, h3⟩
  · rw [h] at hx; simp at hx
  · obtain ⟨a, b, c, d, e⟩ := its_at l j x hx
    exact ⟨g, o, h1, h2, by have := h3 _ _ a; exact this, by have := h3 _ _ b; rw [← Nat.add_assoc] at this; exact this, by have := h3 _ _ c; rw [← Nat.add_assoc] at this; exact this, by have := h3 _ _ d; rw [← Nat.add_assoc] at this; exact this, by have := h3 _ _ e; rw [← Nat.add_assoc] at this; exact this⟩
set_option maxRecDepth 20000 in
set_option maxHeartbeats 1000000 in
theorem gl_few (l : List (Bool × BitVec 256)) (a : Option Addr) (n c : Nat) (hn : l.length = n) (hn6 : n ≤ maxLen) (w : World) (h : IA w a l) :
    Calls Try.prog 12 #[.slice a n c, .int .i64 64] w fun e w' => ∃ v, e = .returned v ∧ w'.ownsRow w.heap.size 40 5 v (l.take 64).length (its (l.take 64)) ∧ Below w.heap.size w w' := by
  obtain ⟨i0, hi, hz0, hz1, hz2⟩ := info_split infoI
  have HI := Lib.hid hi
  have HI0 := Lib.hid hz0
  have HI1 := Lib.hid hz1
  have HI2 := Lib.hid hz2
  have HP := Lib.hid (And.intro hn h)
  have hn9 : n ≤ 9223372036854775807 := by unfold maxLen at hn6; omega
  have hstart : Hid ((w.alloc (.cells #[] 40)).ownsRow w.heap.size 40 5 (.slice (some ⟨w.heap.size, 0, none⟩) 0 0) 0 (its []) ∧ Below w.heap.size w (w.alloc (.cells #[] 40))) := Lib.hid ⟨World.ownsRow_lit w #[] 0 (Nat.le_refl _) (by decide) rfl, (Below.refl _ _).alloc (Nat.le_refl _) _⟩
  clear hi hz0 hz1 hz2 hn h hn6
  go_enter Try.func12, Try.ntmps12
  go_upto_region 2 with fail
  revert hstart
  generalize w.alloc (.cells #[] 40) = W
  intro hstart
  go_wp2
  go_loopw [5, 6] (fun v i wr => ∃ k : Nat, i = .int .i64 k ∧ k ≤ n ∧ k ≤ 64 ∧ Hid (wr.ownsRow w.heap.size 40 5 v k (its (l.take k)) ∧ Below w.heap.size w wr)) (fun _ i _ => n - (intOf i).toNat)
  case atStart => exact ⟨0, rfl, by omega, by omega, Lib.hid ⟨by simpa using hstart.out.1, hstart.out.2⟩⟩
  case round =>
    clear hstart
    obtain ⟨k, rfl, hk, hk64, HB⟩ := hrel
    have j0 : (0 : Int) ≤ (k : Int) := by omega
    by_cases hkn : k < n
    · by_cases hk6 : k < 64
      · obtain ⟨x, hx⟩ : ∃ x, l[k]? = some x := ⟨_, List.getElem?_eq_getElem (by rw [HP.out.1]; exact hkn)⟩
        obtain ⟨r, X⟩ := x
        obtain ⟨a', c', hv⟩ := own_slice HB.out.1
        subst hv
        have HX := Lib.hid hx
        have hIA : IA wr a l := HP.out.2.below HB.out.2
        obtain ⟨g, o, ha, hg, z0, z1, z2, z3, z4⟩ := hIA.cell hx
        subst ha
        have w1 : IntKind.i64.wrap ((k : Int) + 1) = (k : Int) + 1 := IntWalk.i64_in _ (by omega)
        clear hIA hx
        dsimp only at z0 z1 z2 z3 z4
        have hd : Hid (Below w.heap.size w (wr.alloc (.cells #[.bool r, .int .u64 (Cs.wd X 0), .int .u64 (Cs.wd X 1), .int .u64 (Cs.wd X 2), .int .u64 (Cs.wd X 3)] 40)) ∧ (wr.alloc (.cells #[.bool r, .int .u64 (Cs.wd X 0), .int .u64 (Cs.wd X 1), .int .u64 (Cs.wd X 2), .int .u64 (Cs.wd X 3)] 40)).ownsRow w.heap.size 40 5 (.slice a' k c') k (its (l.take k))) := Lib.hid ⟨HB.out.2.alloc HB.out.2.size _, HB.out.1.alloc _⟩
        go_wp2_with (at_builtin; refine wpList_append_own _ rfl _ _ 23 rfl w.heap.size 40 i0 (.agg #[.bool false, .int .u64 0, .int .u64 0, .int .u64 0, .int .u64 0]) 5 40 Try.underlying23 HI.out HI0.out HI1.out HI2.out rfl (by decide) _ _ _ rfl hd.out.2 ⟨wr.heap.size, 0, none⟩ 1 1 [.bool r, .int .u64 (Cs.wd X 0), .int .u64 (Cs.wd X 1), .int .u64 (Cs.wd X 2), .int .u64 (Cs.wd X 3)] rfl rfl (new_cells _ _ _) (one_item _ _ _ _ _) (by unfold maxLen; omega) (by omega) (by have := hd.out.1.size; simp; have := HB.out.2.size; omega) ?_)
        intro v' w3 hown hgrow _
        have HN : Hid (w3.ownsRow w.heap.size 40 5 v' (k + 1) (its (l.take (k + 1))) ∧ Below w.heap.size w w3) := by
          refine Lib.hid ⟨?_, hd.out.1.grown hgrow (by have := HB.out.2.size; simp; omega) (fun q hq => (hd.out.2.lt q hq).1)⟩
          rw [take_more l k (r, X) HX.out, its_append]; exact hown
        clear hown hgrow
        go_wp2
        refine ⟨?_, ?measure⟩
        case measure => simp [intOf]; omega
        first
          | exact ⟨k + 1, by go_num, by omega, by omega, HN⟩
          | ((repeat apply Exists.intro); exact ⟨⟨k + 1, by go_num, by omega, by omega, HN⟩, rfl⟩)
      · obtain rfl : k = 64 := by omega
        have hlt : (l.take 64).length = 64 := by rw [List.length_take, HP.out.1]; omega
        go_wp2
        go_ret
        exact ⟨_, rfl, by rw [hlt]; exact HB.out.1, HB.out.2⟩
    · obtain rfl : k = n := by omega
      have hlt : (l.take 64).length = k := by rw [List.length_take, HP.out.1]; omega
      have hlt2 : l.take 64 = l.take k := by rw [List.take_of_length_le (by rw [HP.out.1]; omega), List.take_of_length_le (by rw [HP.out.1]; omega)]
      go_wp2
      go_ret
      exact ⟨_, rfl, by rw [hlt, hlt2]; exact HB.out.1, HB.out.2⟩
end Go.Proofs.Ytkihlnomchhiiaa
