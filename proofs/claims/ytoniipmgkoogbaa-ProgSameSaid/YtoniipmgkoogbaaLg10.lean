/- Patterns: the document's Matches. -/
import Derived.Test.YtoniipmgkoogbaaLgB
import Derived.Test.YtoniipmgkoogbaaClass
import Derived.Test.YtoniipmgkoogbaaCs5
import Derived.Test.YtoniipmgkoogbaaCsRA
import Derived.Test.YtoniipmgkoogbaaQtA
namespace Go.Proofs.Ytoniipmgkoogbaa
open Go.ChangeShapes Go.WideShapes Go.ChangeAt Go.RowKit
set_option linter.unusedSimpArgs false
set_option linter.unusedVariables false

/-- A row of bools, somewhere. -/
def BV (w : World) (g n : Nat) (f : Nat → Bool) : Prop := g < w.heap.size ∧ ∀ j, j < n → w.cell? ⟨g, j, none⟩ = some (.bool (f j))
theorem BV.below {w w' : World} {g n : Nat} {f : Nat → Bool} {B : Nat} (h : BV w g n f) (k : Below B w w') (hg : g < B) : BV w' g n f :=
  ⟨Nat.lt_of_lt_of_le h.1 k.size, fun j hj => by rw [k.cell (p := ⟨g, j, none⟩) hg]; exact h.2 j hj⟩
theorem BV.own {w : World} {base n : Nat} {e : TypeId} {v : Value} {f : Nat → Bool} (h : w.ownsRow base e 1 v n (bl f n)) (hn : 0 < n) : ∃ g c, v = .slice (some ⟨g, 0, none⟩) n c ∧ BV w g n f := by
  rcases h.2 with ⟨h1, h2⟩ | ⟨g, cap, cur, h1, h2, h3, h4, h5, h6, h7⟩
  · omega
  · refine ⟨g, cap, h1, (Array.getElem?_eq_some_iff.1 h3).1, fun j hj => ?_⟩
    have hb : Blk w g cur.toList e := by unfold Blk; exact h3
    refine hb.cell ?_
    have e1 := bl_at f hj
    rw [← h7, List.getElem?_take, if_pos (by omega)] at e1
    exact e1
theorem IA.at {w : World} {g o : Nat} {l : List (Bool × BitVec 256)} (h : IA w (some ⟨g, o, none⟩) l) {j : Nat} {x : Bool × BitVec 256} (hx : l[j]? = some x) : w.cell? ⟨g, o + j * 5, none⟩ = some (.bool x.1) ∧ w.cell? ⟨g, o + j * 5 + 1, none⟩ = some (.int .u64 (Cs.wd x.2 0)) ∧ w.cell? ⟨g, o + j * 5 + 2, none⟩ = some (.int .u64 (Cs.wd x.2 1)) ∧ w.cell? ⟨g, o + j * 5 + 3, none⟩ = some (.int .u64 (Cs.wd x.2 2)) ∧ w.cell? ⟨g, o + j * 5 + 4, none⟩ = some (.int .u64 (Cs.wd x.2 3)) := by
  obtain ⟨g', o', e, _, z⟩ := h.cell hx
  have e1 := Option.some.inj e
  injection e1 with e1 e2 e3
  rw [e1, e2]
  exact z
theorem app_b {w0 w w3 : World} {B m : Nat} {v v9 : Value} {old nw xs : List Value} {e : TypeId} (k : Below w0.heap.size w0 w) (ho : w.ownsRow B e 1 v m old) (hb : B ≤ w.heap.size) (o : Obj) (hgrow : (w.alloc o).grownBy w3 v.ownBlock) (h0 : w0.heap.size ≤ B) {m9 : Nat} (hown : w3.ownsRow B e 1 v9 m9 (old ++ nw)) (hxs : xs = old ++ nw) : Below w0.heap.size w0 w3 ∧ w3.ownsRow B e 1 v9 m9 xs ∧ B ≤ w3.heap.size ∧ Below B w w3 := by
  have hb2 : Below B (w.alloc o) w3 := by
    have r : Below B (w.alloc o) (w.alloc o) := Below.refl _ _
    exact r.grown hgrow (by first | (simp; done) | (simp; omega)) (fun q hq => ((ho.alloc o).lt q hq).1)
  have hb3 : Below B w w3 := ((Below.refl _ _).alloc hb o).trans hb2
  exact ⟨k.trans (hb3.mono h0), by rw [hxs]; exact hown, by have := hb2.size; simp at this; omega, hb3⟩
theorem lgD_any {L : LgL} {k : Nat} (h : (L k).1 = true) (T : LgT) (n : Nat) : Lg.D L T 0 (k + 1) n = (List.range (n + 1)).any (Lg.D L T 0 k) := lgD_run h T 0 n
theorem range_any_next (f : Nat → Bool) (j : Nat) : (List.range (j + 1)).any f = ((List.range j).any f || f j) := by rw [List.range_succ, List.any_append]; simp
end Go.Proofs.Ytoniipmgkoogbaa
