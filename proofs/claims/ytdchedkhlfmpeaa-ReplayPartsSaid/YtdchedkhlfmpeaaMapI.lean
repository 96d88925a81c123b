/- A map of integers to integers, known whole: looked up, written, deleted from. Nothing of the program. -/
import Derived.Test.YtdchedkhlfmpeaaBlk
import Derived.MapKept
namespace Go.Proofs.Ytdchedkhlfmpeaa
open Go.RowKit
set_option linter.unusedSimpArgs false
set_option linter.unusedVariables false

/-- An entry: key, value, and when it was put in. -/
def ent (x : Int × Int × Nat) : MapEntry := { key := .int .i64 x.1, val := .int .i64 x.2.1, born := x.2.2 }
/-- Block b is a map of just these entries. -/
def MpB (w : World) (b : Nat) (M : List (Int × Int × Nat)) (c : Nat) : Prop := w.heap[b]? = some (.map (M.map ent).toArray c)
def setMp (w : World) (b : Nat) (M : List (Int × Int × Nat)) (c : Nat) : World := { w with heap := w.heap.setIfInBounds b (.map (M.map ent).toArray c) }
section
variable {w w' : World} {b : Nat} {M M' : List (Int × Int × Nat)} {c c' : Nat}
theorem MpB.lt (h : MpB w b M c) : b < w.heap.size := by
  unfold MpB at h
  rcases Nat.lt_or_ge b w.heap.size with h' | h'
  · exact h'
  · rw [Array.getElem?_eq_none h'] at h; cases h
theorem MpB.drew (h : MpB w b M c) : MpB w.drew b M c := h
theorem MpB.chg (h : MpB w b M c) {l : List Nat} (k : Chg l w w') (hb : b ∉ l) : MpB w' b M c := by
  have := h.lt
  unfold MpB at *
  rw [k.block b this hb]; exact h
theorem MpB.below {B : Nat} (h : MpB w b M c) (k : Below B w w') (hb : b < B) : MpB w' b M c := by
  unfold MpB at *
  rw [k.block b hb]; exact h
theorem MpB.other (h : MpB w b M c) {g : Nat} (hne : b ≠ g) (i : Nat) (v : Value) : MpB (w.setCell ⟨g, i, none⟩ v) b M c := by
  unfold MpB at *
  rw [heap_setCell_other w _ b v hne]; exact h
theorem MpB.new (w : World) : MpB (w.alloc (.map #[] 0)) w.heap.size [] 0 := heap_alloc_new w _
theorem setMp_size (w : World) (b : Nat) (M : List (Int × Int × Nat)) (c : Nat) : (setMp w b M c).heap.size = w.heap.size := by unfold setMp; simp
theorem setMp_same (h : b < w.heap.size) (M : List (Int × Int × Nat)) (c : Nat) : MpB (setMp w b M c) b M c := by unfold MpB setMp; simp [h]
theorem setMp_chg (w : World) (b : Nat) (M : List (Int × Int × Nat)) (c : Nat) : Chg [b] w (setMp w b M c) :=
  ⟨rfl, rfl, rfl, by rw [setMp_size]; exact Nat.le_refl _, fun k hk hn => by unfold setMp; simp at hn; simp [Ne.symm hn]⟩
theorem modify_end {α : Type} (f : α → α) (a : α) : ∀ l : List α, (l ++ [a]).modify l.length f = l ++ [f a]
  | [] => rfl
  | x :: r => by
    have := modify_end f a r
    simpa [List.modify] using this
theorem erase_map {α β : Type} (f : α → β) : ∀ (l : List α) (j : Nat), (l.map f).eraseIdx j = (l.eraseIdx j).map f
  | [], _ => rfl
  | _ :: _, 0 => rfl
  | _ :: r, j + 1 => by simp [erase_map f r j]
/-- The value of a key, and where its entry stands. -/
def mIdx : List (Int × Int × Nat) → Int → Option (Nat × Int)
  | [], _ => none
  | x :: r, k => if x.1 = k then some (0, x.2.1) else (mIdx r k).map fun p => (p.1 + 1, p.2)
theorem findNow_ent (k : Int) : ∀ (M : List (Int × Int × Nat)) (i : Nat), Instr.findNow (.int .i64) (.int .i64 k) (M.map ent) i = some ((mIdx M k).map fun p => (i + p.1, Value.int .i64 p.2))
  | [], i => rfl
  | x :: r, i => by
    by_cases h : x.1 = k
    · simp [Instr.findNow, Instr.sameNow, ent, mIdx, h]
    · have h' : ¬ k = x.1 := fun e => h e.symm
      have ih := findNow_ent k r (i + 1)
      simp only [List.map_cons, Instr.findNow, Instr.sameNow, ent, mIdx, h, if_false] at ih ⊢
      simp only [if_true, beq_eq_false_iff_ne.2 h', ih]
      cases mIdx r k <;> simp [Nat.add_assoc, Nat.add_comm 1]
theorem mIdx_none {k : Int} : ∀ {M : List (Int × Int × Nat)}, (∀ x ∈ M, x.1 ≠ k) → mIdx M k = none
  | [], _ => rfl
  | x :: r, h => by
    rw [mIdx, if_neg (h x (by simp)), mIdx_none (fun y hy => h y (by simp [hy]))]; rfl
variable {P : Program} {t K E : TypeId}
theorem run_look (ht : P.underlying t = some (.map K E)) (hK : P.underlying K = some (.int .i64)) (hz : ∀ w, (zeroValue E).run P w = .ok (.int .i64 0) w) (h : MpB w b M c) (k : Int) :
    (Instr.lookup t (.map (some b)) (.int .i64 k) true).run P w = .ok (.tuple #[.int .i64 (((mIdx M k).map (·.2)).getD 0), .bool (mIdx M k).isSome]) w := by
  have hf := findNow_ent k M 0
  unfold Instr.lookup
  simp only [Sem.run_bind, run_underlying ht, Result.andThen, MapKept.run_getObj_map h, Sem.run_pure, MapKept.run_checkKey hK (show MapKept.IsKey (.int .i64) (.int .i64 k) from rfl), List.toList_toArray, MapKept.run_findKey hK hf]
  cases mIdx M k with
  | none => simp [hz, Result.andThen]
  | some p => simp [Result.andThen]
theorem run_entry_new (ht : P.underlying t = some (.map K E)) (hK : P.underlying K = some (.int .i64)) (hz : ∀ w, (zeroValue E).run P w = .ok (.int .i64 0) w) (h : MpB w b M c) (k : Int) (hk : mIdx M k = none) :
    (Instr.mapEntry t (.map (some b)) (.int .i64 k)).run P w = .ok (.tuple #[.int .i64 0, .int .i64 c]) (setMp w b (M ++ [(k, 0, c)]) (c + 1)) := by
  have hf := findNow_ent k M 0
  rw [hk] at hf
  unfold Instr.mapEntry
  simp only [Sem.run_bind, run_underlying ht, Result.andThen, MapKept.run_getObj_map h, Sem.run_pure, MapKept.run_checkKey hK (show MapKept.IsKey (.int .i64) (.int .i64 k) from rfl), List.toList_toArray, MapKept.run_findKey hK hf, Option.map_none, hz, MapKept.run_setObj_map _ h, goInt]
  unfold setMp
  simp [ent]
theorem run_entry_store {k v0 : Int} {n : Nat} (h : MpB w b (M ++ [(k, v0, n)]) c) (hb : ∀ x ∈ M, x.2.2 < n) (v : Int) :
    (Instr.entryStore t (.map (some b)) (.int .i64 n) (.int .i64 v)).run P w = .ok () (setMp w b (M ++ [(k, v, n)]) c) := by
  have hi : ((M ++ [(k, v0, n)]).map ent).toArray.findIdx? (fun e => (e.born : Int) == (n : Int)) = some M.length := by
    rw [List.findIdx?_toArray, List.map_append, List.findIdx?_append]
    have h1 : (M.map ent).findIdx? (fun e => (e.born : Int) == (n : Int)) = none := by
      rw [List.findIdx?_eq_none_iff]
      intro e he
      obtain ⟨x, hx, rfl⟩ := List.mem_map.1 he
      have := hb x hx
      simp [ent]; omega
    rw [h1]
    simp [ent]
  unfold Instr.entryStore
  simp only [Sem.run_bind, Result.andThen, MapKept.run_getObj_map h, Sem.run_pure, asInt, asIntOf, hi, MapKept.run_setObj_map _ h]
  unfold setMp
  have hm := modify_end (fun e : MapEntry => { key := e.key, val := Value.int .i64 v, born := e.born }) (ent (k, v0, n)) (M.map ent)
  rw [List.length_map] at hm
  simp [ent] at hm ⊢
  rw [hm]
theorem run_del (ht : P.underlying t = some (.map K E)) (hK : P.underlying K = some (.int .i64)) (h : MpB w b M c) (k : Int) (j : Nat) (v : Int) (hj : mIdx M k = some (j, v)) (ty : TypeId) :
    (Builtin.delete_ #[t, K] ty #[.map (some b), .int .i64 k]).run P w = .ok (.tuple #[]) (setMp w b (M.eraseIdx j) c) := by
  have hf := findNow_ent k M 0
  rw [hj] at hf
  unfold Builtin.delete_
  simp only [Sem.run_bind, List.getElem?_toArray, List.getElem?_cons_zero, List.getElem?_cons_succ, run_underlying ht, Result.andThen, MapKept.run_getObj_map h, Sem.run_pure, MapKept.run_checkKey hK (show MapKept.IsKey (.int .i64) (.int .i64 k) from rfl), List.toList_toArray, MapKept.run_findKey hK hf, Option.map_some, MapKept.run_setObj_map _ h]
  unfold setMp
  simp [erase_map]
theorem run_mlen (ht : P.underlying t = some (.map K E)) (h : MpB w b M c) (ty : TypeId) : (Builtin.len_ #[t] ty #[.map (some b)]).run P w = .ok (.int .i64 M.length) w := by
  unfold Builtin.len_
  simp [run_underlying ht, Result.andThen, MapKept.run_getObj_map h, Builtin.lenOf, goInt]
end
end Go.Proofs.Ytdchedkhlfmpeaa
