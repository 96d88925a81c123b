/- Blocks of cells known whole, and which blocks a call may have changed. Nothing of the program. -/
import Derived.Test.YtfhhkmjjifbfeaaGreatDoorRows
import Derived.WalkKit
import Derived.WalkSmall
import Derived.OneCell
import Derived.Laws.Rows
import Derived.Laws.CopyOwn
import Derived.OwnWalk
namespace Go.Proofs.YtfhhkmjjifbfeaaGreatDoor
open Go.RowKit

/-- Block b holds just these cells, and may be written. -/
def Blk (w : World) (b : Nat) (cs : List Value) (T : TypeId) : Prop := w.heap[b]? = some (.cells cs.toArray T (0, 0))
theorem Blk.cell {w : World} {b : Nat} {cs : List Value} {T : TypeId} (h : Blk w b cs T) {i : Nat} {v : Value} (hi : cs[i]? = some v) : w.cell? ⟨b, i, none⟩ = some v := by
  unfold Blk at h
  simp [World.cell?, h, hi]
theorem Blk.free {w : World} {b : Nat} {cs : List Value} {T : TypeId} (h : Blk w b cs T) (i : Nat) : w.frozen? ⟨b, i, none⟩ = false := by
  unfold Blk at h
  simp [World.frozen?, h]
theorem Blk.lt {w : World} {b : Nat} {cs : List Value} {T : TypeId} (h : Blk w b cs T) : b < w.heap.size := lt_of_block h
theorem Blk.set {w : World} {b : Nat} {cs : List Value} {T : TypeId} (h : Blk w b cs T) (i : Nat) (v : Value) : Blk (w.setCell ⟨b, i, none⟩ v) b (cs.set i v) T := by
  unfold Blk at *
  rw [heap_setCell_same w b i _ T v h]
  simp
theorem Blk.other {w : World} {b : Nat} {cs : List Value} {T : TypeId} (h : Blk w b cs T) {c : Nat} (hne : b ≠ c) (i : Nat) (v : Value) : Blk (w.setCell ⟨c, i, none⟩ v) b cs T := by
  unfold Blk at *
  rw [heap_setCell_other w _ b v hne]; exact h
theorem Blk.drew {w : World} {b : Nat} {cs : List Value} {T : TypeId} (h : Blk w b cs T) : Blk w.drew b cs T := h
theorem Blk.drewN {w : World} {b : Nat} {cs : List Value} {T : TypeId} (h : Blk w b cs T) (n : Nat) : Blk (w.drewN n) b cs T := h
theorem Blk.alloc {w : World} {b : Nat} {cs : List Value} {T : TypeId} (h : Blk w b cs T) (o : Obj) : Blk (w.alloc o) b cs T := by
  unfold Blk at *
  rw [heap_alloc_old w o (lt_of_block h)]; exact h
theorem Blk.new (w : World) (cs : List Value) (T : TypeId) : Blk (w.alloc (.cells cs.toArray T)) w.heap.size cs T := heap_alloc_new w _
theorem Blk.newA (w : World) (cs : Array Value) (T : TypeId) : Blk (w.alloc (.cells cs T)) w.heap.size cs.toList T := heap_alloc_new w _
theorem Blk.below {w w' : World} {b B : Nat} {cs : List Value} {T : TypeId} (h : Blk w b cs T) (k : Below B w w') (hb : b < B) : Blk w' b cs T := by
  unfold Blk at *
  rw [k.block b hb]; exact h
theorem Blk.uniq {w : World} {b : Nat} {cs ds : List Value} {T U : TypeId} (h : Blk w b cs T) (k : Blk w b ds U) : cs = ds := by
  unfold Blk at *
  rw [h] at k
  have := Option.some.inj k
  injection this with a
  exact List.toArray_inj a

/-- Of the blocks that were there none but those of l has changed. -/
structure Chg (l : List Nat) (w w' : World) : Prop where
  os : w'.os = w.os
  tape : w'.tape = w.tape
  output : w'.output = w.output
  size : w.heap.size ≤ w'.heap.size
  block : ∀ k, k < w.heap.size → k ∉ l → w'.heap[k]? = w.heap[k]?
theorem Chg.refl (l : List Nat) (w : World) : Chg l w w := ⟨rfl, rfl, rfl, Nat.le_refl _, fun _ _ _ => rfl⟩
theorem Chg.trans {l m : List Nat} {a b c : World} (h : Chg l a b) (k : Chg m b c) (hm : ∀ x ∈ m, x ∈ l ∨ a.heap.size ≤ x) : Chg l a c :=
  ⟨k.os.trans h.os, k.tape.trans h.tape, k.output.trans h.output, Nat.le_trans h.size k.size, fun i hi hn =>
    (k.block i (Nat.lt_of_lt_of_le hi h.size) (fun hmem => (hm i hmem).elim hn (fun hle => absurd hi (Nat.not_lt.2 hle)))).trans (h.block i hi hn)⟩
theorem Chg.mono {l m : List Nat} {a b : World} (h : Chg l a b) (hm : ∀ x ∈ l, x ∈ m) : Chg m a b :=
  ⟨h.os, h.tape, h.output, h.size, fun i hi hn => h.block i hi (fun hmem => hn (hm i hmem))⟩
theorem Chg.drew {l : List Nat} {a w : World} (h : Chg l a w) : Chg l a w.drew := ⟨h.os, h.tape, h.output, h.size, h.block⟩
theorem Chg.drewN {l : List Nat} {a w : World} (h : Chg l a w) (n : Nat) : Chg l a (w.drewN n) := ⟨h.os, h.tape, h.output, h.size, h.block⟩
theorem Chg.alloc {l : List Nat} {a w : World} (h : Chg l a w) (o : Obj) : Chg l a (w.alloc o) :=
  ⟨h.os, h.tape, h.output, Nat.le_trans h.size (by simp), fun k hk hn => (Below.heap_alloc w o k (Nat.lt_of_lt_of_le hk h.size)).trans (h.block k hk hn)⟩
theorem Chg.set {l : List Nat} {a w : World} (h : Chg l a w) {b : Nat} (hb : b ∈ l ∨ a.heap.size ≤ b) (i : Nat) (v : Value) : Chg l a (w.setCell ⟨b, i, none⟩ v) :=
  ⟨h.os, h.tape, h.output, by simpa using h.size, fun k hk hn => (Below.heap_setCell w _ v k (fun e => by
    subst e
    rcases hb with hb | hb
    · exact hn hb
    · exact absurd hk (Nat.not_lt.2 hb))).trans (h.block k hk hn)⟩
theorem Chg.of_below {B : Nat} {l : List Nat} {a b : World} (h : Below B a b) (hl : ∀ k, B ≤ k → k < a.heap.size → k ∈ l) : Chg l a b :=
  ⟨h.os, h.tape, h.output, h.size, fun k hk hn => h.block k (Nat.lt_of_not_le fun hle => hn (hl k hle hk))⟩
theorem Chg.of_fresh {l : List Nat} {a b : World} (h : Below a.heap.size a b) : Chg l a b := .of_below h fun _ h1 h2 => by omega
theorem Chg.of_grown {l : List Nat} {a b : World} {row : Option Nat} (h : a.grownBy b row) (hl : ∀ k, row = some k → k ∈ l ∨ a.heap.size ≤ k) : Chg l a b :=
  ⟨h.os, h.tape, h.output, h.size, fun k hk hn => h.block k hk (fun e => by
    rcases hl k e.symm with h1 | h1
    · exact hn h1
    · omega)⟩
theorem Chg.below {l : List Nat} {a b : World} (h : Chg l a b) {B : Nat} (hB : B ≤ a.heap.size) (hl : ∀ x ∈ l, B ≤ x) : Below B a b :=
  ⟨h.os, h.tape, h.output, h.size, fun k hk => h.block k (by omega) (fun hm => by have := hl k hm; omega)⟩
/-- A change to blocks of one's own, behind another one. -/
theorem Chg.onto {l : List Nat} {B : Nat} {w a b : World} (h : Below B w a) (k : Chg l a b) (hB : B ≤ a.heap.size) (hl : ∀ x ∈ l, B ≤ x) : Below B w b := h.trans (k.below hB hl)
theorem Blk.chg {w w' : World} {b : Nat} {cs : List Value} {T : TypeId} (h : Blk w b cs T) {l : List Nat} (k : Chg l w w') (hb : b ∉ l) : Blk w' b cs T := by
  unfold Blk at *
  rw [k.block b (lt_of_block h) hb]; exact h
theorem Chg.cell {l : List Nat} {w w' : World} (h : Chg l w w') {p : Addr} (hp : p.block < w.heap.size) (hn : p.block ∉ l) : w'.cell? p = w.cell? p := World.cell?_of_block (w := w) (h.block p.block hp hn)
theorem Blk.setRow {w : World} {b : Nat} {cs ds : List Value} {T : TypeId} (h : Blk w b cs T) : Blk (w.setRow b ds.toArray) b ds T := setRow_heap w b _ _ T _ h
theorem Blk.rowOther {w : World} {b : Nat} {cs : List Value} {T : TypeId} (h : Blk w b cs T) {g : Nat} (hne : b ≠ g) (ds : Array Value) : Blk (w.setRow g ds) b cs T := by
  unfold Blk at *
  rw [setRow_other w g b ds hne]; exact h
theorem Chg.row {l : List Nat} {a w : World} (h : Chg l a w) {b : Nat} (hb : b ∈ l ∨ a.heap.size ≤ b) (ds : Array Value) : Chg l a (w.setRow b ds) :=
  ⟨h.os, h.tape, h.output, by simpa using h.size, fun k hk hn => (setRow_other w b k ds (fun e => by
    subst e
    rcases hb with hb | hb
    · exact hn hb
    · exact absurd hk (Nat.not_lt.2 hb))).trans (h.block k hk hn)⟩
end Go.Proofs.YtfhhkmjjifbfeaaGreatDoor
