/- Ticks as texts: Text. -/
import Derived.Test.YtlofcccabdocgaaDoorTx3
import Derived.Test.YtlofcccabdocgaaDoorTx5
import Derived.Test.YtlofcccabdocgaaDoorShelf
import Derived.Lib.LaidTab
namespace Go.Proofs.YtlofcccabdocgaaDoor
open Go.ChangeShapes Go.WideShapes Go.ChangeAt Go.RowKit
set_option linter.unusedSimpArgs false
set_option linter.unusedVariables false
theorem below_grow6 {w : World} (k : Nat) (os : Array Obj) : Below w.heap.size w (Go.Sort.grow (w.drewN k) os) :=
  ⟨rfl, rfl, rfl, by simp [Go.Sort.grow], fun j hj => by simpa using Go.Sort.heap_grow_old (w.drewN k) os (by simpa using hj)⟩
theorem Tx.bytes_ext {X Y : ByteArray} (h : X.data.toList = Y.data.toList) : X = Y := by
  cases X with | mk a => cases Y with | mk b => congr 1; exact Array.ext' h
theorem tab_below {W W' : World} (h : Below W.heap.size W W') (ht : Lib.TabIs Tryd.prog W "internal/strconv.uint64pow10" .u64 Lib.pow10Tab) : Lib.TabIs Tryd.prog W' "internal/strconv.uint64pow10" .u64 Lib.pow10Tab := by
  have hg : Tryd.prog.globalNamed "internal/strconv.uint64pow10" = some 1 := by kernel_rfl
  unfold Lib.TabIs at ht ⊢
  simp only [World.var?, hg, Option.bind_some] at ht ⊢
  have hs : 1 < W.heap.size := by
    rcases Nat.lt_or_ge 1 W.heap.size with h | h
    · exact h
    · rw [Array.getElem?_eq_none h] at ht; cases ht
  rw [h.block _ hs]
  exact ht
end Go.Proofs.YtlofcccabdocgaaDoor
