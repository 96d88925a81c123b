/- Bytes in cells: copying them from a slice or a text into a row, and reading them back. Nothing of the program. -/
import Derived.Test.YtfhhkmjjifbfeaaGreatDoorBlk
import Derived.Lib.BufferWrite
import Derived.Lib.SlBytesRow
import Derived.Lib.SlBuf
import Derived.Laws.MakeOwn
namespace Go.Proofs.YtfhhkmjjifbfeaaGreatDoor
open Go.RowKit

/-- A text's bytes as cells. -/
def bv (s : ByteArray) : List Value := Lib.byteCells s.data.toList
theorem bv_length (s : ByteArray) : (bv s).length = s.size := by unfold bv; rw [Lib.byteCells_length]; simp
theorem bv_at (s : ByteArray) (i : Nat) (h : i < s.size) : (bv s)[i]? = some (.int .u8 (s[i].toNat : Int)) := by
  unfold bv Lib.byteCells
  rw [List.getElem?_map]
  have : s.data.toList[i]? = some s[i] := by
    rw [List.getElem?_eq_getElem (by simpa using h)]; rfl
  rw [this]; rfl
theorem bv_one (s : ByteArray) : ∀ v ∈ bv s, v.oneCell' = true := Lib.byteCells_one _
theorem bv_get (s : ByteArray) (i : Nat) (v : Value) (h : (bv s)[i]? = some v) : ∃ h : i < s.size, v = .int .u8 (s[i].toNat : Int) := by
  have hl : i < s.size := by have := (List.getElem?_eq_some_iff.1 h).1; rwa [bv_length] at this
  rw [bv_at s i hl] at h
  exact ⟨hl, (Option.some.inj h).symm⟩
theorem bv_extract (s : ByteArray) (a b : Nat) : bv (s.extract a b) = ((bv s).take b).drop a := by
  unfold bv Lib.byteCells
  rw [ByteArray.data_extract, ← List.map_take, ← List.map_drop]
  congr 1
  simp [Array.toList_extract, List.extract_eq_take_drop, List.drop_take]
theorem bv_cut (s : ByteArray) (a k : Nat) (h : a + k ≤ s.size) : (bv (s.extract a (a + k))).length = k := by rw [bv_length, ByteArray.size_extract]; omega
theorem bv_append (s t : ByteArray) : bv (s ++ t) = bv s ++ bv t := by
  unfold bv Lib.byteCells
  rw [ByteArray.data_append]; simp
theorem bv_join (s : ByteArray) (a b c : Nat) (h1 : a ≤ b) (h2 : b ≤ c) : bv (s.extract a b) ++ bv (s.extract b c) = bv (s.extract a c) := by
  rw [← bv_append, ByteArray.extract_append_extract]; congr 2 <;> omega
/-- A row with cells laid over it. -/
theorem laid_get {α : Type} (L cs : List α) (o i : Nat) (h : o + cs.length ≤ L.length) : (L.take o ++ cs ++ L.drop (o + cs.length))[i]? = if i < o then L[i]? else if i < o + cs.length then cs[i - o]? else L[i]? := by
  have h1 : (L.take o).length = o := by rw [List.length_take]; omega
  by_cases a : i < o
  · rw [if_pos a, List.append_assoc, List.getElem?_append_left (by omega), List.getElem?_take_of_lt a]
  · rw [if_neg a]
    by_cases b : i < o + cs.length
    · rw [if_pos b, List.append_assoc, List.getElem?_append_right (by omega), h1, List.getElem?_append_left (by omega)]
    · rw [if_neg b, List.getElem?_append_right (by rw [List.length_append]; omega), List.getElem?_drop, List.length_append, h1]
      congr 1; omega
theorem laid_length {α : Type} (L cs : List α) (o : Nat) (h : o + cs.length ≤ L.length) : (L.take o ++ cs ++ L.drop (o + cs.length)).length = L.length := by
  simp; omega
/-- copy of a text into a row: as many bytes as there is room for. -/
theorem run_copy_text {P : Program} (w : World) (dT sT ty elem : TypeId) (g o dLen dCap : Nat) (s : ByteArray) (cur : List Value) (t : TypeId) (k : Nat)
    (hu : P.underlying dT = some (.slice elem)) (hs : (P.info? elem).map (·.size) = some 1) (hg : Blk w g cur t) (hk : k = min s.size dLen) (hfit : o + k ≤ cur.length) :
    (Builtin.copy_ #[dT, sT] ty #[.slice (some ⟨g, o, none⟩) dLen dCap, .string s]).run P w =
      .ok (goInt k) (w.setRow g (cur.take o ++ bv (s.extract 0 k) ++ cur.drop (o + k)).toArray) := by
  have hks : k ≤ s.size := by omega
  have hx : bv (s.extract 0 k) = (bv s).take k := by rw [bv_extract, List.drop_zero]
  have hlen : ((bv s).take k).length = k := by rw [List.length_take, bv_length]; omega
  have hst := run_storeCells_at P g o t ((bv s).take k) 0 cur.toArray w hg (by rw [hlen]; simpa using hfit) (fun v hv => bv_one s v (List.mem_of_mem_take hv))
  have hmin : Nat.min s.size dLen = k := hk.symm
  rw [hlen] at hst
  simp only [Nat.add_zero] at hst
  rw [hx]
  cases hq : P.info? elem with
  | none => simp [hq] at hs
  | some i =>
    simp [Builtin.copy_, run_underlying hu, Builtin.lenOf, Builtin.firstCells, sizeOf, typeInfo, hq, hmin]
    unfold bv Lib.byteCells at hst ⊢
    rw [hst]
    simp [Result.andThen]
theorem run_make_blk {P : Program} (w : World) (t e : TypeId) (z : Value) (h1 : P.underlying t = some (.slice e)) (by_ : Nat) (h2 : (P.info? e).map (fun i => (i.zero, i.size, i.bytes)) = some (some z, 1, by_)) (hz : z.cells = #[z])
    (l n : Nat) (hl : l ≤ n) (b2 : by_ * n ≤ 281474976710656) (b3 : n ≤ 9223372036854775807) :
    (Instr.makeSlice t (.int .i64 l) (.int .i64 n)).run P w = .ok (.slice (some ⟨w.heap.size, 0, none⟩) l n) (w.alloc (.cells (List.replicate n z).toArray e)) := by
  obtain ⟨i, hi, hzz⟩ := Option.map_eq_some_iff.1 h2
  simp only [Prod.mk.injEq] at hzz
  obtain ⟨h3, h4, h5⟩ := hzz
  have hb' : (i.bytes : Int) * (n : Int) ≤ 281474976710656 := by
    have h : ((i.bytes * n : Nat) : Int) ≤ 281474976710656 := by rw [h5]; omega
    rwa [Int.natCast_mul] at h
  have hr := run_make (P := P) w t e i z h1 hi h3 .i64 .i64 l n (by omega) (by omega) hb' (by omega)
  simp only [Int.toNat_natCast] at hr
  rw [hr, h4, hz, Nat.mul_one]
  congr 3
  apply Array.toList_inj.1
  rw [toList_madeCells_one]
end Go.Proofs.YtfhhkmjjifbfeaaGreatDoor
