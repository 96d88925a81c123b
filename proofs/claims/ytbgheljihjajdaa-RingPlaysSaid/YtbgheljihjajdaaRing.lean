/- Contracts of a ring of bytes (package ring): what each method tells, and how the ring stands behind it. -/
import Derived.Test.YtbgheljihjajdaaBytes
import Derived.ProofKit
import Derived.OpenShut
import Derived.Handy
import Derived.WalkLawsBesides
import Derived.WalkSpells
import Derived.Lib.Hide
import Derived.RegionTactic
import Derived.ChangeAlike
import Derived.Deep.QuietTactic
import Derived.BigQuiet
import Derived.Deep.RegionHeld3
import Derived.StillTailTactics
namespace Go.Proofs.Ytbgheljihjajdaa
open Go.ChangeShapes Go.WideShapes Go.ChangeAt Go.RowKit
set_option linter.unusedSimpArgs false
set_option linter.unusedVariables false

theorem ret_i64 {a b : Int} (h : a = b) : Ending.returned (.int .i64 a) = .returned (.int .i64 b) := by rw [h]
theorem ret_str {a b : ByteArray} (h : a = b) : Ending.returned (.string a) = .returned (.string b) := by rw [h]
theorem ret_b {a b : Bool} (h : a = b) : Ending.returned (.bool a) = .returned (.bool b) := by rw [h]
theorem info5 : (Try.prog.info? 5).map (fun i => (i.zero, i.size, i.bytes)) = some (some (.int .u8 0), 1, 1) := by kernel_rfl
theorem size5 : (Try.prog.info? 5).map (·.size) = some 1 := by kernel_rfl

/-- Where byte i lies, of a ring of n bytes whose first one lies at f. -/
def rix (f n i : Nat) : Nat := if f + i < n then f + i else f + i - n
theorem rix_eq (f n i : Nat) (hf : f < n) (hi : i ≤ n) : (f + i) % n = rix f n i := by
  unfold rix
  by_cases h : f + i < n
  · rw [if_pos h, Nat.mod_eq_of_lt h]
  · rw [if_neg h, Nat.mod_eq_sub_mod (by omega), Nat.mod_eq_of_lt (by omega)]
/-- A ring in memory: n bytes of room, the first one at f, and the bytes that it holds. -/
def RAt (w : World) (b g n f : Nat) (S : ByteArray) : Prop :=
  1 ≤ n ∧ n ≤ 4096 ∧ f < n ∧ S.size ≤ n ∧ b ≠ g ∧ Blk w b [.slice (some ⟨g, 0, none⟩) n n, .int .i64 f, .int .i64 S.size] 54 ∧
  ∃ R : List Value, R.length = n ∧ Blk w g R 5 ∧ ∀ i (h : i < S.size), R[rix f n i]? = some (.int .u8 (S[i].toNat : Int))
theorem RAt.drewN {w : World} {b g n f : Nat} {S : ByteArray} (h : RAt w b g n f S) (q : Nat) : RAt (w.drewN q) b g n f S := h
theorem RAt.drew {w : World} {b g n f : Nat} {S : ByteArray} (h : RAt w b g n f S) : RAt w.drew b g n f S := h
theorem RAt.chg {w w' : World} {b g n f : Nat} {S : ByteArray} (h : RAt w b g n f S) {l : List Nat} (k : Chg l w w') (hb : b ∉ l) (hg : g ∉ l) : RAt w' b g n f S := by
  obtain ⟨h1, h2, h3, h4, h5, h6, R, h7, h8, h9⟩ := h
  exact ⟨h1, h2, h3, h4, h5, h6.chg k hb, R, h7, h8.chg k hg, h9⟩
theorem RAt.fresh {w w' : World} {b g n f : Nat} {S : ByteArray} (h : RAt w b g n f S) (k : Below w.heap.size w w') : RAt w' b g n f S :=
  h.chg (Chg.of_fresh k (l := [])) (by simp) (by simp)
theorem rix_add (f n a j : Nat) (ha : a ≤ n) (hf : f < n) (hj : rix f n a + j < n) : rix f n (a + j) = rix f n a + j := by
  unfold rix at *
  split at hj
  · rw [if_pos (by omega), if_pos (by omega)]; omega
  · rw [if_neg (by omega), if_neg (by omega)]; omega
theorem rix_wrap (f n a j : Nat) (ha : a + j ≤ n) (hf : f < n) (hj : n ≤ rix f n a + j) : rix f n (a + j) = rix f n a + j - n := by
  unfold rix at *
  split at hj
  · rw [if_neg (by omega), if_pos (by omega)]; omega
  · omega
theorem src_cells {w : World} {g n f : Nat} {R : List Value} {S : ByteArray} {T : TypeId} (hB : Blk w g R T) (hR : ∀ i (h : i < S.size), R[rix f n i]? = some (.int .u8 (S[i].toNat : Int))) (a k o : Nat) (hk : a + k ≤ S.size) (ho : ∀ j, j < k → rix f n (a + j) = o + j) :
    ∀ j v, (bv (S.extract a (a + k)))[j]? = some v → w.cell? ((⟨g, o, none⟩ : Addr).add j) = some v := by
  intro j v hv
  obtain ⟨hj, rfl⟩ := bv_get _ _ _ hv
  have hjk : j < k := by rw [ByteArray.size_extract] at hj; omega
  have e : (({ block := g, off := o, spot := none } : Addr).add j) = ⟨g, o + j, none⟩ := by simp [Addr.add]
  rw [e, ByteArray.getElem_extract]
  have := hR (a + j) (by omega)
  rw [ho j hjk] at this
  exact hB.cell this
theorem bytes_of {w : World} {g : Nat} {X : List Value} {T : TypeId} {S : ByteArray} (hB : Blk w g X T) (hX : X = bv S) : Lib.Bytes w g 0 S := by
  intro i hi
  rw [Nat.zero_add]
  exact hB.cell (by rw [hX]; exact bv_at S i hi)
/-- How many bytes Peek tells. -/
def pkN (held : Nat) (a k : Int) : Nat := if a < 0 ∨ (held : Int) ≤ a ∨ k ≤ 0 then 0 else min k.toNat (held - a.toNat)
theorem peek_none (b g n f : Nat) (S : ByteArray) (a k : Int) (w : World) (h : RAt w b g n f S) (hn : a < 0 ∨ (S.size : Int) ≤ a ∨ k ≤ 0) :
    Calls Try.prog 21 #[.pointer (some ⟨b, 0, none⟩), .int .i64 a, .int .i64 k] w fun e w' => e = .returned (.string ⟨#[]⟩) ∧ w = w' := by
  obtain ⟨h1, h2, h3, h4, h5, h6, R, h7, h8, h9⟩ := h
  have c0 := h6.cell (i := 0) rfl
  have c1 := h6.cell (i := 1) rfl
  have c2 := h6.cell (i := 2) rfl
  clear h9
  by_cases a1 : a < 0
  · go_enter Try.func21, Try.ntmps21
    go_wp2
    go_ret
    exact ⟨rfl, rfl⟩
  · by_cases a2 : (S.size : Int) ≤ a
    · go_enter Try.func21, Try.ntmps21
      go_wp2
      go_ret
      exact ⟨rfl, rfl⟩
    · have a3 : k ≤ 0 := by omega
      go_enter Try.func21, Try.ntmps21
      go_wp2
      go_ret
      exact ⟨rfl, rfl⟩
set_option maxHeartbeats 1000000 in
theorem peek_some (b g n f a m : Nat) (S : ByteArray) (k : Int) (w : World) (h : RAt w b g n f S) (hm : 0 < m) (ham : a + m ≤ S.size) (hk : k = m ∨ (m : Int) ≤ k ∧ a + m = S.size) :
    Calls Try.prog 21 #[.pointer (some ⟨b, 0, none⟩), .int .i64 a, .int .i64 k] w fun e w' => e = .returned (.string (S.extract a (a + m))) ∧ Below w.heap.size w w' := by
  obtain ⟨h1, h2, h3, h4, h5, h6, R, h7, h8, h9⟩ := h
  have c0 := h6.cell (i := 0) rfl
  have c1 := h6.cell (i := 1) rfl
  have c2 := h6.cell (i := 2) rfl
  have H9 := Lib.hid h9
  have H8 := Lib.hid h8
  have H7 := Lib.hid h7
  have hmk : ∀ W, (Instr.makeSlice 44 (.int .i64 m) (.int .i64 m)).run Try.prog W = .ok (.slice (some ⟨W.heap.size, 0, none⟩) m m) (W.alloc (.cells (List.replicate m (.int .u8 0)).toArray 5)) := fun W =>
    run_make_blk W _ _ _ Try.underlying44 1 info5 rfl m m (Nat.le_refl _) (by omega) (by omega)
  have hmin : min k ((S.size : Int) - (a : Int)) = (m : Int) := by omega
  have g1 : (0 : Int) ≤ (a : Int) := by omega
  have g2 : (a : Int) < (S.size : Int) := by omega
  have g3 : 0 < k := by omega
  clear h9 h8 h7 hk
  go_enter Try.func21, Try.ntmps21
  go_wp2
  have hW : Hid (Blk (w.alloc (Obj.cells (Array.replicate m (Value.int IntKind.u8 0)) 5)) b [.slice (some ⟨g, 0, none⟩) n n, .int .i64 f, .int .i64 S.size] 54 ∧ Blk (w.alloc (Obj.cells (Array.replicate m (Value.int IntKind.u8 0)) 5)) g R 5 ∧
      Blk (w.alloc (Obj.cells (Array.replicate m (Value.int IntKind.u8 0)) 5)) w.heap.size (List.replicate m (Value.int IntKind.u8 0)) 5 ∧ Below w.heap.size w (w.alloc (Obj.cells (Array.replicate m (Value.int IntKind.u8 0)) 5))) := by
    refine ⟨h6.alloc _, H8.out.alloc _, ?_, (Below.refl _ _).alloc (Nat.le_refl _) _⟩
    have := Blk.newA w (Array.replicate m (Value.int IntKind.u8 0)) 5
    rw [Array.toList_replicate] at this
    exact this
  have hbl := h6.lt
  have hgl := H8.out.lt
  clear h6 c0 c1 c2 H8
  revert hW
  generalize (w.alloc (Obj.cells (Array.replicate m (Value.int IntKind.u8 0)) 5)) = W1
  intro hW
  have c0 := hW.out.1.cell (i := 0) rfl
  have c1 := hW.out.1.cell (i := 1) rfl
  have c2 := hW.out.1.cell (i := 2) rfl
  obtain ⟨st, hst⟩ : ∃ st, rix f n a = st := ⟨_, rfl⟩
  have hstn : st < n := by rw [← hst]; unfold rix; split <;> omega
  have hsum : IntKind.i64.wrap ((f : Int) + (a : Int)) = (f : Int) + (a : Int) := IntWalk.i64_in _ (by omega)
  have hrem : ((f : Int) + (a : Int)).tmod (n : Int) = (st : Int) := by
    have : ((f + a : Nat) : Int) = (f : Int) + (a : Int) := by omega
    rw [← this, ← hst, ← rix_eq f n a h3 (by omega)]
    rfl
  have hn0 : ((n : Int) == 0) = false := by simp; omega
  have hbz : b ≠ w.heap.size := by omega
  have hgz : g ≠ w.heap.size := by omega
  have hwr : IntKind.i64.wrap (st : Int) = (st : Int) := IntWalk.i64_in _ (by omega)
  have e4 : ¬ n = 0 := by omega
  have e1 : (0 : Int) ≤ (st : Int) := by omega
  have e2 : (st : Int) ≤ (n : Int) := by omega
  have e3 : ¬ n = st := by omega
  have HS := Lib.hid hst
  clear hst
  go_still_tail 18, (by kernel_rfl)
  have hu := Try.underlying44
  clear c0 c1 c2
  change wpList _ _ _ _ _ W1.drew
  have hV : Hid (Blk W1.drew b [.slice (some ⟨g, 0, none⟩) n n, .int .i64 f, .int .i64 S.size] 54 ∧ Blk W1.drew g R 5 ∧ Blk W1.drew w.heap.size (List.replicate m (Value.int IntKind.u8 0)) 5 ∧ Below w.heap.size w W1.drew) :=
    ⟨hW.out.1.drew, hW.out.2.1.drew, hW.out.2.2.1.drew, hW.out.2.2.2.drew⟩
  clear hW
  revert hV
  generalize W1.drew = W2
  intro hV
  by_cases hw : m ≤ n - st
  · have hr1 := run_copy_row (P := Try.prog) W2 44 44 3 5 w.heap.size 0 m m ⟨g, st, none⟩ (n - st) (n - st) _ _ (bv (S.extract a (a + m))) hu size5 hV.out.2.2.1
      (by rw [bv_cut _ _ _ ham]; exact (Nat.min_eq_right hw).symm) (src_cells hV.out.2.1 H9.out a m st ham (fun j hj => by rw [rix_add f n a j (by omega) h3 (by have := HS.out; omega), HS.out])) (by rw [bv_cut _ _ _ ham]; simp) (bv_one _)
    rw [bv_cut _ _ _ ham] at hr1
    simp only [List.take_zero, List.nil_append, Nat.zero_add, List.drop_replicate, Nat.sub_self, List.replicate_zero, List.append_nil] at hr1
    refine Lib.wpList_copy_run _ rfl _ _ _ _ rfl _ _ rfl rfl hr1 ?_
    have hU : Hid (Blk (W2.setRow w.heap.size (bv (S.extract a (a + m))).toArray) b [.slice (some ⟨g, 0, none⟩) n n, .int .i64 f, .int .i64 S.size] 54 ∧ Blk (W2.setRow w.heap.size (bv (S.extract a (a + m))).toArray) w.heap.size (bv (S.extract a (a + m))) 5 ∧ Below w.heap.size w (W2.setRow w.heap.size (bv (S.extract a (a + m))).toArray)) :=
      ⟨hV.out.1.rowOther hbz _, hV.out.2.2.1.setRow, below_setRow hV.out.2.2.2 (Nat.le_refl _) _⟩
    clear hr1 hV
    revert hU
    generalize (W2.setRow w.heap.size (bv (S.extract a (a + m))).toArray) = W3
    intro hU
    have c0 := hU.out.1.cell (i := 0) rfl
    have u1 : (0 : Int) ≤ (m : Int) := by omega
    go_wp2
    go_still_tail 7, (by kernel_rfl)
    change wpList _ _ _ _ _ W3.drew
    have hr2 := run_copy_none (P := Try.prog) W3.drew 44 44 3 5 (some ⟨w.heap.size, 0, none⟩) (some ⟨g, 0, none⟩) 0 0 n n hu size5 (Nat.min_zero n)
    refine Lib.wpList_copy_run _ rfl _ _ _ _ rfl _ _ rfl rfl hr2 ?_
    have hcv := Lib.run_convert_window (P := Try.prog) W3.drew 44 5 9 Try.underlying44 Try.underlying5 Try.underlying9 w.heap.size 0 (S.extract a (a + m)) (bytes_of hU.out.2.1.drew rfl) 0 m m (by rw [ByteArray.size_extract]; omega)
    have hS2 : Hid ((S.extract a (a + m)).extract 0 (0 + m) = S.extract a (a + m)) := by rw [Hid, ByteArray.extract_extract]; congr 1 <;> omega
    rw [hS2.out, Nat.add_zero] at hcv
    clear c0
    go_wp2
    go_ret
    exact ⟨rfl, hU.out.2.2.drew⟩
  · obtain ⟨q, hq⟩ : ∃ q, n - st = q := ⟨_, rfl⟩
    have hqm : q < m := by omega
    have haq : a + q ≤ S.size := by omega
    have hr1 := run_copy_row (P := Try.prog) W2 44 44 3 5 w.heap.size 0 m m ⟨g, st, none⟩ (n - st) (n - st) _ _ (bv (S.extract a (a + q))) hu size5 hV.out.2.2.1
      (by rw [bv_cut _ _ _ haq, hq]; exact (Nat.min_eq_left (by omega)).symm) (src_cells hV.out.2.1 H9.out a q st haq (fun j hj => by rw [rix_add f n a j (by omega) h3 (by have := HS.out; omega), HS.out])) (by rw [bv_cut _ _ _ haq]; simp; omega) (bv_one _)
    rw [bv_cut _ _ _ haq] at hr1
    simp only [List.take_zero, List.nil_append, Nat.zero_add, List.drop_replicate] at hr1
    refine Lib.wpList_copy_run _ rfl _ _ _ _ rfl _ _ rfl rfl hr1 ?_
    have hU : Hid (Blk (W2.setRow w.heap.size (bv (S.extract a (a + q)) ++ List.replicate (m - q) (Value.int .u8 0)).toArray) b [.slice (some ⟨g, 0, none⟩) n n, .int .i64 f, .int .i64 S.size] 54 ∧ Blk (W2.setRow w.heap.size (bv (S.extract a (a + q)) ++ List.replicate (m - q) (Value.int .u8 0)).toArray) g R 5 ∧
        Blk (W2.setRow w.heap.size (bv (S.extract a (a + q)) ++ List.replicate (m - q) (Value.int .u8 0)).toArray) w.heap.size (bv (S.extract a (a + q)) ++ List.replicate (m - q) (Value.int .u8 0)) 5 ∧ Below w.heap.size w (W2.setRow w.heap.size (bv (S.extract a (a + q)) ++ List.replicate (m - q) (Value.int .u8 0)).toArray)) :=
      ⟨hV.out.1.rowOther hbz _, hV.out.2.1.rowOther hgz _, hV.out.2.2.1.setRow, below_setRow hV.out.2.2.2 (Nat.le_refl _) _⟩
    clear hr1 hV
    revert hU
    generalize (W2.setRow w.heap.size (bv (S.extract a (a + q)) ++ List.replicate (m - q) (Value.int .u8 0)).toArray) = W3
    intro hU
    have c0 := hU.out.1.cell (i := 0) rfl
    have u1 : (0 : Int) ≤ (q : Int) := by omega
    have u2 : (q : Int) ≤ (m : Int) := by omega
    have u3 : ¬ m = q := by omega
    have HQ := Lib.hid hq
    clear hq hw
    go_wp2
    go_still_tail 7, (by kernel_rfl)
    change wpList _ _ _ _ _ W3.drew
    have hx2 : (bv (S.extract (a + q) ((a + q) + (m - q)))).length = m - q := bv_cut _ _ _ (by omega)
    have hr2 := run_copy_row (P := Try.prog) W3.drew 44 44 3 5 w.heap.size q (m - q) (m - q) ⟨g, 0, none⟩ n n _ _ (bv (S.extract (a + q) ((a + q) + (m - q)))) hu size5 hU.out.2.2.1.drew
      (by rw [hx2]; exact (Nat.min_eq_right (by omega)).symm) (src_cells hU.out.2.1.drew H9.out (a + q) (m - q) 0 (by omega) (fun j hj => by
        have h := HQ.out; have h' := HS.out
        rw [Nat.add_assoc, rix_wrap f n a (q + j) (by omega) h3 (by omega)]; omega)) (by rw [hx2, List.size_toArray, List.length_append, bv_cut _ _ _ haq]; simp) (bv_one _)
    rw [hx2] at hr2
    have hrow : Hid (List.take q (bv (S.extract a (a + q)) ++ List.replicate (m - q) (Value.int .u8 0)).toArray.toList ++ bv (S.extract (a + q) ((a + q) + (m - q))) ++ List.drop (q + (m - q)) (bv (S.extract a (a + q)) ++ List.replicate (m - q) (Value.int .u8 0)).toArray.toList = bv (S.extract a (a + m))) := by
      have hl := bv_cut S a q haq
      have e0 : a + q + (m - q) = a + m := by omega
      rw [Hid, e0, List.take_append_of_le_length (by omega), List.take_of_length_le (by omega), List.drop_eq_nil_of_le (by simp [hl]), List.append_nil]
      exact bv_join S a (a + q) (a + m) (by omega) (by omega)
    rw [hrow.out] at hr2
    refine Lib.wpList_copy_run _ rfl _ _ _ _ rfl _ _ rfl rfl hr2 ?_
    have hT : Hid (Blk (W3.drew.setRow w.heap.size (bv (S.extract a (a + m))).toArray) w.heap.size (bv (S.extract a (a + m))) 5 ∧ Below w.heap.size w (W3.drew.setRow w.heap.size (bv (S.extract a (a + m))).toArray)) :=
      ⟨hU.out.2.2.1.drew.setRow, below_setRow hU.out.2.2.2.drew (Nat.le_refl _) _⟩
    clear hr2 hU c0
    revert hT
    generalize (W3.drew.setRow w.heap.size (bv (S.extract a (a + m))).toArray) = W4
    intro hT
    have hcv := Lib.run_convert_window (P := Try.prog) W4 44 5 9 Try.underlying44 Try.underlying5 Try.underlying9 w.heap.size 0 (S.extract a (a + m)) (bytes_of hT.out.1 rfl) 0 m m (by rw [ByteArray.size_extract]; omega)
    have hS2 : Hid ((S.extract a (a + m)).extract 0 (0 + m) = S.extract a (a + m)) := by rw [Hid, ByteArray.extract_extract]; congr 1 <;> omega
    rw [hS2.out, Nat.add_zero] at hcv
    go_wp2
    go_ret
    exact ⟨rfl, hT.out.2⟩
end Go.Proofs.Ytbgheljihjajdaa
