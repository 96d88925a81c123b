/- Several texts in one. -/
import Derived.Test.YtbdjcppkfihonaaBytes
import Derived.ProofKit
import Derived.OpenShut
import Derived.Handy
import Derived.WalkLawsBesides
import Derived.WalkSpells
import Derived.Lib.Hide
import Derived.RegionTactic
import Derived.ChangeAlike
import Derived.Deep.QuietTactic
import Derived.BigQuiet
import Derived.Deep.RegionHeld3
import Derived.StillTailTactics
/- Contracts of a ring of bytes (package ring): what each method tells, and how the ring stands behind it. -/
namespace Go.Proofs.Ytbdjcppkfihonaa
open Go.ChangeShapes Go.WideShapes Go.ChangeAt Go.RowKit
set_option linter.unusedSimpArgs false
set_option linter.unusedVariables false

theorem ret_i64 {a b : Int} (h : a = b) : Ending.returned (.int .i64 a) = .returned (.int .i64 b) := by rw [h]
theorem ret_str {a b : ByteArray} (h : a = b) : Ending.returned (.string a) = .returned (.string b) := by rw [h]
theorem ret_b {a b : Bool} (h : a = b) : Ending.returned (.bool a) = .returned (.bool b) := by rw [h]
theorem info5 : (Try.prog.info? 5).map (fun i => (i.zero, i.size, i.bytes)) = some (some (.int .u8 0), 1, 1) := by kernel_rfl
theorem size5 : (Try.prog.info? 5).map (·.size) = some 1 := by kernel_rfl

/-- Where byte i lies, of a ring of n bytes whose first one lies at f. -/
def rix (f n i : Nat) : Nat := if f + i < n then f + i else f + i - n
theorem rix_eq (f n i : Nat) (hf : f < n) (hi : i ≤ n) : (f + i) % n = rix f n i := by
  unfold rix
  by_cases h : f + i < n
  · rw [if_pos h, Nat.mod_eq_of_lt h]
  · rw [if_neg h, Nat.mod_eq_sub_mod (by omega), Nat.mod_eq_of_lt (by omega)]
/-- A ring in memory: n bytes of room, the first one at f, and the bytes that it holds. -/
def RAt (w : World) (b g n f : Nat) (S : ByteArray) : Prop :=
  1 ≤ n ∧ n ≤ 4096 ∧ f < n ∧ S.size ≤ n ∧ b ≠ g ∧ Blk w b [.slice (some ⟨g, 0, none⟩) n n, .int .i64 f, .int .i64 S.size] 110 ∧
  ∃ R : List Value, R.length = n ∧ Blk w g R 5 ∧ ∀ i (h : i < S.size), R[rix f n i]? = some (.int .u8 (S[i].toNat : Int))
theorem RAt.drewN {w : World} {b g n f : Nat} {S : ByteArray} (h : RAt w b g n f S) (q : Nat) : RAt (w.drewN q) b g n f S := h
theorem RAt.drew {w : World} {b g n f : Nat} {S : ByteArray} (h : RAt w b g n f S) : RAt w.drew b g n f S := h
theorem RAt.chg {w w' : World} {b g n f : Nat} {S : ByteArray} (h : RAt w b g n f S) {l : List Nat} (k : Chg l w w') (hb : b ∉ l) (hg : g ∉ l) : RAt w' b g n f S := by
  obtain ⟨h1, h2, h3, h4, h5, h6, R, h7, h8, h9⟩ := h
  exact ⟨h1, h2, h3, h4, h5, h6.chg k hb, R, h7, h8.chg k hg, h9⟩
theorem RAt.fresh {w w' : World} {b g n f : Nat} {S : ByteArray} (h : RAt w b g n f S) (k : Below w.heap.size w w') : RAt w' b g n f S :=
  h.chg (Chg.of_fresh k (l := [])) (by simp) (by simp)
theorem rix_add (f n a j : Nat) (ha : a ≤ n) (hf : f < n) (hj : rix f n a + j < n) : rix f n (a + j) = rix f n a + j := by
  unfold rix at *
  split at hj
  · rw [if_pos (by omega), if_pos (by omega)]; omega
  · rw [if_neg (by omega), if_neg (by omega)]; omega
theorem rix_wrap (f n a j : Nat) (ha : a + j ≤ n) (hf : f < n) (hj : n ≤ rix f n a + j) : rix f n (a + j) = rix f n a + j - n := by
  unfold rix at *
  split at hj
  · rw [if_neg (by omega), if_pos (by omega)]; omega
  · omega
theorem src_cells {w : World} {g n f : Nat} {R : List Value} {S : ByteArray} {T : TypeId} (hB : Blk w g R T) (hR : ∀ i (h : i < S.size), R[rix f n i]? = some (.int .u8 (S[i].toNat : Int))) (a k o : Nat) (hk : a + k ≤ S.size) (ho : ∀ j, j < k → rix f n (a + j) = o + j) :
    ∀ j v, (bv (S.extract a (a + k)))[j]? = some v → w.cell? ((⟨g, o, none⟩ : Addr).add j) = some v := by
  intro j v hv
  obtain ⟨hj, rfl⟩ := bv_get _ _ _ hv
  have hjk : j < k := by rw [ByteArray.size_extract] at hj; omega
  have e : (({ block := g, off := o, spot := none } : Addr).add j) = ⟨g, o + j, none⟩ := by simp [Addr.add]
  rw [e, ByteArray.getElem_extract]
  have := hR (a + j) (by omega)
  rw [ho j hjk] at this
  exact hB.cell this
theorem bytes_of {w : World} {g : Nat} {X : List Value} {T : TypeId} {S : ByteArray} (hB : Blk w g X T) (hX : X = bv S) : Lib.Bytes w g 0 S := by
  intro i hi
  rw [Nat.zero_add]
  exact hB.cell (by rw [hX]; exact bv_at S i hi)
/-- How many bytes Peek tells. -/
def pkN (held : Nat) (a k : Int) : Nat := if a < 0 ∨ (held : Int) ≤ a ∨ k ≤ 0 then 0 else min k.toNat (held - a.toNat)
set_option maxRecDepth 20000 in
theorem peek_none (b g n f : Nat) (S : ByteArray) (a k : Int) (w : World) (h : RAt w b g n f S) (hn : a < 0 ∨ (S.size : Int) ≤ a ∨ k ≤ 0) :
    Calls Try.prog 46 #[.pointer (some ⟨b, 0, none⟩), .int .i64 a, .int .i64 k] w fun e w' => e = .returned (.string ⟨#[]⟩) ∧ w = w' := by
  obtain ⟨h1, h2, h3, h4, h5, h6, R, h7, h8, h9⟩ := h
  have c0 := h6.cell (i := 0) rfl
  have c1 := h6.cell (i := 1) rfl
  have c2 := h6.cell (i := 2) rfl
  clear h9
  by_cases a1 : a < 0
  · go_enter Try.func46, Try.ntmps46
    go_wp2
    go_ret
    exact ⟨rfl, rfl⟩
  · by_cases a2 : (S.size : Int) ≤ a
    · go_enter Try.func46, Try.ntmps46
      go_wp2
      go_ret
      exact ⟨rfl, rfl⟩
    · have a3 : k ≤ 0 := by omega
      go_enter Try.func46, Try.ntmps46
      go_wp2
      go_ret
      exact ⟨rfl, rfl⟩
set_option maxHeartbeats 1000000 in
set_option maxRecDepth 20000 in
theorem peek_some (b g n f a m : Nat) (S : ByteArray) (k : Int) (w : World) (h : RAt w b g n f S) (hm : 0 < m) (ham : a + m ≤ S.size) (hk : k = m ∨ (m : Int) ≤ k ∧ a + m = S.size) :
    Calls Try.prog 46 #[.pointer (some ⟨b, 0, none⟩), .int .i64 a, .int .i64 k] w fun e w' => e = .returned (.string (S.extract a (a + m))) ∧ Below w.heap.size w w' := by
  obtain ⟨h1, h2, h3, h4, h5, h6, R, h7, h8, h9⟩ := h
  have c0 := h6.cell (i := 0) rfl
  have c1 := h6.cell (i := 1) rfl
  have c2 := h6.cell (i := 2) rfl
  have H9 := Lib.hid h9
  have H8 := Lib.hid h8
  have H7 := Lib.hid h7
  have hmk : ∀ W, (Instr.makeSlice 85 (.int .i64 m) (.int .i64 m)).run Try.prog W = .ok (.slice (some ⟨W.heap.size, 0, none⟩) m m) (W.alloc (.cells (List.replicate m (.int .u8 0)).toArray 5)) := fun W =>
    run_make_blk W _ _ _ Try.underlying85 1 info5 rfl m m (Nat.le_refl _) (by omega) (by omega)
  have hmin : min k ((S.size : Int) - (a : Int)) = (m : Int) := by omega
  have g1 : (0 : Int) ≤ (a : Int) := by omega
  have g2 : (a : Int) < (S.size : Int) := by omega
  have g3 : 0 < k := by omega
  clear h9 h8 h7 hk
  go_enter Try.func46, Try.ntmps46
  go_wp2
  have hW : Hid (Blk (w.alloc (Obj.cells (Array.replicate m (Value.int IntKind.u8 0)) 5)) b [.slice (some ⟨g, 0, none⟩) n n, .int .i64 f, .int .i64 S.size] 110 ∧ Blk (w.alloc (Obj.cells (Array.replicate m (Value.int IntKind.u8 0)) 5)) g R 5 ∧
      Blk (w.alloc (Obj.cells (Array.replicate m (Value.int IntKind.u8 0)) 5)) w.heap.size (List.replicate m (Value.int IntKind.u8 0)) 5 ∧ Below w.heap.size w (w.alloc (Obj.cells (Array.replicate m (Value.int IntKind.u8 0)) 5))) := by
    refine ⟨h6.alloc _, H8.out.alloc _, ?_, (Below.refl _ _).alloc (Nat.le_refl _) _⟩
    have := Blk.newA w (Array.replicate m (Value.int IntKind.u8 0)) 5
    rw [Array.toList_replicate] at this
    exact this
  have hbl := h6.lt
  have hgl := H8.out.lt
  clear h6 c0 c1 c2 H8
  revert hW
  generalize (w.alloc (Obj.cells (Array.replicate m (Value.int IntKind.u8 0)) 5)) = W1
  intro hW
  have c0 := hW.out.1.cell (i := 0) rfl
  have c1 := hW.out.1.cell (i := 1) rfl
  have c2 := hW.out.1.cell (i := 2) rfl
  obtain ⟨st, hst⟩ : ∃ st, rix f n a = st := ⟨_, rfl⟩
  have hstn : st < n := by rw [← hst]; unfold rix; split <;> omega
  have hsum : IntKind.i64.wrap ((f : Int) + (a : Int)) = (f : Int) + (a : Int) := IntWalk.i64_in _ (by omega)
  have hrem : ((f : Int) + (a : Int)).tmod (n : Int) = (st : Int) := by
    have : ((f + a : Nat) : Int) = (f : Int) + (a : Int) := by omega
    rw [← this, ← hst, ← rix_eq f n a h3 (by omega)]
    rfl
  have hn0 : ((n : Int) == 0) = false := by simp; omega
  have hbz : b ≠ w.heap.size := by omega
  have hgz : g ≠ w.heap.size := by omega
  have hwr : IntKind.i64.wrap (st : Int) = (st : Int) := IntWalk.i64_in _ (by omega)
  have e4 : ¬ n = 0 := by omega
  have e1 : (0 : Int) ≤ (st : Int) := by omega
  have e2 : (st : Int) ≤ (n : Int) := by omega
  have e3 : ¬ n = st := by omega
  have HS := Lib.hid hst
  clear hst
  go_still_tail 18, (by kernel_rfl)
  have hu := Try.underlying85
  clear c0 c1 c2
  change wpList _ _ _ _ _ W1.drew
  have hV : Hid (Blk W1.drew b [.slice (some ⟨g, 0, none⟩) n n, .int .i64 f, .int .i64 S.size] 110 ∧ Blk W1.drew g R 5 ∧ Blk W1.drew w.heap.size (List.replicate m (Value.int IntKind.u8 0)) 5 ∧ Below w.heap.size w W1.drew) :=
    ⟨hW.out.1.drew, hW.out.2.1.drew, hW.out.2.2.1.drew, hW.out.2.2.2.drew⟩
  clear hW
  revert hV
  generalize W1.drew = W2
  intro hV
  by_cases hw : m ≤ n - st
  · have hr1 := run_copy_row (P := Try.prog) W2 85 85 3 5 w.heap.size 0 m m ⟨g, st, none⟩ (n - st) (n - st) _ _ (bv (S.extract a (a + m))) hu size5 hV.out.2.2.1
      (by rw [bv_cut _ _ _ ham]; exact (Nat.min_eq_right hw).symm) (src_cells hV.out.2.1 H9.out a m st ham (fun j hj => by rw [rix_add f n a j (by omega) h3 (by have := HS.out; omega), HS.out])) (by rw [bv_cut _ _ _ ham]; simp) (bv_one _)
    rw [bv_cut _ _ _ ham] at hr1
    simp only [List.take_zero, List.nil_append, Nat.zero_add, List.drop_replicate, Nat.sub_self, List.replicate_zero, List.append_nil] at hr1
    refine Lib.wpList_copy_run _ rfl _ _ _ _ rfl _ _ rfl rfl hr1 ?_
    have hU : Hid (Blk (W2.setRow w.heap.size (bv (S.extract a (a + m))).toArray) b [.slice (some ⟨g, 0, none⟩) n n, .int .i64 f, .int .i64 S.size] 110 ∧ Blk (W2.setRow w.heap.size (bv (S.extract a (a + m))).toArray) w.heap.size (bv (S.extract a (a + m))) 5 ∧ Below w.heap.size w (W2.setRow w.heap.size (bv (S.extract a (a + m))).toArray)) :=
      ⟨hV.out.1.rowOther hbz _, hV.out.2.2.1.setRow, below_setRow hV.out.2.2.2 (Nat.le_refl _) _⟩
    clear hr1 hV
    revert hU
    generalize (W2.setRow w.heap.size (bv (S.extract a (a + m))).toArray) = W3
    intro hU
    have c0 := hU.out.1.cell (i := 0) rfl
    have u1 : (0 : Int) ≤ (m : Int) := by omega
    go_wp2
    go_still_tail 7, (by kernel_rfl)
    change wpList _ _ _ _ _ W3.drew
    have hr2 := run_copy_none (P := Try.prog) W3.drew 85 85 3 5 (some ⟨w.heap.size, 0, none⟩) (some ⟨g, 0, none⟩) 0 0 n n hu size5 (Nat.min_zero n)
    refine Lib.wpList_copy_run _ rfl _ _ _ _ rfl _ _ rfl rfl hr2 ?_
    have hcv := Lib.run_convert_window (P := Try.prog) W3.drew 85 5 9 Try.underlying85 Try.underlying5 Try.underlying9 w.heap.size 0 (S.extract a (a + m)) (bytes_of hU.out.2.1.drew rfl) 0 m m (by rw [ByteArray.size_extract]; omega)
    have hS2 : Hid ((S.extract a (a + m)).extract 0 (0 + m) = S.extract a (a + m)) := by rw [Hid, ByteArray.extract_extract]; congr 1 <;> omega
    rw [hS2.out, Nat.add_zero] at hcv
    clear c0
    go_wp2
    go_ret
    exact ⟨rfl, hU.out.2.2.drew⟩
  · obtain ⟨q, hq⟩ : ∃ q, n - st = q := ⟨_, rfl⟩
    have hqm : q < m := by omega
    have haq : a + q ≤ S.size := by omega
    have hr1 := run_copy_row (P := Try.prog) W2 85 85 3 5 w.heap.size 0 m m ⟨g, st, none⟩ (n - st) (n - st) _ _ (bv (S.extract a (a + q))) hu size5 hV.out.2.2.1
      (by rw [bv_cut _ _ _ haq, hq]; exact (Nat.min_eq_left (by omega)).symm) (src_cells hV.out.2.1 H9.out a q st haq (fun j hj => by rw [rix_add f n a j (by omega) h3 (by have := HS.out; omega), HS.out])) (by rw [bv_cut _ _ _ haq]; simp; omega) (bv_one _)
    rw [bv_cut _ _ _ haq] at hr1
    simp only [List.take_zero, List.nil_append, Nat.zero_add, List.drop_replicate] at hr1
    refine Lib.wpList_copy_run _ rfl _ _ _ _ rfl _ _ rfl rfl hr1 ?_
    have hU : Hid (Blk (W2.setRow w.heap.size (bv (S.extract a (a + q)) ++ List.replicate (m - q) (Value.int .u8 0)).toArray) b [.slice (some ⟨g, 0, none⟩) n n, .int .i64 f, .int .i64 S.size] 110 ∧ Blk (W2.setRow w.heap.size (bv (S.extract a (a + q)) ++ List.replicate (m - q) (Value.int .u8 0)).toArray) g R 5 ∧
        Blk (W2.setRow w.heap.size (bv (S.extract a (a + q)) ++ List.replicate (m - q) (Value.int .u8 0)).toArray) w.heap.size (bv (S.extract a (a + q)) ++ List.replicate (m - q) (Value.int .u8 0)) 5 ∧ Below w.heap.size w (W2.setRow w.heap.size (bv (S.extract a (a + q)) ++ List.replicate (m - q) (Value.int .u8 0)).toArray)) :=
      ⟨hV.out.1.rowOther hbz _, hV.out.2.1.rowOther hgz _, hV.out.2.2.1.setRow, below_setRow hV.out.2.2.2 (Nat.le_refl _) _⟩
    clear hr1 hV
    revert hU
    generalize (W2.setRow w.heap.size (bv (S.extract a (a + q)) ++ List.replicate (m - q) (Value.int .u8 0)).toArray) = W3
    intro hU
    have c0 := hU.out.1.cell (i := 0) rfl
    have u1 : (0 : Int) ≤ (q : Int) := by omega
    have u2 : (q : Int) ≤ (m : Int) := by omega
    have u3 : ¬ m = q := by omega
    have HQ := Lib.hid hq
    clear hq hw
    go_wp2
    go_still_tail 7, (by kernel_rfl)
    change wpList _ _ _ _ _ W3.drew
    have hx2 : (bv (S.extract (a + q) ((a + q) + (m - q)))).length = m - q := bv_cut _ _ _ (by omega)
    have hr2 := run_copy_row (P := Try.prog) W3.drew 85 85 3 5 w.heap.size q (m - q) (m - q) ⟨g, 0, none⟩ n n _ _ (bv (S.extract (a + q) ((a + q) + (m - q)))) hu size5 hU.out.2.2.1.drew
      (by rw [hx2]; exact (Nat.min_eq_right (by omega)).symm) (src_cells hU.out.2.1.drew H9.out (a + q) (m - q) 0 (by omega) (fun j hj => by
        have h := HQ.out; have h' := HS.out
        rw [Nat.add_assoc, rix_wrap f n a (q + j) (by omega) h3 (by omega)]; omega)) (by rw [hx2, List.size_toArray, List.length_append, bv_cut _ _ _ haq]; simp) (bv_one _)
    rw [hx2] at hr2
    have hrow : Hid (List.take q (bv (S.extract a (a + q)) ++ List.replicate (m - q) (Value.int .u8 0)).toArray.toList ++ bv (S.extract (a + q) ((a + q) + (m - q))) ++ List.drop (q + (m - q)) (bv (S.extract a (a + q)) ++ List.replicate (m - q) (Value.int .u8 0)).toArray.toList = bv (S.extract a (a + m))) := by
      have hl := bv_cut S a q haq
      have e0 : a + q + (m - q) = a + m := by omega
      rw [Hid, e0, List.take_append_of_le_length (by omega), List.take_of_length_le (by omega), List.drop_eq_nil_of_le (by simp [hl]), List.append_nil]
      exact bv_join S a (a + q) (a + m) (by omega) (by omega)
    rw [hrow.out] at hr2
    refine Lib.wpList_copy_run _ rfl _ _ _ _ rfl _ _ rfl rfl hr2 ?_
    have hT : Hid (Blk (W3.drew.setRow w.heap.size (bv (S.extract a (a + m))).toArray) w.heap.size (bv (S.extract a (a + m))) 5 ∧ Below w.heap.size w (W3.drew.setRow w.heap.size (bv (S.extract a (a + m))).toArray)) :=
      ⟨hU.out.2.2.1.drew.setRow, below_setRow hU.out.2.2.2.drew (Nat.le_refl _) _⟩
    clear hr2 hU c0
    revert hT
    generalize (W3.drew.setRow w.heap.size (bv (S.extract a (a + m))).toArray) = W4
    intro hT
    have hcv := Lib.run_convert_window (P := Try.prog) W4 85 5 9 Try.underlying85 Try.underlying5 Try.underlying9 w.heap.size 0 (S.extract a (a + m)) (bytes_of hT.out.1 rfl) 0 m m (by rw [ByteArray.size_extract]; omega)
    have hS2 : Hid ((S.extract a (a + m)).extract 0 (0 + m) = S.extract a (a + m)) := by rw [Hid, ByteArray.extract_extract]; congr 1 <;> omega
    rw [hS2.out, Nat.add_zero] at hcv
    go_wp2
    go_ret
    exact ⟨rfl, hT.out.2⟩
end Go.Proofs.Ytbdjcppkfihonaa
/- Contracts of a ring of bytes (package ring): laying bytes behind, and letting the first ones go. -/
namespace Go.Proofs.Ytbdjcppkfihonaa
open Go.ChangeShapes Go.WideShapes Go.ChangeAt Go.RowKit
set_option linter.unusedSimpArgs false
set_option linter.unusedVariables false

theorem put_row (f n h m q at_ : Nat) (S G : ByteArray) (R : List Value) (hf : f < n) (hS : S.size = h) (hG : G.size = m) (hR : R.length = n) (hm : m ≤ n - h) (hhn : h < n) (hat : rix f n h = at_) (hq : q = min m (n - at_))
    (hI : ∀ i (hi : i < S.size), R[rix f n i]? = some (.int .u8 (S[i].toNat : Int))) :
    ∀ i (hi : i < (S ++ G).size), (((R.take at_ ++ bv (G.extract 0 q) ++ R.drop (at_ + q)).take 0 ++ bv ((G.extract q m).extract 0 (m - q)) ++ (R.take at_ ++ bv (G.extract 0 q) ++ R.drop (at_ + q)).drop (0 + (m - q))))[rix f n i]? = some (.int .u8 ((S ++ G)[i].toNat : Int)) := by
  have hatn : at_ < n := by rw [← hat]; unfold rix; split <;> omega
  have l1 : (bv (G.extract 0 q)).length = q := by rw [bv_length, ByteArray.size_extract]; omega
  have l2 : (bv ((G.extract q m).extract 0 (m - q))).length = m - q := by rw [bv_length, ByteArray.size_extract, ByteArray.size_extract]; omega
  have e1 : (R.take at_ ++ bv (G.extract 0 q) ++ R.drop (at_ + q)) = (R.take at_ ++ bv (G.extract 0 q) ++ R.drop (at_ + (bv (G.extract 0 q)).length)) := by rw [l1]
  have hl1 : (R.take at_ ++ bv (G.extract 0 q) ++ R.drop (at_ + q)).length = n := by rw [e1, laid_length _ _ _ (by omega)]; exact hR
  intro i hi
  have hi2 : i < h + m := by rw [ByteArray.size_append] at hi; omega
  have g1 := laid_get (R.take at_ ++ bv (G.extract 0 q) ++ R.drop (at_ + q)) (bv ((G.extract q m).extract 0 (m - q))) 0 (rix f n i) (by omega)
  have g2 := laid_get R (bv (G.extract 0 q)) at_ (rix f n i) (by omega)
  rw [l2] at g1
  rw [l1] at g2
  rw [g1, if_neg (by omega), g2]
  by_cases c : i < h
  · have hr : rix f n i + 1 ≤ at_ ∨ at_ + q ≤ rix f n i := by
      have hat' := hat
      unfold rix at hat' ⊢
      split at hat' <;> split <;> omega
    have hr2 : m - q ≤ rix f n i := by
      have hat' := hat
      unfold rix at hat' ⊢
      split at hat' <;> split <;> omega
    have hx : (S ++ G)[i] = S[i]'(by omega) := ByteArray.getElem_append_left (by omega)
    rw [if_neg (by omega), hx]
    rw [← hI i (by omega)]
    split
    · rfl
    · rw [if_neg (by omega)]
  · obtain ⟨j, rfl⟩ : ∃ j, i = h + j := ⟨i - h, by omega⟩
    have hx : (S ++ G)[h + j] = G[j]'(by omega) := by
      rw [ByteArray.getElem_append_right (by omega)]
      congr 1; omega
    rw [hx]
    by_cases d : at_ + j < n
    · have e : rix f n (h + j) = at_ + j := by rw [rix_add f n h j (by omega) hf (by omega), hat]
      have hjq : j < q := by omega
      rw [e, if_neg (by omega), if_neg (by omega), if_pos (by omega), show at_ + j - at_ = j by omega, bv_at _ j (by rw [ByteArray.size_extract]; omega), ByteArray.getElem_extract]
      simp only [Nat.zero_add]
    · have e : rix f n (h + j) = at_ + j - n := by rw [rix_wrap f n h j (by omega) hf (by omega), hat]
      rw [e, if_pos (by omega), Nat.sub_zero, bv_at _ _ (by rw [ByteArray.size_extract, ByteArray.size_extract]; omega), ByteArray.getElem_extract, ByteArray.getElem_extract]
      have e5 : q + (0 + (at_ + j - n)) = j := by omega
      simp only [e5]
set_option maxRecDepth 20000 in
theorem len_any (b g n f : Nat) (S : ByteArray) (w : World) (h : RAt w b g n f S) :
    Calls Try.prog 75 #[.pointer (some ⟨b, 0, none⟩)] w fun e w' => e = .returned (.int .i64 S.size) ∧ w = w' := by
  obtain ⟨h1, h2, h3, h4, h5, h6, R, h7, h8, h9⟩ := h
  have c2 := h6.cell (i := 2) rfl
  clear h9
  go_enter Try.func75, Try.ntmps75
  go_wp2
  go_ret
  exact ⟨rfl, rfl⟩
set_option maxRecDepth 20000 in
theorem most_any (b g n f : Nat) (S : ByteArray) (w : World) (h : RAt w b g n f S) :
    Calls Try.prog 74 #[.pointer (some ⟨b, 0, none⟩)] w fun e w' => e = .returned (.int .i64 n) ∧ w = w' := by
  obtain ⟨h1, h2, h3, h4, h5, h6, R, h7, h8, h9⟩ := h
  have c0 := h6.cell (i := 0) rfl
  clear h9
  go_enter Try.func74, Try.ntmps74
  go_wp2
  go_ret
  exact ⟨rfl, rfl⟩
set_option maxRecDepth 20000 in
theorem room_any (b g n f : Nat) (S : ByteArray) (w : World) (h : RAt w b g n f S) :
    Calls Try.prog 60 #[.pointer (some ⟨b, 0, none⟩)] w fun e w' => e = .returned (.int .i64 ((n - S.size : Nat) : Int)) ∧ w = w' := by
  have HR := Lib.hid h
  obtain ⟨h1, h2, h3, h4, h5, h6, R, h7, h8, h9⟩ := h
  have e9 : Hid (((n - S.size : Nat) : Int) = (n : Int) - (S.size : Int)) := by rw [Hid]; omega
  clear h6 h7 h8 h9
  go_enter Try.func60, Try.ntmps60
  go_wp2_with (first | (go_at_call 74; refine (most_any _ _ _ _ _ _ HR.out).mono ?_; rintro e w' ⟨rfl, rfl⟩) | (go_at_call 75; refine (len_any _ _ _ _ _ _ HR.out).mono ?_; rintro e w' ⟨rfl, rfl⟩))
  go_ret
  exact ⟨ret_i64 e9.out.symm, rfl⟩
theorem size_empty {G : ByteArray} (h : G.size = 0) : G.toList.isEmpty = true := by
  rw [← decide_eq_emptyBytes]
  simp only [decide_eq_true_eq]
  exact ByteArray.ext (Array.eq_empty_of_size_eq_zero (by simpa using h))
theorem size_full {G : ByteArray} (h : 0 < G.size) : G.toList.isEmpty = false := by
  rw [← decide_eq_emptyBytes]
  simp only [decide_eq_false_iff_not]
  intro h0
  rw [h0] at h
  simp at h
theorem append_none (S G : ByteArray) (h : G.size = 0) : S ++ G = S := by
  have : G = ByteArray.empty := ByteArray.ext (Array.eq_empty_of_size_eq_zero (by simpa using h))
  rw [this]; simp
set_option maxRecDepth 20000 in
theorem put_none (b g n f : Nat) (S s : ByteArray) (w : World) (hs : s.size ≤ 100000) (h : RAt w b g n f S) (hm : min s.size (n - S.size) = 0) :
    Calls Try.prog 36 #[.pointer (some ⟨b, 0, none⟩), .string s] w fun e w' => e = .returned (.int .i64 0) ∧ w = w' := by
  have HR := Lib.hid h
  obtain ⟨h1, h2, h3, h4, h5, h6, R, h7, h8, h9⟩ := h
  have hmi : min (s.size : Int) ((n - S.size : Nat) : Int) = 0 := by omega
  have hem : (s.extract 0 0).toList.isEmpty = true := size_empty (by simp)
  clear h6 h7 h8 h9 hm
  go_enter Try.func36, Try.ntmps36
  go_wp2_with (go_at_call 60; refine (room_any _ _ _ _ _ _ HR.out).mono ?_; rintro e w' ⟨rfl, rfl⟩)
  go_ret
  exact ⟨rfl, rfl⟩
set_option maxHeartbeats 1000000 in
set_option maxRecDepth 20000 in
theorem put_some (b g n f m : Nat) (S s : ByteArray) (w : World) (hs : s.size ≤ 100000) (h : RAt w b g n f S) (hm : min s.size (n - S.size) = m) (hm0 : 0 < m) :
    Calls Try.prog 36 #[.pointer (some ⟨b, 0, none⟩), .string s] w fun e w' => e = .returned (.int .i64 m) ∧ RAt w' b g n f (S ++ s.extract 0 m) ∧ Chg [b, g] w w' := by
  have HR := Lib.hid h
  obtain ⟨h1, h2, h3, h4, h5, h6, R, h7, h8, h9⟩ := h
  have hmi : min (s.size : Int) ((n - S.size : Nat) : Int) = (m : Int) := by omega
  have hms : m ≤ s.size := by omega
  have hmn : m ≤ n - S.size := by omega
  have i1 : (0 : Int) ≤ (m : Int) := by omega
  have i2 : (m : Int) ≤ (s.size : Int) := by omega
  obtain ⟨G, hG⟩ : ∃ G, s.extract 0 m = G := ⟨_, rfl⟩
  have hGz : G.size = m := by rw [← hG, ByteArray.size_extract]; omega
  have hge := size_full (G := G) (by omega)
  have H9 := Lib.hid h9
  have H8 := Lib.hid h8
  have H7 := Lib.hid h7
  have HM := Lib.hid hm
  have HG := Lib.hid hG
  have c0 := h6.cell (i := 0) rfl
  have c1 := h6.cell (i := 1) rfl
  have c2 := h6.cell (i := 2) rfl
  have f2 := h6.free 2
  clear h7 h8 h9 hm
  go_enter Try.func36, Try.ntmps36
  go_wp2_with (go_at_call 60; refine (room_any _ _ _ _ _ _ HR.out).mono ?_; rintro e w' ⟨rfl, rfl⟩)
  obtain ⟨at_, hat⟩ : ∃ x, rix f n S.size = x := ⟨_, rfl⟩
  have hatn : at_ < n := by rw [← hat]; unfold rix; split <;> omega
  have hrem : ((f : Int) + (S.size : Int)).tmod (n : Int) = (at_ : Int) := by
    have : ((f + S.size : Nat) : Int) = (f : Int) + (S.size : Int) := by omega
    rw [← this, ← hat, ← rix_eq f n S.size h3 h4]
    rfl
  have hrem2 : ((f : Int) + (S.size : Int)) % (n : Int) = (at_ : Int) := by
    rw [← hrem, Int.tmod_eq_emod_of_nonneg (by omega)]
  have e4 : ¬ n = 0 := by omega
  have e1 : (0 : Int) ≤ (at_ : Int) := by omega
  have e2 : (at_ : Int) ≤ (n : Int) := by omega
  have e3 : ¬ n = at_ := by omega
  have HA := Lib.hid hat
  clear hat
  go_quiet (fail)
  have hV : Hid (Blk (w.drewN nq) b [.slice (some ⟨g, 0, none⟩) n n, .int .i64 f, .int .i64 S.size] 110 ∧ Blk (w.drewN nq) g R 5 ∧ Chg [b, g] w (w.drewN nq)) := ⟨h6.drewN _, H8.out.drewN _, (Chg.refl _ _).drewN _⟩
  clear h6 c0 c1 c2 f2 H8
  revert hV
  generalize w.drewN nq = W1
  intro hV
  have c0 := hV.out.1.cell (i := 0) rfl
  have hu := Try.underlying85
  obtain ⟨q, hq⟩ : ∃ q, min m (n - at_) = q := ⟨_, rfl⟩
  have hqm : q ≤ m := by omega
  have hr1 := run_copy_text (P := Try.prog) W1 85 9 3 5 g at_ (n - at_) (n - at_) G R 5 q hu size5 hV.out.2.1 (by rw [hGz]; exact hq.symm) (by rw [H7.out]; omega)
  have HZ := Lib.hid hGz
  have HQ := Lib.hid hq
  clear hGz hq hrem hrem2
  obtain ⟨row1, hrow1⟩ : ∃ r, R.take at_ ++ bv (G.extract 0 q) ++ R.drop (at_ + q) = r := ⟨_, rfl⟩
  have hl1 : Hid (row1.length = n) := by
    have h7 := H7.out
    have hq := HQ.out
    have hx := bv_cut G 0 q (by rw [HZ.out]; omega)
    rw [Nat.zero_add] at hx
    have := laid_length R (bv (G.extract 0 q)) at_ (by omega)
    rw [hx, hrow1, h7] at this
    exact this
  rw [hrow1] at hr1
  have HR1 := Lib.hid hrow1
  clear hrow1
  go_wp2_with (with_reducible refine Lib.wpList_copy_run _ rfl (.tmp 36) (.tmp 37) 85 9 rfl _ _ rfl rfl hr1 ?_)
  have hU : Hid (Blk (W1.setRow g row1.toArray) b [.slice (some ⟨g, 0, none⟩) n n, .int .i64 f, .int .i64 S.size] 110 ∧ Blk (W1.setRow g row1.toArray) g row1 5 ∧ Chg [b, g] w (W1.setRow g row1.toArray)) :=
    ⟨hV.out.1.rowOther h5 _, hV.out.2.1.setRow, hV.out.2.2.row (Or.inl (by simp)) _⟩
  clear hr1 hV c0
  revert hU
  generalize W1.setRow g row1.toArray = W2
  intro hU
  have c0 := hU.out.1.cell (i := 0) rfl
  have hz : G.size = m := HZ.out
  have u1 : (0 : Int) ≤ (q : Int) := by omega
  have u2 : (q : Int) ≤ (m : Int) := by omega
  go_still_tail 7, (by kernel_rfl)
  change wpList _ _ _ _ _ W2.drew
  have hr2 := run_copy_text (P := Try.prog) W2.drew 85 9 3 5 g 0 n n (G.extract q m) row1 5 (m - q) hu size5 hU.out.2.1.drew (by rw [ByteArray.size_extract, hz]; omega) (by rw [hl1.out]; omega)
  refine Lib.wpList_copy_run _ rfl _ _ _ _ rfl _ _ rfl rfl hr2 ?_
  obtain ⟨row2, hrow2⟩ : ∃ r, row1.take 0 ++ bv ((G.extract q m).extract 0 (m - q)) ++ row1.drop (0 + (m - q)) = r := ⟨_, rfl⟩
  have hl2 : Hid (row2.length = n) := by
    have hx := bv_length ((G.extract q m).extract 0 (m - q))
    rw [ByteArray.size_extract, ByteArray.size_extract, hz] at hx
    have := laid_length row1 (bv ((G.extract q m).extract 0 (m - q))) 0 (by rw [hl1.out]; omega)
    rw [show (bv ((G.extract q m).extract 0 (m - q))).length = m - q by omega, hrow2, hl1.out] at this
    exact this
  have HR2 := Lib.hid hrow2
  rw [hrow2]
  have hT : Hid (Blk (W2.drew.setRow g row2.toArray) b [.slice (some ⟨g, 0, none⟩) n n, .int .i64 f, .int .i64 S.size] 110 ∧ Blk (W2.drew.setRow g row2.toArray) g row2 5 ∧ Chg [b, g] w (W2.drew.setRow g row2.toArray)) :=
    ⟨hU.out.1.drew.rowOther h5 _, hU.out.2.1.drew.setRow, hU.out.2.2.drew.row (Or.inl (by simp)) _⟩
  clear hr2 hU c0 hrow2
  revert hT
  generalize W2.drew.setRow g row2.toArray = W3
  intro hT
  have c2 := hT.out.1.cell (i := 2) rfl
  have f2 := hT.out.1.free 2
  go_wp2
  go_ret
  refine ⟨rfl, ?_, hT.out.2.2.set (Or.inl (by simp)) _ _⟩
  have hbk := hT.out.1.set 2 (.int .i64 ((S.size : Int) + (m : Int)))
  have hsz : (S ++ s.extract 0 m).size = S.size + m := by rw [ByteArray.size_append, HG.out, hz]
  refine ⟨h1, h2, h3, by rw [hsz]; omega, h5, ?_, row2, hl2.out, hT.out.2.1.other (Ne.symm h5) _ _, ?_⟩
  · rw [hsz, show ((S.size + m : Nat) : Int) = (S.size : Int) + (m : Int) by omega]
    exact hbk
  · rw [HG.out]
    have := put_row f n S.size m q at_ S G R h3 rfl hz H7.out hmn (by omega) HA.out HQ.out.symm H9.out
    rw [HR1.out, HR2.out] at this
    exact this
end Go.Proofs.Ytbdjcppkfihonaa
/- Contracts of a ring of bytes (package ring): the rest of its methods, and what its layer's literal comes to. -/
namespace Go.Proofs.Ytbdjcppkfihonaa
open Go.ChangeShapes Go.WideShapes Go.ChangeAt Go.RowKit
set_option linter.unusedSimpArgs false
set_option linter.unusedVariables false

theorem rix_rix (f n k i : Nat) (hf : f < n) (hk : k + i < n + 1) (hi : i < n) : rix (rix f n k) n i = rix f n (k + i) := by
  unfold rix
  split <;> split <;> split <;> omega
theorem rix_lt (f n k : Nat) (hf : f < n) (hk : k ≤ n) : rix f n k < n := by
  unfold rix
  split <;> omega
/-- The bytes that Peek tells. -/
def pk (S : ByteArray) (a k : Int) : ByteArray := if a < 0 ∨ (S.size : Int) ≤ a ∨ k ≤ 0 then ⟨#[]⟩ else S.extract a.toNat (a.toNat + min k.toNat (S.size - a.toNat))
theorem peek_any (b g n f : Nat) (S : ByteArray) (a k : Int) (w : World) (h : RAt w b g n f S) :
    Calls Try.prog 46 #[.pointer (some ⟨b, 0, none⟩), .int .i64 a, .int .i64 k] w fun e w' => e = .returned (.string (pk S a k)) ∧ Below w.heap.size w w' := by
  unfold pk
  by_cases hn : a < 0 ∨ (S.size : Int) ≤ a ∨ k ≤ 0
  · rw [if_pos hn]
    exact (peek_none b g n f S a k w h hn).mono fun e w' ⟨he, hw⟩ => ⟨he, by rw [← hw]; exact Below.refl _ _⟩
  · rw [if_neg hn]
    obtain ⟨j, rfl⟩ : ∃ j : Nat, a = (j : Int) := ⟨a.toNat, by omega⟩
    rw [Int.toNat_natCast]
    exact peek_some b g n f j (min k.toNat (S.size - j)) S k w h (by omega) (by omega) (by omega)
set_option maxRecDepth 20000 in
theorem at_no (b g n f : Nat) (S : ByteArray) (i : Int) (w : World) (h : RAt w b g n f S) (hi : i < 0 ∨ (S.size : Int) ≤ i) :
    Calls Try.prog 77 #[.pointer (some ⟨b, 0, none⟩), .int .i64 i] w fun e w' => e = .returned (.tuple #[.int .u8 0, .bool false]) ∧ w = w' := by
  obtain ⟨h1, h2, h3, h4, h5, h6, R, h7, h8, h9⟩ := h
  have c2 := h6.cell (i := 2) rfl
  clear h9
  by_cases a1 : i < 0
  · go_enter Try.func77, Try.ntmps77
    go_wp2
    go_ret2
    exact ⟨rfl, rfl⟩
  · have a2 : (S.size : Int) ≤ i := by omega
    go_enter Try.func77, Try.ntmps77
    go_wp2
    go_ret2
    exact ⟨rfl, rfl⟩
set_option maxHeartbeats 1000000 in
set_option maxRecDepth 20000 in
theorem at_yes (b g n f i : Nat) (S : ByteArray) (z : Int) (w : World) (h : RAt w b g n f S) (hi : i < S.size) (hz : (S[i].toNat : Int) = z) :
    Calls Try.prog 77 #[.pointer (some ⟨b, 0, none⟩), .int .i64 i] w fun e w' => e = .returned (.tuple #[.int .u8 z, .bool true]) ∧ ∃ q, w' = w.drewN q := by
  obtain ⟨h1, h2, h3, h4, h5, h6, R, h7, h8, h9⟩ := h
  have c0 := h6.cell (i := 0) rfl
  have c1 := h6.cell (i := 1) rfl
  have c2 := h6.cell (i := 2) rfl
  obtain ⟨x, hx⟩ : ∃ x, rix f n i = x := ⟨_, rfl⟩
  have c3 : w.cell? ⟨g, x, none⟩ = some (.int .u8 z) := by
    have := h9 i hi
    rw [hz, hx] at this
    exact h8.cell this
  have hxn : x < n := by rw [← hx]; exact rix_lt f n i h3 (by omega)
  have hsum : IntKind.i64.wrap ((f : Int) + (i : Int)) = (f : Int) + (i : Int) := IntWalk.i64_in _ (by omega)
  have hrem : ((f : Int) + (i : Int)).tmod (n : Int) = (x : Int) := by
    have : ((f + i : Nat) : Int) = (f : Int) + (i : Int) := by omega
    rw [← this, ← hx, ← rix_eq f n i h3 (by omega)]
    rfl
  have hrem2 : ((f : Int) + (i : Int)) % (n : Int) = (x : Int) := by
    rw [← hrem, Int.tmod_eq_emod_of_nonneg (by omega)]
  have e4 : ¬ n = 0 := by omega
  have e1 : (0 : Int) ≤ (x : Int) := by omega
  have e2 : (x : Int) < (n : Int) := by omega
  have e5 : (0 : Int) ≤ (i : Int) := by omega
  have e6 : (i : Int) < (S.size : Int) := by omega
  clear hx h9 hz
  go_enter Try.func77, Try.ntmps77
  go_wp2
  go_quiet (fail)
  go_wp2
  go_ret2
  exact ⟨rfl, _, rfl⟩
set_option maxRecDepth 20000 in
theorem drop_zero (b g n f : Nat) (S : ByteArray) (k : Int) (w : World) (h : RAt w b g n f S) (hk : min (max k 0) (S.size : Int) = 0) :
    Calls Try.prog 78 #[.pointer (some ⟨b, 0, none⟩), .int .i64 k] w fun e w' => e = .returned (.int .i64 0) ∧ w = w' := by
  have HR := Lib.hid h
  clear h
  go_enter Try.func78, Try.ntmps78
  go_wp2_with (go_at_call 75; refine (len_any _ _ _ _ _ _ HR.out).mono ?_; rintro e w' ⟨rfl, rfl⟩)
  go_ret
  exact ⟨rfl, rfl⟩
set_option maxHeartbeats 1000000 in
set_option maxRecDepth 20000 in
theorem drop_some (b g n f m : Nat) (S : ByteArray) (k : Int) (w : World) (h : RAt w b g n f S) (hk : min (max k 0) (S.size : Int) = (m : Int)) (hm : 0 < m) (hms : m ≤ S.size) :
    Calls Try.prog 78 #[.pointer (some ⟨b, 0, none⟩), .int .i64 k] w fun e w' => e = .returned (.int .i64 m) ∧ RAt w' b g n (rix f n m) (S.extract m S.size) ∧ Chg [b] w w' := by
  have HR := Lib.hid h
  obtain ⟨h1, h2, h3, h4, h5, h6, R, h7, h8, h9⟩ := h
  have c0 := h6.cell (i := 0) rfl
  have c1 := h6.cell (i := 1) rfl
  have c2 := h6.cell (i := 2) rfl
  have f1 := h6.free 1
  have f2 := h6.free 2
  obtain ⟨x, hx⟩ : ∃ x, rix f n m = x := ⟨_, rfl⟩
  have hxn : x < n := by rw [← hx]; exact rix_lt f n m h3 (by omega)
  have hsum : IntKind.i64.wrap ((f : Int) + (m : Int)) = (f : Int) + (m : Int) := IntWalk.i64_in _ (by omega)
  have hrem : ((f : Int) + (m : Int)).tmod (n : Int) = (x : Int) := by
    have : ((f + m : Nat) : Int) = (f : Int) + (m : Int) := by omega
    rw [← this, ← hx, ← rix_eq f n m h3 (by omega)]
    rfl
  have e4 : ¬ n = 0 := by omega
  have hwr : IntKind.i64.wrap (x : Int) = (x : Int) := IntWalk.i64_in _ (by omega)
  have HX := Lib.hid hx
  have H9 := Lib.hid h9
  have H8 := Lib.hid h8
  have H7 := Lib.hid h7
  clear hx h9 h8 h7
  go_enter Try.func78, Try.ntmps78
  go_wp2_with (go_at_call 75; refine (len_any _ _ _ _ _ _ HR.out).mono ?_; rintro e w' ⟨rfl, rfl⟩)
  go_still_tail 15, (by kernel_rfl)
  go_wp2
  go_ret
  refine ⟨rfl, ?_, (((Chg.refl _ _).drew.set (Or.inl (by simp)) _ _).set (Or.inl (by simp)) _ _)⟩
  rw [HX.out]
  have hsz : (S.extract m S.size).size = S.size - m := by rw [ByteArray.size_extract]; omega
  refine ⟨h1, h2, hxn, by rw [hsz]; omega, h5, ?_, R, H7.out, (H8.out.other (Ne.symm h5) _ _).other (Ne.symm h5) _ _, ?_⟩
  · rw [hsz, show ((S.size - m : Nat) : Int) = (S.size : Int) - (m : Int) by omega]
    exact (h6.set 1 (.int .i64 x)).set 2 (.int .i64 ((S.size : Int) - (m : Int)))
  · intro i hi
    rw [hsz] at hi
    rw [← HX.out, rix_rix f n m i h3 (by omega) (by omega), ByteArray.getElem_extract]
    exact H9.out (m + i) (by omega)
/-- A number brought between none and so many. -/
def clN (k : Int) (h : Nat) : Nat := if k < 0 then 0 else min k.toNat h
theorem clN_le (k : Int) (h : Nat) : clN k h ≤ h := by unfold clN; split <;> omega
theorem clN_eq (k : Int) (h : Nat) : min (max k 0) (h : Int) = (clN k h : Int) := by unfold clN; split <;> omega
theorem cut_whole (S : ByteArray) : S.extract 0 S.size = S := by simp
theorem cut_zero (S : ByteArray) : S.extract 0 0 = ⟨#[]⟩ := ByteArray.ext (Array.eq_empty_of_size_eq_zero (by simp))
theorem drop_any (b g n f : Nat) (S : ByteArray) (k : Int) (w : World) (h : RAt w b g n f S) :
    Calls Try.prog 78 #[.pointer (some ⟨b, 0, none⟩), .int .i64 k] w fun e w' => ∃ f', e = .returned (.int .i64 (clN k S.size : Int)) ∧ RAt w' b g n f' (S.extract (clN k S.size) S.size) ∧ Chg [b] w w' := by
  have hc := clN_eq k S.size
  by_cases h0 : clN k S.size = 0
  · rw [h0] at hc ⊢
    refine (drop_zero b g n f S k w h hc).mono fun e w' ⟨he, hw⟩ => ⟨f, he, ?_, by rw [← hw]; exact Chg.refl _ _⟩
    rw [cut_whole, ← hw]; exact h
  · exact (drop_some b g n f _ S k w h hc (by omega) (clN_le _ _)).mono fun e w' ⟨he, hr, hw⟩ => ⟨_, he, hr, hw⟩
theorem pk_zero (S : ByteArray) (k : Int) : pk S 0 k = S.extract 0 (clN k S.size) := by
  unfold pk clN
  by_cases h : k < 0
  · rw [if_pos h, if_pos (by omega), cut_zero]
  · rw [if_neg h]
    by_cases h2 : (0 : Int) < 0 ∨ (S.size : Int) ≤ 0 ∨ k ≤ 0
    · rw [if_pos h2, show min k.toNat S.size = 0 by omega, cut_zero]
    · rw [if_neg h2]
      simp
theorem put_any (b g n f : Nat) (S s : ByteArray) (w : World) (hs : s.size ≤ 100000) (h : RAt w b g n f S) :
    Calls Try.prog 36 #[.pointer (some ⟨b, 0, none⟩), .string s] w fun e w' => e = .returned (.int .i64 (min s.size (n - S.size) : Nat)) ∧ RAt w' b g n f (S ++ s.extract 0 (min s.size (n - S.size))) ∧ Chg [b, g] w w' := by
  by_cases hm : min s.size (n - S.size) = 0
  · rw [hm]
    refine (put_none b g n f S s w hs h hm).mono fun e w' ⟨he, hw⟩ => ⟨he, ?_, by rw [← hw]; exact Chg.refl _ _⟩
    rw [append_none _ _ (by simp), ← hw]; exact h
  · exact put_some b g n f _ S s w hs h rfl (by omega)
set_option maxRecDepth 20000 in
theorem new_any (n : Nat) (x : Int) (w : World) (hn : min (max x 1) 4096 = (n : Int)) :
    Calls Try.prog 34 #[.int .i64 x] w fun e w' => e = .returned (.pointer (some ⟨w.heap.size + 1, 0, none⟩)) ∧ RAt w' (w.heap.size + 1) w.heap.size n 0 ByteArray.empty ∧ Below w.heap.size w w' := by
  have hmk : ∀ W, (Instr.makeSlice 85 (.int .i64 n) (.int .i64 n)).run Try.prog W = .ok (.slice (some ⟨W.heap.size, 0, none⟩) n n) (W.alloc (.cells (List.replicate n (.int .u8 0)).toArray 5)) := fun W =>
    run_make_blk W _ _ _ Try.underlying85 1 info5 rfl n n (Nat.le_refl _) (by omega) (by omega)
  have n1 : 1 ≤ n ∧ n ≤ 4096 := by omega
  go_enter Try.func34, Try.ntmps34
  go_wp2
  go_ret
  refine ⟨rfl, ⟨n1.1, n1.2, by omega, by simp, by omega, ?_, List.replicate n (.int .u8 0), by simp, ?_, fun i hi => absurd hi (by simp)⟩, ((Below.refl _ _).alloc (Nat.le_refl _) _).alloc (by simp) _⟩
  · have := Blk.newA (w.alloc (Obj.cells (Array.replicate n (Value.int IntKind.u8 0)) 5)) #[.slice (some ⟨w.heap.size, 0, none⟩) n n, .int .i64 0, .int .i64 0] 110
    simpa using this
  · have := (Blk.newA w (Array.replicate n (Value.int IntKind.u8 0)) 5).alloc (Obj.cells #[.slice (some ⟨w.heap.size, 0, none⟩) n n, .int .i64 0, .int .i64 0] 110)
    rw [Array.toList_replicate] at this
    exact this
end Go.Proofs.Ytbdjcppkfihonaa
/- What the layer's literal comes to (package ring), and a copy of a ring. -/
namespace Go.Proofs.Ytbdjcppkfihonaa
open Go.ChangeShapes Go.WideShapes Go.ChangeAt Go.RowKit
set_option linter.unusedSimpArgs false
set_option linter.unusedVariables false

end Go.Proofs.Ytbdjcppkfihonaa
