/- Faults: outer. -/
import Derived.Test.YtlofcccabdocgaaDoorFa3
import Derived.Test.YtlofcccabdocgaaDoorFa4
import Derived.Test.YtlofcccabdocgaaDoorLe5
import Derived.Deep.RegionHeld3
import Derived.WalkKit
import Derived.ProofKit
import Derived.Handy
import Derived.WalkLawsBesides
import Derived.WalkSpells
import Derived.Lib.Hide
import Derived.Lib.SliceRun
import Derived.Deep.RegionLaw
import Derived.RegionTactic
import Derived.ChangeAlike
import Derived.WalkSmall
import Derived.Deep.QuietTactic
import Derived.BigQuiet
import Derived.OwnWalk
import Derived.Outline
import Derived.Deep.CutRange
import Derived.Deep.CutBlock
import Derived.LoopTactic
namespace Go.Proofs.YtlofcccabdocgaaDoor
open Go.ChangeShapes Go.WideShapes Go.ChangeAt Go.RowKit
set_option linter.unusedSimpArgs false
set_option linter.unusedVariables false

def Fa.w (x : Wp) : ByteArray := if x.a = true then (((({ data := #[108, 105, 110, 101, 32] } : ByteArray) ++ Le.num x.l) ++ ({ data := #[44, 32, 99, 111, 108, 117, 109, 110, 32] } : ByteArray)) ++ Le.num x.c) ++ ({ data := #[58, 32] } : ByteArray) else (({ data := #[105, 110, 32] } : ByteArray) ++ x.n) ++ ({ data := #[58, 32] } : ByteArray)
def Fa.pre (L : List Wp) : ByteArray := L.foldl (fun s x => s ++ Fa.w x) ByteArray.empty
def Fa.er (e : Int) : ByteArray := ({ data := #[101, 114, 114, 111, 114, 32] } : ByteArray) ++ Le.num e
def Fa.txt (L : List Wp) (e : Int) : ByteArray := Fa.pre L ++ Fa.er e
theorem Fa.pre_snoc (L : List Wp) (x : Wp) : Fa.pre (L ++ [x]) = Fa.pre L ++ Fa.w x := by unfold Fa.pre; rw [List.foldl_append]; rfl
theorem Fa.itoa_len {n : Int} (h : Fa.i64 n) : (Lib.itoa n).length ≤ 30 := by
  unfold Fa.i64 at h
  unfold Lib.itoa
  split
  · rw [List.length_cons]
    by_cases h2 : n.natAbs ≤ 9223372036854775807
    · have := Tx.dec_size n.natAbs h2; omega
    · rw [show n.natAbs = 9223372036854775808 by omega, Lib.decDigits, dif_neg (by omega), List.length_append]
      have := Tx.dec_size 922337203685477580 (by omega)
      simp
      omega
  · have := Tx.dec_size n.toNat (by omega); omega
theorem Fa.num_len {n : Int} (h : Fa.i64 n) : (Le.num n).size ≤ 30 := by
  unfold Le.num
  rw [Le.t_size]
  exact Fa.itoa_len h
/-- A block beside what is laid. -/
structure FG (w W : World) (b : Nat) (cs : List Value) (T : TypeId) : Prop where
  bx : Blk W b cs T
  tab : Lib.TabIs Tryd.prog W "internal/strconv.uint64pow10" .u64 Lib.pow10Tab
  be : Below w.heap.size w W
theorem FG.below {w W W' : World} {b : Nat} {cs : List Value} {T : TypeId} (h : FG w W b cs T) (k : Below W.heap.size W W') : FG w W' b cs T :=
  ⟨h.bx.chg (l := []) (Chg.of_fresh k) (by simp), tab_below k h.tab, h.be.trans (k.mono h.be.size)⟩
theorem FG.s3 {w W : World} {b : Nat} {x y z : Value} {T : TypeId} (h : FG w W b [x, y, z] T) : W.cell? ⟨b, 0, none⟩ = some x ∧ W.cell? ⟨b, 1, none⟩ = some y ∧ W.cell? ⟨b, 2, none⟩ = some z := ⟨h.bx.cell (i := 0) rfl, h.bx.cell (i := 1) rfl, h.bx.cell (i := 2) rfl⟩
theorem fa_dN (n : Nat) (w : World) : Below w.heap.size w (w.drewN n) := by
  have h := Below.refl w.heap.size w
  exact ⟨h.os, h.tape, h.output, h.size, h.block⟩
theorem fa_itoa (n : Int) (h0 : Fa.i64 n) (N : ByteArray) (hN : Le.num n = N) (w : World) (htab : Lib.TabIs Tryd.prog w "internal/strconv.uint64pow10" .u64 Lib.pow10Tab) : Calls Tryd.prog 39 #[.int .i64 n] w fun e w' => e = .returned (.string N) ∧ Below w.heap.size w w' := by
  subst hN
  exact le_itoa n h0 w htab
theorem Fa.w_len {x : Wp} (h : x.ok) (hn : x.n.size ≤ 100) : (Fa.w x).size ≤ 200 := by
  unfold Fa.w
  have h1 := Fa.num_len h.2.1
  have h2 := Fa.num_len h.2.2
  split
  · simp only [ByteArray.size_append]
    have e1 : (({ data := #[108, 105, 110, 101, 32] } : ByteArray)).size = 5 := rfl
    have e2 : (({ data := #[44, 32, 99, 111, 108, 117, 109, 110, 32] } : ByteArray)).size = 9 := rfl
    have e3 : (({ data := #[58, 32] } : ByteArray)).size = 2 := rfl
    omega
  · simp only [ByteArray.size_append]
    have e1 : (({ data := #[105, 110, 32] } : ByteArray)).size = 3 := rfl
    have e3 : (({ data := #[58, 32] } : ByteArray)).size = 2 := rfl
    omega
theorem Fa.w_pos (x : Wp) : 1 ≤ (Fa.w x).size := by
  unfold Fa.w
  have e3 : (({ data := #[58, 32] } : ByteArray)).size = 2 := rfl
  split <;> simp only [ByteArray.size_append] <;> omega
theorem Fa.er_len {e : Int} (h : Fa.i64 e) : 1 ≤ (Fa.er e).size ∧ (Fa.er e).size ≤ 100 := by
  unfold Fa.er
  have h1 := Fa.num_len h
  have e3 : (({ data := #[101, 114, 114, 111, 114, 32] } : ByteArray)).size = 6 := rfl
  rw [ByteArray.size_append]
  omega
theorem Fa.pre_len : ∀ {L : List Wp} (_ : ∀ x ∈ L, x.ok) (_ : ∀ x ∈ L, x.n.size ≤ 100), (Fa.pre L).size ≤ 200 * L.length := by
  intro L
  have key : ∀ (L : List Wp) (s : ByteArray), (∀ x ∈ L, x.ok) → (∀ x ∈ L, x.n.size ≤ 100) → (L.foldl (fun s x => s ++ Fa.w x) s).size ≤ s.size + 200 * L.length := by
    intro L
    induction L with
    | nil => intro s _ _; simp
    | cons x L ih =>
      intro s h1 h2
      have h3 := ih (s ++ Fa.w x) (fun y hy => h1 y (by simp [hy])) (fun y hy => h2 y (by simp [hy]))
      have h4 := Fa.w_len (h1 x (by simp)) (h2 x (by simp))
      rw [ByteArray.size_append] at h3
      rw [List.foldl_cons, List.length_cons]
      omega
  intro h1 h2
  have := key L ByteArray.empty h1 h2
  have e0 : ByteArray.empty.size = 0 := rfl
  unfold Fa.pre
  omega
set_option maxRecDepth 20000 in
set_option maxHeartbeats 16000000 in
theorem fa_errno (e : Int) (he : Fa.i64 e) (S : ByteArray) (hS : Fa.er e = S) (w : World) (htab : Lib.TabIs Tryd.prog w "internal/strconv.uint64pow10" .u64 Lib.pow10Tab) :
    Calls Tryd.prog 38 #[.int .i64 e] w fun r w' => r = .returned (.string S) ∧ Below w.heap.size w w' := by
  have hn := Fa.num_len he
  obtain ⟨N, hN⟩ : ∃ N, Le.num e = N := ⟨_, rfl⟩
  rw [hN] at hn
  have HS : Hid (S = ({ data := #[101, 114, 114, 111, 114, 32] } : ByteArray) ++ N) := Lib.hid (by rw [← hS, ← hN]; rfl)
  have HN := Lib.hid (And.intro hN htab)
  have cc : ¬ (9223372036854775807 < 6 + N.size) := by omega
  clear hS hN htab
  go_enter Tryd.func38, Tryd.ntmps38
  go_wp2_with (go_at_call 39; (with_reducible refine (fa_itoa e he N HN.out.1 _ HN.out.2).mono ?_); rintro r1 W3 ⟨rfl, h2⟩; have HB := Lib.hid h2; clear h2)
  go_ret
  exact ⟨by rw [HS.out]; rfl, HB.out⟩
theorem fa_as (v : Value) (W : World) : (Instr.typeAssert (.iface 46 v) 29 23 true).run Tryd.prog W = .ok (.tuple #[.int .i64 0, .bool false]) W := by kernel_rfl
theorem fa_asA (v : Value) (W : World) : (Instr.typeAssert (.iface 46 v) 29 46 true).run Tryd.prog W = .ok (.tuple #[v, .bool true]) W := by kernel_rfl
theorem fa_asE (v : Value) (W : World) : (Instr.typeAssert (.iface 23 v) 29 23 true).run Tryd.prog W = .ok (.tuple #[v, .bool true]) W := by kernel_rfl
theorem fa_asIE (v : Value) (W : World) : (Instr.typeAssert (.iface 49 v) 29 23 true).run Tryd.prog W = .ok (.tuple #[.int .i64 0, .bool false]) W := by kernel_rfl
theorem fa_asIA (v : Value) (W : World) : (Instr.typeAssert (.iface 49 v) 29 46 true).run Tryd.prog W = .ok (.tuple #[.pointer none, .bool false]) W := by kernel_rfl
theorem fa_asI (v : Value) (W : World) : (Instr.typeAssert (.iface 49 v) 29 49 true).run Tryd.prog W = .ok (.tuple #[v, .bool true]) W := by kernel_rfl
set_option maxRecDepth 20000 in
set_option maxHeartbeats 16000000 in
theorem fa_outerE (e : Int) (he : Fa.i64 e) (h0 : e ≠ 0) (S : ByteArray) (hS : Fa.er e = S) (w : World) (htab : Lib.TabIs Tryd.prog w "internal/strconv.uint64pow10" .u64 Lib.pow10Tab) :
    Calls Tryd.prog 28 #[.iface 23 (.int .i64 e)] w fun r w' => r = .returned (.tuple #[.string S, .nilIface]) ∧ Below w.heap.size w w' := by
  have HN := Lib.hid (And.intro he (And.intro hS htab))
  have t1 := fa_asE (.int .i64 e) w
  have b0 : (e != 0) = true := by simp [h0]
  clear he hS htab
  go_enter Tryd.func28, Tryd.ntmps28
  go_wp2_with (go_at_call 38; (with_reducible refine (fa_errno e HN.out.1 S HN.out.2.1 _ HN.out.2.2).mono ?_); rintro r1 W3 ⟨rfl, h2⟩; have HB := Lib.hid h2; clear h2)
  go_ret2
  exact ⟨rfl, HB.out⟩
set_option maxRecDepth 20000 in
set_option maxHeartbeats 16000000 in
theorem fa_outerA (b : Nat) (l c : Int) (u : Value) (hl : Fa.i64 l) (hc : Fa.i64 c) (S : ByteArray) (hS : Fa.w ⟨true, l, c, ByteArray.empty⟩ = S) (w : World) (htab : Lib.TabIs Tryd.prog w "internal/strconv.uint64pow10" .u64 Lib.pow10Tab) (hb : Blk w b [.int .i64 l, .int .i64 c, u] 48) :
    Calls Tryd.prog 28 #[.iface 46 (.pointer (some ⟨b, 0, none⟩))] w fun r w' => r = .returned (.tuple #[.string S, u]) ∧ Below w.heap.size w w' := by
  have hn1 := Fa.num_len hl
  have hn2 := Fa.num_len hc
  obtain ⟨N, hN⟩ : ∃ N, Le.num l = N := ⟨_, rfl⟩
  obtain ⟨N2, hN2⟩ : ∃ N, Le.num c = N := ⟨_, rfl⟩
  rw [hN] at hn1
  rw [hN2] at hn2
  obtain ⟨S1, hS1⟩ : ∃ S1, ({ data := #[108, 105, 110, 101, 32] } : ByteArray) ++ N = S1 := ⟨_, rfl⟩
  obtain ⟨S2, hS2⟩ : ∃ S2, S1 ++ ({ data := #[44, 32, 99, 111, 108, 117, 109, 110, 32] } : ByteArray) = S2 := ⟨_, rfl⟩
  obtain ⟨S3, hS3⟩ : ∃ S3, S2 ++ N2 = S3 := ⟨_, rfl⟩
  obtain ⟨S4, hS4⟩ : ∃ S4, S3 ++ ({ data := #[58, 32] } : ByteArray) = S4 := ⟨_, rfl⟩
  have z1 : S1.size = 5 + N.size := by rw [← hS1, ByteArray.size_append]; rfl
  have z2 : S2.size = S1.size + 9 := by rw [← hS2, ByteArray.size_append]; rfl
  have z3 : S3.size = S2.size + N2.size := by rw [← hS3, ByteArray.size_append]
  have HS : Hid (S4 = S) := Lib.hid (by rw [← hS, ← hS4, ← hS3, ← hS2, ← hS1, ← hN, ← hN2]; rfl)
  have HN := Lib.hid (And.intro hl (And.intro hc (And.intro hN hN2)))
  have c1 : ¬ (9223372036854775807 < 5 + N.size) := by omega
  have c2 : ¬ (9223372036854775807 < S1.size + 9) := by omega
  have c3 : ¬ (9223372036854775807 < S2.size + N2.size) := by omega
  have c4 : ¬ (9223372036854775807 < S3.size + 2) := by omega
  have t1 := fa_as (.pointer (some ⟨b, 0, none⟩)) w
  have t2 := fa_asA (.pointer (some ⟨b, 0, none⟩)) w
  have HB : Hid (FG w w b [.int .i64 l, .int .i64 c, u] 48) := Lib.hid ⟨hb, htab, Below.refl _ _⟩
  clear hl hc hN hN2 htab hb hS z1 z2 z3
  go_enter Tryd.func28, Tryd.ntmps28
  go_upto_region 9 with fail
  clear t1 t2
  replace HB := Lib.hid (HB.out.below (Below.refl _ _).drew)
  have s0 := HB.out.s3
  go_region_held3 (fun W => W.cell? ⟨b, 0, none⟩ = some (.int .i64 l) ∧ W.cell? ⟨b, 1, none⟩ = some (.int .i64 c) ∧ W.cell? ⟨b, 2, none⟩ = some u) (first | with_reducible exact sA | with_reducible exact s0 | go_keep) (first
    | (go_at_call 39; (with_reducible refine (fa_itoa l HN.out.1 N HN.out.2.2.1 _ HB.out.tab).mono ?_); rintro e1 V1 ⟨rfl, q3⟩; have HBn := Lib.hid (HB.out.below q3); clear HB; have HB := HBn; clear HBn q3; have sA := HB.out.s3)
    | (go_at_call 39; (with_reducible refine (fa_itoa c HN.out.2.1 N2 HN.out.2.2.2 _ HB.out.tab).mono ?_); rintro e1 V1 ⟨rfl, q3⟩; have HBn := Lib.hid (HB.out.below q3); clear HB; have HB := HBn; clear HBn q3; have sA := HB.out.s3))
  all_goals
    go_wp2_with fail
    go_ret2
    exact ⟨by rw [← HS.out]; rfl, HB.out.be⟩
set_option maxRecDepth 20000 in
set_option maxHeartbeats 16000000 in
theorem fa_outerI (b : Nat) (nm : ByteArray) (u : Value) (hn : nm.size ≤ 100) (S : ByteArray) (hS : Fa.w ⟨false, 0, 0, nm⟩ = S) (w : World) (hb : Blk w b [.string nm, u] 51) :
    Calls Tryd.prog 28 #[.iface 49 (.pointer (some ⟨b, 0, none⟩))] w fun r w' => r = .returned (.tuple #[.string S, u]) ∧ Below w.heap.size w w' := by
  obtain ⟨S1, hS1⟩ : ∃ S1, ({ data := #[105, 110, 32] } : ByteArray) ++ nm = S1 := ⟨_, rfl⟩
  have z1 : S1.size = 3 + nm.size := by rw [← hS1, ByteArray.size_append]; rfl
  have HS : Hid (S1 ++ ({ data := #[58, 32] } : ByteArray) = S) := Lib.hid (by rw [← hS, ← hS1]; rfl)
  have c1 : ¬ (9223372036854775807 < 3 + nm.size) := by omega
  have c2 : ¬ (9223372036854775807 < S1.size + 2) := by omega
  have t1 := fa_asIE (.pointer (some ⟨b, 0, none⟩)) w
  have t2 := fa_asIA (.pointer (some ⟨b, 0, none⟩)) w
  have t3 := fa_asI (.pointer (some ⟨b, 0, none⟩)) w
  have HB := Lib.hid hb
  clear hb hS z1
  go_enter Tryd.func28, Tryd.ntmps28
  go_upto_region 13 with fail
  clear t1 t2 t3
  have d0 := HB.out.cell (i := 0) rfl
  have d1 := HB.out.cell (i := 1) rfl
  go_quiet (fail)
  go_wp2_with fail
  go_ret2
  exact ⟨by rw [← HS.out]; rfl, fa_dN _ w⟩
end Go.Proofs.YtlofcccabdocgaaDoor
