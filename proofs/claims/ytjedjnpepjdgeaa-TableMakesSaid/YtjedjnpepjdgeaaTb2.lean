/- Tables: what a state comes to with all that counts with it. -/
import Derived.Test.YtjedjnpepjdgeaaTb1
import Derived.Test.YtjedjnpepjdgeaaClass
namespace Go.Proofs.Ytjedjnpepjdgeaa
open Go.ChangeShapes Go.WideShapes Go.ChangeAt Go.RowKit
set_option linter.unusedSimpArgs false
set_option linter.unusedVariables false

/-- A table's cells. -/
def tbc (n : Nat) (R : BitVec 64) (H : Nat → BitVec 64) : List Value := .int .i64 n :: uv R :: (List.range 256).map fun b => uv (H b)
/-- A table in a block. -/
def TB (w : World) (p n : Nat) (R : BitVec 64) (H : Nat → BitVec 64) : Prop := Blk w p (tbc n R H) 90
theorem TB.below {w w' : World} {p n : Nat} {R : BitVec 64} {H : Nat → BitVec 64} (h : TB w p n R H) (k : Below w.heap.size w w') : TB w' p n R H := Blk.below h k (Blk.lt h)
theorem TB.c0 {w : World} {p n : Nat} {R : BitVec 64} {H : Nat → BitVec 64} (h : TB w p n R H) : w.cell? ⟨p, 0, none⟩ = some (.int .i64 n) := Blk.cell h rfl
theorem TB.c1 {w : World} {p n : Nat} {R : BitVec 64} {H : Nat → BitVec 64} (h : TB w p n R H) : w.cell? ⟨p, 1, none⟩ = some (.int .u64 R.toNat) := Blk.cell h rfl
theorem TB.ch {w : World} {p n : Nat} {R : BitVec 64} {H : Nat → BitVec 64} (h : TB w p n R H) {b : Nat} (hb : b < 256) : w.cell? ⟨p, 2 + b, none⟩ = some (.int .u64 (H b).toNat) := by
  refine Blk.cell h ?_
  unfold tbc
  rw [Nat.add_comm]
  simp [hb, uv]
set_option maxRecDepth 20000 in
set_option maxHeartbeats 4000000 in
theorem tb_whole (p n : Nat) (R : BitVec 64) (H : Nat → BitVec 64) (hn : n ≤ 62) (X : BitVec 64) (w : World) (h : TB w p n R H) (Y : BitVec 64) (hY : Tb.whole n R X = Y) :
    Calls Try.prog 68 #[.pointer (some ⟨p, 0, none⟩), .int .u64 X.toNat] w fun e w' => e = .returned (.int .u64 Y.toNat) ∧ w' = w := by
  have c0 := h.c0
  have c1 := h.c1
  have HY := Lib.hid hY
  have w1 : IntKind.i64.wrap ((n : Int) + 1) = (n : Int) + 1 := IntWalk.i64_in _ (by omega)
  have s1 := shl_one (n + 1) (by omega)
  have s2 := u_low_wrap (n + 1) (by omega)
  obtain ⟨X0, hX0⟩ : ∃ X0, X &&& Tb.low (n + 1) = X0 := ⟨_, rfl⟩
  have HX0 := Lib.hid hX0
  obtain ⟨x, hx⟩ : ∃ x : Int, (X.toNat : Int) = x := ⟨_, rfl⟩
  obtain ⟨x0, hx0⟩ : ∃ x : Int, (X0.toNat : Int) = x := ⟨_, rfl⟩
  obtain ⟨lo, hlo⟩ : ∃ x : Int, ((Tb.low (n + 1)).toNat : Int) = x := ⟨_, rfl⟩
  obtain ⟨r, hr⟩ : ∃ x : Int, (R.toNat : Int) = x := ⟨_, rfl⟩
  obtain ⟨y, hy⟩ : ∃ x : Int, (Y.toNat : Int) = x := ⟨_, rfl⟩
  have s3 : bits BinOp.and IntKind.u64 x lo = x0 := by rw [← hx, ← hlo, ← hx0, ← hX0]; exact u_and X (Tb.low (n + 1))
  rw [hlo] at s2
  rw [hr] at c1
  rw [hx, hy]
  have HR := Lib.hid (And.intro hr (And.intro hx0 hy))
  clear hY hX0 h hx hlo hx0 hr hy
  go_enter Try.func68, Try.ntmps68
  go_wp2
  go_loopw [1] (fun xv wr => ∃ (Z : BitVec 64) (z : Int), xv = .int .u64 z ∧ wr = w ∧ Hid ((∀ k, k < 64 → Tb.cl R Z k = Tb.cl R X0 k) ∧ (Z.toNat : Int) = z)) (fun xv _ => 64 - Tb.ct (BitVec.ofInt 64 (intOf xv)))
  case atStart => exact ⟨X0, x0, rfl, rfl, Lib.hid ⟨fun _ _ => rfl, HR.out.2.1⟩⟩
  case round =>
    clear s1 s2 s3
    obtain ⟨Z, z, rfl, rfl, HZ⟩ := hrel
    obtain ⟨V, hV⟩ : ∃ V, Tb.F R Z = V := ⟨_, rfl⟩
    obtain ⟨m1, hm1⟩ : ∃ x : Int, ((Z &&& R).toNat : Int) = x := ⟨_, rfl⟩
    obtain ⟨m2, hm2⟩ : ∃ x : Int, (((Z &&& R) <<< 1).toNat : Int) = x := ⟨_, rfl⟩
    obtain ⟨v, hv⟩ : ∃ x : Int, (V.toNat : Int) = x := ⟨_, rfl⟩
    have a1 : bits BinOp.and IntKind.u64 z r = m1 := by rw [← HZ.out.2, ← HR.out.1, ← hm1]; exact u_and Z R
    have a2 : IntKind.u64.wrap (m1 * 2) = m2 := by rw [← hm1, ← hm2]; exact u_shl1 (Z &&& R)
    have a3 : bits BinOp.or IntKind.u64 z m2 = v := by rw [← HZ.out.2, ← hm2, ← hv, ← hV]; exact u_or Z ((Z &&& R) <<< 1)
    have HV := Lib.hid (And.intro hV hv)
    clear hV hm1 hm2 hv
    by_cases hf : V = Z
    · have hvz : v = z := by rw [← HV.out.2, ← HZ.out.2, hf]
      have HE : Hid (y = z) := Lib.hid (by
        rw [← HR.out.2.2, ← HZ.out.2]
        congr 2
        rw [← HY.out]
        exact whole_fix (by rw [HX0.out]; exact HZ.out.1) (by rw [HV.out.1, hf]))
      subst hvz
      clear HZ hf
      go_wp2
      go_ret
      exact ⟨by rw [HE.out]; rfl, rfl⟩
    · have kf : (v == z) = false := by
        rw [beq_eq_false_iff_ne, ← HV.out.2, ← HZ.out.2]
        intro e
        exact hf (BitVec.eq_of_toNat_eq (by omega))
      have HN : Hid ((∀ k, k < 64 → Tb.cl R V k = Tb.cl R X0 k) ∧ (V.toNat : Int) = v) := Lib.hid ⟨fun k hk => by rw [← HV.out.1, cl_F R Z k hk, HZ.out.1 k hk], HV.out.2⟩
      have HM : Hid (Tb.ct (BitVec.ofInt 64 z) < Tb.ct (BitVec.ofInt 64 v) ∧ Tb.ct (BitVec.ofInt 64 v) ≤ 64) := Lib.hid (by
        rw [← HV.out.2, ← HZ.out.2, u_ofInt, u_ofInt]
        exact ⟨by have := ct_F (R := R) (X := Z) (by rw [HV.out.1]; exact hf); rwa [HV.out.1] at this, ct_le V⟩)
      clear hf
      go_wp2
      refine ⟨?_, ?measure⟩
      case measure =>
        have := HM.out
        simp only [intOf]
        omega
      first
        | exact ⟨V, v, rfl, rfl, HN⟩
        | exact ⟨V, v, rfl, trivial, HN⟩
        | ((repeat apply Exists.intro); exact ⟨⟨V, v, rfl, rfl, HN⟩, rfl⟩)
end Go.Proofs.Ytjedjnpepjdgeaa
