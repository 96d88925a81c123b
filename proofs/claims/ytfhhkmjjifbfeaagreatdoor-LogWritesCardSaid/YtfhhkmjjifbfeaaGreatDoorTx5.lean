/- Ticks as texts: the document's Digits. -/
import Derived.Test.YtfhhkmjjifbfeaaGreatDoorTx2
namespace Go.Proofs.YtfhhkmjjifbfeaaGreatDoor
open Go.ChangeShapes Go.WideShapes Go.ChangeAt Go.RowKit
set_option linter.unusedSimpArgs false
set_option linter.unusedVariables false
theorem Tx.digit_at (r : Nat) (h : r < 10) : (({ data := #[48, 49, 50, 51, 52, 53, 54, 55, 56, 57] } : ByteArray).extract r (r + 1)).data.toList = [UInt8.ofNat (48 + r)] := by
  have : ∀ k : Fin 10, (({ data := #[48, 49, 50, 51, 52, 53, 54, 55, 56, 57] } : ByteArray).extract k.val (k.val + 1)).data.toList = [UInt8.ofNat (48 + k.val)] := by decide +kernel
  exact this ⟨r, h⟩
theorem Tx.size_of {s : ByteArray} {l : List UInt8} (h : s.data.toList = l) : s.size = l.length := by
  rw [← h]; simp
set_option maxRecDepth 20000 in
set_option maxHeartbeats 16000000 in
theorem tr_digits (u : Nat) (hu : u ≤ 9223372036854775807) (X : ByteArray) (hX : X.data.toList = Lib.decDigits u) (w : World) : Calls Tryz.prog 47 #[.int .i64 u] w fun e0 w' => e0 = .returned (.string X) ∧ Below w.heap.size w w' := by
  have HX := Lib.hid hX
  have hu2 : (u : Int) ≤ 9223372036854775807 := by omega
  clear hX
  go_enter Tryz.func47, Tryz.ntmps47
  go_wp2_with fail
  go_loopw [0, 3] (fun nv sv wr => ∃ (n : Nat) (S : ByteArray), nv = .int .i64 n ∧ sv = .string S ∧ n ≤ u ∧ S.size ≤ 20 ∧ Hid (Lib.decDigits n ++ S.data.toList = Lib.decDigits u) ∧ Hid (Below w.heap.size w wr)) (fun nv _ _ => (intOf nv).toNat)
  case atStart => exact ⟨u, ⟨#[]⟩, rfl, rfl, Nat.le_refl _, by decide, Lib.hid (by simp), Lib.hid (Below.refl _ _)⟩
  case round =>
    obtain ⟨n, S, rfl, rfl, hn, hS, HK, HB⟩ := hrel
    by_cases h9 : 9 < n
    · have i1 : (9 : Int) < (n : Int) := by omega
      obtain ⟨r, hr⟩ : ∃ r, n % 10 = r := ⟨_, rfl⟩
      obtain ⟨q, hq⟩ : ∃ q, n / 10 = q := ⟨_, rfl⟩
      have hr10 : r < 10 := by omega
      have r1 : (n : Int) % 10 = (r : Int) := by omega
      have r2 : (n : Int).tmod 10 = (r : Int) := by rw [Int.tmod_eq_emod_of_nonneg (by omega)]; exact r1
      have q1 : (n : Int) / 10 = (q : Int) := by omega
      have q2 : (n : Int).tdiv 10 = (q : Int) := by rw [Int.tdiv_eq_ediv_of_nonneg (by omega)]; exact q1
      have w1 : IntKind.i64.wrap (r : Int) = (r : Int) := IntWalk.i64_in _ ⟨by omega, by omega⟩
      have w2 : IntKind.i64.wrap ((r : Int) + 1) = ((r : Int) + 1) := IntWalk.i64_in _ ⟨by omega, by omega⟩
      have w3 : IntKind.i64.wrap (q : Int) = (q : Int) := IntWalk.i64_in _ ⟨by omega, by omega⟩
      obtain ⟨D, hD⟩ : ∃ D, ({ data := #[48, 49, 50, 51, 52, 53, 54, 55, 56, 57] } : ByteArray).extract r (r + 1) = D := ⟨_, rfl⟩
      have hDl : D.data.toList = [UInt8.ofNat (48 + r)] := by rw [← hD]; exact Tx.digit_at r hr10
      have hDs : D.size = 1 := by rw [Tx.size_of hDl]; rfl
      have hcat : ¬ (9223372036854775807 < D.size + S.size) := by omega
      have hlist : Lib.decDigits q ++ (D ++ S).data.toList = Lib.decDigits u := by
        rw [← HK.out, ByteArray.data_append, Array.toList_append, hDl, ← hq, ← hr]
        exact Tx.dec_next n (by omega) _
      have hsz : (D ++ S).size ≤ 20 := by
        have h1 := congrArg List.length hlist
        have h2 := Tx.dec_size u hu
        rw [List.length_append] at h1
        have h3 : (D ++ S).data.toList.length = (D ++ S).size := by simp
        omega
      have HN := Lib.hid (And.intro hlist hsz)
      have r3 : (0 : Int) ≤ (r : Int) := by omega
      have r4 : (r : Int) < 10 := by omega
      have hql : q < n := by omega
      clear hlist hsz hDl hr hq hDs
      go_wp2_with fail
      refine ⟨?_, ?measure⟩
      case measure => simp [intOf]; omega
      first
        | exact ⟨q, D ++ S, rfl, rfl, by omega, HN.out.2, Lib.hid HN.out.1, HB⟩
        | ((repeat apply Exists.intro); exact ⟨⟨q, D ++ S, rfl, rfl, by omega, HN.out.2, Lib.hid HN.out.1, HB⟩, rfl⟩)
    · have i1 : ¬ (9 : Int) < (n : Int) := by omega
      have w2 : IntKind.i64.wrap ((n : Int) + 1) = ((n : Int) + 1) := IntWalk.i64_in _ ⟨by omega, by omega⟩
      obtain ⟨D, hD⟩ : ∃ D, ({ data := #[48, 49, 50, 51, 52, 53, 54, 55, 56, 57] } : ByteArray).extract n (n + 1) = D := ⟨_, rfl⟩
      have hDl : D.data.toList = [UInt8.ofNat (48 + n)] := by rw [← hD]; exact Tx.digit_at n (by omega)
      have hDs : D.size = 1 := by rw [Tx.size_of hDl]; rfl
      have hcat : ¬ (9223372036854775807 < D.size + S.size) := by omega
      have HE : Hid (D ++ S = X) := Lib.hid (by
        have : (D ++ S).data.toList = X.data.toList := by
          rw [HX.out, ← HK.out, ByteArray.data_append, Array.toList_append, hDl]
          exact Tx.dec_last n (by omega) _
        generalize D ++ S = Y at this
        cases Y with | mk a => cases X with | mk b => congr 1; exact Array.ext' this)
      have r3 : (0 : Int) ≤ (n : Int) := by omega
      have r4 : (n : Int) < 10 := by omega
      clear hDl hDs
      go_wp2_with fail
      go_ret
      exact ⟨by rw [HE.out]; rfl, HB.out⟩
end Go.Proofs.YtfhhkmjjifbfeaaGreatDoor
