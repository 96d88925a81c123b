/- Lex: words joined, by the other road. -/
import Derived.Test.YtopiiehdgknmgaaDoorLx10
namespace Go.Proofs.YtopiiehdgknmgaaDoor
open Go.ChangeShapes Go.WideShapes Go.ChangeAt Go.RowKit
set_option linter.unusedSimpArgs false
set_option linter.unusedVariables false

set_option maxRecDepth 20000 in
set_option maxHeartbeats 8000000 in
theorem rx_join (L : List (List UInt8 × Bool × Nat)) (n : Nat) (hn : L.length = n) (hn1 : n ≤ 100000) (hc : Lx.cost L ≤ 2000) (r : Option Addr) (c : Nat) (w : World) (h1 : WR w r L) : Calls Tryd.prog 11 #[.slice r n c] w fun e w' => e = .returned (.string (mkT (Lx.cat L))) ∧ Below w.heap.size w w' := by
  have HB : Hid (WR w r L ∧ Below w.heap.size w w) := Lib.hid ⟨h1, Below.refl _ _⟩
  have HN := Lib.hid (And.intro hn hc)
  clear h1 hn hc
  go_enter Tryd.func11, Tryd.ntmps11
  go_wp2_with fail
  go_loopw [3, 4] (fun sv iv wr => ∃ (k : Nat) (A : ByteArray), sv = .string A ∧ iv = .int .i64 k ∧ k ≤ n ∧ Hid (A.data.toList = Lx.cat (L.take k)) ∧ Hid (WR wr r L ∧ Below w.heap.size w wr)) (fun _ iv _ => n - (intOf iv).toNat)
  case atStart => exact ⟨0, { data := #[] }, rfl, rfl, by omega, Lib.hid rfl, HB⟩
  case round =>
    clear HB
    obtain ⟨k, A, rfl, rfl, hk, HA, HB⟩ := hrel
    have k0 : (0 : Int) ≤ (k : Int) := by omega
    by_cases hkn : k < n
    · have kI : (k : Int) < (n : Int) := by omega
      have w1 : IntKind.i64.wrap ((k : Int) + 1) = (k : Int) + 1 := IntWalk.i64_in _ (by omega)
      obtain ⟨⟨t, q, p⟩, hx⟩ : ∃ x, L[k]? = some x := ⟨_, List.getElem?_eq_getElem (by rw [HN.out.1]; exact hkn)⟩
      obtain ⟨g, rfl, _⟩ := HB.out.1.row hx
      obtain ⟨d1, d2, d3⟩ := HB.out.1.cells hx
      obtain ⟨X, hX⟩ : ∃ X, mkT t = X := ⟨_, rfl⟩
      obtain ⟨Y, hY⟩ : ∃ Y, mkT (Qt.quo t) = Y := ⟨_, rfl⟩
      have hXl : X.data.toList = t := by rw [← hX, mkT_list]
      have hYl : Y.data.toList = Qt.quo t := by rw [← hY, mkT_list]
      have hAs : A.size ≤ 2000 := by
        rw [size_of HA.out]
        have h1 := cat_cost (L.take k)
        have h2 := cost_take L k
        have h3 := HN.out.2
        omega
      have hm := cost_mem L _ (List.mem_of_getElem? hx)
      have hg := wt_ge (t, q, p)
      have hXs : X.size ≤ 2000 := by
        rw [size_of hXl]
        have h3 := HN.out.2
        dsimp only at hg
        omega
      rw [hX] at d1
      have HX : Hid (L[k]? = some (t, q, p) ∧ X.data.toList = t ∧ Y.data.toList = Qt.quo X.data.toList) := Lib.hid ⟨hx, hXl, by rw [hXl, hYl]⟩
      cases q with
      | true =>
        have hYs : Y.size ≤ 2000 := by
          rw [size_of hYl]
          have h3 := HN.out.2
          have e : Lx.wt (t, true, p) = Qt.quo t := rfl
          rw [e] at hm
          omega
        clear hx hX hY hXl hYl hm hg
        by_cases hk0 : k = 0
        · have kz : ¬ (0 : Int) < (k : Int) := by omega
          have kz2 : ¬ 0 < k := by omega
          have HK0 := Lib.hid hk0
          clear hk0
          have HA2 : Hid ((A ++ Y).data.toList = Lx.cat (L.take (k + 1))) := Lib.hid (by
            rw [List.take_add_one, HX.out.1]
            have e : L.take k = [] := by rw [HK0.out]; rfl
            have h1 := HA.out
            rw [e] at h1 ⊢
            simp only [Lx.cat] at h1
            simp [h1, Lx.cat, Lx.wt, HX.out.2.2, HX.out.2.1])
          go_wp2_with (go_at_call 21; with_reducible refine (qr_quote X Y (by omega) HX.out.2.2 _).mono ?_; rintro e W1 ⟨rfl, hb1⟩; replace HB := Lib.hid (And.intro (HB.out.1.below hb1) (HB.out.2.trans (hb1.mono HB.out.2.size))); clear hb1)
          refine ⟨?_, ?measure⟩
          case measure => simp [intOf]; omega
          first
            | exact ⟨k + 1, A ++ Y, by go_num, by go_num, by omega, HA2, HB⟩
            | ((repeat apply Exists.intro); exact ⟨⟨k + 1, A ++ Y, by go_num, by go_num, by omega, HA2, HB⟩, rfl⟩)
        · have kz : (0 : Int) < (k : Int) := by omega
          have kz2 : 0 < k := by omega
          have HK0 := Lib.hid hk0
          clear hk0
          have HA2 : Hid ((A ++ ({ data := #[32] } : ByteArray) ++ Y).data.toList = Lx.cat (L.take (k + 1))) := Lib.hid (by
            rw [List.take_add_one, HX.out.1]
            have e : L.take k ≠ [] := by intro h; have := congrArg List.length h; rw [List.length_take, HN.out.1] at this; simp at this; exact HK0.out (by omega)
            have h1 := HA.out
            show _ = Lx.cat (L.take k ++ [(t, true, p)])
            rw [cat_snoc _ _ e, ← h1]
            simp [Lx.wt, HX.out.2.2, HX.out.2.1])
          go_wp2_with (go_at_call 21; with_reducible refine (qr_quote X Y (by omega) HX.out.2.2 _).mono ?_; rintro e W1 ⟨rfl, hb1⟩; replace HB := Lib.hid (And.intro (HB.out.1.below hb1) (HB.out.2.trans (hb1.mono HB.out.2.size))); clear hb1)
          refine ⟨?_, ?measure⟩
          case measure => simp [intOf]; omega
          first
            | exact ⟨k + 1, A ++ ({ data := #[32] } : ByteArray) ++ Y, by go_num, by go_num, by omega, HA2, HB⟩
            | ((repeat apply Exists.intro); exact ⟨⟨k + 1, A ++ ({ data := #[32] } : ByteArray) ++ Y, by go_num, by go_num, by omega, HA2, HB⟩, rfl⟩)
      | false =>
        clear hx hX hY hXl hYl hm hg
        by_cases hk0 : k = 0
        · have kz : ¬ (0 : Int) < (k : Int) := by omega
          have kz2 : ¬ 0 < k := by omega
          have HK0 := Lib.hid hk0
          clear hk0
          have HA2 : Hid ((A ++ X).data.toList = Lx.cat (L.take (k + 1))) := Lib.hid (by
            rw [List.take_add_one, HX.out.1]
            have e : L.take k = [] := by rw [HK0.out]; rfl
            have h1 := HA.out
            rw [e] at h1 ⊢
            simp only [Lx.cat] at h1
            simp [h1, Lx.cat, Lx.wt, HX.out.2.1])
          go_wp2
          refine ⟨?_, ?measure⟩
          case measure => simp [intOf]; omega
          first
            | exact ⟨k + 1, A ++ X, by go_num, by go_num, by omega, HA2, HB⟩
            | ((repeat apply Exists.intro); exact ⟨⟨k + 1, A ++ X, by go_num, by go_num, by omega, HA2, HB⟩, rfl⟩)
        · have kz : (0 : Int) < (k : Int) := by omega
          have kz2 : 0 < k := by omega
          have HK0 := Lib.hid hk0
          clear hk0
          have HA2 : Hid ((A ++ ({ data := #[32] } : ByteArray) ++ X).data.toList = Lx.cat (L.take (k + 1))) := Lib.hid (by
            rw [List.take_add_one, HX.out.1]
            have e : L.take k ≠ [] := by intro h; have := congrArg List.length h; rw [List.length_take, HN.out.1] at this; simp at this; exact HK0.out (by omega)
            have h1 := HA.out
            show _ = Lx.cat (L.take k ++ [(t, false, p)])
            rw [cat_snoc _ _ e, ← h1]
            simp [Lx.wt, HX.out.2.1])
          go_wp2
          refine ⟨?_, ?measure⟩
          case measure => simp [intOf]; omega
          first
            | exact ⟨k + 1, A ++ ({ data := #[32] } : ByteArray) ++ X, by go_num, by go_num, by omega, HA2, HB⟩
            | ((repeat apply Exists.intro); exact ⟨⟨k + 1, A ++ ({ data := #[32] } : ByteArray) ++ X, by go_num, by go_num, by omega, HA2, HB⟩, rfl⟩)
    · have kI : ¬ (k : Int) < (n : Int) := by omega
      have HE : Hid (A = mkT (Lx.cat L)) := Lib.hid (mkT_eq (by rw [HA.out, List.take_of_length_le (by rw [HN.out.1]; omega)]))
      go_wp2
      go_ret
      exact ⟨by rw [HE.out]; rfl, HB.out.2⟩
end Go.Proofs.YtopiiehdgknmgaaDoor
