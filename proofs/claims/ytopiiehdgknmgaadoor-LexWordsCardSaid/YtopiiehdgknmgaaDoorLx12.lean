/- Lex: words joined. -/
import Derived.Test.YtopiiehdgknmgaaDoorLx10
import Derived.Test.YtopiiehdgknmgaaDoorShelf
namespace Go.Proofs.YtopiiehdgknmgaaDoor
open Go.ChangeShapes Go.WideShapes Go.ChangeAt Go.RowKit
set_option linter.unusedSimpArgs false
set_option linter.unusedVariables false

theorem map_next {L : List (List UInt8 × Bool × Nat)} {k : Nat} {x : List UInt8 × Bool × Nat} (h : L[k]? = some x) : (L.take (k + 1)).map Lx.wt = (L.take k).map Lx.wt ++ [Lx.wt x] := by
  rw [List.take_add_one, h, List.map_append]; rfl
set_option maxRecDepth 20000 in
set_option maxHeartbeats 8000000 in
theorem lx_join (L : List (List UInt8 × Bool × Nat)) (n : Nat) (hn : L.length = n) (hn1 : n ≤ 100000) (hc : Lx.cost L ≤ 2000) (r : Option Addr) (c : Nat) (w : World) (h1 : WR w r L) : Calls Tryd.prog 10 #[.slice r n c] w fun e w' => e = .returned (.string (mkT (Lx.cat L))) ∧ Below w.heap.size w w' := by
  have H0 := Lib.hid h1
  have HB : Hid (RM w w.heap.size none 0 0 1 (sc []) 9 ∧ Below w.heap.size w w) := Lib.hid ⟨RM.nil _ _ _ _ (Nat.le_refl _), Below.refl _ _⟩
  have HN := Lib.hid (And.intro hn hc)
  clear h1 hn hc
  go_enter Tryd.func10, Tryd.ntmps10
  go_wp2_with fail
  go_loopw [3, 5, 8] (fun sv _ iv wr => ∃ (k c0 : Nat) (r0 : Option Addr) (l : List (List UInt8)), sv = .slice r0 k c0 ∧ iv = .int .i64 k ∧ k ≤ n ∧ l = (L.take k).map Lx.wt ∧ Hid (RM wr w.heap.size r0 k c0 1 (sc l) 9 ∧ Below w.heap.size w wr)) (fun _ _ iv _ => n - (intOf iv).toNat)
  case atStart => exact ⟨0, 0, none, [], rfl, rfl, by omega, rfl, HB⟩
  case round =>
    clear HB
    obtain ⟨k, c0, r0, l, rfl, rfl, hk, hl, HB⟩ := hrel
    have HL := Lib.hid hl
    clear hl
    have k0 : (0 : Int) ≤ (k : Int) := by omega
    by_cases hkn : k < n
    · have kI : (k : Int) < (n : Int) := by omega
      have w1 : IntKind.i64.wrap ((k : Int) + 1) = (k : Int) + 1 := IntWalk.i64_in _ (by omega)
      obtain ⟨⟨t, q, p⟩, hx⟩ : ∃ x, L[k]? = some x := ⟨_, List.getElem?_eq_getElem (by rw [HN.out.1]; exact hkn)⟩
      have hwr := H0.out.below HB.out.2
      obtain ⟨g, rfl, _⟩ := hwr.row hx
      obtain ⟨d1, d2, d3⟩ := hwr.cells hx
      obtain ⟨X, hX⟩ : ∃ X, mkT t = X := ⟨_, rfl⟩
      obtain ⟨Y, hY⟩ : ∃ Y, mkT (Qt.quo t) = Y := ⟨_, rfl⟩
      have hXl : X.data.toList = t := by rw [← hX, mkT_list]
      have hm := cost_mem L _ (List.mem_of_getElem? hx)
      have hg := wt_ge (t, q, p)
      have hXs : X.size ≤ 2000 := by
        rw [size_of hXl]
        have h3 := HN.out.2
        dsimp only at hg
        omega
      rw [hX] at d1
      have HX : Hid (L[k]? = some (t, q, p) ∧ mkT t = X ∧ mkT (Qt.quo t) = Y ∧ Y.data.toList = Qt.quo X.data.toList) := Lib.hid ⟨hx, hX, hY, by rw [hXl, ← hY, mkT_list]⟩
      clear hwr hx hX hY hXl hm hg
      go_upto_region 5 with fail
      have HW : Hid (WB 34 (wr.alloc (.cells #[.string X, .bool q, .int .i64 (p : Int)] 34)) wr.heap.size X q p ∧ Below wr.heap.size wr (wr.alloc (.cells #[.string X, .bool q, .int .i64 (p : Int)] 34))) := Lib.hid ⟨Blk.newA wr #[.string X, .bool q, .int .i64 (p : Int)] 34, (Below.refl _ _).alloc (Nat.le_refl _) _⟩
      revert HW
      generalize (wr.alloc (.cells #[.string X, .bool q, .int .i64 (p : Int)] 34)) = W
      intro HW
      have c0x := HW.out.1.c0
      have c1x := HW.out.1.c1
      have c2x := HW.out.1.c2
      clear d1 d2 d3
      cases q with
      | true =>
        go_wp2_with (first
          | (go_at_call 19; with_reducible refine (quote_any X Y (by omega) HX.out.2.2.2 _).mono ?_; rintro e W1 ⟨rfl, hb1⟩; replace HW := Lib.hid (And.intro (HW.out.1.below hb1) (HW.out.2.trans (hb1.mono HW.out.2.size))); have e0 := HW.out.1.c0; have ef := HW.out.1.f 0; clear c0x c1x c2x hb1)
          | (at_builtin; refine wpList_append_rm _ rfl (.tmp 18) (.tmp 21) 40 40 rfl 9 (.string ({ data := #[] } : ByteArray)) 1 16 Tryd.underlying40 infos rfl w.heap.size r0 k c0 (sc l) rfl (HB.out.1.chg (l := []) (((Chg.of_fresh HW.out.2).set (Or.inr (Nat.le_refl _)) _ _).alloc _) (by intro g _; simp)) _ rfl 1 (by omega) [.string Y] (Src.ofSlice _ Tryd.underlying40 ⟨_, 0, none⟩ 1 1 [.string Y] rfl (new_cells4 _ #[.string Y] _ _ (by simp) _ rfl) (one_str Y)) (by omega) (by omega) ?_; intro g4 c4 w4 r1 r2 r3; have HB4 : Hid (RM w4 w.heap.size (some ⟨g4, 0, none⟩) (k + 1) c4 1 (sc (l ++ [Qt.quo t])) 9 ∧ Below w.heap.size w w4) := Lib.hid ⟨by rw [sc_snoc, HX.out.2.2.1]; exact r1, r3.onto (((HB.out.2.trans (HW.out.2.mono HB.out.2.size)).setCell (p := ⟨wr.heap.size, 0, none⟩) HB.out.2.size _).alloc (by have h1 := HB.out.2.size; have h2 := HW.out.2.size; simp; omega) _) (by have h1 := HB.out.2.size; have h2 := HW.out.2.size; simp; omega) (fun y hy => (HB.out.1.lt y hy).1)⟩; clear r1 r2 r3))
        refine ⟨?_, ?measure⟩
        case measure => simp [intOf]; omega
        first
          | exact ⟨k + 1, c4, some ⟨g4, 0, none⟩, _, by go_num, by go_num, by omega, by rw [HL.out, map_next HX.out.1]; rfl, HB4⟩
          | ((repeat apply Exists.intro); exact ⟨⟨k + 1, c4, some ⟨g4, 0, none⟩, _, by go_num, by go_num, by omega, by rw [HL.out, map_next HX.out.1]; rfl, HB4⟩, rfl⟩)
      | false =>
        go_wp2_with (at_builtin; refine wpList_append_rm _ rfl (.tmp 18) (.tmp 21) 40 40 rfl 9 (.string ({ data := #[] } : ByteArray)) 1 16 Tryd.underlying40 infos rfl w.heap.size r0 k c0 (sc l) rfl (HB.out.1.chg (l := []) ((Chg.of_fresh HW.out.2).alloc _) (by intro g _; simp)) _ rfl 1 (by omega) [.string X] (Src.ofSlice _ Tryd.underlying40 ⟨_, 0, none⟩ 1 1 [.string X] rfl (one_new _ _ _) (one_str X)) (by omega) (by omega) ?_; intro g4 c4 w4 r1 r2 r3; have HB4 : Hid (RM w4 w.heap.size (some ⟨g4, 0, none⟩) (k + 1) c4 1 (sc (l ++ [t])) 9 ∧ Below w.heap.size w w4) := Lib.hid ⟨by rw [sc_snoc, HX.out.2.1]; exact r1, r3.onto ((HB.out.2.trans (HW.out.2.mono HB.out.2.size)).alloc (Nat.le_trans HB.out.2.size HW.out.2.size) _) (by have h1 := HB.out.2.size; have h2 := HW.out.2.size; simp; omega) (fun y hy => (HB.out.1.lt y hy).1)⟩; clear r1 r2 r3)
        refine ⟨?_, ?measure⟩
        case measure => simp [intOf]; omega
        first
          | exact ⟨k + 1, c4, some ⟨g4, 0, none⟩, _, by go_num, by go_num, by omega, by rw [HL.out, map_next HX.out.1]; rfl, HB4⟩
          | ((repeat apply Exists.intro); exact ⟨⟨k + 1, c4, some ⟨g4, 0, none⟩, _, by go_num, by go_num, by omega, by rw [HL.out, map_next HX.out.1]; rfl, HB4⟩, rfl⟩)
    · have kI : ¬ (k : Int) < (n : Int) := by omega
      have HE : Hid (l = L.map Lx.wt ∧ k = n) := Lib.hid ⟨by rw [HL.out, List.take_of_length_le (by rw [HN.out.1]; omega)], by omega⟩
      by_cases hz : n = 0
      · have HZ : Hid (k = 0 ∧ L = []) := Lib.hid ⟨by omega, List.length_eq_zero_iff.1 (by rw [HN.out.1, hz])⟩
        clear hz
        go_wp2_with (go_at_call 20; rw [HZ.out.1]; with_reducible refine (Tryd.strings_Join_none r0 c0 _ _).mono ?_; rintro e W1 ⟨rfl, rfl⟩)
        go_ret
        exact ⟨by rw [HZ.out.2]; rfl, HB.out.2⟩
      · obtain ⟨g, rfl, _, hrn⟩ := HB.out.1.row (by omega)
        have hcap := hrn.len
        rw [sc_length] at hcap
        have hll : ((L.map Lx.wt).map mkT).length = k := by rw [List.length_map, List.length_map, HN.out.1, HE.out.2]
        have hlk : l.length = k := by rw [HE.out.1, List.length_map, HN.out.1, HE.out.2]
        have hlt := hrn.lt
        have hcost := cat_cost L
        have hjoin : Lib.join (((L.map Lx.wt).map mkT).map (·.data.toList)) [32] = Lx.cat L := by
          rw [← cat_join, List.map_map]
          congr 1
          rw [List.map_map]
          exact List.map_congr_left (fun x _ => mkT_list _)
        have HC : Hid ((∀ (j : Nat) x, ((L.map Lx.wt).map mkT)[j]? = some x → wr.cell? ⟨g, 0 + j, none⟩ = some (.string x)) ∧ g < wr.heap.size ∧ k ≤ c0 ∧ ((L.map Lx.wt).map mkT).length = k ∧ Lib.join (((L.map Lx.wt).map mkT).map (·.data.toList)) [32] = Lx.cat L ∧ (Lx.cat L).length ≤ 2000) := Lib.hid ⟨fun j x hj => by
          rw [Nat.zero_add]
          refine hrn.cell ?_
          rw [HE.out.1, sc, List.getElem?_map]
          rw [List.getElem?_map] at hj
          obtain ⟨y, hy, hx⟩ := Option.map_eq_some_iff.1 hj
          rw [hy, ← hx]; rfl, hlt, by omega, hll, hjoin, by have h3 := HN.out.2; omega⟩
        clear hz hrn hcap hll hlk hlt hcost hjoin
        go_wp2_with (go_at_call 20; rw [← HC.out.2.2.2.1]; refine (Tryd.strings_Join g 0 c0 ((L.map Lx.wt).map mkT) { data := #[32] } _ HC.out.1 HC.out.2.1 (by rw [HC.out.2.2.2.1]; omega) (by rw [HC.out.2.2.2.1]; exact HC.out.2.2.1) (by show (Lib.join _ [32]).length ≤ _; rw [HC.out.2.2.2.2.1]; have h := HC.out.2.2.2.2.2; omega)).mono ?_; rintro e W1 ⟨rfl, hb1⟩; replace HB := Lib.hid (HB.out.2.trans (hb1.mono HB.out.2.size)); clear hb1)
        go_ret
        refine ⟨?_, HB.out⟩
        have h := HC.out.2.2.2.2.1
        simp only [List.map_map] at h ⊢
        first
          | (rw [h]; rfl)
          | (show Ending.returned (.string ⟨(Lib.join (L.map ((fun x => x.data.toList) ∘ mkT ∘ Lx.wt)) [32]).toArray⟩) = _; rw [h]; rfl)
end Go.Proofs.YtopiiehdgknmgaaDoor
