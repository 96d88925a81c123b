/- Lex: Words. -/
import Derived.Test.YtopiiehdgknmgaaDoorLx4
namespace Go.Proofs.YtopiiehdgknmgaaDoor
open Go.ChangeShapes Go.WideShapes Go.ChangeAt Go.RowKit
set_option linter.unusedSimpArgs false
set_option linter.unusedVariables false

theorem ext_drop2 (s u : ByteArray) (k : Nat) (h : s.extract k s.size = u) : u.data.toList = s.data.toList.drop k := by
  rw [← h, ByteArray.data_extract]
  simp
  try (rw [List.take_of_length_le]; simp)
theorem RM.fresh {w w' : World} {base n c sz : Nat} {r : Option Addr} {L : List Value} {T : TypeId} (h : RM w base r n c sz L T) (k : Below w.heap.size w w') : RM w' base r n c sz L T := h.chg (Chg.of_fresh (l := []) k) (by intro g _; simp)
theorem new_cells3 (w : World) (cs : Array Value) (T : TypeId) (j : Nat) (u : Value) (hj : cs.toList[j]? = some u) : (w.alloc (.cells cs T)).cell? ((⟨w.heap.size, 0, none⟩ : Addr).add j) = some u := by
  have e2 : (({ block := w.heap.size, off := 0, spot := none } : Addr).add j) = ⟨w.heap.size, j, none⟩ := by simp [Addr.add]; omega
  rw [e2]
  exact (Blk.newA w cs T).cell hj
theorem new_cells4 (w : World) (cs : Array Value) (T : TypeId) (v : Nat) (hv : v = w.heap.size) (L : List Value) (hL : cs.toList = L) (j : Nat) (u : Value) (hj : L[j]? = some u) : (w.alloc (.cells cs T)).cell? ((⟨v, 0, none⟩ : Addr).add j) = some u := by
  rw [hv]; exact new_cells3 w cs T j u (by rw [hL]; exact hj)
theorem one_wc (x : List UInt8 × Bool × Nat) : ∀ u ∈ wc x, u.oneCell' = true := by
  intro u hu; simp [wc] at hu; rcases hu with rfl | rfl | rfl <;> rfl
set_option maxRecDepth 20000 in
theorem lx_words_long (s : ByteArray) (hs : 1200 < s.size) (w : World) : Calls Tryd.prog 7 #[.string s] w fun r w' => r = .returned (.tuple #[.slice none 0 0, .int .i64 1200, .int .i64 4]) ∧ Below w.heap.size w w' := by
  have hi : (1200 : Int) < (s.size : Int) := by omega
  go_enter Tryd.func7, Tryd.ntmps7
  go_wp2
  go_ret3
  exact ⟨rfl, by first | exact Below.refl _ _ | exact (Below.refl _ _).alloc (Nat.le_refl _) _⟩
set_option maxRecDepth 20000 in
theorem lx_words_none (w : World) : Calls Tryd.prog 7 #[.string ⟨#[]⟩] w fun r w' => ∃ a c, r = .returned (.tuple #[.slice a 0 c, .int .i64 0, .int .i64 0]) ∧ Below w.heap.size w w' := by
  go_enter Tryd.func7, Tryd.ntmps7
  go_wp2_with fail
  go_loopw [5, 6] (fun lv kv wr => lv = .slice none 0 0 ∧ kv = .int .i64 0 ∧ wr = w) (fun _ _ _ => 0)
  case atStart => exact ⟨rfl, rfl, rfl⟩
  case round =>
    obtain ⟨rfl, rfl, rfl⟩ := hrel
    go_wp2
    go_ret3
    exact ⟨none, 0, rfl, Below.refl _ _⟩
set_option maxRecDepth 20000 in
set_option maxHeartbeats 8000000 in
theorem lx_words_some (s : ByteArray) (t : List UInt8) (h0 : 0 < s.size) (hs : s.size ≤ 1200) (ht : s.data.toList = t) (L : List (List UInt8 × Bool × Nat)) (p : Nat) (e : Int) (hr : Lx.wd t (t.length + 1) 0 [] = (L, p, e)) (w : World) : Calls Tryd.prog 7 #[.string s] w fun r w' => ∃ a c, r = .returned (.tuple #[.slice a L.length c, .int .i64 p, .int .i64 e]) ∧ RM w' w.heap.size a L.length c 3 (wcs L) 34 ∧ Below w.heap.size w w' := by
  obtain ⟨N, hN⟩ : ∃ N, s.size = N := ⟨_, rfl⟩
  have hNt : t.length = N := by rw [← ht]; simpa using hN
  have he1 := size_full h0
  have hsI : ¬ (1200 : Int) < (s.size : Int) := by omega
  have hS6 : s.size ≤ 4000 := by omega
  have hN1 : N ≤ 1200 := by omega
  have hN0 : 0 < N := by omega
  have hNS : Hid (s.size = N) := Lib.hid hN
  have HS := Lib.hid (And.intro ht (And.intro hr (And.intro hN hNt)))
  clear ht hr hNt hs hN
  go_enter Tryd.func7, Tryd.ntmps7
  have HB : Hid (RM w w.heap.size none 0 0 3 (wcs []) 34 ∧ Below w.heap.size w w) := Lib.hid ⟨RM.nil _ _ _ _ (Nat.le_refl _), Below.refl _ _⟩
  go_wp2_with fail
  go_loopw [5, 6, 7, 8, 9] (fun lv kv _ _ _ wr => ∃ (f k n c : Nat) (r : Option Addr) (l : List (List UInt8 × Bool × Nat)), lv = .slice r n c ∧ kv = .int .i64 k ∧ l.length = n ∧ k ≤ N ∧ n ≤ k ∧ (k = N → 0 < n) ∧ Hid (Lx.wd t f k l = (L, p, e) ∧ N - k < f) ∧ Hid (RM wr w.heap.size r n c 3 (wcs l) 34 ∧ Below w.heap.size w wr)) (fun lv kv _ _ _ _ => N + 1 - (intOf kv).toNat)
  case atStart => exact ⟨t.length + 1, 0, 0, 0, none, [], rfl, rfl, rfl, by omega, by omega, by omega, Lib.hid ⟨HS.out.2.1, by rw [HS.out.2.2.2]; omega⟩, HB⟩
  case round =>
    clear HB
    obtain ⟨f, k, n, c, r, l, rfl, rfl, hl, hk, hnk, hkn, HW, HB⟩ := hrel
    have k0 : (0 : Int) ≤ (k : Int) := by omega
    have kN : (k : Int) ≤ (N : Int) := by omega
    have hNq := hNS.out
    have kS : (k : Int) ≤ (s.size : Int) := by omega
    have kT : k ≤ s.size := by omega
    obtain ⟨u, hu⟩ : ∃ u, s.extract k s.size = u := ⟨_, rfl⟩
    have hut : u.data.toList = t.drop k := by rw [← HS.out.1]; exact ext_drop2 s u k hu
    have hus : u.size ≤ 4000 := by rw [← hu, ByteArray.size_extract]; omega
    obtain ⟨⟨tx, q, m, x⟩, hrd⟩ : ∃ z, Lx.read (t.drop k) = z := ⟨_, rfl⟩
    have hrn := lxread_n (t.drop k)
    rw [hrd, List.length_drop, HS.out.2.2.2] at hrn
    dsimp only at hrn
    cases f with
    | zero => have := HW.out.2; omega
    | succ f =>
      have hwd := HW.out.1
      rw [Lx.wd, hrd] at hwd
      dsimp only at hwd
      have HU : Hid (s.extract k s.size = u ∧ Lx.read u.data.toList = ((mkT tx).data.toList, q, m, x)) := Lib.hid ⟨hu, by rw [hut, hrd, mkT_list]⟩
      have w1 : IntKind.i64.wrap ((k : Int) + (m : Int)) = (k : Int) + (m : Int) := IntWalk.i64_in _ (by omega)
      by_cases hkN : k < N
      · have kI : (k : Int) < (s.size : Int) := by omega
        have kJ : k < s.size := by omega
        clear hkn hu hut hrd
        by_cases hx : x = 0
        · rw [if_neg (by rw [hx]; simp)] at hwd
          have hm := hrn.2 hx
          subst hx
          by_cases hend : k + m = N
          · rw [HS.out.2.2.2, if_pos hend] at hwd
            have HE : Hid (l ++ [(tx, q, k)] = L ∧ p = 0 ∧ e = 0) := Lib.hid (by
              injection hwd with a1 a2
              injection a2 with a2 a3
              exact ⟨a1, a2.symm, a3.symm⟩)
            have hendI : (k : Int) + (m : Int) = (s.size : Int) := by omega
            have hendJ : ((k : Int) + (m : Int) == (s.size : Int)) = true := by rw [beq_iff_eq]; exact hendI
            clear hwd HW hrn hNq
            go_wp2_with (first
              | (go_at_call 17; rw [HU.out.1]; with_reducible refine (lx_read_any u (mkT tx) q m 0 hus HU.out.2 _).mono ?_; rintro _ W1 ⟨rfl, hb1⟩; replace HB := Lib.hid (And.intro (HB.out.1.fresh hb1) (HB.out.2.trans (hb1.mono HB.out.2.size))); clear hb1)
              | (at_builtin; refine wpList_append_rm _ rfl (.tmp 38) (.tmp 40) 23 23 rfl 34 (.agg #[.string ({ data := #[] } : ByteArray), .bool false, .int .i64 0]) 3 32 Tryd.underlying23 infow rfl w.heap.size r n c (wcs l) rfl (HB.out.1.chg (l := []) (by first | exact ((Chg.refl [] _).alloc _).alloc _ | exact (((Chg.refl [] _).alloc _).set (Or.inr (by simp)) _ _).alloc _) (by intro g _; simp)) _ rfl 1 (by omega) (wc (tx, q, k)) (Src.ofSlice _ Tryd.underlying23 ⟨_, 0, none⟩ 1 1 (wc (tx, q, k)) rfl (new_cells4 _ #[.string (mkT tx), .bool q, .int .i64 (k : Int)] _ _ (by simp) _ rfl) (one_wc _)) (by omega) (by omega) ?_; intro g4 c4 w4 r1 r2 r3; have HQ : Hid (RM w4 w.heap.size (some ⟨g4, 0, none⟩) (n + 1) c4 3 (wcs l ++ wc (tx, q, k)) 34 ∧ Below w.heap.size w w4) := Lib.hid ⟨r1, r3.onto (by first | exact (HB.out.2.alloc HB.out.2.size _).alloc (Nat.le_trans HB.out.2.size (by simp)) _ | exact ((HB.out.2.alloc HB.out.2.size _).setCell (p := ⟨_, _, none⟩) HB.out.2.size _).alloc (Nat.le_trans HB.out.2.size (by simp)) _) (Nat.le_trans HB.out.2.size (by simp; try omega)) (fun y hy => (HB.out.1.lt y hy).1)⟩; clear r1 r2 r3))
            have HL : Hid (L.length = n + 1) := Lib.hid (by rw [← HE.out.1, List.length_append, hl]; rfl)
            go_ret3
            refine ⟨some ⟨g4, 0, none⟩, c4, by rw [HL.out, HE.out.2.1, HE.out.2.2]; rfl, ?_, HQ.out.2⟩
            rw [HL.out, ← HE.out.1, wcs_snoc]
            exact HQ.out.1
          · rw [HS.out.2.2.2, if_neg hend] at hwd
            have hlt : k + m < s.size := by omega
            have hltI : (k : Int) + (m : Int) < (s.size : Int) := by omega
            have hneI : ¬ (k : Int) + (m : Int) = (s.size : Int) := by omega
            have hneJ : ((k : Int) + (m : Int) == (s.size : Int)) = false := by rw [beq_eq_false_iff_ne]; exact hneI
            have hat : t[k + m]? = some s[k + m] := by
              have e : s.data.toList[k + m]? = some s[k + m] := by rw [List.getElem?_eq_getElem (by simpa using hlt)]; rfl
              rw [HS.out.1] at e; exact e
            rw [hat] at hwd
            have km0 : (0 : Int) ≤ (k : Int) + (m : Int) := by omega
            by_cases hb : s[k + m] = 32
            · rw [if_neg (by rw [hb]; simp)] at hwd
              have cb : (s[k + m].toNat : Int) = 32 := by rw [hb]; rfl
              have w2 : IntKind.i64.wrap ((k : Int) + (m : Int) + 1) = (k : Int) + (m : Int) + 1 := IntWalk.i64_in _ (by omega)
              have HW2 : Hid (Lx.wd t f (k + m + 1) (l ++ [(tx, q, k)]) = (L, p, e) ∧ N - (k + m + 1) < f) := Lib.hid ⟨hwd, by have := HW.out.2; omega⟩
              clear hwd HW hrn hat hb hNq
              go_wp2_with (first
                | (go_at_call 17; rw [HU.out.1]; with_reducible refine (lx_read_any u (mkT tx) q m 0 hus HU.out.2 _).mono ?_; rintro _ W1 ⟨rfl, hb1⟩; replace HB := Lib.hid (And.intro (HB.out.1.fresh hb1) (HB.out.2.trans (hb1.mono HB.out.2.size))); clear hb1)
                | (at_builtin; refine wpList_append_rm _ rfl (.tmp 38) (.tmp 40) 23 23 rfl 34 (.agg #[.string ({ data := #[] } : ByteArray), .bool false, .int .i64 0]) 3 32 Tryd.underlying23 infow rfl w.heap.size r n c (wcs l) rfl (HB.out.1.chg (l := []) (by first | exact ((Chg.refl [] _).alloc _).alloc _ | exact (((Chg.refl [] _).alloc _).set (Or.inr (by simp)) _ _).alloc _) (by intro g _; simp)) _ rfl 1 (by omega) (wc (tx, q, k)) (Src.ofSlice _ Tryd.underlying23 ⟨_, 0, none⟩ 1 1 (wc (tx, q, k)) rfl (new_cells4 _ #[.string (mkT tx), .bool q, .int .i64 (k : Int)] _ _ (by simp) _ rfl) (one_wc _)) (by omega) (by omega) ?_; intro g4 c4 w4 r1 r2 r3; have HQ : Hid (RM w4 w.heap.size (some ⟨g4, 0, none⟩) (n + 1) c4 3 (wcs l ++ wc (tx, q, k)) 34 ∧ Below w.heap.size w w4) := Lib.hid ⟨r1, r3.onto (by first | exact (HB.out.2.alloc HB.out.2.size _).alloc (Nat.le_trans HB.out.2.size (by simp)) _ | exact ((HB.out.2.alloc HB.out.2.size _).setCell (p := ⟨_, _, none⟩) HB.out.2.size _).alloc (Nat.le_trans HB.out.2.size (by simp)) _) (Nat.le_trans HB.out.2.size (by simp; try omega)) (fun y hy => (HB.out.1.lt y hy).1)⟩; clear r1 r2 r3))
              have HQ2 : Hid (RM w4 w.heap.size (some ⟨g4, 0, none⟩) (n + 1) c4 3 (wcs (l ++ [(tx, q, k)])) 34 ∧ Below w.heap.size w w4) := Lib.hid ⟨by rw [wcs_snoc]; exact HQ.out.1, HQ.out.2⟩
              refine ⟨?_, ?measure⟩
              case measure => simp [intOf]; omega
              first
                | exact ⟨f, k + m + 1, n + 1, c4, some ⟨g4, 0, none⟩, l ++ [(tx, q, k)], by go_num, by go_num, by rw [List.length_append, hl]; rfl, by omega, by omega, by omega, HW2, HQ2⟩
                | ((repeat apply Exists.intro); exact ⟨⟨f, k + m + 1, n + 1, c4, some ⟨g4, 0, none⟩, l ++ [(tx, q, k)], by go_num, by go_num, by rw [List.length_append, hl]; rfl, by omega, by omega, by omega, HW2, HQ2⟩, rfl⟩)
            · rw [if_pos (by intro h; injection h with h; exact hb h)] at hwd
              have cb : ((s[k + m].toNat : Int) == 32) = false := u8_ne hb _ rfl
              have HE : Hid (L = [] ∧ p = k + m ∧ e = 2) := Lib.hid (by
                injection hwd with a1 a2
                injection a2 with a2 a3
                exact ⟨a1.symm, a2.symm, a3.symm⟩)
              clear hwd HW hrn hat hb hNq
              go_wp2_with (first
                | (go_at_call 17; rw [HU.out.1]; with_reducible refine (lx_read_any u (mkT tx) q m 0 hus HU.out.2 _).mono ?_; rintro _ W1 ⟨rfl, hb1⟩; replace HB := Lib.hid (And.intro (HB.out.1.fresh hb1) (HB.out.2.trans (hb1.mono HB.out.2.size))); clear hb1)
                | (at_builtin; refine wpList_append_rm _ rfl (.tmp 38) (.tmp 40) 23 23 rfl 34 (.agg #[.string ({ data := #[] } : ByteArray), .bool false, .int .i64 0]) 3 32 Tryd.underlying23 infow rfl w.heap.size r n c (wcs l) rfl (HB.out.1.chg (l := []) (by first | exact ((Chg.refl [] _).alloc _).alloc _ | exact (((Chg.refl [] _).alloc _).set (Or.inr (by simp)) _ _).alloc _) (by intro g _; simp)) _ rfl 1 (by omega) (wc (tx, q, k)) (Src.ofSlice _ Tryd.underlying23 ⟨_, 0, none⟩ 1 1 (wc (tx, q, k)) rfl (new_cells4 _ #[.string (mkT tx), .bool q, .int .i64 (k : Int)] _ _ (by simp) _ rfl) (one_wc _)) (by omega) (by omega) ?_; intro g4 c4 w4 r1 r2 r3; have HQ : Hid (RM w4 w.heap.size (some ⟨g4, 0, none⟩) (n + 1) c4 3 (wcs l ++ wc (tx, q, k)) 34 ∧ Below w.heap.size w w4) := Lib.hid ⟨r1, r3.onto (by first | exact (HB.out.2.alloc HB.out.2.size _).alloc (Nat.le_trans HB.out.2.size (by simp)) _ | exact ((HB.out.2.alloc HB.out.2.size _).setCell (p := ⟨_, _, none⟩) HB.out.2.size _).alloc (Nat.le_trans HB.out.2.size (by simp)) _) (Nat.le_trans HB.out.2.size (by simp; try omega)) (fun y hy => (HB.out.1.lt y hy).1)⟩; clear r1 r2 r3))
              go_ret3
              exact ⟨none, 0, by rw [HE.out.1, HE.out.2.1, HE.out.2.2]; rfl, by rw [HE.out.1]; exact RM.nil _ _ _ _ HQ.out.2.size, HQ.out.2⟩
        · rw [if_pos hx] at hwd
          have HE : Hid (L = [] ∧ p = k + m ∧ e = x) := Lib.hid (by
            injection hwd with a1 a2
            injection a2 with a2 a3
            exact ⟨a1.symm, a2.symm, a3.symm⟩)
          have hxI : (x == 0) = false := by rw [beq_eq_false_iff_ne]; exact hx
          clear hwd HW hrn hNq
          go_wp2_with (go_at_call 17; rw [HU.out.1]; with_reducible refine (lx_read_any u (mkT tx) q m x hus HU.out.2 _).mono ?_; rintro _ W1 ⟨rfl, hb1⟩; replace HB := Lib.hid (And.intro (HB.out.1.fresh hb1) (HB.out.2.trans (hb1.mono HB.out.2.size))); clear hb1)
          go_ret3
          exact ⟨none, 0, by rw [HE.out.1, HE.out.2.1, HE.out.2.2]; rfl, by rw [HE.out.1]; exact RM.nil _ _ _ _ (Nat.le_trans HB.out.2.size (by simp)), HB.out.2.alloc HB.out.2.size _⟩
      · obtain rfl : k = N := by omega
        have nI : (0 : Int) < (n : Int) := by have := hkn rfl; omega
        have nJ : 0 < n := hkn rfl
        have kI : ¬ (k : Int) < (s.size : Int) := by omega
        have kJ : ¬ k < s.size := by omega
        have hx : x ≠ 0 := fun h => by have := hrn.2 h; omega
        clear hkn hu hut hrd
        rw [if_pos hx] at hwd
        have HE : Hid (L = [] ∧ p = k + m ∧ e = x) := Lib.hid (by
          injection hwd with a1 a2
          injection a2 with a2 a3
          exact ⟨a1.symm, a2.symm, a3.symm⟩)
        have hxI : (x == 0) = false := by rw [beq_eq_false_iff_ne]; exact hx
        clear hwd HW hrn hNq
        go_wp2_with (go_at_call 17; rw [HU.out.1]; with_reducible refine (lx_read_any u (mkT tx) q m x hus HU.out.2 _).mono ?_; rintro _ W1 ⟨rfl, hb1⟩; replace HB := Lib.hid (And.intro (HB.out.1.fresh hb1) (HB.out.2.trans (hb1.mono HB.out.2.size))); clear hb1)
        go_ret3
        exact ⟨none, 0, by rw [HE.out.1, HE.out.2.1, HE.out.2.2]; rfl, by rw [HE.out.1]; exact RM.nil _ _ _ _ (Nat.le_trans HB.out.2.size (by simp)), HB.out.2.alloc HB.out.2.size _⟩
end Go.Proofs.YtopiiehdgknmgaaDoor
