/- Contracts of patterns as texts: a pattern's text; the small literal of layer 7. -/
import Derived.Test.YtkihlnomchhiiaaGl6
namespace Go.Proofs.Ytkihlnomchhiiaa
open Go.ChangeShapes Go.WideShapes Go.ChangeAt Go.RowKit
set_option linter.unusedSimpArgs false
set_option linter.unusedVariables false

theorem itxs_snoc (l : List (Bool × BitVec 256)) (x : Bool × BitVec 256) : Cs.itxs (l ++ [x]) = Cs.itxs l ++ Cs.itx x.1 x.2 := by simp [Cs.itxs]
theorem take_more {α : Type} (l : List α) (k : Nat) (x : α) (h : l[k]? = some x) : l.take (k + 1) = l.take k ++ [x] := by rw [List.take_add_one, h]; rfl
set_option maxRecDepth 20000 in
theorem gl_print_no (l : List (Bool × BitVec 256)) (hb : goodB l = false) (a : Option Addr) (n c : Nat) (hn : l.length = n) (hn6 : n ≤ 1000000) (w : World) (h : LI w a l) :
    Calls Try.prog 13 #[.slice a n c] w fun e w' => e = .returned (.tuple #[.string { data := #[] }, .int .i64 2]) ∧ Below w.heap.size w w' := by
  have HL := Lib.hid (And.intro hb (And.intro hn h))
  clear hb hn h
  go_enter Try.func13, Try.ntmps13
  go_wp2_with (go_at_call 10; refine (gl_good l false HL.out.1 a n c HL.out.2.1 hn6 _ HL.out.2.2).mono ?_; rintro e W1 ⟨rfl, hb1⟩; have HB1 := Lib.hid hb1; clear hb1)
  go_ret2
  exact ⟨rfl, HB1.out⟩
set_option maxRecDepth 20000 in
set_option maxHeartbeats 1000000 in
theorem gl_print (l : List (Bool × BitVec 256)) (hb : goodB l = true) (t : ByteArray) (ht : t.data.toList = Cs.itxs l) (a : Option Addr) (n c : Nat) (hn : l.length = n) (w : World) (h : LI w a l) :
    Calls Try.prog 13 #[.slice a n c] w fun e w' => e = .returned (.tuple #[.string t, .int .i64 0]) ∧ Below w.heap.size w w' := by
  obtain ⟨i0, hi, hz0, hz1, hz2⟩ := info_parts info5
  have HI := Lib.hid hi
  have HI0 := Lib.hid hz0
  have HI1 := Lib.hid hz1
  have HI2 := Lib.hid hz2
  clear hi hz0 hz1 hz2
  have hn60 : n ≤ 60 := by rw [← hn]; exact (goodB_ok hb).2
  have HL := Lib.hid (And.intro hb (And.intro hn (And.intro h ht)))
  clear hb hn h ht
  go_enter Try.func13, Try.ntmps13
  go_wp2_with (go_at_call 10; refine (gl_good l true HL.out.1 a n c HL.out.2.1 (by omega) _ HL.out.2.2.1).mono ?_; rintro e W1 ⟨rfl, hb1⟩; have HB1 : Hid (LI W1 a l ∧ Below w.heap.size w W1) := Lib.hid ⟨HL.out.2.2.1.below hb1, hb1⟩; clear hb1)
  go_loopw [4, 12] (fun v i wr => ∃ (k m : Nat), i = .int .i64 k ∧ k ≤ n ∧ m ≤ 1283 * k ∧ Hid (LI wr a l ∧ Below w.heap.size w wr) ∧ Hid (∃ B, w.heap.size ≤ B ∧ B ≤ wr.heap.size ∧ LI wr a l ∧ wr.ownsRow B 5 1 v m (cu (Cs.itxs (l.take k))) ∧ (∀ g x, a = some ⟨g, 0, x⟩ → l ≠ [] → g < B))) (fun _ i _ => n - (intOf i).toNat)
  case atStart => exact ⟨0, 0, rfl, by omega, by omega, HB1, Lib.hid ⟨W1.heap.size, HB1.out.2.size, Nat.le_refl _, HB1.out.1, World.ownsRow_nil _ _ _ _, fun g x e hne => by
    rcases HB1.out.1 with h | ⟨g', h1, h2⟩
    · exact absurd h hne
    · rw [e] at h1; cases h1; exact h2.1⟩⟩
  case round =>
    clear HB1
    obtain ⟨k, m, rfl, hk, hm, HB, HO⟩ := hrel
    have j0 : (0 : Int) ≤ (k : Int) := by omega
    by_cases hkl : k < n
    · obtain ⟨x, hx⟩ : ∃ x, l[k]? = some x := ⟨_, List.getElem?_eq_getElem (by rw [HL.out.2.1]; exact hkl)⟩
      rcases HB.out.1 with e | ⟨g, ha, HIL⟩
      · rw [e] at hx; simp at hx
      · subst ha
        obtain ⟨r, X⟩ := x
        have z0 := (HIL.cell hx).1
        have z1 := (HIL.cell hx).2.1
        have z2 := (HIL.cell hx).2.2.1
        have z3 := (HIL.cell hx).2.2.2.1
        have z4 := (HIL.cell hx).2.2.2.2
        have HX := Lib.hid hx
        obtain ⟨B, hB1, hB2, _, hB4, hB5⟩ := HO.out
        have hgB := hB5 g none rfl (by intro e; rw [e] at hx; simp at hx)
        have HBB := Lib.hid (And.intro hB1 (And.intro hB2 hgB))
        have hd : Hid (Below w.heap.size w (wr.alloc (.cells #[.bool r, .int .u64 (Cs.wd X 0), .int .u64 (Cs.wd X 1), .int .u64 (Cs.wd X 2), .int .u64 (Cs.wd X 3)] 40)) ∧ IB (wr.alloc (.cells #[.bool r, .int .u64 (Cs.wd X 0), .int .u64 (Cs.wd X 1), .int .u64 (Cs.wd X 2), .int .u64 (Cs.wd X 3)] 40)) wr.heap.size r X ∧ IL (wr.alloc (.cells #[.bool r, .int .u64 (Cs.wd X 0), .int .u64 (Cs.wd X 1), .int .u64 (Cs.wd X 2), .int .u64 (Cs.wd X 3)] 40)) g l ∧ (wr.alloc (.cells #[.bool r, .int .u64 (Cs.wd X 0), .int .u64 (Cs.wd X 1), .int .u64 (Cs.wd X 2), .int .u64 (Cs.wd X 3)] 40)).ownsRow B 5 1 u4 m (cu (Cs.itxs (l.take k)))) := Lib.hid ⟨HB.out.2.alloc HB.out.2.size _, IB.new wr r X, HIL.below ((Below.refl _ _).alloc (Nat.le_refl _) _), hB4.alloc _⟩
        obtain ⟨u, hu⟩ := text_mk (Cs.itx r X)
        have lu := itx_le r X
        rw [← size_of hu] at lu
        have HU := Lib.hid hu
        have hsz : B ≤ (wr.alloc (.cells #[.bool r, .int .u64 (Cs.wd X 0), .int .u64 (Cs.wd X 1), .int .u64 (Cs.wd X 2), .int .u64 (Cs.wd X 3)] 40)).heap.size := by simp; omega
        clear hx HIL hB4 hB1 hB2 hB5 hgB HO hu
        go_upto_region 7 with fail
        clear z0 z1 z2 z3 z4
        revert hd hsz
        generalize wr.alloc (.cells #[.bool r, .int .u64 (Cs.wd X 0), .int .u64 (Cs.wd X 1), .int .u64 (Cs.wd X 2), .int .u64 (Cs.wd X 3)] 40) = V
        generalize wr.heap.size = D
        intro hd hsz
        have yb := Blk.cell hd.out.2.1 (i := 0) rfl
        have y0 := Blk.cell hd.out.2.1 (i := 1) rfl
        have y1 := Blk.cell hd.out.2.1 (i := 2) rfl
        have y2 := Blk.cell hd.out.2.1 (i := 3) rfl
        have y3 := Blk.cell hd.out.2.1 (i := 4) rfl
        go_wp2_with (first
          | (go_at_call 23; refine (gl_item r X u HU.out _).mono ?_; rintro e W2 ⟨rfl, hb2⟩; have HB2 : Hid (Below w.heap.size w W2 ∧ IL W2 g l ∧ W2.ownsRow B 5 1 u4 m (cu (Cs.itxs (l.take k))) ∧ B ≤ W2.heap.size) := Lib.hid ⟨hd.out.1.trans (hb2.mono hd.out.1.size), hd.out.2.2.1.below hb2, own_below hd.out.2.2.2 hb2, Nat.le_trans hsz hb2.size⟩; clear hb2)
          | (at_builtin; refine Lib.wpList_append_own_string _ rfl _ _ 47 9 rfl B 5 i0 Try.underlying47 Try.underlying9 HI.out HI0.out HI1.out HI2.out _ _ _ rfl HB2.out.2.2.1 u rfl (by unfold maxLen; omega) (by omega) (by exact HB2.out.2.2.2) ?_))
        intro v' w3 hown hgrow _
        have HN : Hid (LI w3 (some ⟨g, 0, none⟩) l ∧ Below w.heap.size w w3) ∧ Hid (∃ B, w.heap.size ≤ B ∧ B ≤ w3.heap.size ∧ LI w3 (some ⟨g, 0, none⟩) l ∧ w3.ownsRow B 5 1 v' (m + u.size) (cu (Cs.itxs (l.take (k + 1)))) ∧ (∀ g' x, (some ⟨g, 0, none⟩ : Option Addr) = some ⟨g', 0, x⟩ → l ≠ [] → g' < B)) := by
          have hbB : Below B W2 w3 := (Below.refl _ _).grown hgrow HB2.out.2.2.2 (fun q hq => (HB2.out.2.2.1.lt q hq).1)
          have hl : LI w3 (some ⟨g, 0, none⟩) l := Or.inr ⟨g, rfl, Nat.lt_of_lt_of_le HBB.out.2.2 (Nat.le_trans HB2.out.2.2.2 hbB.size), fun i v hi => by rw [hbB.cell (p := ⟨g, i, none⟩) HBB.out.2.2]; exact HB2.out.2.1.2 i v hi⟩
          refine ⟨Lib.hid ⟨hl, HB2.out.1.trans (hbB.mono HBB.out.1)⟩, Lib.hid ⟨B, HBB.out.1, Nat.le_trans HB2.out.2.2.2 hbB.size, hl, ?_, fun g' x e _ => by cases e; exact HBB.out.2.2⟩⟩
          rw [take_more l k (r, X) HX.out, itxs_snoc, cu_append, ← HU.out]; exact hown
        clear hown hgrow
        go_wp2
        refine ⟨?_, ?measure⟩
        case measure => simp [intOf]; omega
        first
          | exact ⟨k + 1, m + u.size, by go_num, by omega, by omega, HN.1, HN.2⟩
          | ((repeat apply Exists.intro); exact ⟨⟨k + 1, m + u.size, by go_num, by omega, by omega, HN.1, HN.2⟩, rfl⟩)
    · obtain rfl : k = n := by omega
      obtain ⟨B, hB1, hB2, _, hB4, hB5⟩ := HO.out
      have hcv := conv_own (t := t) (by rw [HL.out.2.2.2]; have := hB4; rw [List.take_of_length_le (by rw [HL.out.2.1]; exact Nat.le_refl _)] at this; exact this)
      clear hB4 hB5
      go_wp2
      go_ret2
      exact ⟨rfl, HB.out.2⟩
def livesL : List (Bool × BitVec 256) := [(false, Cs.bitS 97), (true, 0), (false, Cs.span 48 57), (false, Cs.bitS 42)]
theorem lives_itxs : Cs.itxs livesL = [97, 42, 91, 48, 45, 57, 93, 37, 42] := by decide +kernel
theorem lives_itxs2 : Cs.itxs [(false, Cs.ofL [42]), (true, 0)] = [37, 42, 42] := by decide +kernel
theorem lives_good2 : goodB [(false, Cs.ofL [42]), (true, 0)] = true := by decide +kernel
theorem lives_ok : okI livesL := by
  intro x hx h
  simp [livesL] at hx
  rcases hx with rfl | rfl | rfl | rfl
  · cases h
  · rfl
  · cases h
  · cases h
set_option maxRecDepth 20000 in
set_option maxHeartbeats 1000000 in
theorem gl_lives (w : World) :
    Calls Try.prog 11 #[] w fun e w' => e = .returned (.bool true) ∧ Below w.heap.size w w' := by
  obtain ⟨X, hX⟩ : ∃ X, Cs.ofL [42] = X := ⟨_, rfl⟩
  have h1 := lives_itxs2
  have h2 := lives_good2
  rw [hX] at h1 h2
  have HX := Lib.hid (And.intro hX (And.intro h1 h2))
  clear hX h1 h2
  go_enter Try.func11, Try.ntmps11
  go_upto_region 2 with (go_at_call 7; refine (gl_parse _ livesL (by decide) (by rw [lives_itxs]) lives_ok (by decide) _).mono ?_; rintro e W1 ⟨v, rfl, h1, h2⟩; obtain ⟨a, c, rfl, h3⟩ := LI.own h1; have HB1 : Hid (LI W1 a livesL ∧ Below w.heap.size w W1) := Lib.hid ⟨h3, h2⟩; clear h1 h2 h3)
  rcases HB1.out.1 with e | ⟨g, ha, HIL⟩
  · exact absurd e (by simp [livesL])
  · subst ha
    have HG := Lib.hid HIL
    clear HIL
    go_upto_region 3 with (first
      | (go_at_call 33; refine (cs_of _ (by decide) _).mono ?_; rintro e W2 ⟨rfl, hb2⟩; done)
      | (go_at_call 22; refine (rf_of _ (by decide) _).mono ?_; rintro e W2 ⟨rfl, hb2⟩; rw [show Cs.ofL ({ data := #[42] } : ByteArray).data.toList = X from HX.out.1]; unfold Cs.sv; have HB2 : Hid (IL (W2.alloc (.cells #[.bool false, .int .u64 (Cs.wd X 0), .int .u64 (Cs.wd X 1), .int .u64 (Cs.wd X 2), .int .u64 (Cs.wd X 3), .bool true, .int .u64 0, .int .u64 0, .int .u64 0, .int .u64 0] 40)) g livesL ∧ Below w.heap.size w (W2.alloc (.cells #[.bool false, .int .u64 (Cs.wd X 0), .int .u64 (Cs.wd X 1), .int .u64 (Cs.wd X 2), .int .u64 (Cs.wd X 3), .bool true, .int .u64 0, .int .u64 0, .int .u64 0, .int .u64 0] 40)) ∧ LI (W2.alloc (.cells #[.bool false, .int .u64 (Cs.wd X 0), .int .u64 (Cs.wd X 1), .int .u64 (Cs.wd X 2), .int .u64 (Cs.wd X 3), .bool true, .int .u64 0, .int .u64 0, .int .u64 0, .int .u64 0] 40)) (some ⟨W2.heap.size, 0, none⟩) [(false, X), (true, 0)]) := Lib.hid ⟨(HG.out.below hb2).below ((Below.refl _ _).alloc (Nat.le_refl _) _), (HB1.out.2.trans (hb2.mono HB1.out.2.size)).alloc (Nat.le_trans HB1.out.2.size hb2.size) _, Or.inr ⟨_, rfl, IL.blk (Blk.newA W2 _ _) (fun i v hi => hi)⟩⟩; clear hb2)
      | (go_at_call 13; refine (gl_print [(false, X), (true, 0)] HX.out.2.2 { data := #[37, 42, 42] } (by rw [HX.out.2.1]) (some ⟨W2.heap.size, 0, none⟩) 2 2 rfl _ HB2.out.2.2).mono ?_; rintro e W3 ⟨rfl, hb3⟩; have HB3 : Hid (IL W3 g livesL ∧ Below w.heap.size w W3) := Lib.hid ⟨HB2.out.1.below hb3, HB2.out.2.1.trans (hb3.mono HB2.out.2.1.size)⟩; clear hb3))
    have z := (HB3.out.1.cell (j := 1) (x := (true, 0)) rfl).1
    have hll : livesL.length = 4 := rfl
    go_wp2
    go_ret
    exact ⟨rfl, HB3.out.2⟩
end Go.Proofs.Ytkihlnomchhiiaa
