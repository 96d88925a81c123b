/- The document's own answers on sets of bytes: of a text, of all from one to another. -/
import Derived.Test.YtkihlnomchhiiaaCsR2
namespace Go.Proofs.Ytkihlnomchhiiaa
open Go.ChangeShapes Go.WideShapes Go.ChangeAt Go.RowKit
set_option linter.unusedSimpArgs false
set_option linter.unusedVariables false

theorem Rw.put {w : World} {g cap : Nat} {L : List Value} {T : TypeId} (h : Rw w g cap L T) {i : Nat} (hi : i < L.length) (v : Value) : Rw (w.setCell ⟨g, i, none⟩ v) g cap (L.set i v) T := by
  obtain ⟨r, h1, h2, h3⟩ := h
  refine ⟨r, by simpa using h1, h2, ?_⟩
  have := h3.set i v
  rwa [List.set_append_left _ _ hi] at this
theorem Rw.free {w : World} {g cap : Nat} {L : List Value} {T : TypeId} (h : Rw w g cap L T) (i : Nat) : w.frozen? ⟨g, i, none⟩ = false := by
  obtain ⟨r, h1, h2, h3⟩ := h; exact h3.free i
theorem bl_set (f h : Nat → Bool) (i : Nat) (b : Bool) (hh : ∀ j, j < 256 → h j = if j = i then b else f j) : (bl f 256).set i (.bool b) = bl h 256 := by
  apply List.ext_getElem?
  intro j
  rw [List.getElem?_set]
  by_cases hj : j < 256
  · rw [bl_at h hj, bl_at f hj, hh j hj]
    by_cases e : i = j
    · subst e; simp [bl_length, hj]
    · rw [if_neg e, if_neg (fun k => e k.symm)]
  · have e1 : (bl h 256)[j]? = none := List.getElem?_eq_none (by rw [bl_length]; omega)
    have e2 : (bl f 256)[j]? = none := List.getElem?_eq_none (by rw [bl_length]; omega)
    rw [e1, e2]
    split
    · rw [if_neg (by rw [bl_length]; omega)]
    · rfl
theorem bl_congr {f h : Nat → Bool} (hh : ∀ j, j < 256 → f j = h j) : bl f 256 = bl h 256 := by
  unfold bl
  exact List.map_congr_left fun j hj => by rw [hh j (List.mem_range.1 hj)]
theorem Rw.flip {w : World} {g cap : Nat} {f h : Nat → Bool} (k : Rw w g cap (bl f 256) 4) {i : Nat} (hi : i < 256) {b : Bool} (hh : ∀ j, j < 256 → h j = if j = i then b else f j) : Rw (w.setCell ⟨g, i, none⟩ (.bool b)) g cap (bl h 256) 4 := by
  have := k.put (i := i) (by rw [bl_length]; exact hi) (.bool b)
  rwa [bl_set f h i b hh] at this
theorem Rw.other {w : World} {g cap : Nat} {L : List Value} {T : TypeId} (h : Rw w g cap L T) {c : Nat} (hne : g ≠ c) (i : Nat) (v : Value) : Rw (w.setCell ⟨c, i, none⟩ v) g cap L T := by
  obtain ⟨r, h1, h2, h3⟩ := h; exact ⟨r, h1, h2, h3.other hne i v⟩
/-- Which bytes came so far. -/
def came (s : ByteArray) (k : Nat) : Nat → Bool := fun j => (s.data.toList.take k).any fun b => b.toNat == j
theorem came_step (s : ByteArray) (k : Nat) (hk : k < s.size) (j : Nat) : came s (k + 1) j = if j = s[k].toNat then true else came s k j := by
  unfold came
  rw [List.take_succ_eq_append_getElem (by simpa using hk), List.any_append]
  have e : s.data.toList[k]'(by simpa using hk) = s[k] := rfl
  rw [e]
  by_cases h : j = s[k].toNat
  · subst h; simp
  · have : (s[k].toNat == j) = false := by rw [beq_eq_false_iff_ne]; exact fun e => h e.symm
    simp [this, h]
theorem came_all (s : ByteArray) : Cs.mkN (came s s.size) 256 = Cs.ofL s.data.toList := Cs.ext_get fun i hi => by
  rw [Cs.mkN_get _ _ _ hi, Cs.ofL_get _ _ hi]
  unfold came
  rw [List.take_of_length_le (by simp)]
  simp [hi]
set_option maxRecDepth 20000 in
set_option maxHeartbeats 1000000 in
theorem rf_of (s : ByteArray) (hs : s.size ≤ 1000000) (w : World) :
    Calls Try.prog 22 #[.string s] w fun e w' => e = .returned (Cs.sv (Cs.ofL s.data.toList)) ∧ Below w.heap.size w w' := by
  obtain ⟨F, hF⟩ : ∃ F, Cs.ofL s.data.toList = F := ⟨_, rfl⟩
  have HFF : Hid (Cs.mkN (came s s.size) 256 = F) := Lib.hid (by rw [came_all, hF])
  rw [hF]
  obtain ⟨l, hl⟩ : ∃ l, s.size = l := ⟨_, rfl⟩
  have HL := Lib.hid hl
  rw [hl] at hs HFF
  clear hF
  obtain ⟨R, hR⟩ : ∃ R, w.heap.size = R := ⟨_, rfl⟩
  have HR0 : Hid (w.heap.size = R) := Lib.hid hR
  have hc : Hid (SB (w.alloc (.cells #[.int .u64 0, .int .u64 0, .int .u64 0, .int .u64 0] 38)) R 0 ∧ Below w.heap.size w (w.alloc (.cells #[.int .u64 0, .int .u64 0, .int .u64 0, .int .u64 0] 38))) := Lib.hid ⟨by rw [← hR]; exact SB.zero w, (Below.refl _ _).alloc (Nat.le_refl _) _⟩
  go_enter Try.func22, Try.ntmps22
  go_upto_region 1 with fail
  revert hc
  generalize w.alloc (.cells #[.int .u64 0, .int .u64 0, .int .u64 0, .int .u64 0] 38) = W
  intro hc
  clear hR
  go_upto_region 2 with (go_at_call 29; refine (rf_none _).mono ?_; rintro e W1 ⟨g, cap, rfl, h1, h2, h3⟩; have HG : Hid (R < g) := Lib.hid (Nat.lt_of_lt_of_le hc.out.1.lt h1); have HB : Hid (SB W1 R 0 ∧ Rw W1 g cap (bl (fun _ => false) 256) 4 ∧ Below w.heap.size w W1) := Lib.hid ⟨hc.out.1.below h3, h2, hc.out.2.trans (h3.mono hc.out.2.size)⟩; clear h1 h2 h3 hc)
  go_wp2_with fail
  go_loopw [4] (fun i wr => ∃ k : Nat, i = .int .i64 k ∧ k ≤ l ∧ Hid (SB wr R 0 ∧ Rw wr g cap (bl (came s k) 256) 4 ∧ Below w.heap.size w wr)) (fun i _ => l - (intOf i).toNat)
  case atStart => exact ⟨0, rfl, by omega, HB⟩
  case round =>
    clear HB
    obtain ⟨k, rfl, hk, HB⟩ := hrel
    have j0 : (0 : Int) ≤ (k : Int) := by omega
    by_cases hkl : k < l
    · have hks : k < s.size := by rw [HL.out]; exact hkl
      obtain ⟨b, hb⟩ : ∃ b, s[k].toNat = b := ⟨_, rfl⟩
      have hb2 : b < 256 := by rw [← hb]; exact s[k].toNat_lt
      have HN : Hid (SB (wr.setCell ⟨g, b, none⟩ (.bool true)) R 0 ∧ Rw (wr.setCell ⟨g, b, none⟩ (.bool true)) g cap (bl (came s (k + 1)) 256) 4 ∧ Below w.heap.size w (wr.setCell ⟨g, b, none⟩ (.bool true))) := Lib.hid ⟨HB.out.1.other (by have := HG.out; omega) _ _, HB.out.2.1.flip hb2 (fun j hj => by rw [came_step s k hks, hb]), below_set HB.out.2.2 (by have := HG.out; have := HR0.out; omega) _ _⟩
      have c := HB.out.2.1.cell (bl_at (came s k) (i := b) hb2)
      have fc := HB.out.2.1.free b
      go_wp2
      refine ⟨?_, ?measure⟩
      case measure => simp [intOf]; omega
      first
        | exact ⟨k + 1, by go_num, by omega, HN⟩
        | ((repeat apply Exists.intro); exact ⟨⟨k + 1, by go_num, by omega, HN⟩, rfl⟩)
    · obtain rfl : k = l := by omega
      go_wp2_with (go_at_call 30; refine (rf_make (came s k) g cap 256 _ HB.out.2.1 (by omega)).mono ?_; rintro e w9 ⟨rfl, hb9⟩; rw [HFF.out]; unfold Cs.sv; have HM9 : Hid (SB w9 R 0 ∧ Below w.heap.size w w9) := Lib.hid ⟨HB.out.1.below hb9, HB.out.2.2.trans (hb9.mono HB.out.2.2.size)⟩; clear hb9; have d0 := HM9.out.1.at (i := 0) (by decide); have df0 := HM9.out.1.free 0; have d1 := HM9.out.1.at (i := 1) (by decide); have df1 := HM9.out.1.free 1; have d2 := HM9.out.1.at (i := 2) (by decide); have df2 := HM9.out.1.free 2; have d3 := HM9.out.1.at (i := 3) (by decide); have df3 := HM9.out.1.free 3)
      have hr := Lib.hid (HM9.out.1.res HM9.out.2 (by have := HR0.out; omega) F)
      clear d0 d1 d2 d3 df0 df1 df2 df3 HM9
      revert hr
      generalize (((w9.setCell ⟨R, 0, none⟩ (.int .u64 (Cs.wd F 0))).setCell ⟨R, 1, none⟩ (.int .u64 (Cs.wd F 1))).setCell ⟨R, 2, none⟩ (.int .u64 (Cs.wd F 2))).setCell ⟨R, 3, none⟩ (.int .u64 (Cs.wd F 3)) = W2
      intro hr
      have c0 := hr.out.1.at (i := 0) (by decide)
      have c1 := hr.out.1.at (i := 1) (by decide)
      have c2 := hr.out.1.at (i := 2) (by decide)
      have c3 := hr.out.1.at (i := 3) (by decide)
      refine bodyPost_ret (v := .agg #[.int .u64 (Cs.wd F 0), .int .u64 (Cs.wd F 1), .int .u64 (Cs.wd F 2), .int .u64 (Cs.wd F 3)]) (by simp [results, Try.results22, go_sem, c0, c1, c2, c3]) rfl ?_
      exact ⟨rfl, hr.out.2⟩
set_option maxRecDepth 20000 in
set_option maxHeartbeats 1000000 in
theorem rf_span (a b : Nat) (ha : a < 256) (hb : b < 256) (w : World) :
    Calls Try.prog 19 #[.int .i64 a, .int .i64 b] w fun e w' => e = .returned (Cs.sv (Cs.span a b)) ∧ Below w.heap.size w w' := by
  obtain ⟨F, hF⟩ : ∃ F, Cs.span a b = F := ⟨_, rfl⟩
  have HFF : Hid (∀ k, b < k → Cs.mkN (fun j => decide (a ≤ j) && (decide (j < k) && decide (j ≤ b))) 256 = F) := Lib.hid (fun k hk => by
    rw [← hF]
    refine Cs.ext_get fun i hi => ?_
    rw [Cs.mkN_get _ _ _ hi, Cs.span_get _ _ _ hi]
    by_cases h : i ≤ b
    · have : i < k := by omega
      simp [hi, h, this]
    · simp [h])
  rw [hF]
  clear hF
  obtain ⟨R, hR⟩ : ∃ R, w.heap.size = R := ⟨_, rfl⟩
  have HR0 : Hid (w.heap.size = R) := Lib.hid hR
  have hc : Hid (SB (w.alloc (.cells #[.int .u64 0, .int .u64 0, .int .u64 0, .int .u64 0] 38)) R 0 ∧ Below w.heap.size w (w.alloc (.cells #[.int .u64 0, .int .u64 0, .int .u64 0, .int .u64 0] 38))) := Lib.hid ⟨by rw [← hR]; exact SB.zero w, (Below.refl _ _).alloc (Nat.le_refl _) _⟩
  go_enter Try.func19, Try.ntmps19
  go_upto_region 1 with fail
  revert hc
  generalize w.alloc (.cells #[.int .u64 0, .int .u64 0, .int .u64 0, .int .u64 0] 38) = W
  intro hc
  clear hR
  go_upto_region 2 with (go_at_call 29; refine (rf_none _).mono ?_; rintro e W1 ⟨g, cap, rfl, h1, h2, h3⟩; have HG : Hid (R < g) := Lib.hid (Nat.lt_of_lt_of_le hc.out.1.lt h1); have HB : Hid (SB W1 R 0 ∧ Rw W1 g cap (bl (fun _ => false) 256) 4 ∧ Below w.heap.size w W1) := Lib.hid ⟨hc.out.1.below h3, h2, hc.out.2.trans (h3.mono hc.out.2.size)⟩; clear h1 h2 h3 hc)
  go_wp2_with fail
  go_loopw [6] (fun i wr => ∃ k : Nat, i = .int .i64 k ∧ k ≤ 256 ∧ a ≤ k ∧ Hid (SB wr R 0 ∧ Rw wr g cap (bl (fun j => decide (a ≤ j) && (decide (j < k) && decide (j ≤ b))) 256) 4 ∧ Below w.heap.size w wr)) (fun i _ => 256 - (intOf i).toNat)
  case atStart => exact ⟨a, rfl, by omega, by omega, Lib.hid ⟨HB.out.1, by rw [bl_congr (h := fun _ => false) (fun j _ => by simp; omega)]; exact HB.out.2.1, HB.out.2.2⟩⟩
  case round =>
    clear HB
    obtain ⟨k, rfl, hk, hak, HB⟩ := hrel
    have j0 : (0 : Int) ≤ (k : Int) := by omega
    by_cases hkl : k ≤ b
    · have hk2 : k < 256 := by omega
      have HN : Hid (SB (wr.setCell ⟨g, k, none⟩ (.bool true)) R 0 ∧ Rw (wr.setCell ⟨g, k, none⟩ (.bool true)) g cap (bl (fun j => decide (a ≤ j) && (decide (j < k + 1) && decide (j ≤ b))) 256) 4 ∧ Below w.heap.size w (wr.setCell ⟨g, k, none⟩ (.bool true))) := Lib.hid ⟨HB.out.1.other (by have := HG.out; omega) _ _, HB.out.2.1.flip hk2 (fun j hj => by
        by_cases e : j = k
        · subst e; simp [hak, hkl]
        · have : decide (j < k + 1) = decide (j < k) := by congr 1; apply propext; omega
          simp only [this, if_neg e]), below_set HB.out.2.2 (by have := HG.out; have := HR0.out; omega) _ _⟩
      have c := HB.out.2.1.cell (bl_at (fun j => decide (a ≤ j) && (decide (j < k) && decide (j ≤ b))) (i := k) hk2)
      have fc := HB.out.2.1.free k
      have HN2 := Lib.hid HN
      go_wp2
      refine ⟨?_, ?measure⟩
      case measure => simp [intOf]; omega
      first
        | exact ⟨k + 1, by go_num, by omega, by omega, HN2.out⟩
        | ((repeat apply Exists.intro); exact ⟨⟨k + 1, by go_num, by omega, by omega, HN2.out⟩, rfl⟩)
    · have hbk : b < k := by omega
      go_wp2_with (go_at_call 30; refine (rf_make _ g cap 256 _ HB.out.2.1 (by omega)).mono ?_; rintro e w9 ⟨rfl, hb9⟩; rw [HFF.out k hbk]; unfold Cs.sv; have HM9 : Hid (SB w9 R 0 ∧ Below w.heap.size w w9) := Lib.hid ⟨HB.out.1.below hb9, HB.out.2.2.trans (hb9.mono HB.out.2.2.size)⟩; clear hb9; have d0 := HM9.out.1.at (i := 0) (by decide); have df0 := HM9.out.1.free 0; have d1 := HM9.out.1.at (i := 1) (by decide); have df1 := HM9.out.1.free 1; have d2 := HM9.out.1.at (i := 2) (by decide); have df2 := HM9.out.1.free 2; have d3 := HM9.out.1.at (i := 3) (by decide); have df3 := HM9.out.1.free 3)
      have hr := Lib.hid (HM9.out.1.res HM9.out.2 (by have := HR0.out; omega) F)
      clear d0 d1 d2 d3 df0 df1 df2 df3 HM9
      revert hr
      generalize (((w9.setCell ⟨R, 0, none⟩ (.int .u64 (Cs.wd F 0))).setCell ⟨R, 1, none⟩ (.int .u64 (Cs.wd F 1))).setCell ⟨R, 2, none⟩ (.int .u64 (Cs.wd F 2))).setCell ⟨R, 3, none⟩ (.int .u64 (Cs.wd F 3)) = W2
      intro hr
      have c0 := hr.out.1.at (i := 0) (by decide)
      have c1 := hr.out.1.at (i := 1) (by decide)
      have c2 := hr.out.1.at (i := 2) (by decide)
      have c3 := hr.out.1.at (i := 3) (by decide)
      refine bodyPost_ret (v := .agg #[.int .u64 (Cs.wd F 0), .int .u64 (Cs.wd F 1), .int .u64 (Cs.wd F 2), .int .u64 (Cs.wd F 3)]) (by simp [results, Try.results19, go_sem, c0, c1, c2, c3]) rfl ?_
      exact ⟨rfl, hr.out.2⟩
end Go.Proofs.Ytkihlnomchhiiaa
