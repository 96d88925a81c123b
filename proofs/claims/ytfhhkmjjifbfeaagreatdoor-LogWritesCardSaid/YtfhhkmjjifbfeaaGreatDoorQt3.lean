/- Contracts of texts in quotes (package quote): Quote, Read, Whole. -/
import Derived.Test.YtfhhkmjjifbfeaaGreatDoorQt2
import Derived.Deep.CutRange
import Derived.Deep.CutBlock
namespace Go.Proofs.YtfhhkmjjifbfeaaGreatDoor
open Go.ChangeShapes Go.WideShapes Go.ChangeAt Go.RowKit
set_option linter.unusedSimpArgs false
set_option linter.unusedVariables false

theorem text_mk (l : List UInt8) : ∃ t : ByteArray, t.data.toList = l := ⟨⟨l.toArray⟩, by simp⟩
theorem Rw.fresh {w w' : World} {g cap : Nat} {L : List Value} {T : TypeId} (h : Rw w g cap L T) (k : Below w.heap.size w w') : Rw w' g cap L T := h.chg (Chg.of_fresh (l := []) k) (by simp)
set_option maxRecDepth 20000 in
set_option maxHeartbeats 2000000 in
theorem quote_any (s t : ByteArray) (hs : s.size ≤ 4000) (ht : t.data.toList = Qt.quo s.data.toList) (w : World) :
    Calls Tryz.prog 24 #[.string s] w fun e w' => e = .returned (.string t) ∧ Below w.heap.size w w' := by
  have HT := Lib.hid ht
  obtain ⟨n, hn⟩ : ∃ n, s.size = n := ⟨_, rfl⟩
  have HN := Lib.hid hn
  rw [hn] at hs
  have hmk : ∀ W : World, (Instr.makeSlice 56 (.int .i64 0) (.int .i64 ((n : Int) + 2))).run Tryz.prog W = .ok (.slice (some ⟨W.heap.size, 0, none⟩) 0 (n + 2)) (W.alloc (.cells (List.replicate (n + 2) (Value.int .u8 0)).toArray 5)) := fun W => by
    have := run_make_blk (P := Tryz.prog) W 56 5 (.int .u8 0) Tryz.underlying56 1 info5 rfl 0 (n + 2) (by omega) (by omega) (by omega)
    simpa using this
  clear ht
  go_enter Tryz.func24, Tryz.ntmps24
  go_upto_region 2 with fail
  have HR : Hid (Rw (w.alloc (Obj.cells (Array.replicate (n + 2) (Value.int .u8 0)) 5)) w.heap.size (n + 2) [] 5 ∧ Below w.heap.size w (w.alloc (Obj.cells (Array.replicate (n + 2) (Value.int .u8 0)) 5))) := Lib.hid ⟨⟨List.replicate (n + 2) (Value.int .u8 0), by simp, by omega, by have := Blk.newA w (Array.replicate (n + 2) (Value.int .u8 0)) 5; rwa [Array.toList_replicate] at this⟩, (Below.refl _ _).alloc (Nat.le_refl _) _⟩
  revert HR
  generalize w.alloc (Obj.cells (Array.replicate (n + 2) (Value.int .u8 0)) 5) = W1
  intro HR
  go_wp2_with (at_builtin; refine wpList_append_rw _ rfl (.tmp 9) (.tmp 10) 56 56 rfl 5 (.int .u8 0) 1 Tryz.underlying56 info5 rfl w.heap.size 0 (n + 2) [] rfl rfl (HR.out.1.chg ((Chg.refl [] _).alloc _) (by simp)) _ rfl 1 _ (Src.ofSlice _ Tryz.underlying56 ⟨_, 0, none⟩ 1 1 [.int .u8 34] rfl (one_new _ _ _) (one_u8 34)) (by omega) (by omega) ?_; intro g1 c1 w1 r1 r2 r3)
  have HW : Hid (Rw w1 g1 c1 (cu [34]) 5 ∧ w.heap.size ≤ g1 ∧ Below w.heap.size w w1) := Lib.hid (by
    have hs := HR.out.2.size
    simp only [World.size_alloc] at r2
    exact ⟨r1, by omega, r3.onto (HR.out.2.alloc hs _) (by simp; omega) (by simp)⟩)
  clear r1 r2 r3 HR hmk
  go_wp2
  go_loopw [3, 14] (fun v i wr => ∃ (k g c m : Nat) (L : List UInt8), v = .slice (some ⟨g, 0, none⟩) m c ∧ i = .int .i64 k ∧ k ≤ n ∧ Hid (L = 34 :: (s.data.toList.take k).flatMap Qt.sgn ∧ L.length = m) ∧ Hid (Rw wr g c (cu L) 5 ∧ w.heap.size ≤ g ∧ Below w.heap.size w wr)) (fun _ i _ => n - (intOf i).toNat)
  case atStart => exact ⟨0, g1, c1, 1, [34], rfl, rfl, by omega, Lib.hid ⟨rfl, rfl⟩, HW⟩
  case round =>
    obtain ⟨k, g, c, m, L, rfl, rfl, hk, HL, HK⟩ := hrel
    have hm : m ≤ 4 * k + 1 := by
      rw [← HL.out.2, HL.out.1]
      have := (Qt.flat_le (s.data.toList.take k)).2
      have := List.length_take_le k s.data.toList
      simp only [List.length_cons]; omega
    by_cases hkn : k < n
    · have i1 : (k : Int) < (n : Int) := by omega
      have i0 : (0 : Int) ≤ (k : Int) := by omega
      have hks : k < s.size := by rw [HN.out]; exact hkn
      obtain ⟨x, hx⟩ : ∃ x, s[k] = x := ⟨_, rfl⟩
      obtain ⟨t1, ht1⟩ := text_mk (Qt.sgn x)
      have HT1 := Lib.hid ht1
      have l1 := size_of ht1
      have l2 := (Qt.sgn_all x).2.2
      have HL2 : Hid (L ++ Qt.sgn x = 34 :: (s.data.toList.take (k + 1)).flatMap Qt.sgn ∧ (L ++ Qt.sgn x).length = m + t1.size) := Lib.hid (by
        rw [List.length_append, HL.out.2, l1]
        refine ⟨?_, rfl⟩
        rw [List.take_succ_eq_append_getElem (by simpa using hks), List.flatMap_append, HL.out.1]
        have : s.data.toList[k]'(by simpa using hks) = x := hx
        rw [this]; simp)
      rw [← l1] at l2
      clear ht1 l1
      go_wp2_with (first
        | (go_at_call 40; refine (sign_any x t1 HT1.out _).mono ?_; rintro e w2 ⟨rfl, hb⟩; have HK2 : Hid (Rw w2 g c (cu L) 5 ∧ w.heap.size ≤ g ∧ Below w.heap.size w w2) := Lib.hid ⟨HK.out.1.fresh hb, HK.out.2.1, HK.out.2.2.trans (hb.mono HK.out.2.2.size)⟩; clear hb)
        | (at_builtin; refine wpList_append_rw _ rfl (.tmp 17) (.tmp 21) 56 9 rfl 5 (.int .u8 0) 1 Tryz.underlying56 info5 rfl g m c (cu L) rfl (by rw [cu_length, HL.out.2]) HK2.out.1 _ rfl t1.size (byteCells t1) (Src.ofString _ Tryz.underlying9 t1) (by omega) (by omega) ?_; intro g4 c4 w4 r1 r2 r3; rw [cu_bc, HT1.out, ← cu_append] at r1; have HK4 : Hid (Rw w4 g4 c4 (cu (L ++ Qt.sgn x)) 5 ∧ w.heap.size ≤ g4 ∧ Below w.heap.size w w4) := Lib.hid (by
            have hs := HK2.out.2.2.size
            have hg := HK2.out.2.1
            exact ⟨r1, by omega, r3.onto HK2.out.2.2 hs (by simp; omega)⟩); clear r1 r2 r3))
      go_roundw
      case rel => exact ⟨k + 1, g4, c4, m + t1.size, L ++ Qt.sgn x, rfl, by go_num, by omega, HL2, HK4⟩
      case measure => simp [intOf]; omega
    · have i1 : ¬ (k : Int) < (n : Int) := by omega
      have HL2 : Hid (L ++ [34] = t.data.toList) := Lib.hid (by
        rw [HT.out, HL.out.1, List.take_of_length_le (by have := HN.out; simp; omega)]; rfl)
      have ht2 : Hid (t.size = m + 1) := Lib.hid (by
        rw [size_of HL2.out.symm, List.length_append, HL.out.2]; rfl)
      go_wp2_with (at_builtin; refine wpList_append_rw _ rfl (.tmp 24) (.tmp 25) 56 56 rfl 5 (.int .u8 0) 1 Tryz.underlying56 info5 rfl g m c (cu L) rfl (by rw [cu_length, HL.out.2]) (HK.out.1.chg ((Chg.refl [] _).alloc _) (by simp)) _ rfl 1 _ (Src.ofSlice _ Tryz.underlying56 ⟨_, 0, none⟩ 1 1 [.int .u8 34] rfl (one_new _ _ _) (one_u8 34)) (by omega) (by omega) ?_; intro g4 c4 w4 r1 r2 r3; have r4 : Rw w4 g4 c4 (cu t.data.toList) 5 := (by rw [← HL2.out, cu_append]; exact r1); have hcv := conv_rw w4 g4 (m + 1) c4 t r4 ht2.out; have HB : Hid (Below w.heap.size w w4) := Lib.hid (by
            have hs := HK.out.2.2.size
            have hg := HK.out.2.1
            exact r3.onto (HK.out.2.2.alloc hs _) (by simp; omega) (by simp; omega)); clear r1 r2 r3 r4)
      go_ret
      exact ⟨rfl, HB.out⟩
end Go.Proofs.YtfhhkmjjifbfeaaGreatDoor
