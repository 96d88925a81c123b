/- Log: the step of a line. -/
import Derived.Test.YtfhhkmjjifbfeaaDoorLo11
import Derived.Test.YtfhhkmjjifbfeaaDoorLo7
import Derived.Deep.RegionHeld3
import Derived.WalkKit
import Derived.ProofKit
import Derived.Handy
import Derived.WalkLawsBesides
import Derived.WalkSpells
import Derived.Lib.Hide
import Derived.Lib.SliceRun
import Derived.Deep.RegionLaw
import Derived.RegionTactic
import Derived.ChangeAlike
import Derived.WalkSmall
import Derived.Deep.QuietTactic
import Derived.BigQuiet
import Derived.OwnWalk
import Derived.Outline
import Derived.Deep.CutRange
import Derived.Deep.CutBlock
import Derived.LoopTactic
namespace Go.Proofs.YtfhhkmjjifbfeaaDoor
open Go.ChangeShapes Go.WideShapes Go.ChangeAt Go.RowKit
set_option linter.unusedSimpArgs false
set_option linter.unusedVariables false

/-- The last of the first numbers whose word it is; none: zero. -/
noncomputable def Lo.lst (f : Int → ByteArray) (X : ByteArray) : Nat → Int
  | 0 => 0
  | k + 1 => open Classical in if f k = X then (k : Int) else Lo.lst f X k
/-- What readStep works on. -/
structure LTS (w W : World) (bk Q Y : Nat) (ls ys : List Value) (T : TypeId) : Prop where
  bl : Blk W bk ls T
  bq : Blk W Q [.int .i64 0, .int .i64 0, .int .i64 0, .int .i64 0, .int .i64 0, .int .i64 0] 30
  by_ : Blk W Y ys 30
  be : Below w.heap.size w W
  lt : bk < w.heap.size ∧ w.heap.size ≤ Q ∧ Q < Y
theorem LTS.below {w W W' : World} {bk Q Y : Nat} {ls ys : List Value} {T : TypeId} (h : LTS w W bk Q Y ls ys T) (k : Below W.heap.size W W') : LTS w W' bk Q Y ls ys T :=
  ⟨h.bl.chg (l := []) (Chg.of_fresh k) (by simp), h.bq.chg (l := []) (Chg.of_fresh k) (by simp), h.by_.chg (l := []) (Chg.of_fresh k) (by simp), h.be.trans (k.mono h.be.size), h.lt⟩
/-- The same, ahead of the step. -/
structure LU (w W : World) (bk Q : Nat) (ls : List Value) (T : TypeId) : Prop where
  bl : Blk W bk ls T
  bq : Blk W Q [.int .i64 0, .int .i64 0, .int .i64 0, .int .i64 0, .int .i64 0, .int .i64 0] 30
  ni : NI W
  wi : WI W
  si : SI W
  be : Below w.heap.size w W
  lt : bk < w.heap.size ∧ w.heap.size ≤ Q
theorem LU.below {w W W' : World} {bk Q : Nat} {ls : List Value} {T : TypeId} (h : LU w W bk Q ls T) (k : Below W.heap.size W W') : LU w W' bk Q ls T :=
  ⟨h.bl.chg (l := []) (Chg.of_fresh k) (by simp), h.bq.chg (l := []) (Chg.of_fresh k) (by simp), h.ni.below k, h.wi.below k, h.si.below k, h.be.trans (k.mono h.be.size), h.lt⟩
theorem LTS.fill {w W : World} {bk Q Y : Nat} {ls ys : List Value} {T : TypeId} (h : LTS w W bk Q Y ls ys T) (v0 v1 v2 v3 v4 v5 : Value) : Blk ((((((W.setCell ⟨Q, 0, none⟩ (v0)).setCell ⟨Q, 1, none⟩ (v1)).setCell ⟨Q, 2, none⟩ (v2)).setCell ⟨Q, 3, none⟩ (v3)).setCell ⟨Q, 4, none⟩ (v4)).setCell ⟨Q, 5, none⟩ (v5)) Q [v0, v1, v2, v3, v4, v5] 30 ∧ Below w.heap.size w ((((((W.setCell ⟨Q, 0, none⟩ (v0)).setCell ⟨Q, 1, none⟩ (v1)).setCell ⟨Q, 2, none⟩ (v2)).setCell ⟨Q, 3, none⟩ (v3)).setCell ⟨Q, 4, none⟩ (v4)).setCell ⟨Q, 5, none⟩ (v5)) := by
  have k : Chg [Q] W ((((((W.setCell ⟨Q, 0, none⟩ (v0)).setCell ⟨Q, 1, none⟩ (v1)).setCell ⟨Q, 2, none⟩ (v2)).setCell ⟨Q, 3, none⟩ (v3)).setCell ⟨Q, 4, none⟩ (v4)).setCell ⟨Q, 5, none⟩ (v5)) := (((((((Chg.refl [Q] W).set (Or.inl (List.mem_singleton.2 rfl)) 0 v0).set (Or.inl (List.mem_singleton.2 rfl)) 1 v1).set (Or.inl (List.mem_singleton.2 rfl)) 2 v2).set (Or.inl (List.mem_singleton.2 rfl)) 3 v3).set (Or.inl (List.mem_singleton.2 rfl)) 4 v4).set (Or.inl (List.mem_singleton.2 rfl)) 5 v5)
  exact ⟨((((((h.bq.set 0 v0).set 1 v1).set 2 v2).set 3 v3).set 4 v4).set 5 v5), h.be.trans (k.below h.be.size (by intro y hy; simp at hy; rw [hy]; exact h.lt.2.1))⟩
theorem LTS.set {w W : World} {bk Q Y : Nat} {ls ys : List Value} {T : TypeId} (h : LTS w W bk Q Y ls ys T) (c : Nat) (v : Value) : LTS w (W.setCell ⟨Y, c, none⟩ v) bk Q Y ls (ys.set c v) T := by
  have hy : w.heap.size ≤ Y := by have := h.lt; omega
  have hbe : Below w.heap.size w (W.setCell ⟨Y, c, none⟩ v) := h.be.trans (((Chg.refl [Y] W).set (Or.inl (List.mem_singleton.2 rfl)) c v).below h.be.size (by intro y hy2; simp at hy2; rw [hy2]; exact hy))
  exact ⟨h.bl.other (by have := h.lt; omega) _ _, h.bq.other (by have := h.lt; omega) _ _, h.by_.set c v, hbe, h.lt⟩
theorem WI.cell {w : World} (h : WI w) : ∀ k : Nat, k < 15 → w.cell? ⟨0, k, none⟩ = some (.string (Lo.word (k : Int))) := by
  obtain ⟨c0, c1, c2, c3, c4, c5, c6, c7, c8, c9, c10, c11, c12, c13, c14⟩ := h
  intro k hk
  match k, hk with
  | 0, _ => exact c0
  | 1, _ => exact c1
  | 2, _ => exact c2
  | 3, _ => exact c3
  | 4, _ => exact c4
  | 5, _ => exact c5
  | 6, _ => exact c6
  | 7, _ => exact c7
  | 8, _ => exact c8
  | 9, _ => exact c9
  | 10, _ => exact c10
  | 11, _ => exact c11
  | 12, _ => exact c12
  | 13, _ => exact c13
  | 14, _ => exact c14
theorem SI.cell {w : World} (h : SI w) : ∀ k : Nat, k < 6 → w.cell? ⟨1, k, none⟩ = some (.string (Le.word (k : Int))) := by
  obtain ⟨c0, c1, c2, c3, c4, c5⟩ := h
  intro k hk
  match k, hk with
  | 0, _ => exact c0
  | 1, _ => exact c1
  | 2, _ => exact c2
  | 3, _ => exact c3
  | 4, _ => exact c4
  | 5, _ => exact c5
set_option maxRecDepth 20000 in
set_option maxHeartbeats 16000000 in
theorem lo_readStep (bk : Nat) (L : List ByteArray) (n : Nat) (hn : L.length = n) (hn2 : n ≤ 1000000) (hl : ∀ s ∈ L, s.size ≤ 1000000) (v0 v1 v2 v3 v4 v5 : Int) (h0 : (Tx.parse (Lo.at L 1).data.toList).1 = v0) (h1 : Lo.num (Lo.at L 2).data.toList = v1) (h2 : Lo.lst Lo.word (Lo.at L 3) 15 = v2) (h3 : Lo.num (Lo.at L 4).data.toList = v3) (h4 : Lo.num (Lo.at L 5).data.toList = v4) (h5 : Lo.lst Le.word (Lo.at L 6) 6 = v5) (T : TypeId) (w : World) (hb : Blk w bk (L.map Value.string) T) (hni : NI w) (hwi : WI w) (hsi : SI w) :
    Calls Tryd.prog 18 #[.slice (some ⟨bk, 0, none⟩) n n] w fun e w' => e = .returned (.agg #[.int .i64 v0, .int .i64 v1, .int .i64 v2, .int .i64 v3, .int .i64 v4, .int .i64 v5]) ∧ Below w.heap.size w w' := by
  have hat : ∀ i, (Lo.at L i).size ≤ 1000000 := by
    intro i; unfold Lo.at
    rw [List.getD_eq_getElem?_getD]
    cases h : L[i]? with
    | none => decide
    | some y => exact hl y (List.mem_of_getElem? h)
  obtain ⟨X1, hX1⟩ : ∃ X, Lo.at L 1 = X := ⟨_, rfl⟩
  obtain ⟨X3, hX3⟩ : ∃ X, Lo.at L 3 = X := ⟨_, rfl⟩
  obtain ⟨X6, hX6⟩ : ∃ X, Lo.at L 6 = X := ⟨_, rfl⟩
  rw [hX1] at h0
  rw [hX3] at h2
  rw [hX6] at h5
  have hx1 : X1.size ≤ 1000000 := by rw [← hX1]; exact hat 1
  have HA := Lib.hid (And.intro hX1 (And.intro hX3 hX6))
  have HV := Lib.hid (And.intro h2 h5)
  have HU := Lib.hid (And.intro hn (And.intro hl (And.intro h1 (And.intro h3 (And.intro h4 (And.intro h0 hx1))))))
  obtain ⟨ls, hls⟩ : ∃ ls, L.map Value.string = ls := ⟨_, rfl⟩
  have HL := Lib.hid hls
  rw [hls] at hb
  have k0 : Below w.heap.size w (w.alloc (.cells #[.int .i64 0, .int .i64 0, .int .i64 0, .int .i64 0, .int .i64 0, .int .i64 0] 30)) := (Below.refl _ _).alloc (Nat.le_refl _) _
  have HB : Hid (LU w (w.alloc (.cells #[.int .i64 0, .int .i64 0, .int .i64 0, .int .i64 0, .int .i64 0, .int .i64 0] 30)) bk w.heap.size ls T) := Lib.hid ⟨hb.alloc _, Blk.newA _ _ _, hni.below k0, hwi.below k0, hsi.below k0, k0, hb.lt, Nat.le_refl _⟩
  have HI := Lib.hid (And.intro hni (And.intro hwi hsi))
  clear hat hX1 hX3 hX6 h0 h1 h2 h3 h4 h5 hx1 hb hni hwi hsi k0 hls hn hl
  go_enter Tryd.func18, Tryd.ntmps18
  go_upto_region 1 with fail
  revert HB
  generalize (w.alloc (.cells #[.int .i64 0, .int .i64 0, .int .i64 0, .int .i64 0, .int .i64 0, .int .i64 0] 30)) = W0
  generalize w.heap.size = Q
  intro HB
  go_upto_region 2 with (first
    | (go_at_call 31; (with_reducible refine (lo_at bk L n HU.out.1 hn2 1 1 rfl X1 HA.out.1 T _ (by rw [HL.out]; exact HB.out.bl)).mono ?_); rintro e1 V1 ⟨rfl, q3⟩; have HBn := Lib.hid (HB.out.below q3); clear HB; have HB := HBn; clear HBn q3)
    | (go_at_call 15; (with_reducible refine (lo_ticks X1 HU.out.2.2.2.2.2.2 v0 HU.out.2.2.2.2.2.1 _).mono ?_); rintro e1 V2 ⟨rfl, q3⟩; have HBn := Lib.hid (HB.out.below q3); clear HB; have HB := HBn; clear HBn q3)
    | (go_at_call 16; (with_reducible refine (lo_number bk L n HU.out.1 hn2 HU.out.2.1 2 2 rfl v1 HU.out.2.2.1 T _ (by rw [HL.out]; exact HB.out.bl) HB.out.ni).mono ?_); rintro e1 V3 ⟨rfl, q3⟩; have HBn := Lib.hid (HB.out.below q3); clear HB; have HB := HBn; clear HBn q3)
    | (go_at_call 16; (with_reducible refine (lo_number bk L n HU.out.1 hn2 HU.out.2.1 4 4 rfl v3 HU.out.2.2.2.1 T _ (by rw [HL.out]; exact HB.out.bl) HB.out.ni).mono ?_); rintro e1 V4 ⟨rfl, q3⟩; have HBn := Lib.hid (HB.out.below q3); clear HB; have HB := HBn; clear HBn q3)
    | (go_at_call 16; (with_reducible refine (lo_number bk L n HU.out.1 hn2 HU.out.2.1 5 5 rfl v4 HU.out.2.2.2.2.1 T _ (by rw [HL.out]; exact HB.out.bl) HB.out.ni).mono ?_); rintro e1 V5 ⟨rfl, q3⟩; have HBn := Lib.hid (HB.out.below q3); clear HB; have HB := HBn; clear HBn q3))
  have HC : Hid (LTS w (V5.alloc (.cells #[.int .i64 v0, .int .i64 v1, .int .i64 0, .int .i64 v3, .int .i64 v4, .int .i64 0] 30)) bk Q V5.heap.size ls [.int .i64 v0, .int .i64 v1, .int .i64 0, .int .i64 v3, .int .i64 v4, .int .i64 0] T) := Lib.hid (by
    have k9 : Below V5.heap.size V5 (V5.alloc (.cells #[.int .i64 v0, .int .i64 v1, .int .i64 0, .int .i64 v3, .int .i64 v4, .int .i64 0] 30)) := (Below.refl _ _).alloc (Nat.le_refl _) _
    have h := HB.out.below k9
    have hq := HB.out.bq.lt
    exact ⟨h.bl, h.bq, Blk.newA _ _ _, h.be, h.lt.1, h.lt.2, hq⟩)
  clear HB
  revert HC
  generalize (V5.alloc (.cells #[.int .i64 v0, .int .i64 v1, .int .i64 0, .int .i64 v3, .int .i64 v4, .int .i64 0] 30)) = W1
  generalize V5.heap.size = Y
  intro HC
  go_wp2_with fail
  go_loopw [16] (fun i wr => ∃ (k : Nat), i = .int .i64 k ∧ k ≤ 15 ∧ Hid (LTS w wr bk Q Y ls [.int .i64 v0, .int .i64 v1, .int .i64 (Lo.lst Lo.word X3 (k)), .int .i64 v3, .int .i64 v4, .int .i64 (0)] T)) (fun i _ => 15 - (intOf i).toNat)
  case atStart => exact ⟨0, rfl, by omega, HC⟩
  case round =>
    obtain ⟨k, rfl, hk, HK⟩ := hrel
    by_cases hk9 : k < 15
    · obtain ⟨F, hF⟩ : ∃ F, Lo.word (k : Int) = F := ⟨_, rfl⟩
      by_cases hfx : F = X3
      · rw [hfx] at hF
        clear hfx
        have i1 : (k : Int) < 15 := by omega
        have i2 : (0 : Int) ≤ (k : Int) := by omega
        have iw : IntKind.i64.wrap ((k : Int) + 1) = (k : Int) + 1 := IntWalk.i64_in _ (by omega)
        go_upto_region 5 with fail
        replace HK := Lib.hid (HK.out.below (Below.refl _ _).drew)
        have s0' := (HI.out.2.1.below HK.out.be).cell k hk9
        rw [hF] at s0'
        have HF := Lib.hid hF
        clear hF
        go_region_held3 (fun W => W.cell? ⟨0, k, none⟩ = some (.string X3)) (first | with_reducible exact sA | with_reducible exact s0' | go_keep) (first
          | (go_at_call 31; (with_reducible refine (lo_at bk L n HU.out.1 hn2 3 3 rfl X3 HA.out.2.1 T _ (by rw [HL.out]; exact HK.out.bl)).mono ?_); rintro e1 V6 ⟨rfl, q3⟩; have HKn := Lib.hid (HK.out.below q3); clear HK; have HK := HKn; clear HKn q3; have sA : V6.cell? ⟨0, k, none⟩ = some (.string X3) := ((HI.out.2.1.below HK.out.be).cell k hk9).trans (congrArg (fun z => some (Value.string z)) HF.out)))
        all_goals
          try clear sA
          try clear s0'
          have y9 := HK.out.by_.cell (i := 2) rfl
          have f9 := HK.out.by_.free 2
          have HN : Hid (LTS w (V6.setCell ⟨Y, 2, none⟩ (.int .i64 (k : Int))) bk Q Y ls [.int .i64 v0, .int .i64 v1, .int .i64 (Lo.lst Lo.word X3 (k + 1)), .int .i64 v3, .int .i64 v4, .int .i64 (0)] T) := Lib.hid (by
            have h := HK.out.set 2 (.int .i64 (k : Int))
            have e : Lo.lst Lo.word X3 (k + 1) = (k : Int) := by unfold Lo.lst; rw [if_pos HF.out]
            rw [e]; exact h)
          go_wp2_with fail
          go_roundw
          case rel => exact ⟨k + 1, by go_num, by omega, HN⟩
          case measure => simp [intOf]; omega
      · skip
        have i1 : (k : Int) < 15 := by omega
        have i2 : (0 : Int) ≤ (k : Int) := by omega
        have iw : IntKind.i64.wrap ((k : Int) + 1) = (k : Int) + 1 := IntWalk.i64_in _ (by omega)
        go_upto_region 5 with fail
        replace HK := Lib.hid (HK.out.below (Below.refl _ _).drew)
        have s0' := (HI.out.2.1.below HK.out.be).cell k hk9
        rw [hF] at s0'
        have HF := Lib.hid hF
        clear hF
        have b1 : (F.toList == X3.toList) = false := by
          rw [beq_eq_false_iff_ne]
          intro h
          rw [Lib.toList_data, Lib.toList_data] at h
          exact hfx (ByteArray.ext (Array.ext' h))
        go_region_held3 (fun W => W.cell? ⟨0, k, none⟩ = some (.string F)) (first | with_reducible exact sA | with_reducible exact s0' | go_keep) (first
          | (go_at_call 31; (with_reducible refine (lo_at bk L n HU.out.1 hn2 3 3 rfl X3 HA.out.2.1 T _ (by rw [HL.out]; exact HK.out.bl)).mono ?_); rintro e1 V6 ⟨rfl, q3⟩; have HKn := Lib.hid (HK.out.below q3); clear HK; have HK := HKn; clear HKn q3; have sA : V6.cell? ⟨0, k, none⟩ = some (.string F) := ((HI.out.2.1.below HK.out.be).cell k hk9).trans (congrArg (fun z => some (Value.string z)) HF.out)))
        all_goals
          try clear sA
          try clear s0'
          have HN : Hid (LTS w V6 bk Q Y ls [.int .i64 v0, .int .i64 v1, .int .i64 (Lo.lst Lo.word X3 (k + 1)), .int .i64 v3, .int .i64 v4, .int .i64 (0)] T) := Lib.hid (by
            have e : Lo.lst Lo.word X3 (k + 1) = Lo.lst Lo.word X3 k := by
              conv => lhs; unfold Lo.lst
              rw [if_neg (by rw [HF.out]; exact hfx)]
            rw [e]; exact HK.out)
          go_wp2_with fail
          go_roundw
          case rel => exact ⟨k + 1, by go_num, by omega, HN⟩
          case measure => simp [intOf]; omega
    · obtain rfl : k = 15 := by omega
      have i1 : ¬ (((15 : Nat) : Int) < 15) := by omega
      have HC2 : Hid (LTS w wr bk Q Y ls [.int .i64 v0, .int .i64 v1, .int .i64 v2, .int .i64 v3, .int .i64 v4, .int .i64 0] T) := Lib.hid (by rw [← HV.out.1]; exact HK.out)
      clear HC HK
      go_wp2_with fail
      go_loopw [28] (fun i wr => ∃ (k : Nat), i = .int .i64 k ∧ k ≤ 6 ∧ Hid (LTS w wr bk Q Y ls [.int .i64 v0, .int .i64 v1, .int .i64 (v2), .int .i64 v3, .int .i64 v4, .int .i64 (Lo.lst Le.word X6 (k))] T)) (fun i _ => 6 - (intOf i).toNat)
      case atStart => exact ⟨0, rfl, by omega, HC2⟩
      case round =>
        obtain ⟨k, rfl, hk, HK⟩ := hrel
        by_cases hk9 : k < 6
        · obtain ⟨F, hF⟩ : ∃ F, Le.word (k : Int) = F := ⟨_, rfl⟩
          by_cases hfx : F = X6
          · rw [hfx] at hF
            clear hfx
            have i1 : (k : Int) < 6 := by omega
            have i2 : (0 : Int) ≤ (k : Int) := by omega
            have iw : IntKind.i64.wrap ((k : Int) + 1) = (k : Int) + 1 := IntWalk.i64_in _ (by omega)
            go_upto_region 11 with fail
            replace HK := Lib.hid (HK.out.below (Below.refl _ _).drew)
            have s0' := (HI.out.2.2.below HK.out.be).cell k hk9
            rw [hF] at s0'
            have HF := Lib.hid hF
            clear hF
            go_region_held3 (fun W => W.cell? ⟨1, k, none⟩ = some (.string X6)) (first | with_reducible exact sA | with_reducible exact s0' | go_keep) (first
              | (go_at_call 31; (with_reducible refine (lo_at bk L n HU.out.1 hn2 6 6 rfl X6 HA.out.2.2 T _ (by rw [HL.out]; exact HK.out.bl)).mono ?_); rintro e1 V6 ⟨rfl, q3⟩; have HKn := Lib.hid (HK.out.below q3); clear HK; have HK := HKn; clear HKn q3; have sA : V6.cell? ⟨1, k, none⟩ = some (.string X6) := ((HI.out.2.2.below HK.out.be).cell k hk9).trans (congrArg (fun z => some (Value.string z)) HF.out)))
            all_goals
              try clear sA
              try clear s0'
              have y9 := HK.out.by_.cell (i := 5) rfl
              have f9 := HK.out.by_.free 5
              have HN : Hid (LTS w (V6.setCell ⟨Y, 5, none⟩ (.int .i64 (k : Int))) bk Q Y ls [.int .i64 v0, .int .i64 v1, .int .i64 (v2), .int .i64 v3, .int .i64 v4, .int .i64 (Lo.lst Le.word X6 (k + 1))] T) := Lib.hid (by
                have h := HK.out.set 5 (.int .i64 (k : Int))
                have e : Lo.lst Le.word X6 (k + 1) = (k : Int) := by unfold Lo.lst; rw [if_pos HF.out]
                rw [e]; exact h)
              go_wp2_with fail
              go_roundw
              case rel => exact ⟨k + 1, by go_num, by omega, HN⟩
              case measure => simp [intOf]; omega
          · skip
            have i1 : (k : Int) < 6 := by omega
            have i2 : (0 : Int) ≤ (k : Int) := by omega
            have iw : IntKind.i64.wrap ((k : Int) + 1) = (k : Int) + 1 := IntWalk.i64_in _ (by omega)
            go_upto_region 11 with fail
            replace HK := Lib.hid (HK.out.below (Below.refl _ _).drew)
            have s0' := (HI.out.2.2.below HK.out.be).cell k hk9
            rw [hF] at s0'
            have HF := Lib.hid hF
            clear hF
            have b1 : (F.toList == X6.toList) = false := by
              rw [beq_eq_false_iff_ne]
              intro h
              rw [Lib.toList_data, Lib.toList_data] at h
              exact hfx (ByteArray.ext (Array.ext' h))
            go_region_held3 (fun W => W.cell? ⟨1, k, none⟩ = some (.string F)) (first | with_reducible exact sA | with_reducible exact s0' | go_keep) (first
              | (go_at_call 31; (with_reducible refine (lo_at bk L n HU.out.1 hn2 6 6 rfl X6 HA.out.2.2 T _ (by rw [HL.out]; exact HK.out.bl)).mono ?_); rintro e1 V6 ⟨rfl, q3⟩; have HKn := Lib.hid (HK.out.below q3); clear HK; have HK := HKn; clear HKn q3; have sA : V6.cell? ⟨1, k, none⟩ = some (.string F) := ((HI.out.2.2.below HK.out.be).cell k hk9).trans (congrArg (fun z => some (Value.string z)) HF.out)))
            all_goals
              try clear sA
              try clear s0'
              have HN : Hid (LTS w V6 bk Q Y ls [.int .i64 v0, .int .i64 v1, .int .i64 (v2), .int .i64 v3, .int .i64 v4, .int .i64 (Lo.lst Le.word X6 (k + 1))] T) := Lib.hid (by
                have e : Lo.lst Le.word X6 (k + 1) = Lo.lst Le.word X6 k := by
                  conv => lhs; unfold Lo.lst
                  rw [if_neg (by rw [HF.out]; exact hfx)]
                rw [e]; exact HK.out)
              go_wp2_with fail
              go_roundw
              case rel => exact ⟨k + 1, by go_num, by omega, HN⟩
              case measure => simp [intOf]; omega
        · obtain rfl : k = 6 := by omega
          have i1 : ¬ (((6 : Nat) : Int) < 6) := by omega
          have HC3 : Hid (LTS w wr bk Q Y ls [.int .i64 v0, .int .i64 v1, .int .i64 v2, .int .i64 v3, .int .i64 v4, .int .i64 v5] T) := Lib.hid (by rw [← HV.out.2]; exact HK.out)
          have y0 := HC3.out.by_.cell (i := 0) rfl
          have q0 := HC3.out.bq.cell (i := 0) rfl
          have g0 := HC3.out.bq.free 0
          have y1 := HC3.out.by_.cell (i := 1) rfl
          have q1 := HC3.out.bq.cell (i := 1) rfl
          have g1 := HC3.out.bq.free 1
          have y2 := HC3.out.by_.cell (i := 2) rfl
          have q2 := HC3.out.bq.cell (i := 2) rfl
          have g2 := HC3.out.bq.free 2
          have y3 := HC3.out.by_.cell (i := 3) rfl
          have q3 := HC3.out.bq.cell (i := 3) rfl
          have g3 := HC3.out.bq.free 3
          have y4 := HC3.out.by_.cell (i := 4) rfl
          have q4 := HC3.out.bq.cell (i := 4) rfl
          have g4 := HC3.out.bq.free 4
          have y5 := HC3.out.by_.cell (i := 5) rfl
          have q5 := HC3.out.bq.cell (i := 5) rfl
          have g5 := HC3.out.bq.free 5
          have HW9 : Hid (Blk ((((((wr.setCell ⟨Q, 0, none⟩ (.int .i64 v0)).setCell ⟨Q, 1, none⟩ (.int .i64 v1)).setCell ⟨Q, 2, none⟩ (.int .i64 v2)).setCell ⟨Q, 3, none⟩ (.int .i64 v3)).setCell ⟨Q, 4, none⟩ (.int .i64 v4)).setCell ⟨Q, 5, none⟩ (.int .i64 v5)) Q [.int .i64 v0, .int .i64 v1, .int .i64 v2, .int .i64 v3, .int .i64 v4, .int .i64 v5] 30 ∧ Below w.heap.size w ((((((wr.setCell ⟨Q, 0, none⟩ (.int .i64 v0)).setCell ⟨Q, 1, none⟩ (.int .i64 v1)).setCell ⟨Q, 2, none⟩ (.int .i64 v2)).setCell ⟨Q, 3, none⟩ (.int .i64 v3)).setCell ⟨Q, 4, none⟩ (.int .i64 v4)).setCell ⟨Q, 5, none⟩ (.int .i64 v5))) := Lib.hid (HC3.out.fill _ _ _ _ _ _)
          go_wp2_with fail
          clear y0 q0 g0 y1 q1 g1 y2 q2 g2 y3 q3 g3 y4 q4 g4 y5 q5 g5
          revert HW9
          generalize ((((((wr.setCell ⟨Q, 0, none⟩ (.int .i64 v0)).setCell ⟨Q, 1, none⟩ (.int .i64 v1)).setCell ⟨Q, 2, none⟩ (.int .i64 v2)).setCell ⟨Q, 3, none⟩ (.int .i64 v3)).setCell ⟨Q, 4, none⟩ (.int .i64 v4)).setCell ⟨Q, 5, none⟩ (.int .i64 v5)) = W9
          intro HW9
          have r0 := HW9.out.1.cell (i := 0) rfl
          have r1 := HW9.out.1.cell (i := 1) rfl
          have r2 := HW9.out.1.cell (i := 2) rfl
          have r3 := HW9.out.1.cell (i := 3) rfl
          have r4 := HW9.out.1.cell (i := 4) rfl
          have r5 := HW9.out.1.cell (i := 5) rfl
          (try simp only [Exit.inBlock, Exit.then])
          exact bodyPost_ret (v := .agg #[.int .i64 v0, .int .i64 v1, .int .i64 v2, .int .i64 v3, .int .i64 v4, .int .i64 v5]) (by simp [results, Tryd.results18, go_sem, r0, r1, r2, r3, r4, r5]) rfl ⟨rfl, HW9.out.2⟩
end Go.Proofs.YtfhhkmjjifbfeaaDoor
