/- Contracts of what a peer sends (package wire): what each method tells, and how the wire stands behind it. -/
import Derived.Test.YtkhkgnckimhekaaRows
import Derived.WalkKit
import Derived.ProofKit
import Derived.OpenShut
import Derived.Handy
import Derived.WalkLawsBesides
import Derived.WalkSpells
import Derived.Lib.Hide
import Derived.RegionTactic
import Derived.ChangeAlike
import Derived.WalkSmall
import Derived.Deep.QuietTactic
import Derived.BigQuiet
import Derived.Deep.RegionHeld3
import Derived.StillTailTactics
import Derived.OwnWalk
import Derived.Lib.AppendStr
import Derived.Lib.SlBytesRow
namespace Go.Proofs.Ytkhkgnckimhekaa
open Go.ChangeShapes Go.WideShapes Go.ChangeAt Go.RowKit
set_option linter.unusedSimpArgs false
set_option linter.unusedVariables false

theorem ret_i64 {a b : Int} (h : a = b) : Ending.returned (.int .i64 a) = .returned (.int .i64 b) := by rw [h]
theorem ret_str {a b : ByteArray} (h : a = b) : Ending.returned (.string a) = .returned (.string b) := by rw [h]

/-- A wire in memory: the slice that it holds, whether its peer ended, how many bytes came, and were read. -/
def WAt (w : World) (b : Nat) (v : Value) (en : Bool) (se re : Nat) : Prop :=
  w.cell? ⟨b, 0, none⟩ = some v ∧ w.cell? ⟨b, 1, none⟩ = some (.bool en) ∧ w.cell? ⟨b, 2, none⟩ = some (.int .i64 se) ∧ w.cell? ⟨b, 3, none⟩ = some (.int .i64 re) ∧
  w.frozen? ⟨b, 0, none⟩ = false ∧ w.frozen? ⟨b, 1, none⟩ = false ∧ w.frozen? ⟨b, 2, none⟩ = false ∧ w.frozen? ⟨b, 3, none⟩ = false
theorem info5 : (Try.prog.info? 5).map (fun i => (i.zero, i.size, i.bytes)) = some (some (.int .u8 0), 1, 1) := by kernel_rfl
theorem own_shape {W : World} {b : Nat} {v : Value} {n : Nat} {xs : List Value} (h : W.ownsRow b 5 1 v n xs) : ∃ a c, v = .slice a n c := by
  rcases h with ⟨_, ⟨hv, hn⟩ | ⟨g, cap, cur, hv, _⟩⟩
  · exact ⟨none, 0, by rw [hv, hn]⟩
  · exact ⟨_, _, hv⟩
theorem WAt.set0 {w : World} {b : Nat} {v : Value} {en : Bool} {se re : Nat} (h : WAt w b v en se re) (v' : Value) : WAt (w.setCell ⟨b, 0, none⟩ v') b v' en se re := by
  obtain ⟨h0, h1, h2, h3, f0, f1, f2, f3⟩ := h
  exact ⟨World.cell?_setCell_same _ _ _ h0, by rw [World.cell?_setCell_other _ _ _ _ (by simp)]; exact h1, by rw [World.cell?_setCell_other _ _ _ _ (by simp)]; exact h2, by rw [World.cell?_setCell_other _ _ _ _ (by simp)]; exact h3, by rw [World.frozen?_setCell]; exact f0, by rw [World.frozen?_setCell]; exact f1, by rw [World.frozen?_setCell]; exact f2, by rw [World.frozen?_setCell]; exact f3⟩
theorem WAt.set1 {w : World} {b : Nat} {v : Value} {en : Bool} {se re : Nat} (h : WAt w b v en se re) (e : Bool) : WAt (w.setCell ⟨b, 1, none⟩ (.bool e)) b v e se re := by
  obtain ⟨h0, h1, h2, h3, f0, f1, f2, f3⟩ := h
  exact ⟨by rw [World.cell?_setCell_other _ _ _ _ (by simp)]; exact h0, World.cell?_setCell_same _ _ _ h1, by rw [World.cell?_setCell_other _ _ _ _ (by simp)]; exact h2, by rw [World.cell?_setCell_other _ _ _ _ (by simp)]; exact h3, by rw [World.frozen?_setCell]; exact f0, by rw [World.frozen?_setCell]; exact f1, by rw [World.frozen?_setCell]; exact f2, by rw [World.frozen?_setCell]; exact f3⟩
theorem WAt.set2 {w : World} {b : Nat} {v : Value} {en : Bool} {se re : Nat} (h : WAt w b v en se re) (z : Nat) : WAt (w.setCell ⟨b, 2, none⟩ (.int .i64 z)) b v en z re := by
  obtain ⟨h0, h1, h2, h3, f0, f1, f2, f3⟩ := h
  exact ⟨by rw [World.cell?_setCell_other _ _ _ _ (by simp)]; exact h0, by rw [World.cell?_setCell_other _ _ _ _ (by simp)]; exact h1, World.cell?_setCell_same _ _ _ h2, by rw [World.cell?_setCell_other _ _ _ _ (by simp)]; exact h3, by rw [World.frozen?_setCell]; exact f0, by rw [World.frozen?_setCell]; exact f1, by rw [World.frozen?_setCell]; exact f2, by rw [World.frozen?_setCell]; exact f3⟩
theorem WAt.set3 {w : World} {b : Nat} {v : Value} {en : Bool} {se re : Nat} (h : WAt w b v en se re) (z : Nat) : WAt (w.setCell ⟨b, 3, none⟩ (.int .i64 z)) b v en se z := by
  obtain ⟨h0, h1, h2, h3, f0, f1, f2, f3⟩ := h
  exact ⟨by rw [World.cell?_setCell_other _ _ _ _ (by simp)]; exact h0, by rw [World.cell?_setCell_other _ _ _ _ (by simp)]; exact h1, by rw [World.cell?_setCell_other _ _ _ _ (by simp)]; exact h2, World.cell?_setCell_same _ _ _ h3, by rw [World.frozen?_setCell]; exact f0, by rw [World.frozen?_setCell]; exact f1, by rw [World.frozen?_setCell]; exact f2, by rw [World.frozen?_setCell]; exact f3⟩
theorem WAt.grown {w w1 : World} {b : Nat} {v : Value} {en : Bool} {se re : Nat} (h : WAt w b v en se re) {row : Option Nat} (hg : w.grownBy w1 row) (hne : some b ≠ row) : WAt w1 b v en se re := by
  obtain ⟨h0, h1, h2, h3, f0, f1, f2, f3⟩ := h
  have hb := World.block_lt_of_cell? _ _ h0
  have hh := hg.block b hb hne
  exact ⟨hg.cell h0 hne, hg.cell h1 hne, hg.cell h2 hne, hg.cell h3 hne, by rw [World.frozen?_of_block (w := w) (a := ⟨b, 0, none⟩) hh]; exact f0, by rw [World.frozen?_of_block (w := w) (a := ⟨b, 1, none⟩) hh]; exact f1, by rw [World.frozen?_of_block (w := w) (a := ⟨b, 2, none⟩) hh]; exact f2, by rw [World.frozen?_of_block (w := w) (a := ⟨b, 3, none⟩) hh]; exact f3⟩
set_option maxHeartbeats 600000 in
theorem offer_any (b B : Nat) (v : Value) (n : Nat) (xs : List Value) (se re : Nat) (s : ByteArray) (e : Bool) (w : World) (hs : s.size ≤ 4096) (hn : n ≤ 100000) (hse : se ≤ 100000) (hb : b < B) (hB : B ≤ w.heap.size) (h : WAt w b v false se re) (ho : w.ownsRow B 5 1 v n xs) :
    Calls Try.prog 10 #[.pointer (some ⟨b, 0, none⟩), .string s, .bool e] w fun en w' => ∃ v', en = .returned (.bool true) ∧ WAt w' b v' e (se + s.size) re ∧ w'.ownsRow B 5 1 v' (n + s.size) (xs ++ Lib.strCells s) ∧ Below b w w' := by
  obtain ⟨i0, hi, hz0, hz1, hz2⟩ := info_parts info5
  have HI := Lib.hid hi
  have HI0 := Lib.hid hz0
  have HI1 := Lib.hid hz1
  have HI2 := Lib.hid hz2
  have HO := Lib.hid ho
  clear hi hz0 hz1 hz2 ho
  have HW := Lib.hid h
  obtain ⟨h0, h1, h2, h3, f0, f1, f2, f3⟩ := h
  go_enter Try.func10, Try.ntmps10
  go_wp2_with (at_builtin; refine Lib.wpList_append_own_string _ rfl _ _ 42 9 rfl B 5 i0 Try.underlying42 Try.underlying9 HI.out HI0.out HI1.out HI2.out _ n xs rfl HO.out s rfl (by unfold maxLen; omega) (by omega) hB ?_)
  intro v' w1 hown hgrow _
  have hne : some b ≠ v.ownBlock := fun hj => by have := (HO.out.lt b hj.symm).1; omega
  have HW1 := Lib.hid (HW.out.grown hgrow hne)
  have HB1 : Hid (Below b w w1) := Lib.hid ((Below.refl _ _).grown hgrow (by omega) (fun j hj => by have := (HO.out.lt j hj).1; omega))
  have HO1 := Lib.hid hown
  obtain ⟨sa, sc, rfl⟩ := own_shape hown
  obtain ⟨g0, g1, g2, g3, e0, e1, e2, e3⟩ := HW1.out
  clear hown hgrow hne h0 h1 h2 h3 f0 f1 f2 f3
  go_wp2
  go_ret
  have K := (((HW1.out.set0 (.slice sa (n + s.size) sc)).set2 (se + s.size)).set1 e)
  have e9 : ((se + s.size : Nat) : Int) = (se : Int) + (s.size : Int) := by omega
  rw [e9] at K
  refine ⟨.slice sa (n + s.size) sc, rfl, ?_, ?_, ?_⟩
  · exact K
  · exact ownsRow_setCell_below (ownsRow_setCell_below (ownsRow_setCell_below HO1.out hb _) hb _) hb _
  · exact (((HB1.out.setCell (Nat.le_refl _) _).setCell (Nat.le_refl _) _).setCell (Nat.le_refl _) _)
theorem peek_any (b g o len cap k : Nat) (S : ByteArray) (en : Bool) (se re : Nat) (n : Int) (w : World) (hS : S.size = len) (hlc : len ≤ cap) (hcm : cap ≤ 9223372036854775807) (hk : n = k ∧ k ≤ len ∨ (len : Int) < n ∧ k = len) (h : WAt w b (.slice (some ⟨g, o, none⟩) len cap) en se re) (hc : Lib.Bytes w g o S) :
    Calls Try.prog 17 #[.pointer (some ⟨b, 0, none⟩), .int .i64 n] w fun e w' => e = .returned (.string (S.extract 0 k)) ∧ ∃ q, w' = w.drewN q := by
  obtain ⟨h0, h1, h2, h3, f0, f1, f2, f3⟩ := h
  have hkl : k ≤ len := by omega
  have hcv : ∀ q, (convert 42 9 (.slice (some ⟨g, o, none⟩) k cap)).run Try.prog (w.drewN q) = .ok (.string (S.extract 0 k)) (w.drewN q) := fun q => by
    have := Lib.run_convert_window (P := Try.prog) (w.drewN q) 42 5 9 Try.underlying42 Try.underlying5 Try.underlying9 g o S (hc.drewN q) 0 k cap (by omega)
    rw [Nat.add_zero, Nat.zero_add] at this
    exact this
  have g1 : (0 : Int) ≤ (k : Int) := by omega
  have g2 : (k : Int) ≤ (len : Int) := by omega
  have g3 : (k : Int) ≤ (cap : Int) := by omega
  clear hS hc
  rcases hk with ⟨rfl, hk⟩ | ⟨hn, rfl⟩
  · have hm : min (k : Int) (len : Int) = k := by omega
    go_enter Try.func17, Try.ntmps17
    go_wp2
    go_quiet (fail)
    go_wp2
    go_ret
    exact ⟨rfl, _, rfl⟩
  · have hm : min (n : Int) (k : Int) = k := by omega
    have hn0 : (0 : Int) ≤ n := by omega
    have hm2 : max n 0 = n := by omega
    go_enter Try.func17, Try.ntmps17
    go_wp2
    go_quiet (fail)
    go_wp2
    go_ret
    exact ⟨rfl, _, rfl⟩
theorem WAt.drewN {w : World} {b : Nat} {v : Value} {en : Bool} {se re : Nat} (h : WAt w b v en se re) (n : Nat) : WAt (w.drewN n) b v en se re := by
  obtain ⟨h0, h1, h2, h3, f0, f1, f2, f3⟩ := h
  exact ⟨by simpa using h0, by simpa using h1, by simpa using h2, by simpa using h3, by simpa using f0, by simpa using f1, by simpa using f2, by simpa using f3⟩
theorem ret_bb {a b : Bool} (h : a = b) : Ending.returned (.bool a) = .returned (.bool b) := by rw [h]
set_option maxHeartbeats 600000 in
theorem take_lt (b g o len cap k : Nat) (S : ByteArray) (en : Bool) (se re : Nat) (n : Int) (w : World) (hS : S.size = len) (hlc : len ≤ cap) (hcm : cap ≤ 9223372036854775807) (hre : re ≤ 1000000) (hln : len ≤ 1000000) (hk0 : 0 < k) (hkc : k < cap) (hk : n = k ∧ k ≤ len ∨ (len : Int) < n ∧ k = len) (h : WAt w b (.slice (some ⟨g, o, none⟩) len cap) en se re) (hc : Lib.Bytes w g o S) :
    Calls Try.prog 12 #[.pointer (some ⟨b, 0, none⟩), .int .i64 n] w fun e w' => e = .returned (.string (S.extract 0 k)) ∧ ∃ q, w' = (((w.drewN q).setCell ⟨b, 0, none⟩ (.slice (some ⟨g, o + k, none⟩) (len - k) (cap - k))).setCell ⟨b, 3, none⟩ (.int .i64 ((re + k : Nat) : Int))) := by
  have HW := Lib.hid h
  have HC := Lib.hid hc
  obtain ⟨G, hG⟩ : ∃ G, S.extract 0 k = G := ⟨_, rfl⟩
  have hz : G.size = k := by rw [← hG, ByteArray.size_extract]; omega
  have hge : G.toList.isEmpty = false := by
    rw [← decide_eq_emptyBytes]
    simp only [decide_eq_false_iff_not]
    intro h0
    rw [h0] at hz
    simp at hz
    omega
  have HG := Lib.hid hG
  clear hG h hc
  have a1 : (0 : Int) ≤ (k : Int) := by omega
  have a2 : (k : Int) ≤ (len : Int) := by omega
  have a3 : (k : Int) ≤ (cap : Int) := by omega
  have a4 : ¬ cap = k := by omega
  go_enter Try.func12, Try.ntmps12
  go_wp2_with (go_at_call 17; refine (peek_any b g o len cap k S en se re n _ hS hlc hcm hk HW.out HC.out).mono ?_; rintro e w2 ⟨rfl, q, rfl⟩; rw [HG.out]; obtain ⟨g0, g1, g2, g3, e0, e1, e2, e3⟩ := HW.out.drewN q)
  go_ret
  refine ⟨ret_str HG.out.symm, q, ?_⟩
  rw [show ((re + k : Nat) : Int) = (re : Int) + (k : Int) by omega]
theorem below_two (b i j : Nat) (x y : Value) (w : World) (q : Nat) : Below b w (((w.drewN q).setCell ⟨b, i, none⟩ x).setCell ⟨b, j, none⟩ y) :=
  ((below_drewN (Below.refl b w) q).setCell (p := ⟨b, i, none⟩) (Nat.le_refl _) x).setCell (p := ⟨b, j, none⟩) (Nat.le_refl _) y
set_option maxHeartbeats 600000 in
theorem take_cap (b g o len : Nat) (S : ByteArray) (en : Bool) (se re : Nat) (n : Int) (w : World) (hS : S.size = len) (hlc : len ≤ len) (hcm : len ≤ 9223372036854775807) (hre : re ≤ 1000000) (hln : len ≤ 1000000) (hk0 : 0 < len) (hk : n = len ∧ len ≤ len ∨ (len : Int) < n ∧ len = len) (h : WAt w b (.slice (some ⟨g, o, none⟩) len len) en se re) (hc : Lib.Bytes w g o S) :
    Calls Try.prog 12 #[.pointer (some ⟨b, 0, none⟩), .int .i64 n] w fun e w' => e = .returned (.string (S.extract 0 len)) ∧ ∃ q, w' = (((w.drewN q).setCell ⟨b, 0, none⟩ (.slice (some ⟨g, o, none⟩) 0 0)).setCell ⟨b, 3, none⟩ (.int .i64 ((re + len : Nat) : Int))) := by
  have HW := Lib.hid h
  have HC := Lib.hid hc
  obtain ⟨G, hG⟩ : ∃ G, S.extract 0 len = G := ⟨_, rfl⟩
  have hz : G.size = len := by rw [← hG, ByteArray.size_extract]; omega
  have hge : G.toList.isEmpty = false := by
    rw [← decide_eq_emptyBytes]
    simp only [decide_eq_false_iff_not]
    intro h0
    rw [h0] at hz
    simp at hz
    omega
  have HG := Lib.hid hG
  clear hG h hc
  have a1 : (0 : Int) ≤ (len : Int) := by omega
  have a2 : (len : Int) ≤ (len : Int) := by omega
  have a3 : (len : Int) ≤ (len : Int) := by omega
  go_enter Try.func12, Try.ntmps12
  go_wp2_with (go_at_call 17; refine (peek_any b g o len len len S en se re n _ hS hlc hcm hk HW.out HC.out).mono ?_; rintro e w2 ⟨rfl, q, rfl⟩; rw [HG.out]; obtain ⟨g0, g1, g2, g3, e0, e1, e2, e3⟩ := HW.out.drewN q)
  go_ret
  refine ⟨ret_str HG.out.symm, q, ?_⟩
  rw [show ((re + len : Nat) : Int) = (re : Int) + (len : Int) by omega]
theorem take_end (b g o len cap : Nat) (S : ByteArray) (en : Bool) (se re : Nat) (n : Int) (w : World) (hS : S.size = len) (hlc : len ≤ cap) (hcm : cap ≤ 9223372036854775807) (hre : re ≤ 1000000) (hln : len ≤ 1000000) (hk0 : 0 < len) (hn : (len : Int) < n) (h : WAt w b (.slice (some ⟨g, o, none⟩) len cap) en se re) (hc : Lib.Bytes w g o S) :
    Calls Try.prog 12 #[.pointer (some ⟨b, 0, none⟩), .int .i64 n] w fun e w' => ∃ a c, e = .returned (.string (S.extract 0 len)) ∧ WAt w' b (.slice a 0 c) en se (re + len) ∧ Below b w w' := by
  by_cases hkc : len < cap
  · refine (take_lt b g o len cap len S en se re n w hS hlc hcm hre hln hk0 hkc (Or.inr ⟨hn, rfl⟩) h hc).mono fun e w' ⟨he, q, hw⟩ => ?_
    rw [Nat.sub_self] at hw
    exact ⟨_, _, he, by rw [hw]; exact ((h.drewN q).set0 _).set3 _, by rw [hw]; exact below_two _ _ _ _ _ _ _⟩
  · obtain rfl : cap = len := by omega
    refine (take_cap b g o cap S en se re n w hS hlc hcm hre hln hk0 (Or.inr ⟨hn, rfl⟩) h hc).mono fun e w' ⟨he, q, hw⟩ => ?_
    exact ⟨_, _, he, by rw [hw]; exact ((h.drewN q).set0 _).set3 _, by rw [hw]; exact below_two _ _ _ _ _ _ _⟩
theorem over_any (b : Nat) (a : Option Addr) (len cap : Nat) (en : Bool) (se re : Nat) (w : World) (h : WAt w b (.slice a len cap) en se re) (bo : Bool) (hb : (en && decide (len = 0)) = bo) :
    Calls Try.prog 22 #[.pointer (some ⟨b, 0, none⟩)] w fun e w' => e = .returned (.bool bo) ∧ w = w' := by
  obtain ⟨h0, h1, h2, h3, f0, f1, f2, f3⟩ := h
  subst hb
  cases en
  case false =>
    go_enter Try.func22, Try.ntmps22
    go_wp2
    go_ret
    exact ⟨rfl, rfl⟩
  case true =>
    by_cases hl : len = 0
    · subst hl
      go_enter Try.func22, Try.ntmps22
      go_wp2
      go_ret
      exact ⟨rfl, rfl⟩
    · have hl2 : ((len : Int) == 0) = false := by simp; omega
      have hl3 : Hid (decide (len = 0) = false) := by simp [Hid, hl]
      go_enter Try.func22, Try.ntmps22
      go_wp2
      go_ret
      exact ⟨ret_bb (by rw [hl3.out]; rfl), rfl⟩
theorem refused (b : Nat) (v : Value) (se re : Nat) (s : ByteArray) (e0 : Bool) (w : World) (h : WAt w b v true se re) :
    Calls Try.prog 10 #[.pointer (some ⟨b, 0, none⟩), .string s, .bool e0] w fun e w' => e = .returned (.bool false) ∧ w = w' := by
  obtain ⟨h0, h1, h2, h3, f0, f1, f2, f3⟩ := h
  go_enter Try.func10, Try.ntmps10
  go_wp2
  go_ret
  exact ⟨rfl, rfl⟩
def abc : ByteArray := ⟨#[97, 98, 99]⟩
theorem bytes_abc {W : World} {B g cap : Nat} (h : W.ownsRow B 5 1 (.slice (some ⟨g, 0, none⟩) 3 cap) 3 (([] ++ Lib.strCells ⟨#[97, 98]⟩) ++ Lib.strCells ⟨#[99]⟩)) : Lib.Bytes W g 0 abc := by
  have hc := h.cells (g := g) rfl
  intro i hi
  have hi3 : i < 3 := hi
  obtain rfl | rfl | rfl : i = 0 ∨ i = 1 ∨ i = 2 := by omega
  · exact hc 0 _ rfl
  · exact hc 1 _ rfl
  · exact hc 2 _ rfl
set_option maxHeartbeats 1000000 in
theorem lives_any (w : World) : Calls Try.prog 16 #[] w fun e w' => e = .returned (.bool true) ∧ Below w.heap.size w w' := by
  go_enter Try.func16, Try.ntmps16
  go_wp2_with (go_at_call 7; go_in)
  refine (offer_any w.heap.size (w.heap.size + 1) (.slice none 0 0) 0 [] 0 0 ⟨#[97, 98]⟩ false _ (by decide) (by omega) (by omega) (by omega) (by simp) ⟨by simp [go_sem], by simp [go_sem], by simp [go_sem], by simp [go_sem], by simp [go_sem], by simp [go_sem], by simp [go_sem], by simp [go_sem]⟩ (World.ownsRow_nil _ _ _ _)).mono ?_
  rintro e w1 ⟨v1, rfl, p1, o1, b1⟩
  have hsz := b1.size
  have B1 : Hid (Below w.heap.size w w1) := Lib.hid (((Below.refl _ _).alloc (Nat.le_refl _) _).trans b1)
  have P1 := Lib.hid p1
  have O1 := Lib.hid o1
  have hs1 : w.heap.size + 1 ≤ w1.heap.size := by
    have := World.block_lt_of_cell? _ _ p1.1
    exact this
  clear b1 hsz p1 o1
  go_wp2_with fail
  refine (offer_any w.heap.size (w.heap.size + 1) v1 2 _ 2 0 ⟨#[99]⟩ true _ (by decide) (by omega) (by omega) (by omega) hs1 P1.out O1.out).mono ?_
  rintro e w2 ⟨v2, rfl, p2, o2, b2⟩
  have B2 : Hid (Below w.heap.size w w2) := Lib.hid (B1.out.trans b2)
  obtain ⟨g, cap, hv2, hgB, hcap, hcm⟩ : ∃ g cap, v2 = .slice (some ⟨g, 0, none⟩) 3 cap ∧ w.heap.size + 1 ≤ g ∧ 3 ≤ cap ∧ cap ≤ 9223372036854775807 := by
    rcases o2.2 with ⟨_, h0⟩ | ⟨g, cap, cur, hv, hg, _, hnc, hcm, _⟩
    · exact absurd h0 (by decide)
    · exact ⟨g, cap, hv, hg, hnc, hcm⟩
  subst hv2
  have C2 := Lib.hid (bytes_abc o2)
  have P2 : Hid (WAt w2 w.heap.size (.slice (some ⟨g, 0, none⟩) 3 cap) true 3 0) := p2
  clear b2 p2 o2 P1 O1 B1
  go_wp2_with fail
  refine (take_lt w.heap.size g 0 3 cap 2 abc true 3 0 2 _ rfl hcap hcm (by omega) (by omega) (by omega) (by omega) (Or.inl ⟨rfl, by omega⟩) P2.out C2.out).mono ?_
  rintro e w3 ⟨rfl, q, hw3⟩
  have P3 : Hid (WAt w3 w.heap.size (.slice (some ⟨g, 2, none⟩) 1 (cap - 2)) true 3 2) := by
    rw [Hid, hw3]
    have := ((P2.out.drewN q).set0 (.slice (some ⟨g, 0 + 2, none⟩) (3 - 2) (cap - 2))).set3 (0 + 2)
    exact this
  have B3 : Hid (Below w.heap.size w w3) := by rw [Hid, hw3]; exact B2.out.trans (below_two _ _ _ _ _ _ _)
  have C3 : Hid (Lib.Bytes w3 g 2 ⟨#[99]⟩) := by
    rw [Hid, hw3]
    intro i hi
    have hi1 : i < 1 := hi
    obtain rfl : i = 0 := by omega
    rw [World.cell?_setCell_other _ _ _ _ (by first | (simp; done) | (simp; omega)), World.cell?_setCell_other _ _ _ _ (by first | (simp; done) | (simp; omega))]
    exact C2.out.drewN q 2 (by decide)
  have e1 : abc.extract 0 2 = ⟨#[97, 98]⟩ := by decide
  clear hw3 P2 B2 C2
  go_wp2_with fail
  refine (over_any w.heap.size _ _ _ true 3 2 _ P3.out false rfl).mono ?_
  rintro e w4 ⟨rfl, rfl⟩
  go_wp2_with fail
  refine (take_end w.heap.size g 2 1 (cap - 2) ⟨#[99]⟩ true 3 2 5 _ rfl (by omega) (by omega) (by omega) (by omega) (by omega) (by omega) P3.out C3.out).mono ?_
  rintro e w4 ⟨a, c, rfl, p4, b4⟩
  have B4 : Hid (Below w.heap.size w w4) := Lib.hid (B3.out.trans b4)
  have P4 := Lib.hid p4
  have e2 : (⟨#[99]⟩ : ByteArray).extract 0 1 = ⟨#[99]⟩ := by decide
  clear b4 p4 P3 C3 B3
  go_wp2_with fail
  refine (over_any w.heap.size _ _ _ true 3 3 _ P4.out true rfl).mono ?_
  rintro e w5 ⟨rfl, rfl⟩
  go_wp2_with fail
  refine (refused w.heap.size _ 3 3 _ _ _ P4.out).mono ?_
  rintro e w5 ⟨rfl, rfl⟩
  go_wp2
  go_ret
  exact ⟨rfl, B4.out⟩
end Go.Proofs.Ytkhkgnckimhekaa
