/- Lex: names. -/
import Derived.Test.YtoniipmgkoogbaaBlk
import Derived.Test.YtoniipmgkoogbaaOpen
import Derived.Lib.SliceRun
import Derived.Deep.RegionLaw
import Derived.WalkKit
import Derived.ProofKit
import Derived.Handy
import Derived.WalkLawsBesides
import Derived.WalkSpells
import Derived.Lib.Hide
import Derived.RegionTactic
import Derived.ChangeAlike
import Derived.WalkSmall
import Derived.Deep.QuietTactic
import Derived.BigQuiet
import Derived.OwnWalk
import Derived.Outline
import Derived.Deep.CutRange
import Derived.Deep.CutBlock
import Derived.LoopTactic
namespace Go.Proofs.Ytoniipmgkoogbaa
open Go.ChangeShapes Go.WideShapes Go.ChangeAt Go.RowKit
set_option linter.unusedSimpArgs false
set_option linter.unusedVariables false


theorem lxn_full {G : ByteArray} (h : 0 < G.size) : G.toList.isEmpty = false := by
  rw [Lib.toList_data]
  cases hl : G.data.toList with
  | nil =>
    have h2 : G.data.toList.length = G.size := by simp
    rw [hl] at h2; simp at h2; omega
  | cons a r => rfl
theorem lxn_list (s : ByteArray) (h : 0 < s.size) : s.data.toList = s[0] :: s.data.toList.drop 1 := by
  have hl : 0 < s.data.toList.length := by simpa using h
  exact List.drop_eq_getElem_cons hl
/-- May the byte stand in a name? -/
def Lx.nb (b : UInt8) : Bool := (decide (97 ≤ b.toNat) && decide (b.toNat ≤ 122)) || (decide (48 ≤ b.toNat) && decide (b.toNat ≤ 57))
/-- Is the text a name? -/
def Lx.name (t : List UInt8) : Bool := match t with
  | [] => false
  | c :: r => decide ((c :: r).length ≤ 16) && decide (97 ≤ c.toNat) && (c :: r).all Lx.nb
set_option maxRecDepth 20000 in
set_option maxHeartbeats 4000000 in
theorem lx_name_go (s : ByteArray) (t : List UInt8) (h0 : 0 < s.size) (h16 : s.size ≤ 16) (ht : s.data.toList = t) (h97 : 97 ≤ s[0].toNat) (r : Bool) (hr : Lx.name t = r) (w : World) : Calls Try.prog 15 #[.string s] w fun e w' => e = .returned (.bool r) ∧ Below w.heap.size w w' := by
  have he1 := lxn_full h0
  have i1 : ¬ (16 : Int) < (s.size : Int) := by omega
  have i0 : (0 : Int) < (s.size : Int) := by omega
  have i2 : ¬ (s[0].toNat : Int) < 97 := by omega
  have hs2 : t = s[0] :: t.drop 1 := by rw [← ht]; exact lxn_list s h0
  have hl : t.length = s.size := by rw [← ht]; simp
  have HS : Hid (Lx.name t = r ∧ t = s[0] :: t.drop 1) := Lib.hid ⟨hr, hs2⟩
  have HL := Lib.hid (And.intro ht (And.intro hl h97))
  clear hr hs2 ht hl h97
  go_enter Try.func15, Try.ntmps15
  go_wp2_with fail
  go_loopw [3, 4, 5, 20] (fun _ _ _ i wr => ∃ k : Nat, i = .int .i64 k ∧ k ≤ s.size ∧ Hid (∀ j c, j < k → t[j]? = some c → Lx.nb c = true) ∧ Hid (Below w.heap.size w wr)) (fun _ _ _ i _ => s.size - (intOf i).toNat)
  case atStart => exact ⟨0, rfl, by omega, Lib.hid (fun j c hj => by omega), Lib.hid (Below.refl _ _)⟩
  case round =>
    obtain ⟨k, rfl, hk, HK, HB⟩ := hrel
    have k0 : (0 : Int) ≤ (k : Int) := by omega
    by_cases hks : k < s.size
    · have kI : (k : Int) < (s.size : Int) := by omega
      obtain ⟨b, hb⟩ : ∃ b, s[k] = b := ⟨_, rfl⟩
      have hbl : t[k]? = some b := by rw [← HL.out.1, ← hb, List.getElem?_eq_getElem (by simpa using hks)]; rfl
      obtain ⟨x, hxn⟩ : ∃ x, b.toNat = x := ⟨_, rfl⟩
      have cb : (s[k].toNat : Int) = (x : Int) := by rw [hb, hxn]
      have w1 : IntKind.i64.wrap ((k : Int) + 1) = (k : Int) + 1 := IntWalk.i64_in _ (by omega)
      clear hb
      by_cases a1 : 97 ≤ x
      · have j1 : (97 : Int) ≤ (x : Int) := by omega
        have j3 : (48 : Int) ≤ (x : Int) := by omega
        have j4 : ¬ (x : Int) ≤ 57 := by omega
        by_cases a2 : x ≤ 122
        · have j2 : (x : Int) ≤ 122 := by omega
          have HX : Hid (t[k]? = some b ∧ Lx.nb b = true) := Lib.hid ⟨hbl, by unfold Lx.nb; rw [hxn]; simp; try omega⟩
          clear hbl hxn
          have HK2 : Hid (∀ j c, j < k + 1 → t[j]? = some c → Lx.nb c = true) := Lib.hid (fun j c hj hc => by
            by_cases e : j = k
            · rw [e, HX.out.1] at hc; injection hc with hc; rw [← hc]; exact HX.out.2
            · exact HK.out j c (by omega) hc)
          go_wp2
          refine ⟨?_, ?measure⟩
          case measure => simp [intOf]; omega
          first
            | exact ⟨k + 1, by go_num, by omega, HK2, HB⟩
            | ((repeat apply Exists.intro); exact ⟨⟨k + 1, by go_num, by omega, HK2, HB⟩, rfl⟩)
        · have j2 : ¬ (x : Int) ≤ 122 := by omega
          have HX : Hid (t[k]? = some b ∧ Lx.nb b = false) := Lib.hid ⟨hbl, by unfold Lx.nb; rw [hxn]; simp; try omega⟩
          clear hbl hxn
          have HE : Hid (r = false) := Lib.hid (by rw [← HS.out.1]; unfold Lx.name; rw [HS.out.2]; have hb := HX.out.1; have hnb := HX.out.2; dsimp only; rw [Bool.and_eq_false_iff]; right; rw [List.all_eq_false]; exact ⟨b, by rw [← HS.out.2]; exact List.mem_of_getElem? hb, by rw [hnb]; simp⟩)
          go_wp2
          go_ret
          exact ⟨by rw [HE.out]; rfl, HB.out⟩
      · have j1 : ¬ (97 : Int) ≤ (x : Int) := by omega
        by_cases a3 : 48 ≤ x
        · have j3 : (48 : Int) ≤ (x : Int) := by omega
          by_cases a4 : x ≤ 57
          · have j4 : (x : Int) ≤ 57 := by omega
            have HX : Hid (t[k]? = some b ∧ Lx.nb b = true) := Lib.hid ⟨hbl, by unfold Lx.nb; rw [hxn]; simp; try omega⟩
            clear hbl hxn
            have HK2 : Hid (∀ j c, j < k + 1 → t[j]? = some c → Lx.nb c = true) := Lib.hid (fun j c hj hc => by
              by_cases e : j = k
              · rw [e, HX.out.1] at hc; injection hc with hc; rw [← hc]; exact HX.out.2
              · exact HK.out j c (by omega) hc)
            go_wp2
            refine ⟨?_, ?measure⟩
            case measure => simp [intOf]; omega
            first
              | exact ⟨k + 1, by go_num, by omega, HK2, HB⟩
              | ((repeat apply Exists.intro); exact ⟨⟨k + 1, by go_num, by omega, HK2, HB⟩, rfl⟩)
          · have j4 : ¬ (x : Int) ≤ 57 := by omega
            have HX : Hid (t[k]? = some b ∧ Lx.nb b = false) := Lib.hid ⟨hbl, by unfold Lx.nb; rw [hxn]; simp; try omega⟩
            clear hbl hxn
            have HE : Hid (r = false) := Lib.hid (by rw [← HS.out.1]; unfold Lx.name; rw [HS.out.2]; have hb := HX.out.1; have hnb := HX.out.2; dsimp only; rw [Bool.and_eq_false_iff]; right; rw [List.all_eq_false]; exact ⟨b, by rw [← HS.out.2]; exact List.mem_of_getElem? hb, by rw [hnb]; simp⟩)
            go_wp2
            go_ret
            exact ⟨by rw [HE.out]; rfl, HB.out⟩
        · have j3 : ¬ (48 : Int) ≤ (x : Int) := by omega
          have HX : Hid (t[k]? = some b ∧ Lx.nb b = false) := Lib.hid ⟨hbl, by unfold Lx.nb; rw [hxn]; simp; try omega⟩
          clear hbl hxn
          have HE : Hid (r = false) := Lib.hid (by rw [← HS.out.1]; unfold Lx.name; rw [HS.out.2]; have hb := HX.out.1; have hnb := HX.out.2; dsimp only; rw [Bool.and_eq_false_iff]; right; rw [List.all_eq_false]; exact ⟨b, by rw [← HS.out.2]; exact List.mem_of_getElem? hb, by rw [hnb]; simp⟩)
          go_wp2
          go_ret
          exact ⟨by rw [HE.out]; rfl, HB.out⟩
    · have kI : ¬ (k : Int) < (s.size : Int) := by omega
      have HE : Hid (r = true) := Lib.hid (by
        rw [← HS.out.1]; unfold Lx.name; rw [HS.out.2]
        have hl := HL.out.2.1
        have h97 := HL.out.2.2
        have hh : t.length = (s[0] :: t.drop 1).length := congrArg List.length HS.out.2
        dsimp only
        rw [Bool.and_eq_true, Bool.and_eq_true]
        refine ⟨⟨by rw [← hh]; simp; omega, by simpa using h97⟩, ?_⟩
        rw [← HS.out.2, List.all_eq_true]
        intro c hc
        obtain ⟨j, hj⟩ := List.mem_iff_getElem?.1 hc
        have hjl : j < t.length := by
          rcases Nat.lt_or_ge j t.length with h | h
          · exact h
          · rw [List.getElem?_eq_none h] at hj; cases hj
        exact HK.out j c (by omega) hj)
      go_wp2
      go_ret
      exact ⟨by rw [HE.out]; rfl, HB.out⟩
/-- Names, of any text. -/
theorem lx_name (s : ByteArray) (hs : s.size ≤ maxLen) (r : Bool) (hr : Lx.name s.data.toList = r) (w : World) : Calls Try.prog 15 #[.string s] w fun e w' => e = .returned (.bool r) ∧ Below w.heap.size w w' := by
  have hm : maxLen ≤ 9223372036854775807 := by unfold maxLen; omega
  by_cases h0 : 0 < s.size
  · have he1 := lxn_full h0
    by_cases h16 : s.size ≤ 16
    · by_cases h97 : 97 ≤ s[0].toNat
      · exact lx_name_go s _ h0 h16 rfl h97 r hr w
      · have hr0 : r = false := by
          rw [← hr, lxn_list s h0]; unfold Lx.name; simp; omega
        subst hr0
        have i1 : ¬ (16 : Int) < (s.size : Int) := by omega
        have i0 : (0 : Int) < (s.size : Int) := by omega
        have i2 : (s[0].toNat : Int) < 97 := by omega
        clear hr
        go_enter Try.func15, Try.ntmps15
        go_wp2_with fail
        go_ret
        exact ⟨rfl, Below.refl _ _⟩
    · have hr0 : r = false := by
        rw [← hr, lxn_list s h0]; unfold Lx.name
        have : (s[0] :: s.data.toList.drop 1).length = s.size := by rw [← lxn_list s h0]; simp
        dsimp only
        rw [this]
        have e : decide (s.size ≤ 16) = false := by simpa using h16
        rw [e]; rfl
      subst hr0
      have i1 : (16 : Int) < (s.size : Int) := by omega
      have i0 : (0 : Int) < (s.size : Int) := by omega
      clear hr
      go_enter Try.func15, Try.ntmps15
      go_wp2_with fail
      go_ret
      exact ⟨rfl, Below.refl _ _⟩
  · have hz : s = ⟨#[]⟩ := by
      have : s.data.size = 0 := by have : s.size = s.data.size := rfl; omega
      cases s with | mk d => simp at this; rw [this]
    subst hz
    obtain rfl : false = r := by rw [← hr]; rfl
    clear hr h0
    go_enter Try.func15, Try.ntmps15
    go_wp2_with fail
    go_ret
    exact ⟨rfl, Below.refl _ _⟩
end Go.Proofs.Ytoniipmgkoogbaa
