/- Ticks as texts: plain, count, Parse. -/
import Derived.Test.YtfhhkmjjifbfeaaGreatDoorTx1
import Derived.Test.YtfhhkmjjifbfeaaGreatDoorTkWalks
import Derived.Test.YtfhhkmjjifbfeaaGreatDoorBlk
import Derived.Lib.SliceRun
import Derived.Deep.RegionLaw
import Derived.RegionTactic
import Derived.ChangeAlike
import Derived.WalkSmall
import Derived.Deep.QuietTactic
import Derived.BigQuiet
import Derived.OwnWalk
import Derived.Outline
import Derived.Deep.CutRange
import Derived.Deep.CutBlock
import Derived.LoopTactic
import Derived.Lib.AppendStr
import Derived.Lib.SlBytesRow
namespace Go.Proofs.YtfhhkmjjifbfeaaGreatDoor
open Go.ChangeShapes Go.WideShapes Go.ChangeAt Go.RowKit
set_option linter.unusedSimpArgs false
set_option linter.unusedVariables false
theorem txn_full {G : ByteArray} (h : 0 < G.size) : G.toList.isEmpty = false := by
  rw [Lib.toList_data]
  cases hl : G.data.toList with
  | nil =>
    have h2 : G.data.toList.length = G.size := by simp
    rw [hl] at h2; simp at h2; omega
  | cons a r => rfl
theorem txn_list (s : ByteArray) (h : 0 < s.size) : s.data.toList = s[0] :: s.data.toList.drop 1 := by
  have hl : 0 < s.data.toList.length := by simpa using h
  exact List.drop_eq_getElem_cons hl
theorem txn_ne {s t : ByteArray} (h : ¬ s = t) : (s.toList == t.toList) = false := by
  rw [beq_eq_false_iff_ne]
  intro e
  rw [Lib.toList_data, Lib.toList_data] at e
  apply h
  cases s with | mk a => cases t with | mk b => congr 1; exact Array.ext' e
theorem txn_none {s : ByteArray} (h : ¬ 0 < s.size) : s = ⟨#[]⟩ := by
  have : s.data.size = 0 := by have : s.size = s.data.size := rfl; omega
  cases s with | mk d => simp at this; rw [this]
theorem Tx.head_one {l : List UInt8} (h : l.length = 1) : Tx.head l = true := by
  match l, h with
  | [_], _ => rfl
theorem Tx.head_two {l : List UInt8} {b : UInt8} (h : 1 < l.length) (hb : l[0]? = some b) : Tx.head l = !(b == 48) := by
  match l, h, hb with
  | c :: d :: r, _, hb => simp at hb; subst hb; rfl
theorem Tx.plain_all {l : List UInt8} (h : Tx.head l = true) (ha : ∀ (j : Nat) c, j < l.length → l[j]? = some c → Tx.dig c = true) : Tx.plain l = true := by
  unfold Tx.plain
  rw [h, Bool.true_and, List.all_eq_true]
  intro c hc
  obtain ⟨j, hj⟩ := List.mem_iff_getElem?.1 hc
  have hjl : j < l.length := by
    rcases Nat.lt_or_ge j l.length with h | h
    · exact h
    · rw [List.getElem?_eq_none h] at hj; cases hj
  exact ha j c hjl hj
theorem Tx.plain_not {l : List UInt8} {k : Nat} {b : UInt8} (h : l[k]? = some b) (hb : Tx.dig b = false) : Tx.plain l = false := by
  unfold Tx.plain
  rw [Bool.and_eq_false_iff]
  right
  rw [List.all_eq_false]
  exact ⟨b, List.mem_of_getElem? h, by rw [hb]; simp⟩
theorem Tx.plain_dig {l : List UInt8} (h : Tx.plain l = true) {k : Nat} {b : UInt8} (hb : l[k]? = some b) : 48 ≤ b.toNat ∧ b.toNat ≤ 57 := by
  unfold Tx.plain at h
  rw [Bool.and_eq_true, List.all_eq_true] at h
  have := h.2 b (List.mem_of_getElem? hb)
  unfold Tx.dig at this
  simpa using this
theorem byte48 {b : UInt8} : b.toNat = 48 ↔ b = 48 := ⟨fun h => by have e : UInt8.ofNat b.toNat = b := UInt8.ofNat_toNat; rw [← e, h]; rfl, fun h => by subst h; rfl⟩
set_option maxRecDepth 20000 in
set_option maxHeartbeats 4000000 in
theorem tx_plain (s : ByteArray) (t : List UInt8) (ht : s.data.toList = t) (hs : s.size ≤ maxLen) (r : Bool) (hr : Tx.plain t = r) (w : World) : Calls Tryz.prog 71 #[.string s] w fun e w' => e = .returned (.bool r) ∧ Below w.heap.size w w' := by
  have hm : maxLen ≤ 9223372036854775807 := by unfold maxLen; omega
  by_cases h0 : 0 < s.size
  · have he1 := txn_full h0
    have i0 : (0 : Int) < (s.size : Int) := by omega
    have hl : t.length = s.size := by rw [← ht]; simp
    have hz : t[0]? = some s[0] := by rw [← ht, txn_list s h0]; rfl
    have HL := Lib.hid (And.intro ht hl)
    by_cases h1 : 1 < s.size
    · have i1 : (1 : Int) < (s.size : Int) := by omega
      by_cases h48 : s[0].toNat = 48
      · have c1 : (s[0].toNat : Int) = 48 := by omega
        have c2 : ((s[0].toNat : Int) == 48) = true := by rw [c1]; rfl
        obtain rfl : false = r := by
          rw [← hr]
          unfold Tx.plain
          rw [Tx.head_two (by omega) hz, byte48.1 h48]; rfl
        clear hr ht hl hz HL h48
        go_enter Tryz.func71, Tryz.ntmps71
        go_wp2_with fail
        go_ret
        exact ⟨rfl, Below.refl _ _⟩
      · have c1 : ¬ (s[0].toNat : Int) = 48 := by omega
        have c2 : ((s[0].toNat : Int) == 48) = false := by rw [beq_eq_false_iff_ne]; exact c1
        have HS : Hid (Tx.plain t = r ∧ Tx.head t = true) := Lib.hid ⟨hr, by rw [Tx.head_two (by omega) hz]; rw [Bool.not_eq_true', beq_eq_false_iff_ne]; exact fun e => h48 (byte48.2 e)⟩
        clear hr ht hl hz h48
        go_enter Tryz.func71, Tryz.ntmps71
        go_wp2_with fail
        go_loopw [3, 18] (fun _ i wr => ∃ k : Nat, i = .int .i64 k ∧ k ≤ s.size ∧ Hid (∀ j c, j < k → t[j]? = some c → Tx.dig c = true) ∧ Hid (Below w.heap.size w wr)) (fun _ i _ => s.size - (intOf i).toNat)
        case atStart => exact ⟨0, rfl, by omega, Lib.hid (fun j c hj => by omega), Lib.hid (Below.refl _ _)⟩
        case round =>
          obtain ⟨k, rfl, hk, HK, HB⟩ := hrel
          have k0 : (0 : Int) ≤ (k : Int) := by omega
          by_cases hks : k < s.size
          · have kI : (k : Int) < (s.size : Int) := by omega
            obtain ⟨b, hb⟩ : ∃ b, s[k] = b := ⟨_, rfl⟩
            have hbl : t[k]? = some b := by rw [← HL.out.1, ← hb, List.getElem?_eq_getElem (by simpa using hks)]; rfl
            obtain ⟨x, hxn⟩ : ∃ x, b.toNat = x := ⟨_, rfl⟩
            have cb : (s[k].toNat : Int) = (x : Int) := by rw [hb, hxn]
            have w1 : IntKind.i64.wrap ((k : Int) + 1) = (k : Int) + 1 := IntWalk.i64_in _ (by omega)
            clear hb
            by_cases a1 : 48 ≤ x
            · have j1 : ¬ (x : Int) < 48 := by omega
              by_cases a2 : x ≤ 57
              · have j2 : ¬ (57 : Int) < (x : Int) := by omega
                have HX : Hid (t[k]? = some b ∧ Tx.dig b = true ∧ b.toNat = x) := Lib.hid ⟨hbl, by unfold Tx.dig; rw [hxn]; simp; omega, hxn⟩
                clear hbl hxn
                have HK2 : Hid (∀ j c, j < k + 1 → t[j]? = some c → Tx.dig c = true) := Lib.hid (fun j c hj hc => by
                  by_cases e : j = k
                  · rw [e, HX.out.1] at hc; injection hc with hc; rw [← hc]; exact HX.out.2.1
                  · exact HK.out j c (by omega) hc)
                go_wp2
                refine ⟨?_, ?measure⟩
                case measure => simp [intOf]; omega
                first
                  | exact ⟨k + 1, by go_num, by omega, HK2, HB⟩
                  | ((repeat apply Exists.intro); exact ⟨⟨k + 1, by go_num, by omega, HK2, HB⟩, rfl⟩)
              · have j2 : (57 : Int) < (x : Int) := by omega
                have HX : Hid (t[k]? = some b ∧ Tx.dig b = false) := Lib.hid ⟨hbl, by unfold Tx.dig; rw [hxn]; simp; try omega⟩
                clear hbl hxn
                have HE : Hid (r = false) := Lib.hid (by rw [← HS.out.1]; exact Tx.plain_not HX.out.1 HX.out.2)
                go_wp2
                go_ret
                exact ⟨by rw [HE.out]; rfl, HB.out⟩
            · have j1 : (x : Int) < 48 := by omega
              have HX : Hid (t[k]? = some b ∧ Tx.dig b = false) := Lib.hid ⟨hbl, by unfold Tx.dig; rw [hxn]; simp; try omega⟩
              clear hbl hxn
              have HE : Hid (r = false) := Lib.hid (by rw [← HS.out.1]; exact Tx.plain_not HX.out.1 HX.out.2)
              go_wp2
              go_ret
              exact ⟨by rw [HE.out]; rfl, HB.out⟩
          · have kI : ¬ (k : Int) < (s.size : Int) := by omega
            have HE : Hid (r = true) := Lib.hid (by rw [← HS.out.1]; exact Tx.plain_all HS.out.2 (fun j c hj hc => HK.out j c (by have := HL.out.2; omega) hc))
            go_wp2
            go_ret
            exact ⟨by rw [HE.out]; rfl, HB.out⟩
    · have i1 : ¬ (1 : Int) < (s.size : Int) := by omega
      have HS : Hid (Tx.plain t = r ∧ Tx.head t = true) := Lib.hid ⟨hr, Tx.head_one (by omega)⟩
      clear hr ht hl hz
      go_enter Tryz.func71, Tryz.ntmps71
      go_wp2_with fail
      go_loopw [3, 18] (fun _ i wr => ∃ k : Nat, i = .int .i64 k ∧ k ≤ s.size ∧ Hid (∀ j c, j < k → t[j]? = some c → Tx.dig c = true) ∧ Hid (Below w.heap.size w wr)) (fun _ i _ => s.size - (intOf i).toNat)
      case atStart => exact ⟨0, rfl, by omega, Lib.hid (fun j c hj => by omega), Lib.hid (Below.refl _ _)⟩
      case round =>
        obtain ⟨k, rfl, hk, HK, HB⟩ := hrel
        have k0 : (0 : Int) ≤ (k : Int) := by omega
        by_cases hks : k < s.size
        · have kI : (k : Int) < (s.size : Int) := by omega
          obtain ⟨b, hb⟩ : ∃ b, s[k] = b := ⟨_, rfl⟩
          have hbl : t[k]? = some b := by rw [← HL.out.1, ← hb, List.getElem?_eq_getElem (by simpa using hks)]; rfl
          obtain ⟨x, hxn⟩ : ∃ x, b.toNat = x := ⟨_, rfl⟩
          have cb : (s[k].toNat : Int) = (x : Int) := by rw [hb, hxn]
          have w1 : IntKind.i64.wrap ((k : Int) + 1) = (k : Int) + 1 := IntWalk.i64_in _ (by omega)
          clear hb
          by_cases a1 : 48 ≤ x
          · have j1 : ¬ (x : Int) < 48 := by omega
            by_cases a2 : x ≤ 57
            · have j2 : ¬ (57 : Int) < (x : Int) := by omega
              have HX : Hid (t[k]? = some b ∧ Tx.dig b = true ∧ b.toNat = x) := Lib.hid ⟨hbl, by unfold Tx.dig; rw [hxn]; simp; omega, hxn⟩
              clear hbl hxn
              have HK2 : Hid (∀ j c, j < k + 1 → t[j]? = some c → Tx.dig c = true) := Lib.hid (fun j c hj hc => by
                by_cases e : j = k
                · rw [e, HX.out.1] at hc; injection hc with hc; rw [← hc]; exact HX.out.2.1
                · exact HK.out j c (by omega) hc)
              go_wp2
              refine ⟨?_, ?measure⟩
              case measure => simp [intOf]; omega
              first
                | exact ⟨k + 1, by go_num, by omega, HK2, HB⟩
                | ((repeat apply Exists.intro); exact ⟨⟨k + 1, by go_num, by omega, HK2, HB⟩, rfl⟩)
            · have j2 : (57 : Int) < (x : Int) := by omega
              have HX : Hid (t[k]? = some b ∧ Tx.dig b = false) := Lib.hid ⟨hbl, by unfold Tx.dig; rw [hxn]; simp; try omega⟩
              clear hbl hxn
              have HE : Hid (r = false) := Lib.hid (by rw [← HS.out.1]; exact Tx.plain_not HX.out.1 HX.out.2)
              go_wp2
              go_ret
              exact ⟨by rw [HE.out]; rfl, HB.out⟩
          · have j1 : (x : Int) < 48 := by omega
            have HX : Hid (t[k]? = some b ∧ Tx.dig b = false) := Lib.hid ⟨hbl, by unfold Tx.dig; rw [hxn]; simp; try omega⟩
            clear hbl hxn
            have HE : Hid (r = false) := Lib.hid (by rw [← HS.out.1]; exact Tx.plain_not HX.out.1 HX.out.2)
            go_wp2
            go_ret
            exact ⟨by rw [HE.out]; rfl, HB.out⟩
        · have kI : ¬ (k : Int) < (s.size : Int) := by omega
          have HE : Hid (r = true) := Lib.hid (by rw [← HS.out.1]; exact Tx.plain_all HS.out.2 (fun j c hj hc => HK.out j c (by have := HL.out.2; omega) hc))
          go_wp2
          go_ret
          exact ⟨by rw [HE.out]; rfl, HB.out⟩
  · obtain rfl := txn_none h0
    obtain rfl : false = r := by rw [← hr, ← ht]; rfl
    clear hr h0 ht
    go_enter Tryz.func71, Tryz.ntmps71
    go_wp2_with fail
    go_ret
    exact ⟨rfl, Below.refl _ _⟩
end Go.Proofs.YtfhhkmjjifbfeaaGreatDoor
