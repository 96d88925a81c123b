/- P8.1, P8.3: each pattern that may match matches a text that is as short as it says, and without runs none that is longer. No condition. -/
import Derived.Test.YtjedjnpepjdgeaaOpen
import Derived.WalkKit
import Derived.ProofKit
import Derived.OpenShut
import Derived.Test.YtjedjnpepjdgeaaLg16
import Derived.Test.YtjedjnpepjdgeaaCsParts
namespace Go.Proofs.Ytjedjnpepjdgeaa.langLeast
open Go.Joins Go.ChangeShapes Go.WideShapes Go.ChangeAt Go.RowKit Go.Deep
open Go.ChangeMaps (open_string)
set_option linter.unusedSimpArgs false
set_option linter.unusedVariables false

theorem short_len : ∀ l : List (Bool × BitVec 256), (Lg.short l).length ≤ l.length
  | [] => by simp [Lg.short]
  | x :: l => by
    have := short_len l
    have h1 : (if x.1 then [] else (Cs.memT x.2 256).getLast?.toList).length ≤ 1 := by
      cases x.1 with
      | true => simp
      | false => cases (Cs.memT x.2 256).getLast? <;> simp
    unfold Lg.short at this ⊢
    rw [List.flatMap_cons, List.length_append, List.length_cons]
    omega
theorem short_take {l : List (Bool × BitVec 256)} {k : Nat} {x : Bool × BitVec 256} (h : l[k]? = some x) : Lg.short (l.take (k + 1)) = Lg.short (l.take k) ++ (if x.1 then [] else (Cs.memT x.2 256).getLast?.toList) := by
  rw [List.take_add_one, h, ← short_snoc]; rfl
theorem runs_take {l : List (Bool × BitVec 256)} {k : Nat} {x : Bool × BitVec 256} (h : l[k]? = some x) : (l.take (k + 1)).any (fun x => x.1) = ((l.take k).any (fun x => x.1) || x.1) := by
  rw [List.take_add_one, h, List.any_append]; simp
theorem last_text {tx lx : ByteArray} {M : List UInt8} {q q1 : Nat} (h : tx.data.toList = M) (hq : tx.size = q) (hq1 : q = q1 + 1) (hl : tx.extract q1 q = lx) : lx.data.toList = M.getLast?.toList ∧ lx.size ≤ 1 := by
  have e : lx.data.toList = M.drop q1 := by
    have := ext_drop hq hl
    rw [this, h]
  have hM : M.length = q1 + 1 := by rw [← h]; simp; omega
  have e2 : M.drop q1 = M.getLast?.toList := by
    obtain ⟨a, ha⟩ : ∃ a, M[q1]? = some a := ⟨_, List.getElem?_eq_getElem (by omega)⟩
    rw [List.getLast?_eq_getElem?, hM, Nat.add_sub_cancel, ha, List.drop_eq_getElem_cons (by omega), List.drop_eq_nil_of_le (by omega)]
    rw [List.getElem?_eq_getElem (by omega)] at ha
    have := Option.some.inj ha
    rw [this]; rfl
  refine ⟨by rw [e, e2], ?_⟩
  rw [size_of e, List.length_drop]; omega
set_option maxRecDepth 20000 in
set_option maxHeartbeats 16000000 in

theorem walk (a0 : Option Addr) (len0 cap0 : Nat) (z0 : List (Bool × BitVec 256)) (a1 : ByteArray) (w : World) (w0 : IsIt w a0 len0 cap0 z0) (w1 : a1.size ≤ maxLen) :
    Calls Try.prog 6 #[.slice a0 len0 cap0, .string a1] w fun e w' => e = .returned (.bool true) ∧ Below w.heap.size w w' := by
  obtain ⟨L, hL⟩ : ∃ L, z0.take 8 = L := ⟨_, rfl⟩
  obtain ⟨n, hn⟩ : ∃ n, L.length = n := ⟨_, rfl⟩
  have hnm : n ≤ 8 := by rw [← hn, ← hL, List.length_take]; omega
  have hn6 : n ≤ 1000000 := by omega
  have hn3 : n ≤ 1000 := by omega
  have HI := Lib.hid (items_in w0)
  obtain ⟨s, hs⟩ : ∃ s, cutT a1 12 = s := ⟨_, rfl⟩
  have hs6 : s.size ≤ 12 := by rw [← hs]; exact cutT_le _ _
  have hs3 : s.size ≤ 1000 := by omega
  have hs1 : s.size ≤ 1000000 := by omega
  obtain ⟨t, ht⟩ : ∃ t, s.data.toList = t := ⟨_, rfl⟩
  obtain ⟨N, hN⟩ : ∃ N, s.size = N := ⟨_, rfl⟩
  obtain ⟨m, hm⟩ : ∃ m, Lg.least L = m := ⟨_, rfl⟩
  have hNt : t.length = N := by rw [← ht]; simpa using hN
  have HS : Hid (cutT a1 12 = s ∧ s.data.toList = t) := Lib.hid ⟨hs, ht⟩
  have HM := Lib.hid hm
  have HNt := Lib.hid hNt
  cases hg : goodB L with
  | false =>
    have HN : Hid (z0.take 8 = L ∧ L.length = n ∧ goodB L = false) := Lib.hid ⟨hL, hn, hg⟩
    clear hL hn hg hs ht hNt hm
    go_enter Try.func6, Try.ntmps6
    go_wp2_with (first
      | (go_at_call 15; with_reducible refine (fewm_first 8 (by omega) z0 L HN.out.1 n HN.out.2.1 a0 len0 cap0 HI.out.1 HI.out.2.1 8 rfl _ HI.out.2.2).mono ?_; rintro e W1 ⟨a, c0, rfl, ha, hb1⟩; have HB := Lib.hid (And.intro ha hb1); have HP := Lib.hid ha; clear ha hb1)
      | (go_at_call 16; with_reducible refine (cut_m a1 s 12 (by omega) w1 HS.out.1 12 rfl _).mono ?_; rintro e W1 ⟨rfl, hb1⟩; first | (replace HB := Lib.hid (And.intro (HB.out.1.below hb1) (HB.out.2.trans (hb1.mono HB.out.2.size))); replace HP := Lib.hid (IK.below HP.out hb1); clear hb1) | clear hb1)
      | (go_at_call 17; with_reducible refine (rg_good L false HN.out.2.2 a n c0 HN.out.2.1 hn6 _ HB.out.1.li).mono ?_; rintro e W1 ⟨rfl, hb1⟩; replace HB := Lib.hid (And.intro (HB.out.1.below hb1) (HB.out.2.trans (hb1.mono HB.out.2.size))); replace HP := Lib.hid (IK.below HP.out hb1); clear hb1)
      | (go_at_call 18; with_reducible refine (lg_lives _).mono ?_; rintro e W1 ⟨rfl, hb1⟩; replace HB := Lib.hid (And.intro (HB.out.1.below hb1) (HB.out.2.trans (hb1.mono HB.out.2.size))); replace HP := Lib.hid (IK.below HP.out hb1); clear hb1))
    go_ret
    exact ⟨rfl, HB.out.2⟩
  | true =>
    have HN : Hid (z0.take 8 = L ∧ L.length = n ∧ goodB L = true) := Lib.hid ⟨hL, hn, hg⟩
    clear hL hn hg hs ht hNt hm
    go_enter Try.func6, Try.ntmps6
    go_upto_region 5 with (first
      | (go_at_call 15; with_reducible refine (fewm_first 8 (by omega) z0 L HN.out.1 n HN.out.2.1 a0 len0 cap0 HI.out.1 HI.out.2.1 8 rfl _ HI.out.2.2).mono ?_; rintro e W1 ⟨a, c0, rfl, ha, hb1⟩; have HB := Lib.hid (And.intro ha hb1); have HP := Lib.hid ha; clear ha hb1)
      | (go_at_call 16; with_reducible refine (cut_m a1 s 12 (by omega) w1 HS.out.1 12 rfl _).mono ?_; rintro e W1 ⟨rfl, hb1⟩; first | (replace HB := Lib.hid (And.intro (HB.out.1.below hb1) (HB.out.2.trans (hb1.mono HB.out.2.size))); replace HP := Lib.hid (IK.below HP.out hb1); clear hb1) | clear hb1)
      | (go_at_call 17; with_reducible refine (rg_good L true HN.out.2.2 a n c0 HN.out.2.1 hn6 _ HB.out.1.li).mono ?_; rintro e W1 ⟨rfl, hb1⟩; replace HB := Lib.hid (And.intro (HB.out.1.below hb1) (HB.out.2.trans (hb1.mono HB.out.2.size))); replace HP := Lib.hid (IK.below HP.out hb1); clear hb1)
      | (go_at_call 18; with_reducible refine (lg_lives _).mono ?_; rintro e W1 ⟨rfl, hb1⟩; replace HB := Lib.hid (And.intro (HB.out.1.below hb1) (HB.out.2.trans (hb1.mono HB.out.2.size))); replace HP := Lib.hid (IK.below HP.out hb1); clear hb1))
    clear HP
    go_wp2_with fail
    go_loopw [5, 6, 7] (fun sv rv i wr => ∃ (k : Nat) (sh : ByteArray), i = .int .i64 k ∧ sv = .string sh ∧ rv = .bool ((L.take k).any (fun x => x.1)) ∧ k ≤ n ∧ Hid (sh.data.toList = Lg.short (L.take k)) ∧ Hid (IK wr a L ∧ Below w.heap.size w wr)) (fun _ _ i _ => n - (intOf i).toNat)
    case atStart => exact ⟨0, { data := #[] }, rfl, rfl, rfl, by omega, Lib.hid rfl, HB⟩
    case round =>
      clear HB
      obtain ⟨k, sh, rfl, rfl, rfl, hk, HSH0, HB⟩ := hrel
      have k0 : (0 : Int) ≤ (k : Int) := by omega
      obtain ⟨rb, hrb⟩ : ∃ rb, (L.take k).any (fun x => x.1) = rb := ⟨_, rfl⟩
      have HRB := Lib.hid hrb
      rw [hrb]
      clear hrb
      have hshk : sh.size ≤ 8 := by
        rw [size_of HSH0.out]
        have := short_len (L.take k)
        rw [List.length_take] at this
        omega
      by_cases hkn : k < n
      · obtain ⟨x, hx⟩ : ∃ x, L[k]? = some x := ⟨_, List.getElem?_eq_getElem (by rw [HN.out.2.1]; exact hkn)⟩
        obtain ⟨r, X⟩ := x
        have HX := Lib.hid hx
        obtain ⟨gi, o, ha, hgi, z0', z1, z2, z3, z4⟩ := (show IA wr a L from HB.out.1.ia).cell hx
        subst ha
        dsimp only at z0' z1 z2 z3 z4
        obtain ⟨tx, htx⟩ := text_mk (Cs.memT X 256)
        have HTX := Lib.hid htx
        clear hx htx hgi
        cases rb with
        | true =>
          cases r with
          | true =>
            have HRN : Hid ((L.take (k + 1)).any (fun x => x.1) = true) := Lib.hid (by rw [runs_take HX.out, HRB.out]; simp)
            have HSH : Hid (sh.data.toList = Lg.short (L.take (k + 1))) := Lib.hid (by rw [short_take HX.out, HSH0.out]; simp)
            go_wp2_with (go_at_call 33; rw [sv_def X]; refine (rf_bytes X tx HTX.out _).mono ?_; rintro e W1 ⟨rfl, hb1⟩; replace HB := Lib.hid (And.intro (HB.out.1.below hb1) (HB.out.2.trans (hb1.mono HB.out.2.size))); clear hb1 z0' z1 z2 z3 z4; have y0 := (IA.at HB.out.1.ia HX.out).1; dsimp only at y0)
            refine ⟨?_, ?measure⟩
            case measure => simp [intOf]; omega
            first
              | exact ⟨k + 1, sh, by go_num, rfl, by rw [HRN.out]; rfl, by omega, HSH, HB⟩
              | exact ⟨k + 1, sh, by go_num, rfl, by rw [HRN.out], by omega, HSH, HB⟩
              | ((repeat apply Exists.intro); exact ⟨⟨k + 1, sh, by go_num, rfl, by rw [HRN.out]; rfl, by omega, HSH, HB⟩, rfl⟩)
          | false =>
            have HRN : Hid ((L.take (k + 1)).any (fun x => x.1) = true) := Lib.hid (by rw [runs_take HX.out, HRB.out]; rfl)
            by_cases hX : X = 0
            · have hm0 : Cs.memT X 256 = [] := (memT_nil X).2 hX
              have he : tx.toList.isEmpty = true := by rw [Lib.toList_data, HTX.out, hm0]; rfl
              have HSH : Hid (sh.data.toList = Lg.short (L.take (k + 1))) := Lib.hid (by rw [short_take HX.out, HSH0.out]; simp [hm0])
              clear hX hm0
              go_wp2_with (go_at_call 33; rw [sv_def X]; refine (rf_bytes X tx HTX.out _).mono ?_; rintro e W1 ⟨rfl, hb1⟩; replace HB := Lib.hid (And.intro (HB.out.1.below hb1) (HB.out.2.trans (hb1.mono HB.out.2.size))); clear hb1 z0' z1 z2 z3 z4; have y0 := (IA.at HB.out.1.ia HX.out).1; dsimp only at y0)
              refine ⟨?_, ?measure⟩
              case measure => simp [intOf]; omega
              first
                | exact ⟨k + 1, sh, by go_num, rfl, by rw [HRN.out]; rfl, by omega, HSH, HB⟩
                | exact ⟨k + 1, sh, by go_num, rfl, by rw [HRN.out], by omega, HSH, HB⟩
                | ((repeat apply Exists.intro); exact ⟨⟨k + 1, sh, by go_num, rfl, by rw [HRN.out]; rfl, by omega, HSH, HB⟩, rfl⟩)
            · obtain ⟨q, hq⟩ : ∃ q, tx.size = q := ⟨_, rfl⟩
              have hq0 : 0 < q := by
                have : tx.size = (Cs.memT X 256).length := size_of HTX.out
                have h2 : (Cs.memT X 256).length ≠ 0 := fun h => hX ((memT_nil X).1 (List.eq_nil_of_length_eq_zero h))
                omega
              have hq1 : q ≤ 256 := by
                have : tx.size = (Cs.memT X 256).length := size_of HTX.out
                have := Cs.memT_le X
                omega
              have he : tx.toList.isEmpty = false := by
                rw [Lib.toList_data]
                cases hm : tx.data.toList with
                | nil => have := size_of hm; rw [List.length_nil] at this; omega
                | cons y ys => rfl
              have wq : IntKind.i64.wrap ((q : Int) - 1) = (q : Int) - 1 := IntWalk.i64_in _ (by omega)
              obtain ⟨q1, hqa, hqb⟩ : ∃ q1, q ≤ q1 + 1 ∧ q1 + 1 ≤ q := ⟨q - 1, by omega, by omega⟩
              have wq1 : (q : Int) - 1 = (q1 : Int) := by omega
              obtain ⟨lx, hlx⟩ : ∃ lx, tx.extract q1 q = lx := ⟨_, rfl⟩
              have HLX : Hid (lx.data.toList = (Cs.memT X 256).getLast?.toList ∧ lx.size ≤ 1) := Lib.hid (last_text HTX.out hq (by omega) hlx)
              have hl1 : lx.size ≤ 1 := HLX.out.2
              have HSH : Hid ((sh ++ lx).data.toList = Lg.short (L.take (k + 1))) := Lib.hid (by rw [short_take HX.out, ← HSH0.out]; simp [HLX.out.1])
              clear hX
              go_wp2_with (go_at_call 33; rw [sv_def X]; refine (rf_bytes X tx HTX.out _).mono ?_; rintro e W1 ⟨rfl, hb1⟩; replace HB := Lib.hid (And.intro (HB.out.1.below hb1) (HB.out.2.trans (hb1.mono HB.out.2.size))); clear hb1 z0' z1 z2 z3 z4; have y0 := (IA.at HB.out.1.ia HX.out).1; dsimp only at y0)
              refine ⟨?_, ?measure⟩
              case measure => simp [intOf]; omega
              first
                | exact ⟨k + 1, sh ++ lx, by go_num, rfl, by rw [HRN.out]; rfl, by omega, HSH, HB⟩
                | exact ⟨k + 1, sh ++ lx, by go_num, rfl, by rw [HRN.out], by omega, HSH, HB⟩
                | ((repeat apply Exists.intro); exact ⟨⟨k + 1, sh ++ lx, by go_num, rfl, by rw [HRN.out]; rfl, by omega, HSH, HB⟩, rfl⟩)
        | false =>
          cases r with
          | true =>
            have HRN : Hid ((L.take (k + 1)).any (fun x => x.1) = true) := Lib.hid (by rw [runs_take HX.out, HRB.out]; simp)
            have HSH : Hid (sh.data.toList = Lg.short (L.take (k + 1))) := Lib.hid (by rw [short_take HX.out, HSH0.out]; simp)
            go_wp2_with (go_at_call 33; rw [sv_def X]; refine (rf_bytes X tx HTX.out _).mono ?_; rintro e W1 ⟨rfl, hb1⟩; replace HB := Lib.hid (And.intro (HB.out.1.below hb1) (HB.out.2.trans (hb1.mono HB.out.2.size))); clear hb1 z0' z1 z2 z3 z4; have y0 := (IA.at HB.out.1.ia HX.out).1; dsimp only at y0)
            refine ⟨?_, ?measure⟩
            case measure => simp [intOf]; omega
            first
              | exact ⟨k + 1, sh, by go_num, rfl, by rw [HRN.out]; rfl, by omega, HSH, HB⟩
              | exact ⟨k + 1, sh, by go_num, rfl, by rw [HRN.out], by omega, HSH, HB⟩
              | ((repeat apply Exists.intro); exact ⟨⟨k + 1, sh, by go_num, rfl, by rw [HRN.out]; rfl, by omega, HSH, HB⟩, rfl⟩)
          | false =>
            have HRN : Hid ((L.take (k + 1)).any (fun x => x.1) = false) := Lib.hid (by rw [runs_take HX.out, HRB.out]; rfl)
            by_cases hX : X = 0
            · have hm0 : Cs.memT X 256 = [] := (memT_nil X).2 hX
              have he : tx.toList.isEmpty = true := by rw [Lib.toList_data, HTX.out, hm0]; rfl
              have HSH : Hid (sh.data.toList = Lg.short (L.take (k + 1))) := Lib.hid (by rw [short_take HX.out, HSH0.out]; simp [hm0])
              clear hX hm0
              go_wp2_with (go_at_call 33; rw [sv_def X]; refine (rf_bytes X tx HTX.out _).mono ?_; rintro e W1 ⟨rfl, hb1⟩; replace HB := Lib.hid (And.intro (HB.out.1.below hb1) (HB.out.2.trans (hb1.mono HB.out.2.size))); clear hb1 z0' z1 z2 z3 z4; have y0 := (IA.at HB.out.1.ia HX.out).1; dsimp only at y0)
              refine ⟨?_, ?measure⟩
              case measure => simp [intOf]; omega
              first
                | exact ⟨k + 1, sh, by go_num, rfl, by rw [HRN.out]; rfl, by omega, HSH, HB⟩
                | exact ⟨k + 1, sh, by go_num, rfl, by rw [HRN.out], by omega, HSH, HB⟩
                | ((repeat apply Exists.intro); exact ⟨⟨k + 1, sh, by go_num, rfl, by rw [HRN.out]; rfl, by omega, HSH, HB⟩, rfl⟩)
            · obtain ⟨q, hq⟩ : ∃ q, tx.size = q := ⟨_, rfl⟩
              have hq0 : 0 < q := by
                have : tx.size = (Cs.memT X 256).length := size_of HTX.out
                have h2 : (Cs.memT X 256).length ≠ 0 := fun h => hX ((memT_nil X).1 (List.eq_nil_of_length_eq_zero h))
                omega
              have hq1 : q ≤ 256 := by
                have : tx.size = (Cs.memT X 256).length := size_of HTX.out
                have := Cs.memT_le X
                omega
              have he : tx.toList.isEmpty = false := by
                rw [Lib.toList_data]
                cases hm : tx.data.toList with
                | nil => have := size_of hm; rw [List.length_nil] at this; omega
                | cons y ys => rfl
              have wq : IntKind.i64.wrap ((q : Int) - 1) = (q : Int) - 1 := IntWalk.i64_in _ (by omega)
              obtain ⟨q1, hqa, hqb⟩ : ∃ q1, q ≤ q1 + 1 ∧ q1 + 1 ≤ q := ⟨q - 1, by omega, by omega⟩
              have wq1 : (q : Int) - 1 = (q1 : Int) := by omega
              obtain ⟨lx, hlx⟩ : ∃ lx, tx.extract q1 q = lx := ⟨_, rfl⟩
              have HLX : Hid (lx.data.toList = (Cs.memT X 256).getLast?.toList ∧ lx.size ≤ 1) := Lib.hid (last_text HTX.out hq (by omega) hlx)
              have hl1 : lx.size ≤ 1 := HLX.out.2
              have HSH : Hid ((sh ++ lx).data.toList = Lg.short (L.take (k + 1))) := Lib.hid (by rw [short_take HX.out, ← HSH0.out]; simp [HLX.out.1])
              clear hX
              go_wp2_with (go_at_call 33; rw [sv_def X]; refine (rf_bytes X tx HTX.out _).mono ?_; rintro e W1 ⟨rfl, hb1⟩; replace HB := Lib.hid (And.intro (HB.out.1.below hb1) (HB.out.2.trans (hb1.mono HB.out.2.size))); clear hb1 z0' z1 z2 z3 z4; have y0 := (IA.at HB.out.1.ia HX.out).1; dsimp only at y0)
              refine ⟨?_, ?measure⟩
              case measure => simp [intOf]; omega
              first
                | exact ⟨k + 1, sh ++ lx, by go_num, rfl, by rw [HRN.out]; rfl, by omega, HSH, HB⟩
                | exact ⟨k + 1, sh ++ lx, by go_num, rfl, by rw [HRN.out], by omega, HSH, HB⟩
                | ((repeat apply Exists.intro); exact ⟨⟨k + 1, sh ++ lx, by go_num, rfl, by rw [HRN.out]; rfl, by omega, HSH, HB⟩, rfl⟩)
      · obtain rfl : k = n := by omega
        have hTk : L.take k = L := List.take_of_length_le (by rw [HN.out.2.1]; omega)
        have HSH1 : Hid (sh.data.toList = Lg.short L) := Lib.hid (by rw [HSH0.out, hTk])
        have HP : Hid (IK wr a L) := Lib.hid HB.out.1
        have hsh6 : sh.size ≤ 1000000 := by omega
        obtain ⟨qs, hqs⟩ : ∃ qs, sh.size = qs := ⟨_, rfl⟩
        obtain ⟨v, hv⟩ : ∃ v, Lg.void L = v := ⟨_, rfl⟩
        have HV := Lib.hid hv
        clear hv hTk
        cases v with
        | true =>
          cases rb with
          | true =>
            go_upto_region 14 with (first
              | (go_at_call 15; with_reducible refine (fewm_again 8 (by omega) L k HN.out.2.1 hnm a c0 8 rfl _ HB.out.1.ia).mono ?_; rintro e W1 ⟨p, cp, rfl, hp, hb1⟩; replace HB := Lib.hid (And.intro (HB.out.1.below hb1) (HB.out.2.trans (hb1.mono HB.out.2.size))); replace HP := Lib.hid (IK.below HP.out hb1); clear hb1; clear HP; have HP := Lib.hid hp; clear hp)
              | (go_at_call 24; with_reducible refine (rg_void L true HV.out k a c0 HN.out.2.1 hn6 _ HB.out.1.ia).mono ?_; rintro e W1 ⟨rfl, hb1⟩; replace HB := Lib.hid (And.intro (HB.out.1.below hb1) (HB.out.2.trans (hb1.mono HB.out.2.size))); replace HP := Lib.hid (IK.below HP.out hb1); clear hb1)
              | (go_at_call 21; with_reducible refine (lg_least L m HM.out k p cp HN.out.2.1 hn6 _ HP.out.ia).mono ?_; rintro e W1 ⟨rfl, hb1⟩; replace HB := Lib.hid (And.intro (HB.out.1.below hb1) (HB.out.2.trans (hb1.mono HB.out.2.size))); replace HP := Lib.hid (IK.below HP.out hb1); clear hb1)
              | (go_at_call 18; with_reducible refine (lg_lives _).mono ?_; rintro e W1 ⟨rfl, hb1⟩; replace HB := Lib.hid (And.intro (HB.out.1.below hb1) (HB.out.2.trans (hb1.mono HB.out.2.size))); replace HP := Lib.hid (IK.below HP.out hb1); clear hb1))
            go_wp2_with (first
              | (go_at_call 15; with_reducible refine (fewm_again 8 (by omega) L k HN.out.2.1 hnm a c0 8 rfl _ HB.out.1.ia).mono ?_; rintro e W1 ⟨p, cp, rfl, hp, hb1⟩; replace HB := Lib.hid (And.intro (HB.out.1.below hb1) (HB.out.2.trans (hb1.mono HB.out.2.size))); replace HP := Lib.hid (IK.below HP.out hb1); clear hb1; clear HP; have HP := Lib.hid hp; clear hp)
              | (go_at_call 24; with_reducible refine (rg_void L true HV.out k a c0 HN.out.2.1 hn6 _ HB.out.1.ia).mono ?_; rintro e W1 ⟨rfl, hb1⟩; replace HB := Lib.hid (And.intro (HB.out.1.below hb1) (HB.out.2.trans (hb1.mono HB.out.2.size))); replace HP := Lib.hid (IK.below HP.out hb1); clear hb1)
              | (go_at_call 21; with_reducible refine (lg_least L m HM.out k p cp HN.out.2.1 hn6 _ HP.out.ia).mono ?_; rintro e W1 ⟨rfl, hb1⟩; replace HB := Lib.hid (And.intro (HB.out.1.below hb1) (HB.out.2.trans (hb1.mono HB.out.2.size))); replace HP := Lib.hid (IK.below HP.out hb1); clear hb1)
              | (go_at_call 18; with_reducible refine (lg_lives _).mono ?_; rintro e W1 ⟨rfl, hb1⟩; replace HB := Lib.hid (And.intro (HB.out.1.below hb1) (HB.out.2.trans (hb1.mono HB.out.2.size))); replace HP := Lib.hid (IK.below HP.out hb1); clear hb1))
            go_ret
            exact ⟨rfl, HB.out.2⟩
          | false =>
            obtain ⟨b, hb⟩ : ∃ b, Lg.m L t = b := ⟨_, rfl⟩
            have HBM := Lib.hid hb
            cases b with
            | false =>
              clear hb
              go_upto_region 14 with (first
                | (go_at_call 15; with_reducible refine (fewm_again 8 (by omega) L k HN.out.2.1 hnm a c0 8 rfl _ HB.out.1.ia).mono ?_; rintro e W1 ⟨p, cp, rfl, hp, hb1⟩; replace HB := Lib.hid (And.intro (HB.out.1.below hb1) (HB.out.2.trans (hb1.mono HB.out.2.size))); replace HP := Lib.hid (IK.below HP.out hb1); clear hb1; clear HP; have HP := Lib.hid hp; clear hp)
                | (go_at_call 24; with_reducible refine (rg_void L true HV.out k a c0 HN.out.2.1 hn6 _ HB.out.1.ia).mono ?_; rintro e W1 ⟨rfl, hb1⟩; replace HB := Lib.hid (And.intro (HB.out.1.below hb1) (HB.out.2.trans (hb1.mono HB.out.2.size))); replace HP := Lib.hid (IK.below HP.out hb1); clear hb1)
                | (go_at_call 21; with_reducible refine (lg_least L m HM.out k p cp HN.out.2.1 hn6 _ HP.out.ia).mono ?_; rintro e W1 ⟨rfl, hb1⟩; replace HB := Lib.hid (And.intro (HB.out.1.below hb1) (HB.out.2.trans (hb1.mono HB.out.2.size))); replace HP := Lib.hid (IK.below HP.out hb1); clear hb1)
                | (go_at_call 19; with_reducible refine (lg_matches L s t hs1 HS.out.2 false HBM.out k p cp HN.out.2.1 hn6 _ HP.out.ia).mono ?_; rintro e W1 ⟨rfl, hb1⟩; replace HB := Lib.hid (And.intro (HB.out.1.below hb1) (HB.out.2.trans (hb1.mono HB.out.2.size))); replace HP := Lib.hid (IK.below HP.out hb1); clear hb1)
                | (go_at_call 18; with_reducible refine (lg_lives _).mono ?_; rintro e W1 ⟨rfl, hb1⟩; replace HB := Lib.hid (And.intro (HB.out.1.below hb1) (HB.out.2.trans (hb1.mono HB.out.2.size))); replace HP := Lib.hid (IK.below HP.out hb1); clear hb1))
              go_wp2_with (first
                | (go_at_call 15; with_reducible refine (fewm_again 8 (by omega) L k HN.out.2.1 hnm a c0 8 rfl _ HB.out.1.ia).mono ?_; rintro e W1 ⟨p, cp, rfl, hp, hb1⟩; replace HB := Lib.hid (And.intro (HB.out.1.below hb1) (HB.out.2.trans (hb1.mono HB.out.2.size))); replace HP := Lib.hid (IK.below HP.out hb1); clear hb1; clear HP; have HP := Lib.hid hp; clear hp)
                | (go_at_call 24; with_reducible refine (rg_void L true HV.out k a c0 HN.out.2.1 hn6 _ HB.out.1.ia).mono ?_; rintro e W1 ⟨rfl, hb1⟩; replace HB := Lib.hid (And.intro (HB.out.1.below hb1) (HB.out.2.trans (hb1.mono HB.out.2.size))); replace HP := Lib.hid (IK.below HP.out hb1); clear hb1)
                | (go_at_call 21; with_reducible refine (lg_least L m HM.out k p cp HN.out.2.1 hn6 _ HP.out.ia).mono ?_; rintro e W1 ⟨rfl, hb1⟩; replace HB := Lib.hid (And.intro (HB.out.1.below hb1) (HB.out.2.trans (hb1.mono HB.out.2.size))); replace HP := Lib.hid (IK.below HP.out hb1); clear hb1)
                | (go_at_call 19; with_reducible refine (lg_matches L s t hs1 HS.out.2 false HBM.out k p cp HN.out.2.1 hn6 _ HP.out.ia).mono ?_; rintro e W1 ⟨rfl, hb1⟩; replace HB := Lib.hid (And.intro (HB.out.1.below hb1) (HB.out.2.trans (hb1.mono HB.out.2.size))); replace HP := Lib.hid (IK.below HP.out hb1); clear hb1)
                | (go_at_call 18; with_reducible refine (lg_lives _).mono ?_; rintro e W1 ⟨rfl, hb1⟩; replace HB := Lib.hid (And.intro (HB.out.1.below hb1) (HB.out.2.trans (hb1.mono HB.out.2.size))); replace HP := Lib.hid (IK.below HP.out hb1); clear hb1))
              go_ret
              exact ⟨rfl, HB.out.2⟩
            | true =>
              have := m_void hb
              rw [HV.out] at this
              cases this
        | false =>
          have HOK := Lib.hid (short_ok L HV.out)
          have hqm : qs = m := by rw [← hqs, size_of HSH1.out, HOK.out.2, HM.out]
          cases rb with
          | true =>
            go_upto_region 14 with (first
              | (go_at_call 15; with_reducible refine (fewm_again 8 (by omega) L k HN.out.2.1 hnm a c0 8 rfl _ HB.out.1.ia).mono ?_; rintro e W1 ⟨p, cp, rfl, hp, hb1⟩; replace HB := Lib.hid (And.intro (HB.out.1.below hb1) (HB.out.2.trans (hb1.mono HB.out.2.size))); replace HP := Lib.hid (IK.below HP.out hb1); clear hb1; clear HP; have HP := Lib.hid hp; clear hp)
              | (go_at_call 24; with_reducible refine (rg_void L false HV.out k a c0 HN.out.2.1 hn6 _ HB.out.1.ia).mono ?_; rintro e W1 ⟨rfl, hb1⟩; replace HB := Lib.hid (And.intro (HB.out.1.below hb1) (HB.out.2.trans (hb1.mono HB.out.2.size))); replace HP := Lib.hid (IK.below HP.out hb1); clear hb1)
              | (go_at_call 19; with_reducible refine (lg_matches L sh (Lg.short L) hsh6 HSH1.out true HOK.out.1 k p cp HN.out.2.1 hn6 _ HP.out.ia).mono ?_; rintro e W1 ⟨rfl, hb1⟩; replace HB := Lib.hid (And.intro (HB.out.1.below hb1) (HB.out.2.trans (hb1.mono HB.out.2.size))); replace HP := Lib.hid (IK.below HP.out hb1); clear hb1)
              | (go_at_call 21; with_reducible refine (lg_least L m HM.out k p cp HN.out.2.1 hn6 _ HP.out.ia).mono ?_; rintro e W1 ⟨rfl, hb1⟩; replace HB := Lib.hid (And.intro (HB.out.1.below hb1) (HB.out.2.trans (hb1.mono HB.out.2.size))); replace HP := Lib.hid (IK.below HP.out hb1); clear hb1)
              | (go_at_call 18; with_reducible refine (lg_lives _).mono ?_; rintro e W1 ⟨rfl, hb1⟩; replace HB := Lib.hid (And.intro (HB.out.1.below hb1) (HB.out.2.trans (hb1.mono HB.out.2.size))); replace HP := Lib.hid (IK.below HP.out hb1); clear hb1))
            go_wp2_with (first
              | (go_at_call 15; with_reducible refine (fewm_again 8 (by omega) L k HN.out.2.1 hnm a c0 8 rfl _ HB.out.1.ia).mono ?_; rintro e W1 ⟨p, cp, rfl, hp, hb1⟩; replace HB := Lib.hid (And.intro (HB.out.1.below hb1) (HB.out.2.trans (hb1.mono HB.out.2.size))); replace HP := Lib.hid (IK.below HP.out hb1); clear hb1; clear HP; have HP := Lib.hid hp; clear hp)
              | (go_at_call 24; with_reducible refine (rg_void L false HV.out k a c0 HN.out.2.1 hn6 _ HB.out.1.ia).mono ?_; rintro e W1 ⟨rfl, hb1⟩; replace HB := Lib.hid (And.intro (HB.out.1.below hb1) (HB.out.2.trans (hb1.mono HB.out.2.size))); replace HP := Lib.hid (IK.below HP.out hb1); clear hb1)
              | (go_at_call 19; with_reducible refine (lg_matches L sh (Lg.short L) hsh6 HSH1.out true HOK.out.1 k p cp HN.out.2.1 hn6 _ HP.out.ia).mono ?_; rintro e W1 ⟨rfl, hb1⟩; replace HB := Lib.hid (And.intro (HB.out.1.below hb1) (HB.out.2.trans (hb1.mono HB.out.2.size))); replace HP := Lib.hid (IK.below HP.out hb1); clear hb1)
              | (go_at_call 21; with_reducible refine (lg_least L m HM.out k p cp HN.out.2.1 hn6 _ HP.out.ia).mono ?_; rintro e W1 ⟨rfl, hb1⟩; replace HB := Lib.hid (And.intro (HB.out.1.below hb1) (HB.out.2.trans (hb1.mono HB.out.2.size))); replace HP := Lib.hid (IK.below HP.out hb1); clear hb1)
              | (go_at_call 18; with_reducible refine (lg_lives _).mono ?_; rintro e W1 ⟨rfl, hb1⟩; replace HB := Lib.hid (And.intro (HB.out.1.below hb1) (HB.out.2.trans (hb1.mono HB.out.2.size))); replace HP := Lib.hid (IK.below HP.out hb1); clear hb1))
            go_ret
            exact ⟨rfl, HB.out.2⟩
          | false =>
            obtain ⟨b, hb⟩ : ∃ b, Lg.m L t = b := ⟨_, rfl⟩
            have HBM := Lib.hid hb
            cases b with
            | false =>
              clear hb
              go_upto_region 14 with (first
                | (go_at_call 15; with_reducible refine (fewm_again 8 (by omega) L k HN.out.2.1 hnm a c0 8 rfl _ HB.out.1.ia).mono ?_; rintro e W1 ⟨p, cp, rfl, hp, hb1⟩; replace HB := Lib.hid (And.intro (HB.out.1.below hb1) (HB.out.2.trans (hb1.mono HB.out.2.size))); replace HP := Lib.hid (IK.below HP.out hb1); clear hb1; clear HP; have HP := Lib.hid hp; clear hp)
                | (go_at_call 24; with_reducible refine (rg_void L false HV.out k a c0 HN.out.2.1 hn6 _ HB.out.1.ia).mono ?_; rintro e W1 ⟨rfl, hb1⟩; replace HB := Lib.hid (And.intro (HB.out.1.below hb1) (HB.out.2.trans (hb1.mono HB.out.2.size))); replace HP := Lib.hid (IK.below HP.out hb1); clear hb1)
                | (go_at_call 19; with_reducible refine (lg_matches L sh (Lg.short L) hsh6 HSH1.out true HOK.out.1 k p cp HN.out.2.1 hn6 _ HP.out.ia).mono ?_; rintro e W1 ⟨rfl, hb1⟩; replace HB := Lib.hid (And.intro (HB.out.1.below hb1) (HB.out.2.trans (hb1.mono HB.out.2.size))); replace HP := Lib.hid (IK.below HP.out hb1); clear hb1)
                | (go_at_call 21; with_reducible refine (lg_least L m HM.out k p cp HN.out.2.1 hn6 _ HP.out.ia).mono ?_; rintro e W1 ⟨rfl, hb1⟩; replace HB := Lib.hid (And.intro (HB.out.1.below hb1) (HB.out.2.trans (hb1.mono HB.out.2.size))); replace HP := Lib.hid (IK.below HP.out hb1); clear hb1)
                | (go_at_call 19; with_reducible refine (lg_matches L s t hs1 HS.out.2 false HBM.out k p cp HN.out.2.1 hn6 _ HP.out.ia).mono ?_; rintro e W1 ⟨rfl, hb1⟩; replace HB := Lib.hid (And.intro (HB.out.1.below hb1) (HB.out.2.trans (hb1.mono HB.out.2.size))); replace HP := Lib.hid (IK.below HP.out hb1); clear hb1)
                | (go_at_call 18; with_reducible refine (lg_lives _).mono ?_; rintro e W1 ⟨rfl, hb1⟩; replace HB := Lib.hid (And.intro (HB.out.1.below hb1) (HB.out.2.trans (hb1.mono HB.out.2.size))); replace HP := Lib.hid (IK.below HP.out hb1); clear hb1))
              go_wp2_with (first
                | (go_at_call 15; with_reducible refine (fewm_again 8 (by omega) L k HN.out.2.1 hnm a c0 8 rfl _ HB.out.1.ia).mono ?_; rintro e W1 ⟨p, cp, rfl, hp, hb1⟩; replace HB := Lib.hid (And.intro (HB.out.1.below hb1) (HB.out.2.trans (hb1.mono HB.out.2.size))); replace HP := Lib.hid (IK.below HP.out hb1); clear hb1; clear HP; have HP := Lib.hid hp; clear hp)
                | (go_at_call 24; with_reducible refine (rg_void L false HV.out k a c0 HN.out.2.1 hn6 _ HB.out.1.ia).mono ?_; rintro e W1 ⟨rfl, hb1⟩; replace HB := Lib.hid (And.intro (HB.out.1.below hb1) (HB.out.2.trans (hb1.mono HB.out.2.size))); replace HP := Lib.hid (IK.below HP.out hb1); clear hb1)
                | (go_at_call 19; with_reducible refine (lg_matches L sh (Lg.short L) hsh6 HSH1.out true HOK.out.1 k p cp HN.out.2.1 hn6 _ HP.out.ia).mono ?_; rintro e W1 ⟨rfl, hb1⟩; replace HB := Lib.hid (And.intro (HB.out.1.below hb1) (HB.out.2.trans (hb1.mono HB.out.2.size))); replace HP := Lib.hid (IK.below HP.out hb1); clear hb1)
                | (go_at_call 21; with_reducible refine (lg_least L m HM.out k p cp HN.out.2.1 hn6 _ HP.out.ia).mono ?_; rintro e W1 ⟨rfl, hb1⟩; replace HB := Lib.hid (And.intro (HB.out.1.below hb1) (HB.out.2.trans (hb1.mono HB.out.2.size))); replace HP := Lib.hid (IK.below HP.out hb1); clear hb1)
                | (go_at_call 19; with_reducible refine (lg_matches L s t hs1 HS.out.2 false HBM.out k p cp HN.out.2.1 hn6 _ HP.out.ia).mono ?_; rintro e W1 ⟨rfl, hb1⟩; replace HB := Lib.hid (And.intro (HB.out.1.below hb1) (HB.out.2.trans (hb1.mono HB.out.2.size))); replace HP := Lib.hid (IK.below HP.out hb1); clear hb1)
                | (go_at_call 18; with_reducible refine (lg_lives _).mono ?_; rintro e W1 ⟨rfl, hb1⟩; replace HB := Lib.hid (And.intro (HB.out.1.below hb1) (HB.out.2.trans (hb1.mono HB.out.2.size))); replace HP := Lib.hid (IK.below HP.out hb1); clear hb1))
              go_ret
              exact ⟨rfl, HB.out.2⟩
            | true =>
              have hNm : N = m := by
                have h1 := m_exact (l := L) (t := t) (by have := HRB.out; rw [List.take_of_length_le (by rw [HN.out.2.1]; omega)] at this; exact this) hb
                rw [← HNt.out, h1, HM.out]
              clear hb
              go_upto_region 14 with (first
                | (go_at_call 15; with_reducible refine (fewm_again 8 (by omega) L k HN.out.2.1 hnm a c0 8 rfl _ HB.out.1.ia).mono ?_; rintro e W1 ⟨p, cp, rfl, hp, hb1⟩; replace HB := Lib.hid (And.intro (HB.out.1.below hb1) (HB.out.2.trans (hb1.mono HB.out.2.size))); replace HP := Lib.hid (IK.below HP.out hb1); clear hb1; clear HP; have HP := Lib.hid hp; clear hp)
                | (go_at_call 24; with_reducible refine (rg_void L false HV.out k a c0 HN.out.2.1 hn6 _ HB.out.1.ia).mono ?_; rintro e W1 ⟨rfl, hb1⟩; replace HB := Lib.hid (And.intro (HB.out.1.below hb1) (HB.out.2.trans (hb1.mono HB.out.2.size))); replace HP := Lib.hid (IK.below HP.out hb1); clear hb1)
                | (go_at_call 19; with_reducible refine (lg_matches L sh (Lg.short L) hsh6 HSH1.out true HOK.out.1 k p cp HN.out.2.1 hn6 _ HP.out.ia).mono ?_; rintro e W1 ⟨rfl, hb1⟩; replace HB := Lib.hid (And.intro (HB.out.1.below hb1) (HB.out.2.trans (hb1.mono HB.out.2.size))); replace HP := Lib.hid (IK.below HP.out hb1); clear hb1)
                | (go_at_call 21; with_reducible refine (lg_least L m HM.out k p cp HN.out.2.1 hn6 _ HP.out.ia).mono ?_; rintro e W1 ⟨rfl, hb1⟩; replace HB := Lib.hid (And.intro (HB.out.1.below hb1) (HB.out.2.trans (hb1.mono HB.out.2.size))); replace HP := Lib.hid (IK.below HP.out hb1); clear hb1)
                | (go_at_call 19; with_reducible refine (lg_matches L s t hs1 HS.out.2 true HBM.out k p cp HN.out.2.1 hn6 _ HP.out.ia).mono ?_; rintro e W1 ⟨rfl, hb1⟩; replace HB := Lib.hid (And.intro (HB.out.1.below hb1) (HB.out.2.trans (hb1.mono HB.out.2.size))); replace HP := Lib.hid (IK.below HP.out hb1); clear hb1)
                | (go_at_call 18; with_reducible refine (lg_lives _).mono ?_; rintro e W1 ⟨rfl, hb1⟩; replace HB := Lib.hid (And.intro (HB.out.1.below hb1) (HB.out.2.trans (hb1.mono HB.out.2.size))); replace HP := Lib.hid (IK.below HP.out hb1); clear hb1))
              go_wp2_with (first
                | (go_at_call 15; with_reducible refine (fewm_again 8 (by omega) L k HN.out.2.1 hnm a c0 8 rfl _ HB.out.1.ia).mono ?_; rintro e W1 ⟨p, cp, rfl, hp, hb1⟩; replace HB := Lib.hid (And.intro (HB.out.1.below hb1) (HB.out.2.trans (hb1.mono HB.out.2.size))); replace HP := Lib.hid (IK.below HP.out hb1); clear hb1; clear HP; have HP := Lib.hid hp; clear hp)
                | (go_at_call 24; with_reducible refine (rg_void L false HV.out k a c0 HN.out.2.1 hn6 _ HB.out.1.ia).mono ?_; rintro e W1 ⟨rfl, hb1⟩; replace HB := Lib.hid (And.intro (HB.out.1.below hb1) (HB.out.2.trans (hb1.mono HB.out.2.size))); replace HP := Lib.hid (IK.below HP.out hb1); clear hb1)
                | (go_at_call 19; with_reducible refine (lg_matches L sh (Lg.short L) hsh6 HSH1.out true HOK.out.1 k p cp HN.out.2.1 hn6 _ HP.out.ia).mono ?_; rintro e W1 ⟨rfl, hb1⟩; replace HB := Lib.hid (And.intro (HB.out.1.below hb1) (HB.out.2.trans (hb1.mono HB.out.2.size))); replace HP := Lib.hid (IK.below HP.out hb1); clear hb1)
                | (go_at_call 21; with_reducible refine (lg_least L m HM.out k p cp HN.out.2.1 hn6 _ HP.out.ia).mono ?_; rintro e W1 ⟨rfl, hb1⟩; replace HB := Lib.hid (And.intro (HB.out.1.below hb1) (HB.out.2.trans (hb1.mono HB.out.2.size))); replace HP := Lib.hid (IK.below HP.out hb1); clear hb1)
                | (go_at_call 19; with_reducible refine (lg_matches L s t hs1 HS.out.2 true HBM.out k p cp HN.out.2.1 hn6 _ HP.out.ia).mono ?_; rintro e W1 ⟨rfl, hb1⟩; replace HB := Lib.hid (And.intro (HB.out.1.below hb1) (HB.out.2.trans (hb1.mono HB.out.2.size))); replace HP := Lib.hid (IK.below HP.out hb1); clear hb1)
                | (go_at_call 18; with_reducible refine (lg_lives _).mono ?_; rintro e W1 ⟨rfl, hb1⟩; replace HB := Lib.hid (And.intro (HB.out.1.below hb1) (HB.out.2.trans (hb1.mono HB.out.2.size))); replace HP := Lib.hid (IK.below HP.out hb1); clear hb1))
              go_ret
              exact ⟨rfl, HB.out.2⟩

set_option maxRecDepth 100000 in
theorem lifted (os : Os) (started : os.Started) (H : Type) (enc : TypeId × Value → H) :
    ReturnsInHanded {} Try.checked os 6 .any (Rows.langLeastSpec.pre6 enc Try.prog Try.f6 Rows.langLeastRow.domain false) (Rows.langLeastSpec.post enc Try.prog Try.f6 false true false false) := by
  refine returnsInHanded_of_change (C := Try.checked) ownKn started (by kernel_rfl) Try.func6
    (ChangeSpec.witness6 (enc := enc) (C := Try.checked) false ⟨#[], #[.slice none 0 0, .string ByteArray.empty], []⟩ 8 (by kernel_rfl) (by kernel_rfl) (by kernel_rfl) (by kernel_rfl)) ?_
  intro W base args ds gs before hval0 hW hcnd _
  have hval : ∀ (j : Nat) t v, Try.f6.params[j]? = some t → args[j]? = some v → Value.okWide Try.prog W .any base t v := hval0
  have hW' := hW
  obtain ⟨p, q, hA0, hV, rfl, hfz, hnd⟩ := hW
  have hA : DataW.TrodAll enc Try.prog W 0 (fun _ => true) true Try.f6.params.toList args.toList ds p := hA0
  rw [Try.params6] at hA hval
  obtain ⟨v0, vs0, d0, ds0, p0, q0, hargs, rfl, rfl, h0, r0⟩ := trodAll_cons hA
  obtain ⟨v1, vs1, d1, ds1, p1, q1, rfl, rfl, rfl, h1, r1⟩ := trodAll_cons r0
  obtain ⟨rfl, rfl, rfl⟩ := trodAll_nil r1
  obtain rfl : args = #[v0, v1] := by cases args; simp_all
  obtain ⟨rfl, rfl⟩ := trodVars_none hV
  have k0 := h0
  have lt0 : ∀ x ∈ p0, x.block < W.heap.size := by obtain ⟨m, hm⟩ := k0; exact DataW.trod_lt m _ _ _ hm
  obtain ⟨b0, lb0, cb0, rfl⟩ := okWide_slice Try.underlying22 (hval 0 22 v0 rfl rfl)
  obtain ⟨fu0, hf0⟩ := h0
  simp only [Value.cells] at hf0
  obtain ⟨a0, len0, cap0, z0, e0, w0⟩ := fld_items hf0
  obtain ⟨rfl, rfl, rfl⟩ : b0 = a0 ∧ lb0 = len0 ∧ cb0 = cap0 := by simpa using e0
  have k1 := h1
  have lt1 : ∀ x ∈ p1, x.block < W.heap.size := by obtain ⟨m, hm⟩ := k1; exact DataW.trod_lt m _ _ _ hm
  obtain ⟨a1, rfl, rfl, rfl, w1⟩ := open_string Try.underlying9 (hval 1 9 v1 rfl rfl) h1
  clear hA0 hval0
  refine (walk b0 lb0 cb0 z0 a1 W w0 w1).mono fun e W' ⟨he, bel⟩ => ?_
  subst he
  exact ⟨_, rfl, _, _, _, [], _, [], hW', trodAll_mk1 (shut_bool Try.underlying4 _), (trodAll_cons_mk (Below.trod laidOut (by kernel_rfl) (of_decide_eq_true (by kernel_rfl)) k0 bel lt0) (trodAll_cons_mk (Below.trod laidOut (by kernel_rfl) (of_decide_eq_true (by kernel_rfl)) k1 bel lt1) trodAll_mk0)), rfl, bel.frame _, fun h => by cases h⟩

theorem over : Rows.langLeastRow.holds Try.pinned (OpenSpec.ofChange Rows.langLeastSpec) :=
  OpenClaim.holds_of_wide 6 Try.f6 rfl rfl rfl rfl rfl rfl rfl ⟨rfl, rfl, rfl, rfl, rfl⟩ rfl rfl rfl rfl rfl (by kernel_rfl) Try.func6 (by kernel_rfl)
    (of_decide_eq_true (by kernel_rfl)) (by unfold Func.isWrapper; first | (rw [if_pos (by decide +kernel)]; kernel_rfl) | (rw [if_neg (by decide +kernel)]; exact ⟨rfl, rfl⟩))
    (fun os started H enc _ => lifted os started H enc)

/-- The statement. -/
theorem proved : Rows.LangLeastSaid := over
#print axioms proved
end Go.Proofs.Ytjedjnpepjdgeaa.langLeast
