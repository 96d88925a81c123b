/- P30.2: for every text (cut to 200 bytes): which events its lines are, or which line is none. No condition but what the card ties. ! tab log -/
import Derived.Test.YtfhhkmjjifbfeaaDoorOpen
import Derived.Test.YtfhhkmjjifbfeaaDoorCards
import Derived.Test.YtfhhkmjjifbfeaaDoorTie
import Derived.WalkKit
import Derived.Deep.DeepHandedRow
import Derived.Shelf.Vars
import Derived.Stop.LaidErr
import Derived.Lib.LaidTab
import Derived.ProofKit
import Derived.OpenShut
import Derived.Test.YtfhhkmjjifbfeaaDoorLo18
import Derived.Test.YtfhhkmjjifbfeaaDoorClass
namespace Go.Proofs.YtfhhkmjjifbfeaaDoor.logReads
open Go.Joins Go.ChangeShapes Go.WideShapes Go.ChangeAt Go.RowKit Go.Deep
open Go.ChangeMaps (open_string)
set_option linter.unusedSimpArgs false
set_option linter.unusedVariables false

/-- A row of the law's own, behind a world. -/
structure LY (w0 W : World) (base : Nat) (r : Option Addr) (k c : Nat) (rows : List Value) : Prop where
  rm : RM W base r k c 12 rows 32
  be : Below w0.heap.size w0 W
  lt : w0.heap.size ≤ base
theorem LY.chg {w0 W W' : World} {base : Nat} {r : Option Addr} {k c : Nat} {rows : List Value} (h : LY w0 W base r k c rows) (q : Below W.heap.size W W') : LY w0 W' base r k c rows :=
  ⟨h.rm.chg (l := []) (Chg.of_fresh q) (by simp), h.be.trans (q.mono h.be.size), h.lt⟩
theorem LY.push {w0 W W1 W' : World} {base : Nat} {r : Option Addr} {k c : Nat} {rows : List Value} (h : LY w0 W base r k c rows) {g' c' : Nat} {rows' : List Value} (q : Below W.heap.size W W1) (r1 : RM W' base (some ⟨g', 0, none⟩) (k + 1) c' 12 rows' 32) (r3 : Chg (rvB r) W1 W') : LY w0 W' base (some ⟨g', 0, none⟩) (k + 1) c' rows' := by
  have h1 := h.chg q
  have hb : ∀ g ∈ rvB r, base ≤ g := fun g hg => (h1.rm.lt g hg).1
  have hl := h.lt
  exact ⟨r1, r3.onto h1.be h1.be.size (fun g hg => by have := hb g hg; omega), hl⟩
/-- What Read told: the number of the line that is none, or all events. -/
def Lo.told (W : World) (M : List ByteArray) (m p : Nat) (r : Option Addr) (n3 c : Nat) (v4 v5 : Int) : Prop := (p < m ∧ r = none ∧ n3 = 0 ∧ c = 0 ∧ v4 = (p : Int) + 1 ∧ v5 = 2) ∨ (p = m ∧ n3 = m ∧ v4 = 0 ∧ v5 = 0 ∧ RE W r 12 Ev.c (Lo.evl M))
theorem Lo.told_below {W W' : World} {M : List ByteArray} {m p : Nat} {r : Option Addr} {n3 c : Nat} {v4 v5 : Int} (h : Lo.told W M m p r n3 c v4 v5) (k : Below W.heap.size W W') : Lo.told W' M m p r n3 c v4 v5 := by
  rcases h with h | ⟨h1, h2, h3, h4, h5⟩
  · exact Or.inl h
  · exact Or.inr ⟨h1, h2, h3, h4, h5.below k⟩
theorem lo_readTold (s : ByteArray) (hs : s.size ≤ 4000) (M : List ByteArray) (hM : Lo.lines s.data.toList = M) (m : Nat) (hm : M.length = m) (p : Nat) (hp : Lo.okn M = p) (w : World) (htab : Lib.TabIs Tryd.prog w "internal/strconv.uint64pow10" .u64 Lib.pow10Tab) (hni : NI w) (hwi : WI w) (hsi : SI w) :
    Calls Tryd.prog 5 #[.string s] w fun e w' => ∃ r n3 c v4 v5, e = .returned (.tuple #[.slice r n3 c, .int .i64 v4, .int .i64 v5]) ∧ Lo.told w' M m p r n3 c v4 v5 ∧ Below w.heap.size w w' := by
  refine (lo_readAll s hs M hM m hm p hp w htab hni hwi hsi).mono ?_
  rintro e w' (⟨h1, rfl, h3⟩ | ⟨h1, r, c, rfl, base, h2, h3, h4⟩)
  · exact ⟨_, _, _, _, _, rfl, Or.inl ⟨h1, rfl, rfl, rfl, rfl, rfl⟩, h3⟩
  · exact ⟨_, _, _, _, _, rfl, Or.inr ⟨h1, rfl, rfl, rfl, RE.of_rm h3 (by rw [Lo.evl_len, hm]) Ev.c_len⟩, h4⟩
set_option maxRecDepth 20000 in
set_option maxHeartbeats 16000000 in

theorem walk (a0 : ByteArray) (w : World) (htab : Lib.TabIs Tryd.prog w "internal/strconv.uint64pow10" .u64 Lib.pow10Tab) (hni : NI w) (hwi : WI w) (hsi : SI w) (w0 : a0.size ≤ maxLen) :
    Calls Tryd.prog 3 #[.string a0] w fun e w' => e = .returned (.bool true) ∧ Below w.heap.size w w' := by
  obtain ⟨s, hs⟩ : ∃ s, cutE a0 200 = s := ⟨_, rfl⟩
  have hs200 : s.size ≤ 200 := by rw [← hs]; exact cutE_le _ _
  obtain ⟨L, hL⟩ : ∃ L, Lo.spB 10 s.data.toList = L := ⟨_, rfl⟩
  obtain ⟨N, hN⟩ : ∃ N, L.length = N := ⟨_, rfl⟩
  obtain ⟨M, hM⟩ : ∃ M, Lo.lines s.data.toList = M := ⟨_, rfl⟩
  obtain ⟨m, hm⟩ : ∃ m, M.length = m := ⟨_, rfl⟩
  obtain ⟨p, hp⟩ : ∃ p, Lo.okn M = p := ⟨_, rfl⟩
  have hle := Lo.spB_le 10 s.data.toList
  have hsz : s.data.toList.length = s.size := rfl
  rw [hL, hN] at hle
  have hN5 : N ≤ 201 := by omega
  have hM2 : Lo.trim L = M := by rw [← hL]; exact hM
  obtain ⟨n1, hn1⟩ : ∃ n1, N = n1 + 1 := ⟨N - 1, by omega⟩
  have hT : (m = N ∧ ∀ X, L[n1]? = some X → X ≠ { data := #[] }) ∨ (m + 1 = N ∧ L[m]? = some { data := #[] }) := by
    rw [← hm, ← hM2]
    unfold Lo.trim
    rw [hN, hn1, Nat.add_sub_cancel]
    by_cases h : L[n1]? = some { data := #[] }
    · right
      rw [if_pos h, List.length_take, hN, Nat.min_eq_left (by omega)]
      exact ⟨rfl, h⟩
    · left
      rw [if_neg h]
      exact ⟨by omega, fun X hX e => h (by rw [hX, e])⟩
  have hmN : m ≤ N := by omega
  have hMk : ∀ (j : Nat) (X : ByteArray), M[j]? = some X → L[j]? = some X ∧ X.size ≤ 4000 := fun j X h => by
    have h1 := Lo.trim_at L j X (by rw [hM2]; exact h)
    refine ⟨h1, ?_⟩
    have h2 := hle.2.2 X (List.mem_of_getElem? h1)
    omega
  have hok : ∀ x ∈ Lo.evl M, x.ok := fun x hx => by
    obtain ⟨z, hz, rfl⟩ := List.mem_map.1 hx
    obtain ⟨j, hj⟩ := List.getElem?_of_mem hz
    exact (Lo.parse_evok z (hMk j z hj).2).1
  have HS : Hid (cutE a0 200 = s ∧ s.size ≤ 200 ∧ Lo.spB 10 s.data.toList = L ∧ Lo.lines s.data.toList = M) := Lib.hid ⟨hs, hs200, hL, hM⟩
  have HM : Hid (M.length = m ∧ (∀ (j : Nat) (X : ByteArray), M[j]? = some X → L[j]? = some X ∧ X.size ≤ 4000) ∧ L.length = N ∧ Lo.okn M = p ∧ ∀ x ∈ Lo.evl M, x.ok) := Lib.hid ⟨hm, hMk, hN, hp, hok⟩
  have HT := Lib.hid (And.intro hn1 hT)
  have HI0 := Lib.hid (And.intro htab (And.intro hni (And.intro hwi hsi)))
  have HW := Lib.hid w0
  clear hn1 hs hs200 hL hN hM hm hp hle hsz hM2 hT hMk hok htab hni hwi hsi w0
  go_enter Tryd.func3, Tryd.ntmps3
  go_upto_region 3 with (first
    | (go_at_call 4; (with_reducible refine (ev_cut a0 s 200 (by omega) HW.out HS.out.1 200 rfl _).mono ?_); rintro e1 W1 ⟨rfl, rfl⟩)
    | (go_at_call 5; (with_reducible refine (lo_readTold s (by have := HS.out.2.1; omega) M HS.out.2.2.2 m HM.out.1 p HM.out.2.2.2.1 _ HI0.out.1 HI0.out.2.1 HI0.out.2.2.1 HI0.out.2.2.2).mono ?_); rintro e1 V0 ⟨r3, n3, c3, v4, v5, rfl, q1, q3⟩; have HO := Lib.hid q1; have HQ := Lib.hid q3; clear q1 q3))
  go_upto_region 4 with (go_at_call 6; (with_reducible refine (rx_lines s s.data.toList (by have := HS.out.2.1; omega) rfl (Lx.ls s.data.toList) rfl N (by rw [Lo.ls_sp]; have h := HM.out.2.2.1; rw [← HS.out.2.2.1] at h; unfold Lo.spB at h; rw [List.length_map] at h; exact h) _).mono ?_); rintro e1 w0 ⟨gl, cl, rfl, q1, q3⟩; have HI : Hid (Lib.TabIs Tryd.prog w0 "internal/strconv.uint64pow10" .u64 Lib.pow10Tab ∧ NI w0 ∧ WI w0 ∧ SI w0 ∧ Below w.heap.size w w0) := Lib.hid (by have k9 := HQ.out.trans (q3.mono HQ.out.size); exact ⟨tab_below k9 HI0.out.1, HI0.out.2.1.below k9, HI0.out.2.2.1.below k9, HI0.out.2.2.2.below k9, k9⟩); have HOn := Lib.hid (Lo.told_below HO.out q3); clear HO; have HO := HOn; have HLT : Hid (gl < w0.heap.size ∧ ∀ (j : Nat) (X : ByteArray), L[j]? = some X → w0.cell? ⟨gl, j, none⟩ = some (.string X)) := Lib.hid ⟨q1.1, fun j X hX => by rw [← HS.out.2.2.1] at hX; unfold Lo.spB at hX; rw [List.getElem?_map] at hX; obtain ⟨x, hx, rfl⟩ := Option.map_eq_some_iff.1 hX; exact q1.2 j x (by rw [Lo.ls_sp]; exact hx)⟩; clear HOn q1 q3)
  clear HQ HI0
  have HD0 : Hid (LY w0 (w0.alloc (.cells #[] 32)) w0.heap.size (some ⟨w0.heap.size, 0, none⟩) 0 0 (evs ((Lo.evl M).take 0))) := Lib.hid ⟨⟨rfl, by simp, Or.inr ⟨_, rfl, Nat.le_refl _, Rn.empty w0 12 32⟩⟩, (Below.refl _ _).alloc (Nat.le_refl _) _, Nat.le_refl _⟩
  revert HD0
  generalize hbase : w0.heap.size = base
  clear hbase
  generalize (w0.alloc (.cells #[] 32)) = W2
  intro HD0
  go_wp2_with fail
  go_loopw [7, 8] (fun sl iv wr => ∃ (j c g : Nat), sl = .slice (some ⟨g, 0, none⟩) j c ∧ iv = .int .i64 j ∧ j ≤ m ∧ j ≤ p ∧ Hid (LY w0 wr base (some ⟨g, 0, none⟩) j c (evs ((Lo.evl M).take j)))) (fun _ iv _ => m - (intOf iv).toNat)
  case atStart => exact ⟨0, 0, base, rfl, rfl, by omega, by omega, HD0⟩
  case round =>
    clear HD0
    obtain ⟨j, c, g, rfl, rfl, hj, hjp, HD⟩ := hrel
    have j0 : (0 : Int) ≤ (j : Int) := by omega
    have w1 : IntKind.i64.wrap ((j : Int) + 1) = (j : Int) + 1 := IntWalk.i64_in _ (by omega)
    by_cases hjm : j < m
    · have i1 : (j : Int) < (N : Int) := by omega
      obtain ⟨X, hX⟩ : ∃ X, M[j]? = some X := ⟨_, List.getElem?_eq_getElem (by have := HM.out.1; omega)⟩
      obtain ⟨⟨k, i, n, t, b, e, s0, s1, s2, s3, s4, s5⟩, er, hpar⟩ : ∃ x er, Lo.parse X = (x, er) := ⟨_, _, rfl⟩
      have hL := HM.out.2.1 j X hX
      have cX := (HD.out.be.cell (p := ⟨gl, j, none⟩) HLT.out.1).trans (HLT.out.2 j X hL.1)
      have HX := Lib.hid (And.intro hX (And.intro hL.2 hpar))
      by_cases hjn : j + 1 = N
      · have b1 := Lo.txt_ne (W := X) (l := []) (fun h => by
          have h0 := HT.out.1
          rcases HT.out.2 with ⟨h1, h2⟩ | ⟨h1, h2⟩
          · exact h2 X (by have := hL.1; rw [show n1 = j by omega]; exact this) (ByteArray.ext (Array.ext' h))
          · omega)
        have i2 : (j : Int) + 1 = (N : Int) := by omega
        clear hX hL hpar hjn
        go_upto_region 8 with fail
        all_goals
          go_upto_region 9 with (go_at_call 7; (with_reducible refine (lo_parse12 X HX.out.2.1 k i n t b e s0 s1 s2 s3 s4 s5 er HX.out.2.2 _ (tab_below HD.out.be HI.out.1) (HI.out.2.1.below HD.out.be) (HI.out.2.2.1.below HD.out.be) (HI.out.2.2.2.1.below HD.out.be)).mono ?_); rintro e1 V1 ⟨rfl, q3⟩; have HDn := Lib.hid (HD.out.chg q3); clear HD; have HD := HDn; clear HDn q3)
          have HK : Hid (LY w0 (V1.alloc (.cells #[.int .i64 k, .int .i64 i, .int .i64 n, .int .i64 t, .string b, .int .i64 e, .int .i64 s0, .int .i64 s1, .int .i64 s2, .int .i64 s3, .int .i64 s4, .int .i64 s5] 32)) base (some ⟨g, 0, none⟩) j c (evs ((Lo.evl M).take j)) ∧ Blk (V1.alloc (.cells #[.int .i64 k, .int .i64 i, .int .i64 n, .int .i64 t, .string b, .int .i64 e, .int .i64 s0, .int .i64 s1, .int .i64 s2, .int .i64 s3, .int .i64 s4, .int .i64 s5] 32)) V1.heap.size [.int .i64 k, .int .i64 i, .int .i64 n, .int .i64 t, .string b, .int .i64 e, .int .i64 s0, .int .i64 s1, .int .i64 s2, .int .i64 s3, .int .i64 s4, .int .i64 s5] 32) := Lib.hid ⟨HD.out.chg ((Below.refl _ _).alloc (Nat.le_refl _) _), Blk.newA _ _ _⟩
          clear HD
          try clear cX
          revert HK
          generalize (V1.alloc (.cells #[.int .i64 k, .int .i64 i, .int .i64 n, .int .i64 t, .string b, .int .i64 e, .int .i64 s0, .int .i64 s1, .int .i64 s2, .int .i64 s3, .int .i64 s4, .int .i64 s5] 32)) = W1
          generalize V1.heap.size = Y
          intro HK
          by_cases her : er = 0
          · subst her
            have d0 := HK.out.2.cell (i := 0) rfl
            have d1 := HK.out.2.cell (i := 1) rfl
            have d2 := HK.out.2.cell (i := 2) rfl
            have d3 := HK.out.2.cell (i := 3) rfl
            have d4 := HK.out.2.cell (i := 4) rfl
            have d5 := HK.out.2.cell (i := 5) rfl
            have d6 := HK.out.2.cell (i := 6) rfl
            have d7 := HK.out.2.cell (i := 7) rfl
            have d8 := HK.out.2.cell (i := 8) rfl
            have d9 := HK.out.2.cell (i := 9) rfl
            have d10 := HK.out.2.cell (i := 10) rfl
            have d11 := HK.out.2.cell (i := 11) rfl
            have HS : Hid ((Lo.evl M).take (j + 1) = (Lo.evl M).take j ++ [⟨k, i, n, t, b, e, s0, s1, s2, s3, s4, s5⟩] ∧ j + 1 ≤ p) := Lib.hid (by
              have h2 := HX.out.2.2
              refine ⟨?_, ?_⟩
              · rw [Lo.evl_next HX.out.1, h2]
              · rw [← HM.out.2.2.2.1]
                exact Lo.okn_next M j X HX.out.1 (by rw [HM.out.2.2.2.1]; exact hjp) (by rw [h2]))
            go_wp2_with (at_builtin; refine wpList_append_rm _ rfl (.tmp 66) (.tmp 68) 23 23 rfl 32 (.agg #[.int .i64 0, .int .i64 0, .int .i64 0, .int .i64 0, .string ByteArray.empty, .int .i64 0, .int .i64 0, .int .i64 0, .int .i64 0, .int .i64 0, .int .i64 0, .int .i64 0]) 12 104 Tryd.underlying23 infoEv rfl base (some ⟨g, 0, none⟩) j c (evs ((Lo.evl M).take j)) rfl (HK.out.1.rm.chg (l := []) ((Chg.refl [] W1).alloc _) (by simp)) _ rfl 1 (by omega) (Ev.c ⟨k, i, n, t, b, e, s0, s1, s2, s3, s4, s5⟩) (Src.ofSlice _ Tryd.underlying23 ⟨_, 0, none⟩ 1 1 (Ev.c ⟨k, i, n, t, b, e, s0, s1, s2, s3, s4, s5⟩) rfl (new_atE _ _ _) (Ev.c_one _)) (by omega) (by omega) ?_; intro g4 c4 w4 r1 r2 r3; have HN : Hid (LY w0 w4 base (some ⟨g4, 0, none⟩) (j + 1) c4 (evs ((Lo.evl M).take (j + 1)))) := Lib.hid (HK.out.1.push ((Below.refl _ _).alloc (Nat.le_refl _) _) (by rw [HS.out.1, evs_snoc]; exact r1) r3); clear r1 r2 r3)
            go_roundw
            case rel => exact ⟨j + 1, c4, g4, rfl, by go_num, by omega, HS.out.2, HN⟩
            case measure => simp [intOf]; omega
          · have HP : Hid (p = j ∧ er = 2) := Lib.hid (by
              have h2 := HX.out.2.2
              refine ⟨?_, (Lo.parse_no h2 her).2⟩
              rw [← HM.out.2.2.2.1]
              exact Lo.okn_hit M j X HX.out.1 (by rw [HM.out.2.2.2.1]; exact hjp) (by rw [h2]; exact her))
            have HD := Lib.hid HK.out.1
            have i7 : (er == 0) = false := by simpa using her
            rcases HO.out with ⟨o1, o2, o3, o4, o5, o6⟩ | ⟨o1, o2, o3, o4, o5⟩
            · have o7 : v4 = (j : Int) + 1 := by rw [o5, HP.out.1]
              clear o5 o1
              subst o2 o3 o4 o6 o7
              go_wp2_with (go_at_call 8; (with_reducible refine (lo_lives _ (tab_below HD.out.be HI.out.1) (HI.out.2.1.below HD.out.be) (HI.out.2.2.1.below HD.out.be) (HI.out.2.2.2.1.below HD.out.be)).mono ?_); rintro e1 V4 ⟨rfl, q3⟩; have HDn := Lib.hid (HD.out.chg q3); clear HD; have HD := HDn; clear HDn q3)
              go_ret
              exact ⟨rfl, HI.out.2.2.2.2.trans (HD.out.be.mono HI.out.2.2.2.2.size)⟩
            · exfalso
              have := HP.out.1
              omega
      · have i2 : ¬ (j : Int) + 1 = (N : Int) := by omega
        clear hX hL hpar hjn
        go_upto_region 8 with fail
        all_goals
          go_upto_region 9 with (go_at_call 7; (with_reducible refine (lo_parse12 X HX.out.2.1 k i n t b e s0 s1 s2 s3 s4 s5 er HX.out.2.2 _ (tab_below HD.out.be HI.out.1) (HI.out.2.1.below HD.out.be) (HI.out.2.2.1.below HD.out.be) (HI.out.2.2.2.1.below HD.out.be)).mono ?_); rintro e1 V1 ⟨rfl, q3⟩; have HDn := Lib.hid (HD.out.chg q3); clear HD; have HD := HDn; clear HDn q3)
          have HK : Hid (LY w0 (V1.alloc (.cells #[.int .i64 k, .int .i64 i, .int .i64 n, .int .i64 t, .string b, .int .i64 e, .int .i64 s0, .int .i64 s1, .int .i64 s2, .int .i64 s3, .int .i64 s4, .int .i64 s5] 32)) base (some ⟨g, 0, none⟩) j c (evs ((Lo.evl M).take j)) ∧ Blk (V1.alloc (.cells #[.int .i64 k, .int .i64 i, .int .i64 n, .int .i64 t, .string b, .int .i64 e, .int .i64 s0, .int .i64 s1, .int .i64 s2, .int .i64 s3, .int .i64 s4, .int .i64 s5] 32)) V1.heap.size [.int .i64 k, .int .i64 i, .int .i64 n, .int .i64 t, .string b, .int .i64 e, .int .i64 s0, .int .i64 s1, .int .i64 s2, .int .i64 s3, .int .i64 s4, .int .i64 s5] 32) := Lib.hid ⟨HD.out.chg ((Below.refl _ _).alloc (Nat.le_refl _) _), Blk.newA _ _ _⟩
          clear HD
          try clear cX
          revert HK
          generalize (V1.alloc (.cells #[.int .i64 k, .int .i64 i, .int .i64 n, .int .i64 t, .string b, .int .i64 e, .int .i64 s0, .int .i64 s1, .int .i64 s2, .int .i64 s3, .int .i64 s4, .int .i64 s5] 32)) = W1
          generalize V1.heap.size = Y
          intro HK
          by_cases her : er = 0
          · subst her
            have d0 := HK.out.2.cell (i := 0) rfl
            have d1 := HK.out.2.cell (i := 1) rfl
            have d2 := HK.out.2.cell (i := 2) rfl
            have d3 := HK.out.2.cell (i := 3) rfl
            have d4 := HK.out.2.cell (i := 4) rfl
            have d5 := HK.out.2.cell (i := 5) rfl
            have d6 := HK.out.2.cell (i := 6) rfl
            have d7 := HK.out.2.cell (i := 7) rfl
            have d8 := HK.out.2.cell (i := 8) rfl
            have d9 := HK.out.2.cell (i := 9) rfl
            have d10 := HK.out.2.cell (i := 10) rfl
            have d11 := HK.out.2.cell (i := 11) rfl
            have HS : Hid ((Lo.evl M).take (j + 1) = (Lo.evl M).take j ++ [⟨k, i, n, t, b, e, s0, s1, s2, s3, s4, s5⟩] ∧ j + 1 ≤ p) := Lib.hid (by
              have h2 := HX.out.2.2
              refine ⟨?_, ?_⟩
              · rw [Lo.evl_next HX.out.1, h2]
              · rw [← HM.out.2.2.2.1]
                exact Lo.okn_next M j X HX.out.1 (by rw [HM.out.2.2.2.1]; exact hjp) (by rw [h2]))
            go_wp2_with (at_builtin; refine wpList_append_rm _ rfl (.tmp 66) (.tmp 68) 23 23 rfl 32 (.agg #[.int .i64 0, .int .i64 0, .int .i64 0, .int .i64 0, .string ByteArray.empty, .int .i64 0, .int .i64 0, .int .i64 0, .int .i64 0, .int .i64 0, .int .i64 0, .int .i64 0]) 12 104 Tryd.underlying23 infoEv rfl base (some ⟨g, 0, none⟩) j c (evs ((Lo.evl M).take j)) rfl (HK.out.1.rm.chg (l := []) ((Chg.refl [] W1).alloc _) (by simp)) _ rfl 1 (by omega) (Ev.c ⟨k, i, n, t, b, e, s0, s1, s2, s3, s4, s5⟩) (Src.ofSlice _ Tryd.underlying23 ⟨_, 0, none⟩ 1 1 (Ev.c ⟨k, i, n, t, b, e, s0, s1, s2, s3, s4, s5⟩) rfl (new_atE _ _ _) (Ev.c_one _)) (by omega) (by omega) ?_; intro g4 c4 w4 r1 r2 r3; have HN : Hid (LY w0 w4 base (some ⟨g4, 0, none⟩) (j + 1) c4 (evs ((Lo.evl M).take (j + 1)))) := Lib.hid (HK.out.1.push ((Below.refl _ _).alloc (Nat.le_refl _) _) (by rw [HS.out.1, evs_snoc]; exact r1) r3); clear r1 r2 r3)
            go_roundw
            case rel => exact ⟨j + 1, c4, g4, rfl, by go_num, by omega, HS.out.2, HN⟩
            case measure => simp [intOf]; omega
          · have HP : Hid (p = j ∧ er = 2) := Lib.hid (by
              have h2 := HX.out.2.2
              refine ⟨?_, (Lo.parse_no h2 her).2⟩
              rw [← HM.out.2.2.2.1]
              exact Lo.okn_hit M j X HX.out.1 (by rw [HM.out.2.2.2.1]; exact hjp) (by rw [h2]; exact her))
            have HD := Lib.hid HK.out.1
            have i7 : (er == 0) = false := by simpa using her
            rcases HO.out with ⟨o1, o2, o3, o4, o5, o6⟩ | ⟨o1, o2, o3, o4, o5⟩
            · have o7 : v4 = (j : Int) + 1 := by rw [o5, HP.out.1]
              clear o5 o1
              subst o2 o3 o4 o6 o7
              go_wp2_with (go_at_call 8; (with_reducible refine (lo_lives _ (tab_below HD.out.be HI.out.1) (HI.out.2.1.below HD.out.be) (HI.out.2.2.1.below HD.out.be) (HI.out.2.2.2.1.below HD.out.be)).mono ?_); rintro e1 V4 ⟨rfl, q3⟩; have HDn := Lib.hid (HD.out.chg q3); clear HD; have HD := HDn; clear HDn q3)
              go_ret
              exact ⟨rfl, HI.out.2.2.2.2.trans (HD.out.be.mono HI.out.2.2.2.2.size)⟩
            · exfalso
              have := HP.out.1
              omega
    · obtain rfl : j = m := by omega
      rcases HT.out.2 with ⟨h1, h2⟩ | ⟨h1, h2⟩
      · have i1 : ¬ (j : Int) < (N : Int) := by omega
        clear h1 h2
        have HR : Hid (RE wr (some ⟨g, 0, none⟩) 12 Ev.c (Lo.evl M)) := Lib.hid (RE.of_rm (by have h := HD.out.rm; rw [List.take_of_length_le (by rw [Lo.evl_len, HM.out.1]; exact Nat.le_refl _)] at h; exact h) (by rw [Lo.evl_len, HM.out.1]) Ev.c_len)
        have HPM : Hid (p = j) := Lib.hid (by have h2 := Lo.okn_le M; rw [HM.out.2.2.2.1, HM.out.1] at h2; omega)
        rcases HO.out with ⟨o1, o2, o3, o4, o5, o6⟩ | ⟨o1, o2, o3, o4, o5⟩
        · exfalso
          have := HPM.out
          omega
        · have HO5 := Lib.hid o5
          clear o5 o1
          subst o2 o3 o4
          go_wp2_with (first
            | (go_at_call 9; (with_reducible refine (ev_same r3 (some ⟨g, 0, none⟩) _ c3 c (Lo.evl M) (by rw [Lo.evl_len, HM.out.1]) (by omega) _ (HO5.out.below HD.out.be) ⟨HR.out, HM.out.2.2.2.2⟩).mono ?_); rintro e1 V3 ⟨rfl, q3⟩; have HDn := Lib.hid (HD.out.chg q3); clear HD; have HD := HDn; clear HDn q3)
            | (go_at_call 8; (with_reducible refine (lo_lives _ (tab_below HD.out.be HI.out.1) (HI.out.2.1.below HD.out.be) (HI.out.2.2.1.below HD.out.be) (HI.out.2.2.2.1.below HD.out.be)).mono ?_); rintro e1 V4 ⟨rfl, q3⟩; have HDn := Lib.hid (HD.out.chg q3); clear HD; have HD := HDn; clear HDn q3))
          go_ret
          exact ⟨rfl, HI.out.2.2.2.2.trans (HD.out.be.mono HI.out.2.2.2.2.size)⟩
      · have i1 : (j : Int) < (N : Int) := by omega
        have i2 : (j : Int) + 1 = (N : Int) := by omega
        have cX := (HD.out.be.cell (p := ⟨gl, j, none⟩) HLT.out.1).trans (HLT.out.2 j _ h2)
        clear h1 h2
        have HR : Hid (RE wr (some ⟨g, 0, none⟩) 12 Ev.c (Lo.evl M)) := Lib.hid (RE.of_rm (by have h := HD.out.rm; rw [List.take_of_length_le (by rw [Lo.evl_len, HM.out.1]; exact Nat.le_refl _)] at h; exact h) (by rw [Lo.evl_len, HM.out.1]) Ev.c_len)
        have HPM : Hid (p = j) := Lib.hid (by have h2 := Lo.okn_le M; rw [HM.out.2.2.2.1, HM.out.1] at h2; omega)
        rcases HO.out with ⟨o1, o2, o3, o4, o5, o6⟩ | ⟨o1, o2, o3, o4, o5⟩
        · exfalso
          have := HPM.out
          omega
        · have HO5 := Lib.hid o5
          clear o5 o1
          subst o2 o3 o4
          go_wp2_with (first
            | (go_at_call 9; (with_reducible refine (ev_same r3 (some ⟨g, 0, none⟩) _ c3 c (Lo.evl M) (by rw [Lo.evl_len, HM.out.1]) (by omega) _ (HO5.out.below HD.out.be) ⟨HR.out, HM.out.2.2.2.2⟩).mono ?_); rintro e1 V3 ⟨rfl, q3⟩; have HDn := Lib.hid (HD.out.chg q3); clear HD; have HD := HDn; clear HDn q3)
            | (go_at_call 8; (with_reducible refine (lo_lives _ (tab_below HD.out.be HI.out.1) (HI.out.2.1.below HD.out.be) (HI.out.2.2.1.below HD.out.be) (HI.out.2.2.2.1.below HD.out.be)).mono ?_); rintro e1 V4 ⟨rfl, q3⟩; have HDn := Lib.hid (HD.out.chg q3); clear HD; have HD := HDn; clear HDn q3))
          go_ret
          exact ⟨rfl, HI.out.2.2.2.2.trans (HD.out.be.mono HI.out.2.2.2.2.size)⟩


theorem own3 : ownKnob Tryd.prog.godebug = none := by kernel_rfl
theorem tab_rows : (Rows.laid_internal_strconv_uint64pow10 : DataW Unit) = Lib.tabData .u64 Lib.pow10Tab := by kernel_rfl
theorem tab_of (W : World) (hL : laidMetH Tryd.prog Rows.logReadsRow.laid W) : Lib.TabIs Tryd.prog W "internal/strconv.uint64pow10" .u64 Lib.pow10Tab := by
  have h1 : laidMet Tryd.prog Rows.logReadsRow.laid W := hL
  have h2 : laidMet Tryd.prog [("math/bits.deBruijn32tab", Rows.laid_math_bits_deBruijn32tab), ("math/bits.deBruijn64tab", Rows.laid_math_bits_deBruijn64tab), ("internal/strconv.uint64pow10", Rows.laid_internal_strconv_uint64pow10), ("unicode/utf8.acceptRanges", Rows.laid_unicode_utf8_acceptRanges), ("strconv.ErrRange", Rows.laid_strconv_ErrRange), ("strconv.ErrSyntax", Rows.laid_strconv_ErrSyntax), ("repartee/log.whats", Rows.laid_repartee_log_whats), ("repartee/log.statuses", Rows.laid_repartee_log_statuses), ("unicode/utf8.first", Rows.laid_unicode_utf8_first)] W := h1
  have h3 := h2.tail.tail
  rw [tab_rows] at h3
  exact Lib.tabIs_of_head (g := 7) (t := 120) (e := 101) (n := 20) (by kernel_rfl) (by kernel_rfl) (by kernel_rfl) (by kernel_rfl) (by kernel_rfl) (by kernel_rfl) h3
theorem log_of (W : World) (hSh : W.ShapedOpen Tryd.prog) (hL : laidMetH Tryd.prog Rows.logReadsRow.laid W) : NI W ∧ WI W ∧ SI W := by
  have h1 : laidMet Tryd.prog Rows.logReadsRow.laid W := hL
  have h2 : laidMet Tryd.prog [("math/bits.deBruijn32tab", Rows.laid_math_bits_deBruijn32tab), ("math/bits.deBruijn64tab", Rows.laid_math_bits_deBruijn64tab), ("internal/strconv.uint64pow10", Rows.laid_internal_strconv_uint64pow10), ("unicode/utf8.acceptRanges", Rows.laid_unicode_utf8_acceptRanges), ("strconv.ErrRange", Rows.laid_strconv_ErrRange), ("strconv.ErrSyntax", Rows.laid_strconv_ErrSyntax), ("repartee/log.whats", Rows.laid_repartee_log_whats), ("repartee/log.statuses", Rows.laid_repartee_log_statuses), ("unicode/utf8.first", Rows.laid_unicode_utf8_first)] W := h1
  obtain ⟨m0, hm0⟩ := cell_of_shapedOpen_int (P := Tryd.prog) (g := 2) (t := 3) (zero := #[.int .i64 0]) hSh (of_decide_eq_true (by kernel_rfl)) (by kernel_rfl) rfl (by kernel_rfl) (by kernel_rfl) Tryd.underlying3
  exact ⟨⟨⟨m0, hm0⟩, sent_of _ 5 _ _ W (by kernel_rfl) (by kernel_rfl) h2.tail.tail.tail.tail.tail, sent_of _ 6 _ _ W (by kernel_rfl) (by kernel_rfl) h2.tail.tail.tail.tail⟩, WI_of2 W _ h2.tail.tail.tail.tail.tail.tail, SI_of2 W _ h2.tail.tail.tail.tail.tail.tail.tail⟩
set_option maxRecDepth 100000 in
theorem contract (H : Type) (enc : TypeId × Value → H) (W : World) (base : Nat) (args : Array Value) (ds gs : List (DataW H)) (before : List MemPlace)
    (hval0 : ∀ (j : Nat) t v, Tryd.f3.params[j]? = some t → args[j]? = some v → Value.okWide Tryd.prog W .any base t v)
    (hW : DataW.Whole enc Tryd.prog Tryd.f3.params.toList Rows.logReadsSpec.vars false W args.toList ds gs before) (hSh : W.ShapedOpen Tryd.prog) (htab : Lib.TabIs Tryd.prog W "internal/strconv.uint64pow10" .u64 Lib.pow10Tab) (hni : NI W) (hwi : WI W) (hsi : SI W) :
    Calls Tryd.prog 3 args W fun e W' => ∃ v, e = .returned v ∧ Rows.logReadsSpec.post enc Tryd.prog Tryd.f3 false true false false W args v W' := by
  have hval : ∀ (j : Nat) t v, Tryd.f3.params[j]? = some t → args[j]? = some v → Value.okWide Tryd.prog W .any base t v := hval0
  have hW' := hW
  obtain ⟨p, q, hA0, hV, rfl, hfz, hnd⟩ := hW
  have hA : DataW.TrodAll enc Tryd.prog W 0 (fun _ => true) true Tryd.f3.params.toList args.toList ds p := hA0
  rw [Tryd.params3] at hA hval
  obtain ⟨v0, vs0, d0, ds0, p0, q0, hargs, rfl, rfl, h0, r0⟩ := trodAll_cons hA
  obtain ⟨rfl, rfl, rfl⟩ := trodAll_nil r0
  obtain rfl : args = #[v0] := by cases args; simp_all
  obtain ⟨rfl, rfl⟩ := trodVars_none hV
  have k0 := h0
  have lt0 : ∀ x ∈ p0, x.block < W.heap.size := by obtain ⟨m, hm⟩ := k0; exact DataW.trod_lt m _ _ _ hm
  obtain ⟨a0, rfl, rfl, rfl, w0⟩ := open_string Tryd.underlying9 (hval 0 9 v0 rfl rfl) h0
  clear hA0 hval0
  refine (walk a0 W htab hni hwi hsi w0).mono fun e W' ⟨he, bel⟩ => ?_
  subst he
  exact ⟨_, rfl, _, _, _, [], _, [], hW', trodAll_mk1 (shut_bool Tryd.underlying4 _), (trodAll_cons_mk (Below.trod laidOut (by kernel_rfl) (of_decide_eq_true (by kernel_rfl)) k0 bel lt0) trodAll_mk0), rfl, bel.frame _, fun h => by cases h⟩

noncomputable def low : Nat := (World.holding Tryd.prog default ⟨#[], #[], []⟩).heap.size
noncomputable def laidWorld (os : Os) : World :=
  { World.holding Tryd.prog os ⟨#[.cells #[.string ⟨#[118, 97, 108, 117, 101, 32, 111, 117, 116, 32, 111, 102, 32, 114, 97, 110, 103, 101]⟩] 130, .cells #[.string ⟨#[105, 110, 118, 97, 108, 105, 100, 32, 115, 121, 110, 116, 97, 120]⟩] 130], #[], []⟩ with heap := ((((((((((World.holding Tryd.prog os ⟨#[.cells #[.string ⟨#[118, 97, 108, 117, 101, 32, 111, 117, 116, 32, 111, 102, 32, 114, 97, 110, 103, 101]⟩] 130, .cells #[.string ⟨#[105, 110, 118, 97, 108, 105, 100, 32, 115, 121, 110, 116, 97, 120]⟩] 130], #[], []⟩).heap.modify 8 fun
      | .cells _ t frozen => .cells #[.int .u8 0, .int .u8 1, .int .u8 28, .int .u8 2, .int .u8 29, .int .u8 14, .int .u8 24, .int .u8 3, .int .u8 30, .int .u8 22, .int .u8 20, .int .u8 15, .int .u8 25, .int .u8 17, .int .u8 4, .int .u8 8, .int .u8 31, .int .u8 27, .int .u8 13, .int .u8 23, .int .u8 21, .int .u8 19, .int .u8 16, .int .u8 7, .int .u8 26, .int .u8 12, .int .u8 18, .int .u8 6, .int .u8 11, .int .u8 5, .int .u8 10, .int .u8 9] t frozen
      | o => o).modify 9 fun
      | .cells _ t frozen => .cells #[.int .u8 0, .int .u8 1, .int .u8 56, .int .u8 2, .int .u8 57, .int .u8 49, .int .u8 28, .int .u8 3, .int .u8 61, .int .u8 58, .int .u8 42, .int .u8 50, .int .u8 38, .int .u8 29, .int .u8 17, .int .u8 4, .int .u8 62, .int .u8 47, .int .u8 59, .int .u8 36, .int .u8 45, .int .u8 43, .int .u8 51, .int .u8 22, .int .u8 53, .int .u8 39, .int .u8 33, .int .u8 30, .int .u8 24, .int .u8 18, .int .u8 12, .int .u8 5, .int .u8 63, .int .u8 55, .int .u8 48, .int .u8 27, .int .u8 60, .int .u8 41, .int .u8 37, .int .u8 16, .int .u8 46, .int .u8 35, .int .u8 44, .int .u8 21, .int .u8 52, .int .u8 32, .int .u8 23, .int .u8 11, .int .u8 54, .int .u8 26, .int .u8 40, .int .u8 15, .int .u8 34, .int .u8 20, .int .u8 31, .int .u8 10, .int .u8 25, .int .u8 14, .int .u8 19, .int .u8 9, .int .u8 13, .int .u8 8, .int .u8 7, .int .u8 6] t frozen
      | o => o).modify 7 fun
      | .cells _ t frozen => .cells #[.int .u64 1, .int .u64 10, .int .u64 100, .int .u64 1000, .int .u64 10000, .int .u64 100000, .int .u64 1000000, .int .u64 10000000, .int .u64 100000000, .int .u64 1000000000, .int .u64 10000000000, .int .u64 100000000000, .int .u64 1000000000000, .int .u64 10000000000000, .int .u64 100000000000000, .int .u64 1000000000000000, .int .u64 10000000000000000, .int .u64 100000000000000000, .int .u64 1000000000000000000, .int .u64 10000000000000000000] t frozen
      | o => o).modify 4 fun
      | .cells _ t frozen => .cells #[.int .u8 128, .int .u8 191, .int .u8 160, .int .u8 191, .int .u8 128, .int .u8 159, .int .u8 144, .int .u8 191, .int .u8 128, .int .u8 143, .int .u8 0, .int .u8 0, .int .u8 0, .int .u8 0, .int .u8 0, .int .u8 0, .int .u8 0, .int .u8 0, .int .u8 0, .int .u8 0, .int .u8 0, .int .u8 0, .int .u8 0, .int .u8 0, .int .u8 0, .int .u8 0, .int .u8 0, .int .u8 0, .int .u8 0, .int .u8 0, .int .u8 0, .int .u8 0] t frozen
      | o => o).modify 6 fun
      | .cells _ t frozen => .cells #[.iface 128 (.pointer (some ⟨low, 0, none⟩))] t frozen
      | o => o).modify 5 fun
      | .cells _ t frozen => .cells #[.iface 128 (.pointer (some ⟨low + 1, 0, none⟩))] t frozen
      | o => o).modify 0 fun
      | .cells _ t frozen => .cells #[.string ⟨#[]⟩, .string ⟨#[108, 111, 111, 107]⟩, .string ⟨#[109, 97, 116, 99, 104]⟩, .string ⟨#[116, 105, 109, 101, 111, 117, 116]⟩, .string ⟨#[101, 111, 102]⟩, .string ⟨#[108, 111, 97, 100]⟩, .string ⟨#[115, 101, 110, 116]⟩, .string ⟨#[106, 117, 109, 112]⟩, .string ⟨#[119, 111, 107, 101]⟩, .string ⟨#[100, 111, 110, 101]⟩, .string ⟨#[102, 97, 105, 108]⟩, .string ⟨#[108, 111, 111, 112, 101, 100]⟩, .string ⟨#[100, 101, 97, 100, 108, 105, 110, 101]⟩, .string ⟨#[111, 118, 101, 114, 102, 108, 111, 119]⟩, .string ⟨#[100, 114, 97, 105, 110, 101, 100]⟩] t frozen
      | o => o).modify 1 fun
      | .cells _ t frozen => .cells #[.string ⟨#[114, 117, 110]⟩, .string ⟨#[100, 111, 110, 101]⟩, .string ⟨#[102, 97, 105, 108, 101, 100]⟩, .string ⟨#[100, 101, 97, 100, 108, 105, 110, 101]⟩, .string ⟨#[111, 118, 101, 114, 102, 108, 111, 119]⟩, .string ⟨#[100, 114, 97, 105, 110, 101, 100]⟩] t frozen
      | o => o).modify 3 fun
      | .cells _ t frozen => .cells (Go.Pinned.utf8FirstZ.map fun (x : Nat) => Value.int .u8 (x : Int)).toArray t frozen
      | o => o) }
theorem laid_met (os : Os) : laidMet Tryd.prog Rows.logReadsRow.laid ((laidWorld os).forCall (fun _ _ => 0) ⟨#[], #[.string ByteArray.empty], []⟩).memory :=
  laidMet_of_run' 8 (by kernel_rfl) (by kernel_rfl)
theorem reads (os : Os) {H : Type} (enc : TypeId × Value → H) : ∃ places, DataW.whole enc Tryd.prog ((laidWorld os).forCall (fun _ _ => 0) ⟨#[], #[.string ByteArray.empty], []⟩).memory Tryd.f3.params.toList Rows.logReadsSpec.vars false (#[.string ByteArray.empty] : Array Value).toList 8 = some ([.lit (.string [])], [], places) :=
  ⟨[], by kernel_rfl⟩
set_option maxRecDepth 100000 in
theorem lifted (os : Os) (started : os.Started) (H : Type) (enc : TypeId × Value → H) (F : Stop.Interp) :
    ReturnsInHanded {} Tryd.checked os 3 .any ((OpenSpec.ofChange Rows.logReadsSpec).preRow enc Tryd.prog Tryd.f3 Rows.logReadsRow.domain false Rows.logReadsRow.laid) (((OpenSpec.ofChange Rows.logReadsSpec).at F).post enc Tryd.prog Tryd.f3 false true false false) := by
  obtain ⟨places, hx⟩ := reads os enc
  refine returnsInHanded_of_row (C := Tryd.checked) (s := OpenSpec.ofChange Rows.logReadsSpec) own3 started (by kernel_rfl) Tryd.func3
    (witness_row_at (enc := enc) (C := Tryd.checked) false (laidWorld os) #[.string ByteArray.empty] rfl (by kernel_rfl) (by kernel_rfl) (by kernel_rfl)
      (OpenSpec.preRow_of_cond 8 hx (by kernel_rfl) (fun k hk => by cases hk) (by kernel_rfl) (laid_met os))) ?_
  intro W base args ds gs before hval hW _ _ _ hL hSh _
  exact contract H enc W base args ds gs before hval hW hSh (tab_of W hL) (log_of W hSh hL).1 (log_of W hSh hL).2.1 (log_of W hSh hL).2.2
theorem said : Rows.LogReadsSaid :=
  OpenClaim.holds_of_cond 3 Tryd.f3 rfl rfl rfl rfl rfl rfl rfl ⟨rfl, rfl, rfl, rfl, rfl⟩ rfl rfl rfl rfl rfl (by kernel_rfl) Tryd.func3 (by kernel_rfl)
    (of_decide_eq_true (by kernel_rfl)) (by unfold Func.isWrapper; first | (rw [if_pos (by decide +kernel)]; kernel_rfl) | (rw [if_neg (by decide +kernel)]; exact ⟨rfl, rfl⟩))
    (fun os started H enc _ F => by rw [OpenClaim.pre_eq_preRow]; exact lifted os started H enc F)
theorem plain (f : FuncId) (fn : Func) (hf : Tryd.pinned.checked.prog.funcNamed "repartee/reparteelaw30.LogReads" = some f) (hfn : Tryd.pinned.checked.prog.funcs[f]? = some fn) :
    true = Tryd.pinned.checked.prog.looks [] ∧ ∀ (j : Nat) t, fn.params[j]? = some t → Tryd.pinned.checked.prog.wantsStandIn t = false := by
  obtain rfl : f = 3 := Option.some.inj ((show Tryd.prog.funcNamed "repartee/reparteelaw30.LogReads" = some 3 by kernel_rfl).symm.trans hf) |>.symm
  obtain rfl : fn = Tryd.f3 := (Option.some.inj (Tryd.func3.symm.trans hfn)).symm
  refine ⟨by kernel_rfl, fun j t ht => ?_⟩
  rw [Tryd.params3] at ht
  have hm : t ∈ [9] := by simpa using Array.mem_of_getElem? ht
  have hall : ([9].all fun u => !Tryd.prog.wantsStandIn u) = true := by kernel_rfl
  exact (show Tryd.prog.wantsStandIn t = false by simpa using List.all_eq_true.1 hall t hm)
/-- The statement. -/
theorem proved : Rows.LogReadsCardSaid :=
  Claim7.holds_tied_plain_at .later [] _ _ _ _ said (fun _ h => by cases h) (by kernel_rfl) (fun _ h => by cases h) logReads_row_tie rfl ⟨rfl, rfl⟩ (by kernel_rfl) rfl plain (by kernel_rfl)
#print axioms proved
end Go.Proofs.YtfhhkmjjifbfeaaDoor.logReads
