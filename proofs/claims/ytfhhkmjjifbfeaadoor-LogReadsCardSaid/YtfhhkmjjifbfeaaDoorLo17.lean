/- Log: the events of lines. -/
import Derived.Test.YtfhhkmjjifbfeaaDoorLo16
import Derived.Test.YtfhhkmjjifbfeaaDoorRm
import Derived.Test.YtfhhkmjjifbfeaaDoorEv2
import Derived.WalkKit
import Derived.ProofKit
import Derived.Handy
import Derived.WalkLawsBesides
import Derived.WalkSpells
import Derived.Lib.Hide
import Derived.Lib.SliceRun
import Derived.Deep.RegionLaw
import Derived.RegionTactic
import Derived.ChangeAlike
import Derived.WalkSmall
import Derived.Deep.QuietTactic
import Derived.BigQuiet
import Derived.OwnWalk
import Derived.Outline
import Derived.Deep.CutRange
import Derived.Deep.CutBlock
import Derived.LoopTactic
namespace Go.Proofs.YtfhhkmjjifbfeaaDoor
open Go.ChangeShapes Go.WideShapes Go.ChangeAt Go.RowKit
set_option linter.unusedSimpArgs false
set_option linter.unusedVariables false

/-- How many lines, from the first on, are events. -/
noncomputable def Lo.okn : List ByteArray → Nat
  | [] => 0
  | z :: r => if (Lo.parse z).2 = 0 then Lo.okn r + 1 else 0
theorem Lo.okn_le : ∀ M : List ByteArray, Lo.okn M ≤ M.length
  | [] => Nat.le_refl _
  | z :: r => by
    rw [Lo.okn]
    split
    · have := Lo.okn_le r; simp only [List.length_cons]; omega
    · simp
theorem Lo.okn_hit : ∀ (M : List ByteArray) (k : Nat) (X : ByteArray), M[k]? = some X → k ≤ Lo.okn M → (Lo.parse X).2 ≠ 0 → Lo.okn M = k
  | [], k, X, h, _, _ => by simp at h
  | z :: r, 0, X, h, _, hx => by
    have e : z = X := by simpa using h
    rw [Lo.okn, if_neg (by rw [e]; exact hx)]
  | z :: r, k + 1, X, h, hk, hx => by
    rw [Lo.okn] at hk ⊢
    by_cases hz : (Lo.parse z).2 = 0
    · rw [if_pos hz] at hk ⊢
      rw [Lo.okn_hit r k X (by simpa using h) (by omega) hx]
    · rw [if_neg hz] at hk; omega
theorem Lo.okn_next : ∀ (M : List ByteArray) (k : Nat) (X : ByteArray), M[k]? = some X → k ≤ Lo.okn M → (Lo.parse X).2 = 0 → k + 1 ≤ Lo.okn M
  | [], k, X, h, _, _ => by simp at h
  | z :: r, 0, X, h, _, hx => by
    have e : z = X := by simpa using h
    rw [Lo.okn, if_pos (by rw [e]; exact hx)]; omega
  | z :: r, k + 1, X, h, hk, hx => by
    rw [Lo.okn] at hk ⊢
    by_cases hz : (Lo.parse z).2 = 0
    · rw [if_pos hz] at hk ⊢
      have := Lo.okn_next r k X (by simpa using h) (by omega) hx
      omega
    · rw [if_neg hz] at hk; omega
/-- The lines that are read: without the last one, if it is empty. -/
def Lo.trim (L : List ByteArray) : List ByteArray := if L[L.length - 1]? = some { data := #[] } then L.take (L.length - 1) else L
def Lo.lines (l : List UInt8) : List ByteArray := Lo.trim (Lo.spB 10 l)
theorem Lo.trim_at (L : List ByteArray) (k : Nat) (X : ByteArray) (h : (Lo.trim L)[k]? = some X) : L[k]? = some X := by
  unfold Lo.trim at h
  split at h
  · rw [List.getElem?_take] at h
    split at h
    · exact h
    · cases h
  · exact h
theorem Lo.spB_le (c : UInt8) (l : List UInt8) : 0 < (Lo.spB c l).length ∧ (Lo.spB c l).length ≤ l.length + 1 ∧ ∀ x ∈ Lo.spB c l, x.size ≤ l.length := by
  obtain ⟨a, m, h⟩ := Lo.sp_ne c l
  have h2 := Lo.sp_le c l
  unfold Lo.spB
  rw [List.length_map]
  refine ⟨by rw [h]; simp, h2.1, fun x hx => ?_⟩
  obtain ⟨z, hz, rfl⟩ := List.mem_map.1 hx
  rw [Le.t_size]
  exact h2.2 z hz
/-- The events of lines. -/
noncomputable def Lo.evl (M : List ByteArray) : List Ev := M.map fun z => (Lo.parse z).1
theorem Lo.evl_len (M : List ByteArray) : (Lo.evl M).length = M.length := List.length_map _
theorem Lo.evl_next {M : List ByteArray} {k : Nat} {X : ByteArray} (h : M[k]? = some X) : (Lo.evl M).take (k + 1) = (Lo.evl M).take k ++ [(Lo.parse X).1] := by
  refine take_snocE ?_
  unfold Lo.evl
  rw [List.getElem?_map, h]; rfl
/-- What Read works on. -/
structure LD (w W : World) (bk base : Nat) (ls : List Value) (r : Option Addr) (k c : Nat) (rows : List Value) : Prop where
  bl : Blk W bk ls 9
  rm : RM W base r k c 12 rows 32
  be : Below w.heap.size w W
  lt : w.heap.size ≤ bk ∧ bk < base
theorem LD.chg {w W W' : World} {bk base : Nat} {ls : List Value} {r : Option Addr} {k c : Nat} {rows : List Value} (h : LD w W bk base ls r k c rows) (q : Below W.heap.size W W') : LD w W' bk base ls r k c rows :=
  ⟨h.bl.chg (l := []) (Chg.of_fresh q) (by simp), h.rm.chg (l := []) (Chg.of_fresh q) (by simp), h.be.trans (q.mono h.be.size), h.lt⟩
theorem LD.push {w W W1 W' : World} {bk base : Nat} {ls : List Value} {r : Option Addr} {k c : Nat} {rows : List Value} (h : LD w W bk base ls r k c rows) {g' c' : Nat} {rows' : List Value} (q : Below W.heap.size W W1) (r1 : RM W' base (some ⟨g', 0, none⟩) (k + 1) c' 12 rows' 32) (r3 : Chg (rvB r) W1 W') : LD w W' bk base ls (some ⟨g', 0, none⟩) (k + 1) c' rows' := by
  have h1 := h.chg q
  have hb : ∀ g ∈ rvB r, base ≤ g := fun g hg => (h1.rm.lt g hg).1
  have hl := h.lt
  exact ⟨h1.bl.chg r3 (fun hg => by have := hb _ hg; omega), r1, r3.onto h1.be h1.be.size (fun g hg => by have := hb g hg; omega), hl⟩
theorem lo_parse12 (s : ByteArray) (hs : s.size ≤ 4000) (k i n t : Int) (b : ByteArray) (e s0 s1 s2 s3 s4 s5 er : Int) (hx : Lo.parse s = (⟨k, i, n, t, b, e, s0, s1, s2, s3, s4, s5⟩, er)) (w : World) (htab : Lib.TabIs Tryd.prog w "internal/strconv.uint64pow10" .u64 Lib.pow10Tab) (hni : NI w) (hwi : WI w) (hsi : SI w) :
    Calls Tryd.prog 7 #[.string s] w fun r w' => r = .returned (.tuple #[.agg #[.int .i64 k, .int .i64 i, .int .i64 n, .int .i64 t, .string b, .int .i64 e, .int .i64 s0, .int .i64 s1, .int .i64 s2, .int .i64 s3, .int .i64 s4, .int .i64 s5], .int .i64 er]) ∧ Below w.heap.size w w' := lo_parse s hs ⟨k, i, n, t, b, e, s0, s1, s2, s3, s4, s5⟩ er hx w htab hni hwi hsi
set_option maxRecDepth 20000 in
set_option maxHeartbeats 16000000 in
theorem lo_readAll (s : ByteArray) (hs : s.size ≤ 4000) (M : List ByteArray) (hM : Lo.lines s.data.toList = M) (m : Nat) (hm : M.length = m) (p : Nat) (hp : Lo.okn M = p) (w : World) (htab : Lib.TabIs Tryd.prog w "internal/strconv.uint64pow10" .u64 Lib.pow10Tab) (hni : NI w) (hwi : WI w) (hsi : SI w) :
    Calls Tryd.prog 5 #[.string s] w fun e w' => (p < m ∧ e = .returned (.tuple #[.slice none 0 0, .int .i64 ((p : Int) + 1), .int .i64 2]) ∧ Below w.heap.size w w') ∨ (p = m ∧ ∃ r c, e = .returned (.tuple #[.slice r m c, .int .i64 0, .int .i64 0]) ∧ ∃ base, w.heap.size ≤ base ∧ RM w' base r m c 12 (evs (Lo.evl M)) 32 ∧ Below w.heap.size w w') := by
  obtain ⟨L, hL⟩ : ∃ L, Lo.spB 10 s.data.toList = L := ⟨_, rfl⟩
  obtain ⟨N, hn⟩ : ∃ N, L.length = N := ⟨_, rfl⟩
  have hsz : s.data.toList.length = s.size := rfl
  have hle := Lo.spB_le 10 s.data.toList
  rw [hL, hn] at hle
  have hM2 : Lo.trim L = M := by rw [← hL]; exact hM
  have hMk : ∀ (j : Nat) (X : ByteArray), M[j]? = some X → (L.map Value.string)[j]? = some (.string X) ∧ X.size ≤ 4000 := fun j X h => by
    have h1 := Lo.trim_at L j X (by rw [hM2]; exact h)
    refine ⟨by rw [List.getElem?_map, h1]; rfl, ?_⟩
    have h2 := hle.2.2 X (List.mem_of_getElem? h1)
    omega
  obtain ⟨n1, hn1⟩ : ∃ n1, N = n1 + 1 := ⟨N - 1, by omega⟩
  obtain ⟨X9, hX9⟩ : ∃ X, L[n1]? = some X := ⟨_, List.getElem?_eq_getElem (by omega)⟩
  have hn5 : N ≤ 5000 := by omega
  have hlast : (L.map Value.string)[n1]? = some (.string X9) := by rw [List.getElem?_map, hX9]; rfl
  have htrim : M = if X9 = { data := #[] } then L.take n1 else L := by
    rw [← hM2]
    unfold Lo.trim
    rw [hn, hn1, Nat.add_sub_cancel, hX9]
    by_cases h : X9 = { data := #[] }
    · rw [if_pos h, if_pos (by rw [h])]
    · rw [if_neg h, if_neg (by intro h2; injection h2 with h2; exact h h2)]
  obtain ⟨ls, hls⟩ : ∃ ls, L.map Value.string = ls := ⟨_, rfl⟩
  rw [hls] at hlast
  rw [hls] at hMk
  have HC := Lib.hid (And.intro hs (And.intro hL (And.intro hn hls)))
  have HM := Lib.hid (And.intro hm (And.intro hMk hp))
  have HI := Lib.hid (And.intro htab (And.intro hni (And.intro hwi hsi)))
  have hmm : m = if X9 = { data := #[] } then n1 else N := by
    rw [← hm, htrim]
    split
    · rw [List.length_take]; omega
    · exact hn
  clear hs hM hL hn hsz hle hM2 hMk hX9 htrim htab hni hwi hsi hls hm hp
  have i0 : (0 : Int) ≤ (n1 : Int) := by omega
  have i9 : (n1 : Int) < (N : Int) := by omega
  have i8 : (n1 : Int) ≤ (N : Int) := by omega
  have w0 : IntKind.i64.wrap ((N : Int) - 1) = (n1 : Int) := by rw [IntWalk.i64_in _ (by omega)]; omega
  clear hn1
  go_enter Tryd.func5, Tryd.ntmps5
  go_upto_region 2 with (go_at_call 10; (with_reducible refine (lo_split 10 s (by have := HC.out.1; omega) L HC.out.2.1 N HC.out.2.2.1 _ HI.out.2.1).mono ?_); rintro e1 V1 ⟨bk, rfl, q1, q2, q3⟩; have HD : Hid (LD w V1 bk V1.heap.size ls none 0 0 (evs ((Lo.evl M).take 0))) := Lib.hid ⟨by rw [← HC.out.2.2.2]; exact q1, RM.nil _ _ _ _ (Nat.le_refl _), q3, q2, q1.lt⟩; clear q1 q2 q3)
  have c9 := HD.out.bl.cell (i := n1) hlast
  revert HD
  generalize V1.heap.size = base
  intro HD
  by_cases h9 : X9 = { data := #[] }
  · rw [if_pos h9] at hmm
    have b9 := Lo.txt_eq (W := X9) (l := []) (by rw [h9])
    clear h9 hlast
    subst hmm
    go_wp2_with fail
    go_loopw [6, 27] (fun sl iv wr => ∃ (j c : Nat) (r : Option Addr), sl = .slice r j c ∧ iv = .int .i64 j ∧ j ≤ m ∧ j ≤ p ∧ Hid (LD w wr bk base ls r j c (evs ((Lo.evl M).take j)))) (fun _ iv _ => m - (intOf iv).toNat)
    case atStart => exact ⟨0, 0, none, rfl, rfl, by omega, by omega, HD⟩
    case round =>
      clear HD
      obtain ⟨j, c, r, rfl, rfl, hj, hjp, HD⟩ := hrel
      have j0 : (0 : Int) ≤ (j : Int) := by omega
      by_cases hjm : j < m
      · have i1 : (j : Int) < (m : Int) := by omega
        have w1 : IntKind.i64.wrap ((j : Int) + 1) = (j : Int) + 1 := IntWalk.i64_in _ (by omega)
        obtain ⟨X, hX⟩ : ∃ X, M[j]? = some X := ⟨_, List.getElem?_eq_getElem (by have := HM.out.1; omega)⟩
        obtain ⟨⟨k, i, n, t, b, e, s0, s1, s2, s3, s4, s5⟩, er, hpar⟩ : ∃ x er, Lo.parse X = (x, er) := ⟨_, _, rfl⟩
        have hL := HM.out.2.1 j X hX
        have cX := HD.out.bl.cell (i := j) hL.1
        have HX := Lib.hid (And.intro hX (And.intro hL.2 hpar))
        clear hX hL hpar
        go_upto_region 8 with fail
        clear cX
        go_upto_region 9 with (go_at_call 7; (with_reducible refine (lo_parse12 X HX.out.2.1 k i n t b e s0 s1 s2 s3 s4 s5 er HX.out.2.2 _ (tab_below HD.out.be HI.out.1) (HI.out.2.1.below HD.out.be) (HI.out.2.2.1.below HD.out.be) (HI.out.2.2.2.below HD.out.be)).mono ?_); rintro e1 V1 ⟨rfl, q3⟩; have HDn := Lib.hid (HD.out.chg q3); clear HD; have HD := HDn; clear HDn q3)
        have HK : Hid (LD w (V1.alloc (.cells #[.int .i64 k, .int .i64 i, .int .i64 n, .int .i64 t, .string b, .int .i64 e, .int .i64 s0, .int .i64 s1, .int .i64 s2, .int .i64 s3, .int .i64 s4, .int .i64 s5] 32)) bk base ls r j c (evs ((Lo.evl M).take j)) ∧ Blk (V1.alloc (.cells #[.int .i64 k, .int .i64 i, .int .i64 n, .int .i64 t, .string b, .int .i64 e, .int .i64 s0, .int .i64 s1, .int .i64 s2, .int .i64 s3, .int .i64 s4, .int .i64 s5] 32)) V1.heap.size [.int .i64 k, .int .i64 i, .int .i64 n, .int .i64 t, .string b, .int .i64 e, .int .i64 s0, .int .i64 s1, .int .i64 s2, .int .i64 s3, .int .i64 s4, .int .i64 s5] 32) := Lib.hid ⟨HD.out.chg ((Below.refl _ _).alloc (Nat.le_refl _) _), Blk.newA _ _ _⟩
        clear HD
        revert HK
        generalize (V1.alloc (.cells #[.int .i64 k, .int .i64 i, .int .i64 n, .int .i64 t, .string b, .int .i64 e, .int .i64 s0, .int .i64 s1, .int .i64 s2, .int .i64 s3, .int .i64 s4, .int .i64 s5] 32)) = W1
        generalize V1.heap.size = Y
        intro HK
        by_cases her : er = 0
        · subst her
          have d0 := HK.out.2.cell (i := 0) rfl
          have d1 := HK.out.2.cell (i := 1) rfl
          have d2 := HK.out.2.cell (i := 2) rfl
          have d3 := HK.out.2.cell (i := 3) rfl
          have d4 := HK.out.2.cell (i := 4) rfl
          have d5 := HK.out.2.cell (i := 5) rfl
          have d6 := HK.out.2.cell (i := 6) rfl
          have d7 := HK.out.2.cell (i := 7) rfl
          have d8 := HK.out.2.cell (i := 8) rfl
          have d9 := HK.out.2.cell (i := 9) rfl
          have d10 := HK.out.2.cell (i := 10) rfl
          have d11 := HK.out.2.cell (i := 11) rfl
          have HS : Hid ((Lo.evl M).take (j + 1) = (Lo.evl M).take j ++ [⟨k, i, n, t, b, e, s0, s1, s2, s3, s4, s5⟩] ∧ j + 1 ≤ p) := Lib.hid (by
            have h2 := HX.out.2.2
            refine ⟨?_, ?_⟩
            · rw [Lo.evl_next HX.out.1, h2]
            · rw [← HM.out.2.2]
              exact Lo.okn_next M j X HX.out.1 (by rw [HM.out.2.2]; exact hjp) (by rw [h2]))
          go_wp2_with (at_builtin; refine wpList_append_rm _ rfl (.tmp 42) (.tmp 44) 23 23 rfl 32 (.agg #[.int .i64 0, .int .i64 0, .int .i64 0, .int .i64 0, .string ByteArray.empty, .int .i64 0, .int .i64 0, .int .i64 0, .int .i64 0, .int .i64 0, .int .i64 0, .int .i64 0]) 12 104 Tryd.underlying23 infoEv rfl base r j c (evs ((Lo.evl M).take j)) rfl (HK.out.1.rm.chg (l := []) ((Chg.refl [] W1).alloc _) (by simp)) _ rfl 1 (by omega) (Ev.c ⟨k, i, n, t, b, e, s0, s1, s2, s3, s4, s5⟩) (Src.ofSlice _ Tryd.underlying23 ⟨_, 0, none⟩ 1 1 (Ev.c ⟨k, i, n, t, b, e, s0, s1, s2, s3, s4, s5⟩) rfl (new_atE _ _ _) (Ev.c_one _)) (by omega) (by omega) ?_; intro g4 c4 w4 r1 r2 r3; have HN : Hid (LD w w4 bk base ls (some ⟨g4, 0, none⟩) (j + 1) c4 (evs ((Lo.evl M).take (j + 1)))) := Lib.hid (HK.out.1.push ((Below.refl _ _).alloc (Nat.le_refl _) _) (by rw [HS.out.1, evs_snoc]; exact r1) r3); clear r1 r2 r3)
          go_roundw
          case rel => exact ⟨j + 1, c4, some ⟨g4, 0, none⟩, rfl, by go_num, by omega, HS.out.2, HN⟩
          case measure => simp [intOf]; omega
        · have HP : Hid (p = j ∧ er = 2) := Lib.hid (by
            have h2 := HX.out.2.2
            refine ⟨?_, (Lo.parse_no h2 her).2⟩
            rw [← HM.out.2.2]
            exact Lo.okn_hit M j X HX.out.1 (by rw [HM.out.2.2]; exact hjp) (by rw [h2]; exact her))
          go_wp2_with fail
          go_ret3
          refine Or.inl ⟨by rw [HP.out.1]; omega, ?_, HK.out.1.be⟩
          obtain ⟨h3, h4⟩ := HP.out
          subst h3 h4
          simp
      · obtain rfl : j = m := by omega
        have i1 : ¬ (j : Int) < (j : Int) := by omega
        have HZ : Hid (p = j ∧ RM wr base r j c 12 (evs (Lo.evl M)) 32) := Lib.hid ⟨by have := HM.out.1; have h2 := Lo.okn_le M; rw [HM.out.2.2] at h2; omega, by have := HD.out.rm; rw [List.take_of_length_le (by rw [Lo.evl_len, HM.out.1]; exact Nat.le_refl _)] at this; exact this⟩
        go_wp2_with fail
        go_ret3
        exact Or.inr ⟨HZ.out.1, r, c, rfl, base, by have := HD.out.lt; omega, HZ.out.2, HD.out.be⟩
  · rw [if_neg h9] at hmm
    have b9 := Lo.txt_ne (W := X9) (l := []) (fun h => h9 (ByteArray.ext (Array.ext' h)))
    clear h9 hlast
    subst hmm
    go_wp2_with fail
    go_loopw [6, 27] (fun sl iv wr => ∃ (j c : Nat) (r : Option Addr), sl = .slice r j c ∧ iv = .int .i64 j ∧ j ≤ m ∧ j ≤ p ∧ Hid (LD w wr bk base ls r j c (evs ((Lo.evl M).take j)))) (fun _ iv _ => m - (intOf iv).toNat)
    case atStart => exact ⟨0, 0, none, rfl, rfl, by omega, by omega, HD⟩
    case round =>
      clear HD
      obtain ⟨j, c, r, rfl, rfl, hj, hjp, HD⟩ := hrel
      have j0 : (0 : Int) ≤ (j : Int) := by omega
      by_cases hjm : j < m
      · have i1 : (j : Int) < (m : Int) := by omega
        have w1 : IntKind.i64.wrap ((j : Int) + 1) = (j : Int) + 1 := IntWalk.i64_in _ (by omega)
        obtain ⟨X, hX⟩ : ∃ X, M[j]? = some X := ⟨_, List.getElem?_eq_getElem (by have := HM.out.1; omega)⟩
        obtain ⟨⟨k, i, n, t, b, e, s0, s1, s2, s3, s4, s5⟩, er, hpar⟩ : ∃ x er, Lo.parse X = (x, er) := ⟨_, _, rfl⟩
        have hL := HM.out.2.1 j X hX
        have cX := HD.out.bl.cell (i := j) hL.1
        have HX := Lib.hid (And.intro hX (And.intro hL.2 hpar))
        clear hX hL hpar
        go_upto_region 8 with fail
        clear cX
        go_upto_region 9 with (go_at_call 7; (with_reducible refine (lo_parse12 X HX.out.2.1 k i n t b e s0 s1 s2 s3 s4 s5 er HX.out.2.2 _ (tab_below HD.out.be HI.out.1) (HI.out.2.1.below HD.out.be) (HI.out.2.2.1.below HD.out.be) (HI.out.2.2.2.below HD.out.be)).mono ?_); rintro e1 V1 ⟨rfl, q3⟩; have HDn := Lib.hid (HD.out.chg q3); clear HD; have HD := HDn; clear HDn q3)
        have HK : Hid (LD w (V1.alloc (.cells #[.int .i64 k, .int .i64 i, .int .i64 n, .int .i64 t, .string b, .int .i64 e, .int .i64 s0, .int .i64 s1, .int .i64 s2, .int .i64 s3, .int .i64 s4, .int .i64 s5] 32)) bk base ls r j c (evs ((Lo.evl M).take j)) ∧ Blk (V1.alloc (.cells #[.int .i64 k, .int .i64 i, .int .i64 n, .int .i64 t, .string b, .int .i64 e, .int .i64 s0, .int .i64 s1, .int .i64 s2, .int .i64 s3, .int .i64 s4, .int .i64 s5] 32)) V1.heap.size [.int .i64 k, .int .i64 i, .int .i64 n, .int .i64 t, .string b, .int .i64 e, .int .i64 s0, .int .i64 s1, .int .i64 s2, .int .i64 s3, .int .i64 s4, .int .i64 s5] 32) := Lib.hid ⟨HD.out.chg ((Below.refl _ _).alloc (Nat.le_refl _) _), Blk.newA _ _ _⟩
        clear HD
        revert HK
        generalize (V1.alloc (.cells #[.int .i64 k, .int .i64 i, .int .i64 n, .int .i64 t, .string b, .int .i64 e, .int .i64 s0, .int .i64 s1, .int .i64 s2, .int .i64 s3, .int .i64 s4, .int .i64 s5] 32)) = W1
        generalize V1.heap.size = Y
        intro HK
        by_cases her : er = 0
        · subst her
          have d0 := HK.out.2.cell (i := 0) rfl
          have d1 := HK.out.2.cell (i := 1) rfl
          have d2 := HK.out.2.cell (i := 2) rfl
          have d3 := HK.out.2.cell (i := 3) rfl
          have d4 := HK.out.2.cell (i := 4) rfl
          have d5 := HK.out.2.cell (i := 5) rfl
          have d6 := HK.out.2.cell (i := 6) rfl
          have d7 := HK.out.2.cell (i := 7) rfl
          have d8 := HK.out.2.cell (i := 8) rfl
          have d9 := HK.out.2.cell (i := 9) rfl
          have d10 := HK.out.2.cell (i := 10) rfl
          have d11 := HK.out.2.cell (i := 11) rfl
          have HS : Hid ((Lo.evl M).take (j + 1) = (Lo.evl M).take j ++ [⟨k, i, n, t, b, e, s0, s1, s2, s3, s4, s5⟩] ∧ j + 1 ≤ p) := Lib.hid (by
            have h2 := HX.out.2.2
            refine ⟨?_, ?_⟩
            · rw [Lo.evl_next HX.out.1, h2]
            · rw [← HM.out.2.2]
              exact Lo.okn_next M j X HX.out.1 (by rw [HM.out.2.2]; exact hjp) (by rw [h2]))
          go_wp2_with (at_builtin; refine wpList_append_rm _ rfl (.tmp 42) (.tmp 44) 23 23 rfl 32 (.agg #[.int .i64 0, .int .i64 0, .int .i64 0, .int .i64 0, .string ByteArray.empty, .int .i64 0, .int .i64 0, .int .i64 0, .int .i64 0, .int .i64 0, .int .i64 0, .int .i64 0]) 12 104 Tryd.underlying23 infoEv rfl base r j c (evs ((Lo.evl M).take j)) rfl (HK.out.1.rm.chg (l := []) ((Chg.refl [] W1).alloc _) (by simp)) _ rfl 1 (by omega) (Ev.c ⟨k, i, n, t, b, e, s0, s1, s2, s3, s4, s5⟩) (Src.ofSlice _ Tryd.underlying23 ⟨_, 0, none⟩ 1 1 (Ev.c ⟨k, i, n, t, b, e, s0, s1, s2, s3, s4, s5⟩) rfl (new_atE _ _ _) (Ev.c_one _)) (by omega) (by omega) ?_; intro g4 c4 w4 r1 r2 r3; have HN : Hid (LD w w4 bk base ls (some ⟨g4, 0, none⟩) (j + 1) c4 (evs ((Lo.evl M).take (j + 1)))) := Lib.hid (HK.out.1.push ((Below.refl _ _).alloc (Nat.le_refl _) _) (by rw [HS.out.1, evs_snoc]; exact r1) r3); clear r1 r2 r3)
          go_roundw
          case rel => exact ⟨j + 1, c4, some ⟨g4, 0, none⟩, rfl, by go_num, by omega, HS.out.2, HN⟩
          case measure => simp [intOf]; omega
        · have HP : Hid (p = j ∧ er = 2) := Lib.hid (by
            have h2 := HX.out.2.2
            refine ⟨?_, (Lo.parse_no h2 her).2⟩
            rw [← HM.out.2.2]
            exact Lo.okn_hit M j X HX.out.1 (by rw [HM.out.2.2]; exact hjp) (by rw [h2]; exact her))
          go_wp2_with fail
          go_ret3
          refine Or.inl ⟨by rw [HP.out.1]; omega, ?_, HK.out.1.be⟩
          obtain ⟨h3, h4⟩ := HP.out
          subst h3 h4
          simp
      · obtain rfl : j = m := by omega
        have i1 : ¬ (j : Int) < (j : Int) := by omega
        have HZ : Hid (p = j ∧ RM wr base r j c 12 (evs (Lo.evl M)) 32) := Lib.hid ⟨by have := HM.out.1; have h2 := Lo.okn_le M; rw [HM.out.2.2] at h2; omega, by have := HD.out.rm; rw [List.take_of_length_le (by rw [Lo.evl_len, HM.out.1]; exact Nat.le_refl _)] at this; exact this⟩
        go_wp2_with fail
        go_ret3
        exact Or.inr ⟨HZ.out.1, r, c, rfl, base, by have := HD.out.lt; omega, HZ.out.2, HD.out.be⟩
end Go.Proofs.YtfhhkmjjifbfeaaDoor
