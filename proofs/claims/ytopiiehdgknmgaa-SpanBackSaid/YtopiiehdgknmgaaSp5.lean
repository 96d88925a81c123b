/- Span: Text; texts turned round. -/
import Derived.Test.YtopiiehdgknmgaaSp4
import Derived.Test.YtopiiehdgknmgaaGpB
namespace Go.Proofs.Ytopiiehdgknmgaa
open Go.ChangeShapes Go.WideShapes Go.ChangeAt Go.RowKit
set_option linter.unusedSimpArgs false
set_option linter.unusedVariables false

theorem starts_le {l : List (Bool × BitVec 256)} {t : List UInt8} {k i : Nat} (h : i ∈ Lg.starts l t k) : i ≤ k := by
  unfold Lg.starts at h
  have := (List.mem_filter.1 h).1
  rw [List.mem_range'_1] at this
  omega
theorem first_le {l : List (Bool × BitVec 256)} {t : List UInt8} {f m : Nat} {is : Bool} (h : Lg.firstR l t = (f, m, is)) : f ≤ m ∧ m ≤ t.length := by
  rcases first_cases l t with ⟨k, hk, _, _, e⟩ | ⟨_, e⟩
  · rw [e] at h
    injection h with h1 h2
    injection h2 with h2 h3
    subst h1 h2
    refine ⟨?_, hk⟩
    cases hst : Lg.starts l t k with
    | nil => simp
    | cons i r => simp; exact starts_le (l := l) (t := t) (by rw [hst]; simp)
  · rw [e] at h
    injection h with h1 h2
    injection h2 with h2 h3
    subst h1 h2
    omega
set_option maxRecDepth 20000 in
set_option maxHeartbeats 4000000 in
theorem sp_text_no (p s : ByteArray) (hs : p.size ≤ 1000000) (e0 : Nat) (he : Ar.ck p = e0) (h0 : e0 ≠ 0) (w : World) :
    Calls Try.prog 42 #[.string p, .string s] w fun e w' => e = .returned (.tuple #[.string ByteArray.empty, .bool false]) ∧ Below w.heap.size w w' := by
  obtain ⟨⟨R, pp, q⟩, hr⟩ : ∃ z, Cs.rdG (p.data.toList.length + 1) p.data.toList 0 [] = z := ⟨_, rfl⟩
  have hg : goodB R = true := by
    have := rdG_good (p.data.toList.length + 1) p.data.toList 0 [] (by simp) okI_nil
    rw [hr] at this; exact this
  have hp : Ar.pat p = R := by unfold Ar.pat; rw [hr]
  obtain ⟨n, hn⟩ : ∃ n, R.length = n := ⟨_, rfl⟩
  have hn6 : n ≤ 100000 := by have := (goodB_ok hg).2; omega
  have HS := Lib.hid (And.intro hr hg)
  have HN : Hid (R.length = n ∧ True) := Lib.hid ⟨hn, trivial⟩
  by_cases hq : q = 0
  · subst hq
    have hz : decide (Lg.least R = 0) = true := by
      unfold Ar.ck at he
      rw [hr, hp] at he
      dsimp only at he
      rw [if_neg (by simp)] at he
      by_cases hd : decide (Lg.least R = 0) = true
      · exact hd
      · rw [if_neg hd] at he; exact absurd he.symm h0
    have HZ := Lib.hid hz
    clear hr hg hp hn he h0 hz
    go_enter Try.func42, Try.ntmps42
    go_wp2_with (first
      | (go_at_call 60; with_reducible refine (gl_rdG p _ hs rfl R pp 0 HS.out.1 _).mono ?_; rintro e W1 ⟨v, rfl, h1, hb1⟩; obtain ⟨a, c, rfl, h3⟩ := own_ik h1; rw [HN.out.1]; have HB := Lib.hid (And.intro h3 hb1); clear h1 h3 hb1)
      | (go_at_call 37; with_reducible refine (sp_find_bad R (Or.inr ⟨HS.out.2, HZ.out⟩) s n a c HN.out.1 hn6 _ HB.out.1).mono ?_; rintro e W2 ⟨rfl, hb1⟩; have HC := Lib.hid (HB.out.2.trans (hb1.mono HB.out.2.size)); clear hb1))
    go_ret2
    exact ⟨rfl, HC.out⟩
  · have hqI : ((q : Int) == 0) = false := by rw [beq_eq_false_iff_ne]; omega
    clear hr hg hp hn he h0
    go_enter Try.func42, Try.ntmps42
    go_wp2_with (go_at_call 60; with_reducible refine (gl_rdG p _ hs rfl R pp q HS.out.1 _).mono ?_; rintro e W1 ⟨v, rfl, h1, hb1⟩; obtain ⟨a, c, rfl, h3⟩ := own_ik h1; rw [HN.out.1]; have HB := Lib.hid (And.intro h3 hb1); clear h1 h3 hb1)
    go_ret2
    exact ⟨rfl, HB.out.2⟩
set_option maxRecDepth 20000 in
set_option maxHeartbeats 4000000 in
theorem sp_text (p s : ByteArray) (t : List UInt8) (hs : p.size ≤ 1000000) (hs2 : s.size ≤ 1000000) (ht : s.data.toList = t) (he : Ar.ck p = 0) (f m : Nat) (is : Bool) (hF : Lg.firstR (Ar.pat p) t = (f, m, is)) (u : ByteArray) (hu : s.extract f m = u) (w : World) :
    Calls Try.prog 42 #[.string p, .string s] w fun e w' => e = .returned (.tuple #[.string u, .bool is]) ∧ Below w.heap.size w w' := by
  have hck := ck_zero he
  have hok := ck_ok he
  obtain ⟨R, hR⟩ : ∃ R, Ar.pat p = R := ⟨_, rfl⟩
  have hg : goodB R = true := by rw [← hR]; exact pat_good he
  rw [hR] at hok hF hck
  obtain ⟨n, hn⟩ : ∃ n, R.length = n := ⟨_, rfl⟩
  obtain ⟨pp, hpp⟩ : ∃ pp : Nat, 0 = pp := ⟨_, rfl⟩
  obtain ⟨q, hq⟩ : ∃ q : Nat, 0 = q := ⟨_, rfl⟩
  have hq2 : (q : Int) = 0 := by omega
  have hr : Cs.rdG (p.data.toList.length + 1) p.data.toList 0 [] = (R, pp, q) := by rw [← hpp, ← hq]; exact hok
  have hn6 : n ≤ 100000 := by have := (goodB_ok hg).2; omega
  have hle := first_le hF
  have hsz : t.length = s.size := by rw [← ht]; simp
  have m1 : (0 : Int) ≤ (f : Int) := by omega
  have m2 : (f : Int) ≤ (m : Int) := by omega
  have m3 : (m : Int) ≤ (s.size : Int) := by omega
  have m4 : f ≤ m := by omega
  have m5 : m ≤ s.size := by omega
  have HS := Lib.hid (And.intro hr hg)
  have HN : Hid (R.length = n ∧ True) := Lib.hid ⟨hn, trivial⟩
  have HZ := Lib.hid (And.intro hck.2.1 (And.intro ht (And.intro hF hu)))
  clear hr hg hn hck hok hR hpp hq ht hF hu hle hsz he
  go_enter Try.func42, Try.ntmps42
  go_wp2_with (first
    | (go_at_call 60; with_reducible refine (gl_rdG p _ hs rfl R pp q HS.out.1 _).mono ?_; rintro e W1 ⟨v, rfl, h1, hb1⟩; obtain ⟨a, c, rfl, h3⟩ := own_ik h1; rw [HN.out.1]; have HB := Lib.hid (And.intro h3 hb1); clear h1 h3 hb1)
    | (go_at_call 37; with_reducible refine (sp_find R HS.out.2 HZ.out.1 s t hs2 HZ.out.2.1 n a c HN.out.1 f m is HZ.out.2.2.1 _ HB.out.1).mono ?_; rintro e W2 ⟨rfl, hb1⟩; have HC := Lib.hid (HB.out.2.trans (hb1.mono HB.out.2.size)); clear hb1))
  go_ret2
  exact ⟨by rw [← HZ.out.2.2.2]; rfl, HC.out⟩
theorem turn_pre (t : List UInt8) (j : Nat) (hj : j < t.length) : (t.drop (j + 1)).reverse ++ [t[j]] = (t.drop j).reverse := by
  rw [List.drop_eq_getElem_cons hj, List.reverse_cons]
set_option maxRecDepth 20000 in
set_option maxHeartbeats 4000000 in
theorem lw_turned (s u : ByteArray) (hs : s.size ≤ 1000) (hu : u.data.toList = s.data.toList.reverse) (w : World) :
    Calls Try.prog 35 #[.string s] w fun e w' => e = .returned (.string u) ∧ Below w.heap.size w w' := by
  obtain ⟨n, hn⟩ : ∃ n, s.size = n := ⟨_, rfl⟩
  have HN := Lib.hid (And.intro hn hu)
  have hn3 : n ≤ 1000 := by omega
  have w1 : IntKind.i64.wrap ((s.size : Int) - 1) = (n : Int) - 1 := by rw [hn]; exact IntWalk.i64_in _ (by omega)
  clear hu hs
  go_enter Try.func35, Try.ntmps35
  go_upto_region 2 with fail
  have HR : Hid (Rw (w.alloc (.cells #[] 5)) w.heap.size 0 (cu []) 5 ∧ w.heap.size ≤ w.heap.size ∧ Below w.heap.size w (w.alloc (.cells #[] 5))) := Lib.hid ⟨Rw.empty w 5, Nat.le_refl _, (Below.refl _ _).alloc (Nat.le_refl _) _⟩
  revert HR
  generalize w.alloc (.cells #[] 5) = W1
  intro HR
  clear hn
  go_wp2
  go_loopw [3, 4] (fun v i wr => ∃ (k g c m : Nat) (z : Int) (L : List UInt8), v = .slice (some ⟨g, 0, none⟩) m c ∧ i = .int .i64 z ∧ Hid (z = (k : Int) - 1) ∧ k ≤ n ∧ m ≤ 1000 ∧ Hid (L = (s.data.toList.drop k).reverse ∧ L.length = m ∧ m + k = n) ∧ Hid (Rw wr g c (cu L) 5 ∧ w.heap.size ≤ g ∧ Below w.heap.size w wr)) (fun _ i _ => (intOf i + 1).toNat)
  case atStart => exact ⟨n, w.heap.size, 0, 0, (n : Int) - 1, [], rfl, by first | rfl | rw [w1] | go_num, Lib.hid rfl, Nat.le_refl _, by omega, Lib.hid ⟨by rw [List.drop_of_length_le (by have := HN.out.1; simp; omega)]; rfl, rfl, by omega⟩, HR⟩
  case round =>
    clear HR
    obtain ⟨k, g, c, m, z, L, rfl, rfl, hz, hk, hm, HL, HK⟩ := hrel
    cases k with
    | succ j =>
      obtain rfl : z = (j : Int) := by have := hz.out; omega
      have j0 : (0 : Int) ≤ (j : Int) := by omega
      have hjs : j < s.size := by have := HN.out.1; omega
      have hjI : (j : Int) < (s.size : Int) := by omega
      obtain ⟨x, hx⟩ : ∃ x, s[j] = x := ⟨_, rfl⟩
      have HL2 : Hid (L ++ [x] = (s.data.toList.drop j).reverse ∧ (L ++ [x]).length = m + 1 ∧ m + 1 + j = n) := Lib.hid ⟨by
        rw [HL.out.1, ← turn_pre s.data.toList j (by simpa using hjs), ← hx]; rfl, by rw [List.length_append, HL.out.2.1]; rfl, by have := HL.out.2.2; omega⟩
      have hm2 : m + 1 ≤ 1000 := by have := HL2.out.2.2; omega
      have w2 : IntKind.i64.wrap ((j : Int) - 1) = (j : Int) - 1 := IntWalk.i64_in _ (by omega)
      clear hz
      go_wp2_with (at_builtin; refine wpList_append_rw _ rfl (.tmp 13) (.tmp 17) 92 92 rfl 5 (.int .u8 0) 1 Try.underlying92 info5 rfl g m c (cu L) rfl (by rw [cu_length, HL.out.2.1]) (HK.out.1.chg ((Chg.refl [] _).alloc _) (by simp)) _ rfl 1 _ (Src.ofSlice _ Try.underlying92 ⟨_, 0, none⟩ 1 1 [.int .u8 (x.toNat : Int)] rfl (one_new _ _ _) (one_u8 _)) (by omega) (by omega) ?_; intro g4 c4 w4 r1 r2 r3; have HK4 : Hid (Rw w4 g4 c4 (cu (L ++ [x])) 5 ∧ w.heap.size ≤ g4 ∧ Below w.heap.size w w4) := Lib.hid (by
            have hs := HK.out.2.2.size
            have hg := HK.out.2.1
            simp only [World.size_alloc] at r2
            exact ⟨by rw [cu_append]; exact r1, by omega, r3.onto (HK.out.2.2.alloc hs _) (by simp; omega) (by simp; omega)⟩); clear r1 r2 r3)
      refine ⟨?_, ?measure⟩
      case measure => simp [intOf]; try omega
      first
        | exact ⟨j, g4, c4, m + 1, (j : Int) - 1, L ++ [x], by go_num, by first | rfl | rw [w2] | go_num, Lib.hid rfl, by omega, hm2, HL2, HK4⟩
        | ((repeat apply Exists.intro); exact ⟨⟨j, g4, c4, m + 1, (j : Int) - 1, L ++ [x], by go_num, by first | rfl | rw [w2] | go_num, Lib.hid rfl, by omega, hm2, HL2, HK4⟩, rfl⟩)
    | zero =>
      obtain rfl : z = -1 := by have := hz.out; omega
      have hcu : Rw wr g c (cu u.data.toList) 5 := by
        rw [HN.out.2, ← List.drop_zero (l := s.data.toList), ← HL.out.1]; exact HK.out.1
      have hcv := conv_rw wr g m c u hcu (by
        rw [size_of HN.out.2]
        have := HL.out.2.1
        rw [HL.out.1] at this
        simpa using this)
      clear hcu
      go_wp2
      go_ret
      exact ⟨rfl, HK.out.2.2⟩
theorem lv11_ck : Ar.ck { data := #[97, 42, 98] } = 0 := by decide +kernel
theorem lv11_first : Lg.firstR (Ar.pat { data := #[97, 42, 98] }) [120, 97, 97, 98] = (1, 4, true) := by decide +kernel
theorem sp_lives (w : World) : Calls Try.prog 36 #[] w fun e w' => e = .returned (.bool true) ∧ Below w.heap.size w w' := by
  go_enter Try.func36, Try.ntmps36
  go_wp2_with (go_at_call 42; with_reducible refine (sp_text { data := #[97, 42, 98] } { data := #[120, 97, 97, 98] } [120, 97, 97, 98] (by decide) (by decide) rfl lv11_ck 1 4 true lv11_first { data := #[97, 97, 98] } (by decide +kernel) _).mono ?_; rintro e W1 ⟨rfl, hb1⟩; have HB := Lib.hid hb1; clear hb1)
  go_ret
  exact ⟨rfl, HB.out⟩
end Go.Proofs.Ytopiiehdgknmgaa
