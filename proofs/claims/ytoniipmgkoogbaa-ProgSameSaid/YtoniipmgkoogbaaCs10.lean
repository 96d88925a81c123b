/- Contracts of sets of bytes: what parts are read as. -/
import Derived.Test.YtoniipmgkoogbaaCs9
namespace Go.Proofs.Ytoniipmgkoogbaa
open Go.ChangeShapes Go.WideShapes Go.ChangeAt Go.RowKit
set_option linter.unusedSimpArgs false
set_option linter.unusedVariables false

theorem ptxt_head (p : UInt8 × Option UInt8) : ∃ b r, Cs.ptxt p = b :: r ∧ b ≠ 93 ∧ b ≠ 45 ∧ b ≠ 94 := by
  have h : ∀ c, ∃ b r, Cs.sgn c = b :: r ∧ b ≠ 93 ∧ b ≠ 45 ∧ b ≠ 94 := by
    intro c
    unfold Cs.sgn
    split
    · exact ⟨37, [c], rfl, by decide, by decide, by decide⟩
    · rename_i hn
      exact ⟨c, [], rfl, fun e => hn (Or.inr (Or.inl e)), fun e => hn (Or.inr (Or.inr (Or.inl e))), fun e => hn (Or.inr (Or.inr (Or.inr e)))⟩
  obtain ⟨c, o⟩ := p
  obtain ⟨b, r, h1, h2⟩ := h c
  cases o with
  | none => exact ⟨b, r, h1, h2⟩
  | some d => exact ⟨b, r ++ (45 :: Cs.sgn d), by rw [Cs.ptxt, h1]; rfl, h2⟩
theorem txt_cons (p : UInt8 × Option UInt8) (l : List (UInt8 × Option UInt8)) : Cs.txt (p :: l) = Cs.ptxt p ++ Cs.txt l := by simp [Cs.txt]
theorem txt_append (l m : List (UInt8 × Option UInt8)) : Cs.txt (l ++ m) = Cs.txt l ++ Cs.txt m := by simp [Cs.txt]
theorem txt_head (l : List (UInt8 × Option UInt8)) (rest : List UInt8) : (Cs.txt l ++ 93 :: rest).head? ≠ some 45 := by
  cases l with
  | nil => simp [Cs.txt]
  | cons p l =>
    obtain ⟨b, r, h1, _, h3, _⟩ := ptxt_head p
    rw [txt_cons, h1]; simpa using h3
set_option maxRecDepth 20000 in
set_option maxHeartbeats 1000000 in
theorem cs_readParts (s : ByteArray) (ps : List (UInt8 × Option UInt8)) (rest : List UInt8) (hs : s.size ≤ 1000000) (h : s.data.toList = Cs.txt ps ++ 93 :: rest) (hp : ∀ p ∈ ps, Cs.okP p) (hne : ps ≠ []) (w : World) :
    Calls Try.prog 45 #[.string s] w fun e w' => e = .returned (.tuple #[Cs.sv (Cs.setP ps), .int .i64 ((Cs.txt ps).length + 1 : Nat), .int .i64 0]) ∧ Below w.heap.size w w' := by
  obtain ⟨n, hn⟩ : ∃ n, (Cs.txt ps).length = n := ⟨_, rfl⟩
  obtain ⟨F, hF⟩ : ∃ F, Cs.setP ps = F := ⟨_, rfl⟩
  obtain ⟨l, hl⟩ : ∃ l, s.size = l := ⟨_, rfl⟩
  have hsl : l = n + 1 + rest.length := by rw [← hl, size_of h, List.length_append, List.length_cons, hn]; omega
  have HP := Lib.hid (And.intro h (And.intro hp (And.intro hne (And.intro hn (And.intro hF hl)))))
  have hl6 : l ≤ 1000000 := by omega
  rw [hn, hF]
  have hln : n + 1 ≤ l := by omega
  clear h hp hne hn hF hs hsl
  have hc : Hid (SB ((w.alloc (.cells #[.int .u64 0, .int .u64 0, .int .u64 0, .int .u64 0] 67)).alloc (.cells #[.int .u64 0, .int .u64 0, .int .u64 0, .int .u64 0] 67)) w.heap.size 0 ∧ SB ((w.alloc (.cells #[.int .u64 0, .int .u64 0, .int .u64 0, .int .u64 0] 67)).alloc (.cells #[.int .u64 0, .int .u64 0, .int .u64 0, .int .u64 0] 67)) (w.heap.size + 1) 0 ∧ Below w.heap.size w ((w.alloc (.cells #[.int .u64 0, .int .u64 0, .int .u64 0, .int .u64 0] 67)).alloc (.cells #[.int .u64 0, .int .u64 0, .int .u64 0, .int .u64 0] 67))) :=
    Lib.hid ⟨(SB.zero w).alloc _, by have := SB.zero (w.alloc (.cells #[.int .u64 0, .int .u64 0, .int .u64 0, .int .u64 0] 67)); simpa using this, ((Below.refl _ _).alloc (Nat.le_refl _) _).alloc (by simp) _⟩
  go_enter Try.func45, Try.ntmps45
  go_upto_region 2 with fail
  revert hc
  generalize (w.alloc (.cells #[.int .u64 0, .int .u64 0, .int .u64 0, .int .u64 0] 67)).alloc (.cells #[.int .u64 0, .int .u64 0, .int .u64 0, .int .u64 0] 67) = W
  intro hc
  go_wp2
  go_loopw [6] (fun i wr => ∃ (k : Nat) (done todo : List (UInt8 × Option UInt8)) (X : BitVec 256), i = .int .i64 k ∧ k ≤ n ∧ Hid (ps = done ++ todo ∧ (Cs.txt done).length = k ∧ Cs.setP done = X) ∧ Hid (SB wr w.heap.size 0 ∧ SB wr (w.heap.size + 1) X ∧ Below w.heap.size w wr)) (fun i _ => l - (intOf i).toNat)
  case atStart => exact ⟨0, [], ps, 0, rfl, by omega, Lib.hid ⟨rfl, rfl, rfl⟩, Lib.hid hc.out⟩
  case round =>
    clear hc
    obtain ⟨k, done, todo, X, rfl, hk, HD, HB⟩ := hrel
    have j0 : (0 : Int) ≤ (k : Int) := by omega
    have hdrop : Hid (s.data.toList.drop k = Cs.txt todo ++ 93 :: rest) := Lib.hid (by
      rw [HP.out.1, HD.out.1, txt_append, List.append_assoc, ← HD.out.2.1, List.drop_left])
    have hat : Hid (∀ b r, Cs.txt todo ++ 93 :: rest = b :: r → ∃ hi : k < s.size, s[k] = b) := Lib.hid (fun b r e => by
      refine at_of (i := k) rfl ?_
      have : (s.data.toList.drop k)[0]? = some b := by rw [hdrop.out, e]; rfl
      rw [List.getElem?_drop] at this
      simpa using this)
    have hkl : k < l := by omega
    cases todo with
    | nil =>
      have e0 : Hid (done = ps) := Lib.hid (by have := HD.out.1; simpa using this.symm)
      have hkn : k = n := by rw [← HD.out.2.1, e0.out, HP.out.2.2.2.1]
      have hn0 : 0 < n := by
        have hne := HP.out.2.2.1
        rw [← HP.out.2.2.2.1]
        cases hps : ps with
        | nil => exact absurd hps hne
        | cons p q =>
          obtain ⟨b, r, h1, _⟩ := ptxt_head p
          rw [txt_cons, h1]; simp
      obtain ⟨li, e1⟩ := hat.out 93 rest rfl
      have c0 : (s[k].toNat : Int) = 93 := by rw [e1]; rfl
      have hXF : X = F := by rw [← HD.out.2.2, e0.out, HP.out.2.2.2.2.1]
      have HC : Hid (SB wr w.heap.size 0 ∧ SB wr (w.heap.size + 1) F ∧ Below w.heap.size w wr) := Lib.hid (by have := HB.out; rw [hXF] at this; exact this)
      have w1 : IntKind.i64.wrap ((k : Int) + 1) = (k : Int) + 1 := IntWalk.i64_in _ (by omega)
      have hk0 : (0 : Int) < (k : Int) := by omega
      have hkz : 0 < k := by omega
      have HKN := Lib.hid hkn
      clear e1 hkn HB hn0
      have x0 := HC.out.2.1.at (i := 0) (by decide)
      have x1 := HC.out.2.1.at (i := 1) (by decide)
      have x2 := HC.out.2.1.at (i := 2) (by decide)
      have x3 := HC.out.2.1.at (i := 3) (by decide)
      have d0 := HC.out.1.at (i := 0) (by decide)
      have d1 := HC.out.1.at (i := 1) (by decide)
      have d2 := HC.out.1.at (i := 2) (by decide)
      have d3 := HC.out.1.at (i := 3) (by decide)
      have df0 := HC.out.1.free 0
      have df1 := HC.out.1.free 1
      have df2 := HC.out.1.free 2
      have df3 := HC.out.1.free 3
      go_wp2
      have hr := Lib.hid (HC.out.1.res HC.out.2.2 (Nat.le_refl _) F)
      clear x0 x1 x2 x3 d0 d1 d2 d3 df0 df1 df2 df3 HC
      revert hr
      generalize (((wr.setCell ⟨w.heap.size, 0, none⟩ (.int .u64 (Cs.wd F 0))).setCell ⟨w.heap.size, 1, none⟩ (.int .u64 (Cs.wd F 1))).setCell ⟨w.heap.size, 2, none⟩ (.int .u64 (Cs.wd F 2))).setCell ⟨w.heap.size, 3, none⟩ (.int .u64 (Cs.wd F 3)) = W2
      intro hr
      have c0 := hr.out.1.at (i := 0) (by decide)
      have c1 := hr.out.1.at (i := 1) (by decide)
      have c2 := hr.out.1.at (i := 2) (by decide)
      have c3 := hr.out.1.at (i := 3) (by decide)
      refine bodyPost_ret (v := .tuple #[.agg #[.int .u64 (Cs.wd F 0), .int .u64 (Cs.wd F 1), .int .u64 (Cs.wd F 2), .int .u64 (Cs.wd F 3)], .int .i64 ((k : Int) + 1), .int .i64 0]) (by simp [results, Try.results45, go_sem, c0, c1, c2, c3]) rfl ?_
      exact ⟨by rw [HKN.out, Int.natCast_add]; rfl, hr.out.2⟩
    | cons p todo =>
      obtain ⟨b, r, hb, hb93, hb45, hb94⟩ := ptxt_head p
      obtain ⟨li, e1⟩ := hat.out b (r ++ (Cs.txt todo ++ 93 :: rest)) (by rw [txt_cons, hb]; simp)
      have c0 : ((s[k].toNat : Int) == 93) = false := by rw [e1, beq_eq_false_iff_ne]; exact fun e => hb93 (u8_eq e)
      obtain ⟨u, hu⟩ : ∃ u, s.extract k l = u := ⟨_, rfl⟩
      obtain ⟨j, hj⟩ : ∃ j, (Cs.ptxt p).length = j := ⟨_, rfl⟩
      have hj1 : 1 ≤ j := by rw [← hj, hb]; simp
      have hkj : k + j ≤ n := by
        have e2 := HP.out.2.2.2.1
        rw [HD.out.1, txt_append, txt_cons, List.length_append, List.length_append, HD.out.2.1, hj] at e2
        omega
      have HL := Lib.hid hj
      have HU : Hid (u.data.toList = Cs.ptxt p ++ (Cs.txt todo ++ 93 :: rest) ∧ u.size ≤ 1000000) := Lib.hid (by
        have e := ext_drop HP.out.2.2.2.2.2 hu
        rw [hdrop.out, txt_cons, List.append_assoc] at e
        refine ⟨e, ?_⟩
        have : u.data.toList.length ≤ l := by
          rw [ext_drop HP.out.2.2.2.2.2 hu, List.length_drop, Array.length_toList]
          have : s.data.size = l := HP.out.2.2.2.2.2
          omega
        rw [size_of rfl]; omega)
      have HU2 : Hid (Cs.okP p ∧ (Cs.txt todo ++ 93 :: rest).head? ≠ some 45) := Lib.hid ⟨HP.out.2.1 p (by rw [HD.out.1]; simp), txt_head _ _⟩
      obtain ⟨Y, hY⟩ : ∃ Y, Cs.pset p = Y := ⟨_, rfl⟩
      obtain ⟨X2, hX2⟩ : ∃ X2, X ||| Y = X2 := ⟨_, rfl⟩
      have HS2 := Lib.hid hX2
      have HP2 : Hid (ps = (done ++ [p]) ++ todo ∧ (Cs.txt (done ++ [p])).length = k + j ∧ Cs.setP (done ++ [p]) = X2) := Lib.hid ⟨by rw [HD.out.1]; simp, by rw [txt_append, List.length_append, HD.out.2.1, txt_cons, List.length_append, hj]; simp [Cs.txt], by rw [Cs.setP_snoc, HD.out.2.2, hY, hX2]⟩
      have w1 : IntKind.i64.wrap ((k : Int) + j) = (k : Int) + j := IntWalk.i64_in _ (by omega)
      clear e1 hb hb93 hb45 hb94 hj hX2
      by_cases hkz : 0 < k
      · have hk0 : (0 : Int) < (k : Int) := by omega
        have HY : Hid (Cs.pset p = Y) := Lib.hid hY
        clear hY
        go_upto_region 6 with (go_at_call 48; refine (cs_readPart u p _ HU.out.2 HU.out.1 HU2.out.1 HU2.out.2 _).mono ?_; rintro e W1 ⟨rfl, hb1⟩; rw [HY.out, HL.out]; unfold Cs.sv; have HB1 : Hid (SB W1 w.heap.size 0 ∧ SB W1 (w.heap.size + 1) X ∧ Below w.heap.size w W1) := Lib.hid ⟨HB.out.1.below hb1, HB.out.2.1.below hb1, HB.out.2.2.trans (hb1.mono HB.out.2.2.size)⟩; clear hb1)
        have HB2 : Hid (SB (W1.alloc (.cells #[.int .u64 (Cs.wd Y 0), .int .u64 (Cs.wd Y 1), .int .u64 (Cs.wd Y 2), .int .u64 (Cs.wd Y 3)] 67)) W1.heap.size Y ∧ SB (W1.alloc (.cells #[.int .u64 (Cs.wd Y 0), .int .u64 (Cs.wd Y 1), .int .u64 (Cs.wd Y 2), .int .u64 (Cs.wd Y 3)] 67)) w.heap.size 0 ∧ SB (W1.alloc (.cells #[.int .u64 (Cs.wd Y 0), .int .u64 (Cs.wd Y 1), .int .u64 (Cs.wd Y 2), .int .u64 (Cs.wd Y 3)] 67)) (w.heap.size + 1) X ∧ Below w.heap.size w (W1.alloc (.cells #[.int .u64 (Cs.wd Y 0), .int .u64 (Cs.wd Y 1), .int .u64 (Cs.wd Y 2), .int .u64 (Cs.wd Y 3)] 67))) := Lib.hid ⟨SB.new W1 Y, HB1.out.1.alloc _, HB1.out.2.1.alloc _, HB1.out.2.2.alloc HB1.out.2.2.size _⟩
        revert HB2
        generalize W1.alloc (.cells #[.int .u64 (Cs.wd Y 0), .int .u64 (Cs.wd Y 1), .int .u64 (Cs.wd Y 2), .int .u64 (Cs.wd Y 3)] 67) = V
        generalize W1.heap.size = D
        intro HB2
        have y0 := HB2.out.1.at (i := 0) (by decide)
        have y1 := HB2.out.1.at (i := 1) (by decide)
        have y2 := HB2.out.1.at (i := 2) (by decide)
        have y3 := HB2.out.1.at (i := 3) (by decide)
        have z0 := HB2.out.2.2.1.at (i := 0) (by decide)
        have z1 := HB2.out.2.2.1.at (i := 1) (by decide)
        have z2 := HB2.out.2.2.1.at (i := 2) (by decide)
        have z3 := HB2.out.2.2.1.at (i := 3) (by decide)
        go_wp2_with (go_at_call 49; rw [sv_def X, sv_def Y]; refine (cs_or X Y _).mono ?_; rintro e W5 ⟨rfl, hb5⟩; rw [HS2.out]; unfold Cs.sv; have HB5 : Hid (SB W5 w.heap.size 0 ∧ SB W5 (w.heap.size + 1) X ∧ Below w.heap.size w W5) := Lib.hid ⟨HB2.out.2.1.below hb5, HB2.out.2.2.1.below hb5, HB2.out.2.2.2.trans (hb5.mono HB2.out.2.2.2.size)⟩; clear hb5 y0 y1 y2 y3 z0 z1 z2 z3; have z0 := HB5.out.2.1.at (i := 0) (by decide); have zf0 := HB5.out.2.1.free 0; have z1 := HB5.out.2.1.at (i := 1) (by decide); have zf1 := HB5.out.2.1.free 1; have z2 := HB5.out.2.1.at (i := 2) (by decide); have zf2 := HB5.out.2.1.free 2; have z3 := HB5.out.2.1.at (i := 3) (by decide); have zf3 := HB5.out.2.1.free 3)
        have HN := Lib.hid (set4_two HB5.out.1 HB5.out.2.1 HB5.out.2.2 (by omega) (by omega) X2)
        refine ⟨?_, ?measure⟩
        case measure => simp [intOf]; omega
        first
          | exact ⟨k + j, done ++ [p], todo, X2, by go_num, by omega, HP2, HN⟩
          | exact ⟨k + j, done ++ [p], todo, X2, rfl, by omega, HP2, HN⟩
          | ((repeat apply Exists.intro); exact ⟨⟨k + j, done ++ [p], todo, X2, by go_num, by omega, HP2, HN⟩, rfl⟩)
      · have hk0 : ¬ (0 : Int) < (k : Int) := by omega
        have HY : Hid (Cs.pset p = Y) := Lib.hid hY
        clear hY
        go_upto_region 6 with (go_at_call 48; refine (cs_readPart u p _ HU.out.2 HU.out.1 HU2.out.1 HU2.out.2 _).mono ?_; rintro e W1 ⟨rfl, hb1⟩; rw [HY.out, HL.out]; unfold Cs.sv; have HB1 : Hid (SB W1 w.heap.size 0 ∧ SB W1 (w.heap.size + 1) X ∧ Below w.heap.size w W1) := Lib.hid ⟨HB.out.1.below hb1, HB.out.2.1.below hb1, HB.out.2.2.trans (hb1.mono HB.out.2.2.size)⟩; clear hb1)
        have HB2 : Hid (SB (W1.alloc (.cells #[.int .u64 (Cs.wd Y 0), .int .u64 (Cs.wd Y 1), .int .u64 (Cs.wd Y 2), .int .u64 (Cs.wd Y 3)] 67)) W1.heap.size Y ∧ SB (W1.alloc (.cells #[.int .u64 (Cs.wd Y 0), .int .u64 (Cs.wd Y 1), .int .u64 (Cs.wd Y 2), .int .u64 (Cs.wd Y 3)] 67)) w.heap.size 0 ∧ SB (W1.alloc (.cells #[.int .u64 (Cs.wd Y 0), .int .u64 (Cs.wd Y 1), .int .u64 (Cs.wd Y 2), .int .u64 (Cs.wd Y 3)] 67)) (w.heap.size + 1) X ∧ Below w.heap.size w (W1.alloc (.cells #[.int .u64 (Cs.wd Y 0), .int .u64 (Cs.wd Y 1), .int .u64 (Cs.wd Y 2), .int .u64 (Cs.wd Y 3)] 67))) := Lib.hid ⟨SB.new W1 Y, HB1.out.1.alloc _, HB1.out.2.1.alloc _, HB1.out.2.2.alloc HB1.out.2.2.size _⟩
        revert HB2
        generalize W1.alloc (.cells #[.int .u64 (Cs.wd Y 0), .int .u64 (Cs.wd Y 1), .int .u64 (Cs.wd Y 2), .int .u64 (Cs.wd Y 3)] 67) = V
        generalize W1.heap.size = D
        intro HB2
        have y0 := HB2.out.1.at (i := 0) (by decide)
        have y1 := HB2.out.1.at (i := 1) (by decide)
        have y2 := HB2.out.1.at (i := 2) (by decide)
        have y3 := HB2.out.1.at (i := 3) (by decide)
        have z0 := HB2.out.2.2.1.at (i := 0) (by decide)
        have z1 := HB2.out.2.2.1.at (i := 1) (by decide)
        have z2 := HB2.out.2.2.1.at (i := 2) (by decide)
        have z3 := HB2.out.2.2.1.at (i := 3) (by decide)
        go_wp2_with (go_at_call 49; rw [sv_def X, sv_def Y]; refine (cs_or X Y _).mono ?_; rintro e W5 ⟨rfl, hb5⟩; rw [HS2.out]; unfold Cs.sv; have HB5 : Hid (SB W5 w.heap.size 0 ∧ SB W5 (w.heap.size + 1) X ∧ Below w.heap.size w W5) := Lib.hid ⟨HB2.out.2.1.below hb5, HB2.out.2.2.1.below hb5, HB2.out.2.2.2.trans (hb5.mono HB2.out.2.2.2.size)⟩; clear hb5 y0 y1 y2 y3 z0 z1 z2 z3; have z0 := HB5.out.2.1.at (i := 0) (by decide); have zf0 := HB5.out.2.1.free 0; have z1 := HB5.out.2.1.at (i := 1) (by decide); have zf1 := HB5.out.2.1.free 1; have z2 := HB5.out.2.1.at (i := 2) (by decide); have zf2 := HB5.out.2.1.free 2; have z3 := HB5.out.2.1.at (i := 3) (by decide); have zf3 := HB5.out.2.1.free 3)
        have HN := Lib.hid (set4_two HB5.out.1 HB5.out.2.1 HB5.out.2.2 (by omega) (by omega) X2)
        refine ⟨?_, ?measure⟩
        case measure => simp [intOf]; omega
        first
          | exact ⟨k + j, done ++ [p], todo, X2, by go_num, by omega, HP2, HN⟩
          | exact ⟨k + j, done ++ [p], todo, X2, rfl, by omega, HP2, HN⟩
          | ((repeat apply Exists.intro); exact ⟨⟨k + j, done ++ [p], todo, X2, by go_num, by omega, HP2, HN⟩, rfl⟩)

end Go.Proofs.Ytoniipmgkoogbaa
