/- P19.2: for every list of patterns (its first 3, each cut to 8 bytes) and every two texts (cut to 10 bytes): a copy finds what the window does, and both share nothing. No condition. -/
import Derived.Test.YtbdjcppkfihonaaOpen
import Derived.WalkKit
import Derived.ProofKit
import Derived.OpenShut
import Derived.Test.YtbdjcppkfihonaaHdD
import Derived.Test.YtbdjcppkfihonaaHdD
import Derived.Test.YtbdjcppkfihonaaClass
import Derived.Deep.CutRange
import Derived.Deep.CutBlock
import Derived.Deep.RegionLaw
import Derived.Deep.RegionHeld3
namespace Go.Proofs.Ytbdjcppkfihonaa.holdCopies
open Go.Joins Go.ChangeShapes Go.WideShapes Go.ChangeAt Go.RowKit Go.Deep
open Go.ChangeMaps (open_string)
set_option linter.unusedSimpArgs false
set_option linter.unusedVariables false

theorem hd_new_ex (x : Int) (W : Nat) (hW : min (max x 1) 4096 = (W : Int)) (w : World) : Calls Try.prog 32 #[.int .i64 x] w fun e w' => ∃ h, w.heap.size ≤ h ∧ e = .returned (.pointer (some ⟨h, 0, none⟩)) ∧ HO w' h W none 0 0 ByteArray.empty 0 (.slice none 0 0) none ∧ Below w.heap.size w w' :=
  (hd_new x W hW w).mono fun e w' ⟨h1, h2, h3⟩ => ⟨_, Nat.le_refl _, h1, h2, h3⟩
theorem rg_new_ex (n : Nat) (x : Int) (w : World) (hn : min (max x 1) 4096 = (n : Int)) : Calls Try.prog 34 #[.int .i64 x] w fun e w' => ∃ b g, w.heap.size ≤ b ∧ w.heap.size ≤ g ∧ e = .returned (.pointer (some ⟨b, 0, none⟩)) ∧ RAt w' b g n 0 ByteArray.empty ∧ Below w.heap.size w w' :=
  (new_any0 n x w hn).mono fun e w' ⟨he, hr, _, hb⟩ => ⟨_, _, by omega, Nat.le_refl _, he, hr, hb⟩
theorem vp_new {w0 w1 w2 w3 w4 w5 : World} {h b g qb qg : Nat} (k1 : Below w0.heap.size w0 w1) (h1 : HO w2 h 16 none 0 0 ByteArray.empty 0 (.slice none 0 0) none) (l1 : w1.heap.size ≤ h) (b2 : Below w1.heap.size w1 w2) (h2 : RAt w3 b g 32 0 ByteArray.empty) (l2 : w2.heap.size ≤ b ∧ w2.heap.size ≤ g) (b3 : Below w2.heap.size w2 w3)
    (h3 : RAt w4 qb qg 32 0 ByteArray.empty) (l3 : w3.heap.size ≤ qb ∧ w3.heap.size ≤ qg) (b4 : Below w3.heap.size w3 w4) (b5 : Below w4.heap.size w4 w5) (hc : Array Value) :
    VP w0.heap.size w0 (w5.alloc (.cells hc 61)) w5.heap.size hc.toList none [] qb qg 32 0 (⟨#[]⟩ : ByteArray) h b g 32 16 (.slice none 0 0) none [] [] none (⟨#[]⟩ : ByteArray).size 0 (⟨#[]⟩ : ByteArray) 0 0 (⟨#[]⟩ : ByteArray) := by
  have s1 := k1.size
  have s2 := b2.size
  have s3 := b3.size
  have s4 := b4.size
  have s5 := b5.size
  have b6 : Below w5.heap.size w5 (w5.alloc (.cells hc 61)) := (Below.refl _ _).alloc (Nat.le_refl _) _
  have hh := h1.o.lt
  have hb := h2.lts
  have H1 := (((h1.below b3).below b4).below b5).below b6
  have R1 := ((h2.fresh b4).fresh b5).fresh b6
  have Q1 := (h3.fresh b5).fresh b6
  refine ⟨⟨H1, Or.inl ⟨rfl, rfl, rfl⟩, R1, ⟨by omega, by omega, by simp [tvB]⟩, ⟨by omega, by omega, by omega, by simp, by simp [tvB]⟩, k1.trans ((b2.trans ((b3.trans ((b4.trans ((b5.trans (b6.mono s5)).mono s4)).mono s3)).mono s2)).mono s1), ?_⟩, Or.inl ⟨rfl, rfl⟩, LLT.nil _ _, Blk.newA _ _ _, by omega, Q1, ?_, by omega, by omega⟩
  · have := b6.size
    omega
  · have hbs := h2.lts
    unfold LSD
    simp [tvB]
    omega
theorem rr_kt {w w' : World} {g c : Nat} {ss : List ByteArray} (h : Rw w g c (ss.map .string) 9) (k : KT w w') : Rw w' g c (ss.map .string) 9 := by
  obtain ⟨r, q1, q2, q3⟩ := h
  exact ⟨r, q1, q2, k.1 _ _ _ (by unfold HT5; decide) q3⟩
theorem rr_below {w w' : World} {g c : Nat} {ss : List ByteArray} (h : Rw w g c (ss.map .string) 9) (k : Below w.heap.size w w') : Rw w' g c (ss.map .string) 9 := h.chg (Chg.of_fresh (l := []) k) (by simp)
theorem app_empty0 (s : ByteArray) (h : s.size ≤ 32) : (⟨#[]⟩ : ByteArray) ++ s.extract 0 s.size = s := by
  have := ring_whole s h
  have e : min s.size (32 - ByteArray.empty.size) = s.size := by rw [show ByteArray.empty.size = 0 from rfl]; omega
  rw [e] at this
  exact this
theorem look_le {Ls : List (List (Bool × BitVec 256))} {W : Nat} : ∀ (f : Nat) (S : List UInt8) (K : Nat) (Q : List UInt8) (rd : Nat), (Hd.look Ls W f S K Q rd).S.length + (Hd.look Ls W f S K Q rd).Q.length ≤ S.length + Q.length
  | 0, S, K, Q, rd => by simp [Hd.look]
  | f + 1, S, K, Q, rd => by
    by_cases hK : K < S.length
    · cases hh : Hd.at Ls S K with
      | mk q b =>
        cases b with
        | true => rw [look_hit hK hh]; simp only [List.length_drop]; omega
        | false => rw [look_on hK hh]; exact look_le (Ls := Ls) (W := W) f S (K + 1) Q rd
    · cases Q with
      | nil => rw [look_end hK]; exact Nat.le_refl _
      | cons b Q =>
        by_cases hw : W ≤ S.length
        · rw [look_full hK hw]; exact Nat.le_refl _
        · rw [Hd.look, if_neg hK]
          simp only [if_neg hw]
          split
          · simp only [List.length_drop, List.length_append, List.length_cons, List.length_nil]; omega
          · have := look_le (Ls := Ls) (W := W) f (S ++ [b]) (K + 1) Q (rd + 1)
            simp only [List.length_append, List.length_cons, List.length_nil] at this ⊢
            omega
theorem sc_of {w : World} {X Y Fb : Nat} {x0 x1 x2 x3 y0 y1 y2 y3 f0 f1 f2 f3 f4 : Value} {TX TY TF : TypeId} (hx : Blk w X [x0, x1, x2, x3] TX) (hy : Blk w Y [y0, y1, y2, y3] TY) (hf : Blk w Fb [f0, f1, f2, f3, f4] TF) :
    w.cell? ⟨Fb, 0, none⟩ = some f0 ∧ w.cell? ⟨Fb, 1, none⟩ = some f1 ∧ w.cell? ⟨Fb, 2, none⟩ = some f2 ∧ w.cell? ⟨Fb, 3, none⟩ = some f3 ∧ w.cell? ⟨Fb, 4, none⟩ = some f4 ∧ w.cell? ⟨Y, 1, none⟩ = some y1 ∧ w.cell? ⟨X, 1, none⟩ = some x1 ∧ w.cell? ⟨X, 2, none⟩ = some x2 :=
  ⟨hf.cell (i := 0) rfl, hf.cell (i := 1) rfl, hf.cell (i := 2) rfl, hf.cell (i := 3) rfl, hf.cell (i := 4) rfl, hy.cell (i := 1) rfl, hx.cell (i := 1) rfl, hx.cell (i := 2) rfl⟩
theorem sc_of2 {w : World} {Y Fb : Nat} {y0 y1 y2 y3 f0 f1 f2 f3 f4 : Value} {TY TF : TypeId} (hy : Blk w Y [y0, y1, y2, y3] TY) (hf : Blk w Fb [f0, f1, f2, f3, f4] TF) :
    w.cell? ⟨Fb, 0, none⟩ = some f0 ∧ w.cell? ⟨Fb, 1, none⟩ = some f1 ∧ w.cell? ⟨Fb, 2, none⟩ = some f2 ∧ w.cell? ⟨Fb, 3, none⟩ = some f3 ∧ w.cell? ⟨Fb, 4, none⟩ = some f4 ∧ w.cell? ⟨Y, 1, none⟩ = some y1 :=
  ⟨hf.cell (i := 0) rfl, hf.cell (i := 1) rfl, hf.cell (i := 2) rfl, hf.cell (i := 3) rfl, hf.cell (i := 4) rfl, hy.cell (i := 1) rfl⟩
theorem wp_look3 {B : Nat} {w0 w : World} {X : Nat} {hc : List Value} {a : Option Addr} {Lx : List (List (Bool × BitVec 256))} {h b g n W : Nat} {pv : Value} {ap : Option Addr} {xs : List Nat} {Ls : List (List (Bool × BitVec 256))} {t : Option Addr} {m ct : Nat} {S : ByteArray} {K f : Nat} {R : ByteArray} {h2 b2 g2 n2 W2 : Nat} {pv2 : Value} {ap2 : Option Addr} {xs2 : List Nat} {Ls2 : List (List (Bool × BitVec 256))} {t2 : Option Addr} {m2 ct2 : Nat} {S2 : ByteArray} {K2 f2 : Nat} {R2 : ByteArray} (H : WP B w0 w X hc a Lx h b g n W pv ap xs Ls t m ct S K f R h2 b2 g2 n2 W2 pv2 ap2 xs2 Ls2 t2 m2 ct2 S2 K2 f2 R2) (res : Hd.R) (hres : Hd.look Ls2 W2 ((m2 - K2) + R2.size + 1) S2.data.toList K2 R2.data.toList 0 = res) (S3 R3 : ByteArray) (hS3 : S3.data.toList = res.S) (hR3 : R3.data.toList = res.Q) {Y Fb : Nat} {yc fc : List Value} (hy : Blk w Y yc 61) (hf : Blk w Fb fc 71) :
    Calls Try.prog 39 #[.pointer (some ⟨h2, 0, none⟩), .pointer (some ⟨b2, 0, none⟩)] w fun e w' => e = .returned (.agg #[.bool res.hit, .bool res.full, .int .i64 res.arm, .int .i64 res.gone, .int .i64 res.rd]) ∧ ∃ t' ct' f', (WP B w0 w' X hc a Lx h b g n W pv ap xs Ls t m ct S K f R h2 b2 g2 n2 W2 pv2 ap2 xs2 Ls2 t' S3.size ct' S3 res.K f' R3) ∧ Blk w' Y yc 61 ∧ Blk w' Fb fc 71 :=
  (wp_look2 H res hres S3 R3 hS3 hR3).mono fun e w' ⟨he, t', m', ct', f', q1, q2⟩ => by
    obtain rfl : S3.size = m' := q1.1.2.1.1.tv.1
    exact ⟨he, t', ct', f', q1, q2.1 _ _ _ ht5_no.1 hy, q2.1 _ _ _ ht5_no.2.2.2 hf⟩
theorem ls_look5 {B : Nat} {w0 w : World} {h b g n W : Nat} {pv : Value} {ap : Option Addr} {xs : List Nat} {Ls : List (List (Bool × BitVec 256))} {t : Option Addr} {m ct : Nat} {S : ByteArray} {K f : Nat} {R : ByteArray} (H : LS B w0 w h b g n W pv ap xs Ls t m ct S K f R) (res : Hd.R) (hres : Hd.look Ls W ((m - K) + R.size + 1) S.data.toList K R.data.toList 0 = res) (S3 R3 : ByteArray) (hS3 : S3.data.toList = res.S) (hR3 : R3.data.toList = res.Q) {Y Fb : Nat} {yc fc : List Value} (hy : Blk w Y yc 61) (hf : Blk w Fb fc 71) :
    Calls Try.prog 39 #[.pointer (some ⟨h, 0, none⟩), .pointer (some ⟨b, 0, none⟩)] w fun e w' => e = .returned (.agg #[.bool res.hit, .bool res.full, .int .i64 res.arm, .int .i64 res.gone, .int .i64 res.rd]) ∧ ∃ t' ct' f', (LS B w0 w' h b g n W pv ap xs Ls t' S3.size ct' S3 res.K f' R3) ∧ Blk w' Y yc 61 ∧ Blk w' Fb fc 71 :=
  (ls_look4 H res hres S3 R3 hS3 hR3).mono fun e w' ⟨he, t', m', ct', f', q1, q2⟩ => by
    have kk := q2.keeps H
    obtain rfl : S3.size = m' := q1.1.tv.1
    exact ⟨he, t', ct', f', q1, kk.1 _ _ _ ht5_no.1 hy, kk.1 _ _ _ ht5_no.2.2.2 hf⟩
theorem ls_put5 {B : Nat} {w0 w : World} {h b g n W : Nat} {pv : Value} {ap : Option Addr} {xs : List Nat} {Ls : List (List (Bool × BitVec 256))} {t : Option Addr} {m ct : Nat} {S : ByteArray} {K f : Nat} {R : ByteArray} (H : LS B w0 w h b g n W pv ap xs Ls t m ct S K f R) (s : ByteArray) (hs : s.size ≤ 100000) (q : Nat) (hq : min s.size (n - R.size) = q) (R2 : ByteArray) (hR2 : R ++ s.extract 0 q = R2) {Y Fb : Nat} {yc fc : List Value} (hy : Blk w Y yc 61) (hf : Blk w Fb fc 71) :
    Calls Try.prog 36 #[.pointer (some ⟨b, 0, none⟩), .string s] w fun e w' => e = .returned (.int .i64 (q : Nat)) ∧ (LS B w0 w' h b g n W pv ap xs Ls t m ct S K f R2) ∧ Blk w' Y yc 61 ∧ Blk w' Fb fc 71 :=
  (ls_put4 H s hs q hq R2 hR2).mono fun e w' ⟨he, q1, q2⟩ => ⟨he, q1, (q2.keeps H).1 _ _ _ ht5_no.1 hy, (q2.keeps H).1 _ _ _ ht5_no.2.2.2 hf⟩
theorem hc_look {W : Nat} {Ls : List (List (Bool × BitVec 256))} {f : Nat} {S : List UInt8} {K : Nat} {Q : List UInt8} {rd : Nat} {res : Hd.R} (h : Hd.look Ls W f S K Q rd = res) : res.S.length + res.Q.length ≤ S.length + Q.length := by
  rw [← h]
  exact look_le f S K Q rd
set_option maxRecDepth 20000 in
set_option maxHeartbeats 16000000 in

theorem walk (a0 : Option Addr) (len0 cap0 : Nat) (z0 : List ByteArray) (a1 : ByteArray) (a2 : ByteArray) (w : World) (w0 : IsStrs w a0 len0 cap0 z0) (w1 : a1.size ≤ maxLen) (w2 : a2.size ≤ maxLen) :
    Calls Try.prog 10 #[.slice a0 len0 cap0, .string a1, .string a2] w fun e w' => e = .returned (.bool true) ∧ Below w.heap.size w w' := by
  have hl0 : z0.length = len0 := w0.1
  have hm0 : len0 ≤ maxLen := Nat.le_trans w0.2.1 w0.2.2.1
  have HI : Hid (TX w a0 z0 ∧ z0.length = len0) := Lib.hid ⟨tx_in w0, hl0⟩
  obtain ⟨rs, hrs⟩ : ∃ rs, fewT z0 3 8 = rs := ⟨_, rfl⟩
  obtain ⟨m3, hm⟩ : ∃ m, rs.length = m := ⟨_, rfl⟩
  have hm10 : m3 ≤ 3 := by rw [← hm, ← hrs]; exact fewT_len _ _ _
  have hsz : ∀ s ∈ rs, s.size ≤ 8 := by rw [← hrs]; exact fewT_long
  have hmx : m3 ≤ maxLen := by unfold maxLen; omega
  have HR : Hid (fewT z0 3 8 = rs ∧ rs.length = m3 ∧ fewT rs 3 8 = rs ∧ (∀ s ∈ rs, s.size ≤ 1000000) ∧ (∀ s ∈ rs, s.size ≤ maxLen)) := Lib.hid ⟨hrs, hm, fewT_self _ _ _ (by omega) hsz, fun s hs => by have := hsz s hs; omega, fun s hs => by have := hsz s hs; unfold maxLen; omega⟩
  have hm8 : m3 ≤ 8 := by omega
  obtain ⟨A, hA⟩ : ∃ s, cutT a1 10 = s := ⟨_, rfl⟩
  obtain ⟨C, hC⟩ : ∃ s, cutT a2 10 = s := ⟨_, rfl⟩
  have hA10 : A.size ≤ 10 := by rw [← hA]; exact cutT_le _ _
  have hC10 : C.size ≤ 10 := by rw [← hC]; exact cutT_le _ _
  have HS : Hid (cutT a1 10 = A ∧ cutT a2 10 = C) := Lib.hid ⟨hA, hC⟩
  clear w0 hl0 hrs hm hsz hA hC
  go_enter Try.func10, Try.ntmps10
  go_upto_region 2 with (first | (go_at_call 41; refine (fewt z0 len0 HI.out.2 hm0 a0 cap0 3 8 (by omega) (by omega) rs HR.out.1 m3 HR.out.2.1 _ HI.out.1).mono ?_; rintro e W1 ⟨g1, c1, rfl, h1, _, hb1⟩; have HB := Lib.hid (And.intro h1 hb1); clear h1 hb1 HI) | (have hz := HB.out.2; clear hz; go_at_call 35; refine (cut_m a1 A 10 (by omega) w1 HS.out.1 10 rfl _).mono ?_; rintro e W2 ⟨rfl, hb1⟩; have HC := Lib.hid (And.intro (rr_below HB.out.1 hb1) (HB.out.2.trans (hb1.mono HB.out.2.size))); clear hb1 HB) | (have hz := HC.out.2; clear hz; go_at_call 35; refine (cut_m a2 C 10 (by omega) w2 HS.out.2 10 rfl _).mono ?_; rintro e W3 ⟨rfl, hb1⟩; have HD := Lib.hid (And.intro (rr_below HC.out.1 hb1) (HC.out.2.trans (hb1.mono HC.out.2.size))); clear hb1 HC) | fail)
  go_upto_region 3 with (first | (go_at_call 32; refine (hd_new_ex 16 16 (by decide) _).mono ?_; rintro e W4 ⟨h, l1, rfl, q1, q2⟩; have HE := Lib.hid (And.intro (rr_below HD.out.1 q2) (And.intro HD.out.2 (And.intro q1 (And.intro l1 q2)))); clear q1 q2 l1 HD) | (have hz := HE.out.1; clear hz; go_at_call 34; refine (rg_new_ex 32 32 _ (by decide)).mono ?_; rintro e W5 ⟨b, g, l1, l2, rfl, q1, q2⟩; have HF := Lib.hid (And.intro (rr_below HE.out.1 q2) (And.intro HE.out.2 (And.intro q1 (And.intro (And.intro l1 l2) q2)))); clear q1 q2 l1 l2 HE) | (have hz := HF.out.1; clear hz; go_at_call 34; refine (rg_new_ex 32 32 _ (by decide)).mono ?_; rintro e W6 ⟨qb, qg, l1, l2, rfl, q1, q2⟩; have HG := Lib.hid (And.intro (rr_below HF.out.1 q2) (And.intro HF.out.2 (And.intro q1 (And.intro (And.intro l1 l2) q2)))); clear q1 q2 l1 l2 HF) | (go_at_call 33; refine (rf_new19 16 16 (by decide) _).mono ?_; rintro e W7 ⟨rfl, q2⟩; have HJ := Lib.hid (And.intro (rr_below HG.out.1 q2) (And.intro HG.out.2 q2)); clear q2 HG) | fail)
  have HV : Hid (VP w.heap.size w (W7.alloc (.cells #[.int .i64 16, .string ⟨#[]⟩, .int .i64 0, .slice none 0 0] 61)) W7.heap.size [.int .i64 16, .string ⟨#[]⟩, .int .i64 (0 : Nat), .slice none 0 0] none [] qb qg 32 0 (⟨#[]⟩ : ByteArray) h b g 32 16 (.slice none 0 0) none [] [] none (⟨#[]⟩ : ByteArray).size 0 (⟨#[]⟩ : ByteArray) 0 0 (⟨#[]⟩ : ByteArray) ∧ Rw (W7.alloc (.cells #[.int .i64 16, .string ⟨#[]⟩, .int .i64 0, .slice none 0 0] 61)) g1 c1 (rs.map .string) 9) := Lib.hid ⟨vp_new HJ.out.2.1.1.1.1 HJ.out.2.1.1.1.2.1 HJ.out.2.1.1.1.2.2.1 HJ.out.2.1.1.1.2.2.2 HJ.out.2.1.1.2.1 HJ.out.2.1.1.2.2.1 HJ.out.2.1.1.2.2.2 HJ.out.2.1.2.1 HJ.out.2.1.2.2.1 HJ.out.2.1.2.2.2 HJ.out.2.2 _, rr_below HJ.out.1 ((Below.refl _ _).alloc (Nat.le_refl _) _)⟩
  clear HJ
  revert HV
  generalize (W7.alloc (.cells #[.int .i64 16, .string ⟨#[]⟩, .int .i64 0, .slice none 0 0] 61)) = U0
  generalize W7.heap.size = X
  intro HV
  by_cases he0 : (Ar.nw rs m3).2 = 0
  · skip
    obtain ⟨L9, hL9⟩ : ∃ L9, rs.map Ar.pat = L9 := ⟨_, rfl⟩
    have hL9n : L9.length = m3 := by rw [← hL9, List.length_map]; exact HR.out.2.1
    have h629 : ∀ l ∈ L9, l.length ≤ 62 := by rw [← hL9]; exact (pats_ok HR.out.2.1 he0).1
    have HN := Lib.hid (And.intro he0 (And.intro hL9 (And.intro hL9n h629)))
    clear he0 hL9 hL9n h629
    go_upto_region 4 with (first | (go_at_call 41; refine (fewt rs m3 HR.out.2.1 hmx (some ⟨g1, 0, none⟩) c1 3 8 (by omega) (by omega) rs HR.out.2.2.1 m3 HR.out.2.1 _ (TX.of_rw HV.out.2 HR.out.2.2.2.2)).mono ?_; rintro e U1 ⟨g2, c2, rfl, h1, _, hb1⟩; have H1 := Lib.hid (And.intro (HV.out.1.below hb1) (And.intro (rr_below HV.out.2 hb1) (TX.of_rw h1 HR.out.2.2.2.2))); clear h1 hb1 HV) | (go_at_call 42; refine (ls_begin4 H1.out.1.1 rs m3 HR.out.2.1 hm8 g2 c2 HR.out.2.2.2.1 HN.out.1 H1.out.2.2 L9 HN.out.2.1).mono ?_; rintro e U2 ⟨x9, gp, cp, ys, rfl, q1, q2, q3⟩; have H2 := Lib.hid (And.intro (H1.out.1.step q1 q2 q3) (rr_kt H1.out.2.1 (q3.keeps H1.out.1.1))); clear q1 q2 q3 H1) | fail)
    have x0 := H2.out.1.2.2.2.1.cell (i := 0) rfl
    have x1 := H2.out.1.2.2.2.1.cell (i := 1) rfl
    have x2 := H2.out.1.2.2.2.1.cell (i := 2) rfl
    have x3 := H2.out.1.2.2.2.1.cell (i := 3) rfl
    go_upto_region 5 with (first | (go_at_call 40; refine (rf_begin19_yes 16 ⟨#[]⟩ 0 none 0 0 rs m3 HR.out.2.1 hm8 (some ⟨g1, 0, none⟩) c1 HR.out.2.2.2.1 HN.out.1 _ (TX.of_rw H2.out.2 HR.out.2.2.2.2)).mono ?_; rintro e U3 ⟨g3, c3, rfl, q1, hb1⟩; rw [HN.out.2.1] at q1; have H3 := Lib.hid (H2.out.1.below hb1); have H4 := Lib.hid q1; clear q1 hb1 x0 x1 x2 x3 H2; have x0 := H3.out.2.2.2.1.cell (i := 0) rfl; have x1 := H3.out.2.2.2.1.cell (i := 1) rfl; have x2 := H3.out.2.2.2.1.cell (i := 2) rfl; have x3 := H3.out.2.2.2.1.cell (i := 3) rfl; have y0 := H3.out.2.2.2.1.free 0; have y1 := H3.out.2.2.2.1.free 1; have y2 := H3.out.2.2.2.1.free 2; have y3 := H3.out.2.2.2.1.free 3) | fail)
    have H5 := Lib.hid (H3.out.lists H4.out)
    have HV : Hid (VP w.heap.size w ((((U3.setCell ⟨X, 0, none⟩ (.int .i64 16)).setCell ⟨X, 1, none⟩ (.string ⟨#[]⟩)).setCell ⟨X, 2, none⟩ (.int .i64 (0 : Nat))).setCell ⟨X, 3, none⟩ (.slice (some ⟨g3, 0, none⟩) m3 c3)) X [.int .i64 16, .string ⟨#[]⟩, .int .i64 (0 : Nat), .slice (some ⟨g3, 0, none⟩) m3 c3] (some ⟨g3, 0, none⟩) L9 qb qg 32 0 (⟨#[]⟩ : ByteArray) h b g 32 16 (.slice (some ⟨gp, 0, none⟩) m3 cp) (some ⟨x9, 0, none⟩) ys L9 none (⟨#[]⟩ : ByteArray).size 0 (⟨#[]⟩ : ByteArray) 0 0 (⟨#[]⟩ : ByteArray)) := Lib.hid ((((H5.out.setX 0 (.int .i64 16)).setX 1 (.string ⟨#[]⟩)).setX 2 (.int .i64 (0 : Nat))).setX 3 (.slice (some ⟨g3, 0, none⟩) m3 c3))
    revert HV
    generalize ((((U3.setCell ⟨X, 0, none⟩ (.int .i64 16)).setCell ⟨X, 1, none⟩ (.string ⟨#[]⟩)).setCell ⟨X, 2, none⟩ (.int .i64 (0 : Nat))).setCell ⟨X, 3, none⟩ (.slice (some ⟨g3, 0, none⟩) m3 c3)) = V0
    intro HV
    clear x0 x1 x2 x3 y0 y1 y2 y3 H3 H4 H5
    have HM : Hid (L9.length = m3 ∧ ∀ l ∈ L9, l.length ≤ 62) := Lib.hid HN.out.2.2
    clear HN
    obtain ⟨res, hres⟩ : ∃ res, Hd.look L9 16 (((⟨#[]⟩ : ByteArray).size - 0) + A.size + 1) (⟨#[]⟩ : ByteArray).data.toList 0 A.data.toList 0 = res := ⟨_, rfl⟩
    obtain ⟨S2, hS2⟩ : ∃ S2 : ByteArray, S2.data.toList = res.S := ⟨⟨res.S.toArray⟩, by simp⟩
    obtain ⟨R2, hR2⟩ : ∃ R2 : ByteArray, R2.data.toList = res.Q := ⟨⟨res.Q.toArray⟩, by simp⟩
    have e0 : (⟨#[]⟩ : ByteArray).size = 0 := rfl
    have hle : S2.size + R2.size ≤ 10 := by
      have := hc_look hres
      rw [← hS2, ← hR2, bl_size, bl_size, bl_size, bl_size] at this
      omega
    obtain ⟨res2, hres2⟩ : ∃ res2, Hd.look L9 16 ((S2.size - res.K) + C.size + 1) S2.data.toList res.K C.data.toList 0 = res2 := ⟨_, rfl⟩
    obtain ⟨S3, hS3⟩ : ∃ S3 : ByteArray, S3.data.toList = res2.S := ⟨⟨res2.S.toArray⟩, by simp⟩
    obtain ⟨R3, hR3⟩ : ∃ R3 : ByteArray, R3.data.toList = res2.Q := ⟨⟨res2.Q.toArray⟩, by simp⟩
    have HL := Lib.hid (And.intro hres (And.intro hS2 hR2))
    have HL2 := Lib.hid (And.intro hres2 (And.intro hS3 hR3))
    have HP1 : Hid (A.size ≤ 100000 ∧ min A.size (32 - (⟨#[]⟩ : ByteArray).size) = A.size ∧ (⟨#[]⟩ : ByteArray) ++ A.extract 0 A.size = A) := Lib.hid ⟨by omega, by omega, app_empty0 A (by omega)⟩
    have HP2 : Hid (C.size ≤ 100000 ∧ min C.size (32 - (⟨#[]⟩ : ByteArray).size) = C.size ∧ (⟨#[]⟩ : ByteArray) ++ C.extract 0 C.size = C) := Lib.hid ⟨by omega, by omega, app_empty0 C (by omega)⟩
    have hz1 : (⟨#[]⟩ : ByteArray).size + A.size ≤ 1000 := by omega
    have hz2 : S2.size + C.size ≤ 1000 := by omega
    have HZ1 := Lib.hid hz1
    clear hres hS2 hR2 hres2 hS3 hR3 e0 hz1
    go_upto_region 6 with (first | (go_at_call 36; refine (ls_put4 HV.out.1 A HP1.out.1 A.size HP1.out.2.1 A HP1.out.2.2).mono ?_; rintro e V1 ⟨rfl, q1, q2⟩; have HW := Lib.hid (HV.out.step1 q1 q2); clear q1 q2 HV) | fail)
    go_upto_region 7 with (first | (go_at_call 39; refine (ls_look4 HW.out.1 res HL.out.1 S2 R2 HL.out.2.1 HL.out.2.2).mono ?_; rintro e V2 ⟨rfl, t2, m2, ct2, f2, q1, q2⟩; obtain rfl : S2.size = m2 := q1.1.tv.1; have HV := Lib.hid (HW.out.step1 q1 q2); clear q1 q2 HW) | fail)
    have x0 := HV.out.2.2.2.1.cell (i := 0) rfl
    have x1 := HV.out.2.2.2.1.cell (i := 1) rfl
    have x2 := HV.out.2.2.2.1.cell (i := 2) rfl
    have x3 := HV.out.2.2.2.1.cell (i := 3) rfl
    go_upto_region 8 with (first | (go_at_call 37; refine (rf_look19 16 (by omega) ⟨#[]⟩ A 0 (some ⟨g3, 0, none⟩) m3 c3 L9 HM.out.1 (by omega) HM.out.2 (Nat.zero_le _) (Nat.zero_le _) HZ1.out res HL.out.1 _ HV.out.2.2.1.ll).mono ?_; rintro e V3 ⟨S', R', rfl, q1, q2, hb1⟩; obtain rfl : S2 = S' := (ba_ext (q1.trans HL.out.2.1.symm)).symm; have HW := Lib.hid (HV.out.below hb1); clear q1 q2 hb1 x0 x1 x2 x3 HV; have x0 := HW.out.2.2.2.1.cell (i := 0) rfl; have x1 := HW.out.2.2.2.1.cell (i := 1) rfl; have x2 := HW.out.2.2.2.1.cell (i := 2) rfl; have x3 := HW.out.2.2.2.1.cell (i := 3) rfl; have y0 := HW.out.2.2.2.1.free 0; have y1 := HW.out.2.2.2.1.free 1; have y2 := HW.out.2.2.2.1.free 2; have y3 := HW.out.2.2.2.1.free 3) | fail)
    have HV := Lib.hid ((((HW.out.setX 0 (.int .i64 16)).setX 1 (.string S2)).setX 2 (.int .i64 res.K)).setX 3 (.slice (some ⟨g3, 0, none⟩) m3 c3))
    clear x0 x1 x2 x3 y0 y1 y2 y3 HW
    revert HV
    generalize ((((V3.setCell ⟨X, 0, none⟩ (.int .i64 16)).setCell ⟨X, 1, none⟩ (.string S2)).setCell ⟨X, 2, none⟩ (.int .i64 res.K)).setCell ⟨X, 3, none⟩ (.slice (some ⟨g3, 0, none⟩) m3 c3)) = V4
    intro HV
    go_upto_region 9 with (first | (go_at_call 50; refine (hd_copy h 16 S2.size ct2 res.K t2 (some ⟨x9, 0, none⟩) S2 (.slice (some ⟨gp, 0, none⟩) m3 cp) L9 S2.data.toList rfl _ HV.out.1.1 HV.out.2.1).mono ?_; rintro e V5 ⟨c, t4, ct4, pv4, ap4, xs4, rfl, q1⟩; have HW := Lib.hid (vp_copy HV.out q1); clear q1 HV) | fail)
    go_upto_region 10 with (first | (go_at_call 36; refine (wp_put2 HW.out C HP2.out.1 C.size HP2.out.2.1 C HP2.out.2.2).mono ?_; rintro e V6 ⟨rfl, q1⟩; have HX := Lib.hid q1; clear q1 HW) | fail)
    have hK : res.K ≤ S2.size := HX.out.1.1.1.km
    have hSW : S2.size ≤ 16 := HX.out.1.1.1.mw
    have x0 := HX.out.2.2.1.cell (i := 0) rfl
    have x1 := HX.out.2.2.1.cell (i := 1) rfl
    have x2 := HX.out.2.2.1.cell (i := 2) rfl
    have x3 := HX.out.2.2.1.cell (i := 3) rfl
    go_upto_region 11 with (first | (go_at_call 37; refine (rf_look19 16 (by omega) S2 C res.K (some ⟨g3, 0, none⟩) m3 c3 L9 HM.out.1 (by omega) HM.out.2 hK hSW hz2 res2 HL2.out.1 _ HX.out.2.1.ll).mono ?_; rintro e V7 ⟨S', R', rfl, q1, q2, hb1⟩; obtain rfl : S3 = S' := (ba_ext (q1.trans HL2.out.2.1.symm)).symm; have HY := Lib.hid (HX.out.below hb1); clear q1 q2 hb1 x0 x1 x2 x3 HX) | fail)
    
    
    have k2 : Below V7.heap.size V7 ((V7.alloc (.cells #[.int .i64 16, .string S3, .int .i64 res2.K, .slice (some ⟨g3, 0, none⟩) m3 c3] 61)).alloc (.cells #[.bool res2.hit, .bool res2.full, .int .i64 res2.arm, .int .i64 res2.gone, .int .i64 res2.rd] 71)) := ((Below.refl _ _).alloc (Nat.le_refl _) _).alloc (by simp) _
    have HA := Lib.hid (And.intro (HY.out.below k2) (And.intro ((Blk.newA V7 #[.int .i64 16, .string S3, .int .i64 res2.K, .slice (some ⟨g3, 0, none⟩) m3 c3] 61).alloc (.cells #[.bool res2.hit, .bool res2.full, .int .i64 res2.arm, .int .i64 res2.gone, .int .i64 res2.rd] 71)) (Blk.newA (V7.alloc (.cells #[.int .i64 16, .string S3, .int .i64 res2.K, .slice (some ⟨g3, 0, none⟩) m3 c3] 61)) #[.bool res2.hit, .bool res2.full, .int .i64 res2.arm, .int .i64 res2.gone, .int .i64 res2.rd] 71)))
    have e1 : (V7.alloc (.cells #[.int .i64 16, .string S3, .int .i64 res2.K, .slice (some ⟨g3, 0, none⟩) m3 c3] 61)).heap.size = V7.heap.size + 1 := by simp
    rw [e1] at HA
    clear HY k2 e1
    revert HA
    generalize ((V7.alloc (.cells #[.int .i64 16, .string S3, .int .i64 res2.K, .slice (some ⟨g3, 0, none⟩) m3 c3] 61)).alloc (.cells #[.bool res2.hit, .bool res2.full, .int .i64 res2.arm, .int .i64 res2.gone, .int .i64 res2.rd] 71)) = Z0
    generalize V7.heap.size + 1 = Fb
    generalize V7.heap.size = Y
    intro HA
    have v1 : IntKind.i64.wrap ((S2.size : Int) - (res.K : Int)) = (S2.size : Int) - (res.K : Int) := IntWalk.i64_in _ (by omega)
    have HB : Hid (_ ∧ _ ∧ _) := Lib.hid (And.intro (HA.out.1.below (Below.refl _ _).drew) (And.intro (Blk.below HA.out.2.1 (Below.refl _ _).drew HA.out.2.1.lt) (Blk.below HA.out.2.2 (Below.refl _ _).drew HA.out.2.2.lt)))
    have s0 := sc_of (x0 := .int .i64 16) (x1 := .string S2) (x2 := .int .i64 res.K) (x3 := .slice (some ⟨g3, 0, none⟩) m3 c3) (y0 := .int .i64 16) (y1 := .string S3) (y2 := .int .i64 res2.K) (y3 := .slice (some ⟨g3, 0, none⟩) m3 c3) (f0 := .bool res2.hit) (f1 := .bool res2.full) (f2 := .int .i64 res2.arm) (f3 := .int .i64 res2.gone) (f4 := .int .i64 res2.rd) HB.out.1.2.2.1 HB.out.2.1 HB.out.2.2
    clear HA
    go_region_held3 (fun w' => w'.cell? ⟨Fb, 0, none⟩ = some (.bool res2.hit) ∧ w'.cell? ⟨Fb, 1, none⟩ = some (.bool res2.full) ∧ w'.cell? ⟨Fb, 2, none⟩ = some (.int .i64 res2.arm) ∧ w'.cell? ⟨Fb, 3, none⟩ = some (.int .i64 res2.gone) ∧ w'.cell? ⟨Fb, 4, none⟩ = some (.int .i64 res2.rd) ∧ w'.cell? ⟨Y, 1, none⟩ = some (.string S3) ∧ w'.cell? ⟨X, 1, none⟩ = some (.string S2) ∧ w'.cell? ⟨X, 2, none⟩ = some (.int .i64 res.K)) (first | with_reducible exact s0 | with_reducible exact s1 | with_reducible exact s2 | with_reducible exact s3 | with_reducible exact s4 | with_reducible exact s5) (first
      | (go_at_call 39; refine (wp_look3 HB.out.1 res2 HL2.out.1 S3 R3 HL2.out.2.1 HL2.out.2.2 HB.out.2.1 HB.out.2.2).mono ?_; rintro e Z1 ⟨rfl, t5, ct5, f5, q1, q2, q3⟩; have HC := Lib.hid (And.intro q1 (And.intro q2 q3)); clear q1 q2 q3 HB; have s1 := sc_of (x0 := .int .i64 16) (x1 := .string S2) (x2 := .int .i64 res.K) (x3 := .slice (some ⟨g3, 0, none⟩) m3 c3) (y0 := .int .i64 16) (y1 := .string S3) (y2 := .int .i64 res2.K) (y3 := .slice (some ⟨g3, 0, none⟩) m3 c3) (f0 := .bool res2.hit) (f1 := .bool res2.full) (f2 := .int .i64 res2.arm) (f3 := .int .i64 res2.gone) (f4 := .int .i64 res2.rd) HC.out.1.2.2.1 HC.out.2.1 HC.out.2.2)
      | (go_at_call 38; refine (hd_same res2.hit res2.full res2.arm res2.gone res2.rd _).mono ?_; rintro e Z2 ⟨rfl, b2⟩; have HD := Lib.hid (And.intro (HC.out.1.below b2) (And.intro (Blk.below HC.out.2.1 b2 HC.out.2.1.lt) (Blk.below HC.out.2.2 b2 HC.out.2.2.lt))); clear b2 HC; have s2 := sc_of (x0 := .int .i64 16) (x1 := .string S2) (x2 := .int .i64 res.K) (x3 := .slice (some ⟨g3, 0, none⟩) m3 c3) (y0 := .int .i64 16) (y1 := .string S3) (y2 := .int .i64 res2.K) (y3 := .slice (some ⟨g3, 0, none⟩) m3 c3) (f0 := .bool res2.hit) (f1 := .bool res2.full) (f2 := .int .i64 res2.arm) (f3 := .int .i64 res2.gone) (f4 := .int .i64 res2.rd) HD.out.1.2.2.1 HD.out.2.1 HD.out.2.2)
      | (have hz := HD.out.1; clear hz; go_at_call 43; refine (hd_text HD.out.1.1.2.1.1).mono ?_; rintro e Z3 ⟨rfl, b2⟩; have HE := Lib.hid (And.intro (HD.out.1.below b2) (And.intro (Blk.below HD.out.2.1 b2 HD.out.2.1.lt) (Blk.below HD.out.2.2 b2 HD.out.2.2.lt))); clear b2 HD; have s3 := sc_of (x0 := .int .i64 16) (x1 := .string S2) (x2 := .int .i64 res.K) (x3 := .slice (some ⟨g3, 0, none⟩) m3 c3) (y0 := .int .i64 16) (y1 := .string S3) (y2 := .int .i64 res2.K) (y3 := .slice (some ⟨g3, 0, none⟩) m3 c3) (f0 := .bool res2.hit) (f1 := .bool res2.full) (f2 := .int .i64 res2.arm) (f3 := .int .i64 res2.gone) (f4 := .int .i64 res2.rd) HE.out.1.2.2.1 HE.out.2.1 HE.out.2.2)
      | (have hz := HE.out.1; clear hz; go_at_call 43; refine (hd_text HE.out.1.1.1.1).mono ?_; rintro e Z4 ⟨rfl, b2⟩; have HF := Lib.hid (And.intro (HE.out.1.below b2) (And.intro (Blk.below HE.out.2.1 b2 HE.out.2.1.lt) (Blk.below HE.out.2.2 b2 HE.out.2.2.lt))); clear b2 HE; have s4 := sc_of (x0 := .int .i64 16) (x1 := .string S2) (x2 := .int .i64 res.K) (x3 := .slice (some ⟨g3, 0, none⟩) m3 c3) (y0 := .int .i64 16) (y1 := .string S3) (y2 := .int .i64 res2.K) (y3 := .slice (some ⟨g3, 0, none⟩) m3 c3) (f0 := .bool res2.hit) (f1 := .bool res2.full) (f2 := .int .i64 res2.arm) (f3 := .int .i64 res2.gone) (f4 := .int .i64 res2.rd) HF.out.1.2.2.1 HF.out.2.1 HF.out.2.2)
      | (have hz := HF.out.1; clear hz; go_at_call 44; refine (hd_fresh HF.out.1.1.1.1).mono ?_; rintro e Z5 ⟨rfl, b2⟩; have HG := Lib.hid (And.intro (HF.out.1.below b2) (And.intro (Blk.below HF.out.2.1 b2 HF.out.2.1.lt) (Blk.below HF.out.2.2 b2 HF.out.2.2.lt))); clear b2 HF; have s5 := sc_of (x0 := .int .i64 16) (x1 := .string S2) (x2 := .int .i64 res.K) (x3 := .slice (some ⟨g3, 0, none⟩) m3 c3) (y0 := .int .i64 16) (y1 := .string S3) (y2 := .int .i64 res2.K) (y3 := .slice (some ⟨g3, 0, none⟩) m3 c3) (f0 := .bool res2.hit) (f1 := .bool res2.full) (f2 := .int .i64 res2.arm) (f3 := .int .i64 res2.gone) (f4 := .int .i64 res2.rd) HG.out.1.2.2.1 HG.out.2.1 HG.out.2.2))
    clear s0 s1 s2 s3 s4 s5 v1
    go_upto_region 14 with (first | (go_at_call 34; refine (rg_new_ex 32 32 _ (by decide)).mono ?_; rintro e Z6 ⟨b7, g7, l1, l2, rfl, q1, q2⟩; have HH := Lib.hid (And.intro (wp_ring1 HG.out.1 q1 q2 l1 l2) (And.intro (Blk.below HG.out.2.1 q2 HG.out.2.1.lt) (Blk.below HG.out.2.2 q2 HG.out.2.2.lt))); clear q1 q2 l1 l2 HG) | fail)
    go_upto_region 15 with (first | (go_at_call 36; refine (ls_put5 HH.out.1 C HP2.out.1 C.size HP2.out.2.1 C HP2.out.2.2 HH.out.2.1 HH.out.2.2).mono ?_; rintro e Z7 ⟨rfl, q1, q2, q3⟩; have HJ := Lib.hid (And.intro q1 (And.intro q2 q3)); clear q1 q2 q3 HH) | fail)
    have HB : Hid (_ ∧ _ ∧ _) := Lib.hid (And.intro (HJ.out.1.below (Below.refl _ _).drew) (And.intro (Blk.below HJ.out.2.1 (Below.refl _ _).drew HJ.out.2.1.lt) (Blk.below HJ.out.2.2 (Below.refl _ _).drew HJ.out.2.2.lt)))
    have s0 := sc_of2 (y0 := .int .i64 16) (y1 := .string S3) (y2 := .int .i64 res2.K) (y3 := .slice (some ⟨g3, 0, none⟩) m3 c3) (f0 := .bool res2.hit) (f1 := .bool res2.full) (f2 := .int .i64 res2.arm) (f3 := .int .i64 res2.gone) (f4 := .int .i64 res2.rd) HB.out.2.1 HB.out.2.2
    clear HJ
    go_region_held3 (fun w' => w'.cell? ⟨Fb, 0, none⟩ = some (.bool res2.hit) ∧ w'.cell? ⟨Fb, 1, none⟩ = some (.bool res2.full) ∧ w'.cell? ⟨Fb, 2, none⟩ = some (.int .i64 res2.arm) ∧ w'.cell? ⟨Fb, 3, none⟩ = some (.int .i64 res2.gone) ∧ w'.cell? ⟨Fb, 4, none⟩ = some (.int .i64 res2.rd) ∧ w'.cell? ⟨Y, 1, none⟩ = some (.string S3)) (first | with_reducible exact s0 | with_reducible exact s1 | with_reducible exact s2 | with_reducible exact s3 | with_reducible exact s4) (first
      | (go_at_call 39; refine (ls_look5 HB.out.1 res2 HL2.out.1 S3 R3 HL2.out.2.1 HL2.out.2.2 HB.out.2.1 HB.out.2.2).mono ?_; rintro e Z8 ⟨rfl, t6, ct6, f6, q1, q2, q3⟩; have HC := Lib.hid (And.intro q1 (And.intro q2 q3)); clear q1 q2 q3 HB; have s1 := sc_of2 (y0 := .int .i64 16) (y1 := .string S3) (y2 := .int .i64 res2.K) (y3 := .slice (some ⟨g3, 0, none⟩) m3 c3) (f0 := .bool res2.hit) (f1 := .bool res2.full) (f2 := .int .i64 res2.arm) (f3 := .int .i64 res2.gone) (f4 := .int .i64 res2.rd) HC.out.2.1 HC.out.2.2)
      | (go_at_call 38; refine (hd_same res2.hit res2.full res2.arm res2.gone res2.rd _).mono ?_; rintro e Z9 ⟨rfl, b2⟩; have HD := Lib.hid (And.intro (HC.out.1.below b2) (And.intro (Blk.below HC.out.2.1 b2 HC.out.2.1.lt) (Blk.below HC.out.2.2 b2 HC.out.2.2.lt))); clear b2 HC; have s2 := sc_of2 (y0 := .int .i64 16) (y1 := .string S3) (y2 := .int .i64 res2.K) (y3 := .slice (some ⟨g3, 0, none⟩) m3 c3) (f0 := .bool res2.hit) (f1 := .bool res2.full) (f2 := .int .i64 res2.arm) (f3 := .int .i64 res2.gone) (f4 := .int .i64 res2.rd) HD.out.2.1 HD.out.2.2)
      | (go_at_call 43; refine (hd_text HD.out.1.1).mono ?_; rintro e Z10 ⟨rfl, b2⟩; have HE := Lib.hid (And.intro (HD.out.1.below b2) (And.intro (Blk.below HD.out.2.1 b2 HD.out.2.1.lt) (Blk.below HD.out.2.2 b2 HD.out.2.2.lt))); clear b2 HD; have s3 := sc_of2 (y0 := .int .i64 16) (y1 := .string S3) (y2 := .int .i64 res2.K) (y3 := .slice (some ⟨g3, 0, none⟩) m3 c3) (f0 := .bool res2.hit) (f1 := .bool res2.full) (f2 := .int .i64 res2.arm) (f3 := .int .i64 res2.gone) (f4 := .int .i64 res2.rd) HE.out.2.1 HE.out.2.2)
      | (go_at_call 47; refine (hd_lives _).mono ?_; rintro e Z11 ⟨rfl, b2⟩; have HF := Lib.hid (And.intro (HE.out.1.below b2) (And.intro (Blk.below HE.out.2.1 b2 HE.out.2.1.lt) (Blk.below HE.out.2.2 b2 HE.out.2.2.lt))); clear b2 HE; have s4 := sc_of2 (y0 := .int .i64 16) (y1 := .string S3) (y2 := .int .i64 res2.K) (y3 := .slice (some ⟨g3, 0, none⟩) m3 c3) (f0 := .bool res2.hit) (f1 := .bool res2.full) (f2 := .int .i64 res2.arm) (f3 := .int .i64 res2.gone) (f4 := .int .i64 res2.rd) HF.out.2.1 HF.out.2.2))
    clear s0 s1 s2 s3 s4
    go_wp2_with fail
    go_ret
    exact ⟨rfl, HF.out.1.2.2.2.2.2.1⟩
  · skip
    obtain ⟨ni, ne, hnw⟩ : ∃ ni ne, Ar.nw rs m3 = (ni, ne) := ⟨_, _, rfl⟩
    have hne : ne ≠ 0 := by rw [hnw] at he0; exact he0
    have HN := Lib.hid (And.intro hnw hne)
    clear he0 hnw hne
    go_upto_region 4 with (first | (go_at_call 41; refine (fewt rs m3 HR.out.2.1 hmx (some ⟨g1, 0, none⟩) c1 3 8 (by omega) (by omega) rs HR.out.2.2.1 m3 HR.out.2.1 _ (TX.of_rw HV.out.2 HR.out.2.2.2.2)).mono ?_; rintro e U1 ⟨g2, c2, rfl, h1, _, hb1⟩; have H1 := Lib.hid (And.intro (HV.out.1.below hb1) (And.intro (rr_below HV.out.2 hb1) (TX.of_rw h1 HR.out.2.2.2.2))); clear h1 hb1 HV) | (go_at_call 42; refine (hd_begin_no h 16 _ _ _ _ _ _ _ rs m3 HR.out.2.1 hm8 (some ⟨g2, 0, none⟩) c2 HR.out.2.2.2.1 ni ne HN.out.1 HN.out.2 _ H1.out.1.1.1 H1.out.2.2).mono ?_; rintro e U2 ⟨rfl, hb1⟩; have H2 := Lib.hid (And.intro (H1.out.1.below hb1) (rr_below H1.out.2.1 hb1)); clear hb1 H1) | fail)
    have x0 := H2.out.1.2.2.2.1.cell (i := 0) rfl
    have x1 := H2.out.1.2.2.2.1.cell (i := 1) rfl
    have x2 := H2.out.1.2.2.2.1.cell (i := 2) rfl
    have x3 := H2.out.1.2.2.2.1.cell (i := 3) rfl
    go_upto_region 5 with (first | (go_at_call 40; refine (rf_begin19_no 16 ⟨#[]⟩ 0 none 0 0 rs m3 HR.out.2.1 hm8 (some ⟨g1, 0, none⟩) c1 HR.out.2.2.2.1 ni ne HN.out.1 HN.out.2 _ (TX.of_rw H2.out.2 HR.out.2.2.2.2)).mono ?_; rintro e U3 ⟨rfl, hb1⟩; have H3 := Lib.hid (H2.out.1.below hb1); clear hb1 x0 x1 x2 x3 H2; have x0 := H3.out.2.2.2.1.cell (i := 0) rfl; have x1 := H3.out.2.2.2.1.cell (i := 1) rfl; have x2 := H3.out.2.2.2.1.cell (i := 2) rfl; have x3 := H3.out.2.2.2.1.cell (i := 3) rfl; have y0 := H3.out.2.2.2.1.free 0; have y1 := H3.out.2.2.2.1.free 1; have y2 := H3.out.2.2.2.1.free 2; have y3 := H3.out.2.2.2.1.free 3) | fail)
    have HV : Hid (VP w.heap.size w ((((U3.setCell ⟨X, 0, none⟩ (.int .i64 16)).setCell ⟨X, 1, none⟩ (.string ⟨#[]⟩)).setCell ⟨X, 2, none⟩ (.int .i64 (0 : Nat))).setCell ⟨X, 3, none⟩ (.slice none 0 0)) X [.int .i64 16, .string ⟨#[]⟩, .int .i64 (0 : Nat), .slice none 0 0] none [] qb qg 32 0 (⟨#[]⟩ : ByteArray) h b g 32 16 (.slice none 0 0) none [] [] none (⟨#[]⟩ : ByteArray).size 0 (⟨#[]⟩ : ByteArray) 0 0 (⟨#[]⟩ : ByteArray)) := Lib.hid ((((H3.out.setX 0 (.int .i64 16)).setX 1 (.string ⟨#[]⟩)).setX 2 (.int .i64 (0 : Nat))).setX 3 (.slice none 0 0))
    revert HV
    generalize ((((U3.setCell ⟨X, 0, none⟩ (.int .i64 16)).setCell ⟨X, 1, none⟩ (.string ⟨#[]⟩)).setCell ⟨X, 2, none⟩ (.int .i64 (0 : Nat))).setCell ⟨X, 3, none⟩ (.slice none 0 0)) = V0
    intro HV
    clear x0 x1 x2 x3 y0 y1 y2 y3 H3 HN
    have HM : Hid (([] : List (List (Bool × BitVec 256))).length = 0 ∧ ∀ l ∈ ([] : List (List (Bool × BitVec 256))), l.length ≤ 62) := Lib.hid ⟨rfl, by simp⟩
    obtain ⟨res, hres⟩ : ∃ res, Hd.look [] 16 (((⟨#[]⟩ : ByteArray).size - 0) + A.size + 1) (⟨#[]⟩ : ByteArray).data.toList 0 A.data.toList 0 = res := ⟨_, rfl⟩
    obtain ⟨S2, hS2⟩ : ∃ S2 : ByteArray, S2.data.toList = res.S := ⟨⟨res.S.toArray⟩, by simp⟩
    obtain ⟨R2, hR2⟩ : ∃ R2 : ByteArray, R2.data.toList = res.Q := ⟨⟨res.Q.toArray⟩, by simp⟩
    have e0 : (⟨#[]⟩ : ByteArray).size = 0 := rfl
    have hle : S2.size + R2.size ≤ 10 := by
      have := hc_look hres
      rw [← hS2, ← hR2, bl_size, bl_size, bl_size, bl_size] at this
      omega
    obtain ⟨res2, hres2⟩ : ∃ res2, Hd.look [] 16 ((S2.size - res.K) + C.size + 1) S2.data.toList res.K C.data.toList 0 = res2 := ⟨_, rfl⟩
    obtain ⟨S3, hS3⟩ : ∃ S3 : ByteArray, S3.data.toList = res2.S := ⟨⟨res2.S.toArray⟩, by simp⟩
    obtain ⟨R3, hR3⟩ : ∃ R3 : ByteArray, R3.data.toList = res2.Q := ⟨⟨res2.Q.toArray⟩, by simp⟩
    have HL := Lib.hid (And.intro hres (And.intro hS2 hR2))
    have HL2 := Lib.hid (And.intro hres2 (And.intro hS3 hR3))
    have HP1 : Hid (A.size ≤ 100000 ∧ min A.size (32 - (⟨#[]⟩ : ByteArray).size) = A.size ∧ (⟨#[]⟩ : ByteArray) ++ A.extract 0 A.size = A) := Lib.hid ⟨by omega, by omega, app_empty0 A (by omega)⟩
    have HP2 : Hid (C.size ≤ 100000 ∧ min C.size (32 - (⟨#[]⟩ : ByteArray).size) = C.size ∧ (⟨#[]⟩ : ByteArray) ++ C.extract 0 C.size = C) := Lib.hid ⟨by omega, by omega, app_empty0 C (by omega)⟩
    have hz1 : (⟨#[]⟩ : ByteArray).size + A.size ≤ 1000 := by omega
    have hz2 : S2.size + C.size ≤ 1000 := by omega
    have HZ1 := Lib.hid hz1
    clear hres hS2 hR2 hres2 hS3 hR3 e0 hz1
    go_upto_region 6 with (first | (go_at_call 36; refine (ls_put4 HV.out.1 A HP1.out.1 A.size HP1.out.2.1 A HP1.out.2.2).mono ?_; rintro e V1 ⟨rfl, q1, q2⟩; have HW := Lib.hid (HV.out.step1 q1 q2); clear q1 q2 HV) | fail)
    go_upto_region 7 with (first | (go_at_call 39; refine (ls_look4 HW.out.1 res HL.out.1 S2 R2 HL.out.2.1 HL.out.2.2).mono ?_; rintro e V2 ⟨rfl, t2, m2, ct2, f2, q1, q2⟩; obtain rfl : S2.size = m2 := q1.1.tv.1; have HV := Lib.hid (HW.out.step1 q1 q2); clear q1 q2 HW) | fail)
    have x0 := HV.out.2.2.2.1.cell (i := 0) rfl
    have x1 := HV.out.2.2.2.1.cell (i := 1) rfl
    have x2 := HV.out.2.2.2.1.cell (i := 2) rfl
    have x3 := HV.out.2.2.2.1.cell (i := 3) rfl
    go_upto_region 8 with (first | (go_at_call 37; refine (rf_look19 16 (by omega) ⟨#[]⟩ A 0 none 0 0 [] HM.out.1 (by omega) HM.out.2 (Nat.zero_le _) (Nat.zero_le _) HZ1.out res HL.out.1 _ HV.out.2.2.1.ll).mono ?_; rintro e V3 ⟨S', R', rfl, q1, q2, hb1⟩; obtain rfl : S2 = S' := (ba_ext (q1.trans HL.out.2.1.symm)).symm; have HW := Lib.hid (HV.out.below hb1); clear q1 q2 hb1 x0 x1 x2 x3 HV; have x0 := HW.out.2.2.2.1.cell (i := 0) rfl; have x1 := HW.out.2.2.2.1.cell (i := 1) rfl; have x2 := HW.out.2.2.2.1.cell (i := 2) rfl; have x3 := HW.out.2.2.2.1.cell (i := 3) rfl; have y0 := HW.out.2.2.2.1.free 0; have y1 := HW.out.2.2.2.1.free 1; have y2 := HW.out.2.2.2.1.free 2; have y3 := HW.out.2.2.2.1.free 3) | fail)
    have HV := Lib.hid ((((HW.out.setX 0 (.int .i64 16)).setX 1 (.string S2)).setX 2 (.int .i64 res.K)).setX 3 (.slice none 0 0))
    clear x0 x1 x2 x3 y0 y1 y2 y3 HW
    revert HV
    generalize ((((V3.setCell ⟨X, 0, none⟩ (.int .i64 16)).setCell ⟨X, 1, none⟩ (.string S2)).setCell ⟨X, 2, none⟩ (.int .i64 res.K)).setCell ⟨X, 3, none⟩ (.slice none 0 0)) = V4
    intro HV
    go_upto_region 9 with (first | (go_at_call 50; refine (hd_copy h 16 S2.size ct2 res.K t2 none S2 (.slice none 0 0) [] S2.data.toList rfl _ HV.out.1.1 HV.out.2.1).mono ?_; rintro e V5 ⟨c, t4, ct4, pv4, ap4, xs4, rfl, q1⟩; have HW := Lib.hid (vp_copy HV.out q1); clear q1 HV) | fail)
    go_upto_region 10 with (first | (go_at_call 36; refine (wp_put2 HW.out C HP2.out.1 C.size HP2.out.2.1 C HP2.out.2.2).mono ?_; rintro e V6 ⟨rfl, q1⟩; have HX := Lib.hid q1; clear q1 HW) | fail)
    have hK : res.K ≤ S2.size := HX.out.1.1.1.km
    have hSW : S2.size ≤ 16 := HX.out.1.1.1.mw
    have x0 := HX.out.2.2.1.cell (i := 0) rfl
    have x1 := HX.out.2.2.1.cell (i := 1) rfl
    have x2 := HX.out.2.2.1.cell (i := 2) rfl
    have x3 := HX.out.2.2.1.cell (i := 3) rfl
    go_upto_region 11 with (first | (go_at_call 37; refine (rf_look19 16 (by omega) S2 C res.K none 0 0 [] HM.out.1 (by omega) HM.out.2 hK hSW hz2 res2 HL2.out.1 _ HX.out.2.1.ll).mono ?_; rintro e V7 ⟨S', R', rfl, q1, q2, hb1⟩; obtain rfl : S3 = S' := (ba_ext (q1.trans HL2.out.2.1.symm)).symm; have HY := Lib.hid (HX.out.below hb1); clear q1 q2 hb1 x0 x1 x2 x3 HX) | fail)
    
    
    have k2 : Below V7.heap.size V7 ((V7.alloc (.cells #[.int .i64 16, .string S3, .int .i64 res2.K, .slice none 0 0] 61)).alloc (.cells #[.bool res2.hit, .bool res2.full, .int .i64 res2.arm, .int .i64 res2.gone, .int .i64 res2.rd] 71)) := ((Below.refl _ _).alloc (Nat.le_refl _) _).alloc (by simp) _
    have HA := Lib.hid (And.intro (HY.out.below k2) (And.intro ((Blk.newA V7 #[.int .i64 16, .string S3, .int .i64 res2.K, .slice none 0 0] 61).alloc (.cells #[.bool res2.hit, .bool res2.full, .int .i64 res2.arm, .int .i64 res2.gone, .int .i64 res2.rd] 71)) (Blk.newA (V7.alloc (.cells #[.int .i64 16, .string S3, .int .i64 res2.K, .slice none 0 0] 61)) #[.bool res2.hit, .bool res2.full, .int .i64 res2.arm, .int .i64 res2.gone, .int .i64 res2.rd] 71)))
    have e1 : (V7.alloc (.cells #[.int .i64 16, .string S3, .int .i64 res2.K, .slice none 0 0] 61)).heap.size = V7.heap.size + 1 := by simp
    rw [e1] at HA
    clear HY k2 e1
    revert HA
    generalize ((V7.alloc (.cells #[.int .i64 16, .string S3, .int .i64 res2.K, .slice none 0 0] 61)).alloc (.cells #[.bool res2.hit, .bool res2.full, .int .i64 res2.arm, .int .i64 res2.gone, .int .i64 res2.rd] 71)) = Z0
    generalize V7.heap.size + 1 = Fb
    generalize V7.heap.size = Y
    intro HA
    have v1 : IntKind.i64.wrap ((S2.size : Int) - (res.K : Int)) = (S2.size : Int) - (res.K : Int) := IntWalk.i64_in _ (by omega)
    have HB : Hid (_ ∧ _ ∧ _) := Lib.hid (And.intro (HA.out.1.below (Below.refl _ _).drew) (And.intro (Blk.below HA.out.2.1 (Below.refl _ _).drew HA.out.2.1.lt) (Blk.below HA.out.2.2 (Below.refl _ _).drew HA.out.2.2.lt)))
    have s0 := sc_of (x0 := .int .i64 16) (x1 := .string S2) (x2 := .int .i64 res.K) (x3 := .slice none 0 0) (y0 := .int .i64 16) (y1 := .string S3) (y2 := .int .i64 res2.K) (y3 := .slice none 0 0) (f0 := .bool res2.hit) (f1 := .bool res2.full) (f2 := .int .i64 res2.arm) (f3 := .int .i64 res2.gone) (f4 := .int .i64 res2.rd) HB.out.1.2.2.1 HB.out.2.1 HB.out.2.2
    clear HA
    go_region_held3 (fun w' => w'.cell? ⟨Fb, 0, none⟩ = some (.bool res2.hit) ∧ w'.cell? ⟨Fb, 1, none⟩ = some (.bool res2.full) ∧ w'.cell? ⟨Fb, 2, none⟩ = some (.int .i64 res2.arm) ∧ w'.cell? ⟨Fb, 3, none⟩ = some (.int .i64 res2.gone) ∧ w'.cell? ⟨Fb, 4, none⟩ = some (.int .i64 res2.rd) ∧ w'.cell? ⟨Y, 1, none⟩ = some (.string S3) ∧ w'.cell? ⟨X, 1, none⟩ = some (.string S2) ∧ w'.cell? ⟨X, 2, none⟩ = some (.int .i64 res.K)) (first | with_reducible exact s0 | with_reducible exact s1 | with_reducible exact s2 | with_reducible exact s3 | with_reducible exact s4 | with_reducible exact s5) (first
      | (go_at_call 39; refine (wp_look3 HB.out.1 res2 HL2.out.1 S3 R3 HL2.out.2.1 HL2.out.2.2 HB.out.2.1 HB.out.2.2).mono ?_; rintro e Z1 ⟨rfl, t5, ct5, f5, q1, q2, q3⟩; have HC := Lib.hid (And.intro q1 (And.intro q2 q3)); clear q1 q2 q3 HB; have s1 := sc_of (x0 := .int .i64 16) (x1 := .string S2) (x2 := .int .i64 res.K) (x3 := .slice none 0 0) (y0 := .int .i64 16) (y1 := .string S3) (y2 := .int .i64 res2.K) (y3 := .slice none 0 0) (f0 := .bool res2.hit) (f1 := .bool res2.full) (f2 := .int .i64 res2.arm) (f3 := .int .i64 res2.gone) (f4 := .int .i64 res2.rd) HC.out.1.2.2.1 HC.out.2.1 HC.out.2.2)
      | (go_at_call 38; refine (hd_same res2.hit res2.full res2.arm res2.gone res2.rd _).mono ?_; rintro e Z2 ⟨rfl, b2⟩; have HD := Lib.hid (And.intro (HC.out.1.below b2) (And.intro (Blk.below HC.out.2.1 b2 HC.out.2.1.lt) (Blk.below HC.out.2.2 b2 HC.out.2.2.lt))); clear b2 HC; have s2 := sc_of (x0 := .int .i64 16) (x1 := .string S2) (x2 := .int .i64 res.K) (x3 := .slice none 0 0) (y0 := .int .i64 16) (y1 := .string S3) (y2 := .int .i64 res2.K) (y3 := .slice none 0 0) (f0 := .bool res2.hit) (f1 := .bool res2.full) (f2 := .int .i64 res2.arm) (f3 := .int .i64 res2.gone) (f4 := .int .i64 res2.rd) HD.out.1.2.2.1 HD.out.2.1 HD.out.2.2)
      | (have hz := HD.out.1; clear hz; go_at_call 43; refine (hd_text HD.out.1.1.2.1.1).mono ?_; rintro e Z3 ⟨rfl, b2⟩; have HE := Lib.hid (And.intro (HD.out.1.below b2) (And.intro (Blk.below HD.out.2.1 b2 HD.out.2.1.lt) (Blk.below HD.out.2.2 b2 HD.out.2.2.lt))); clear b2 HD; have s3 := sc_of (x0 := .int .i64 16) (x1 := .string S2) (x2 := .int .i64 res.K) (x3 := .slice none 0 0) (y0 := .int .i64 16) (y1 := .string S3) (y2 := .int .i64 res2.K) (y3 := .slice none 0 0) (f0 := .bool res2.hit) (f1 := .bool res2.full) (f2 := .int .i64 res2.arm) (f3 := .int .i64 res2.gone) (f4 := .int .i64 res2.rd) HE.out.1.2.2.1 HE.out.2.1 HE.out.2.2)
      | (have hz := HE.out.1; clear hz; go_at_call 43; refine (hd_text HE.out.1.1.1.1).mono ?_; rintro e Z4 ⟨rfl, b2⟩; have HF := Lib.hid (And.intro (HE.out.1.below b2) (And.intro (Blk.below HE.out.2.1 b2 HE.out.2.1.lt) (Blk.below HE.out.2.2 b2 HE.out.2.2.lt))); clear b2 HE; have s4 := sc_of (x0 := .int .i64 16) (x1 := .string S2) (x2 := .int .i64 res.K) (x3 := .slice none 0 0) (y0 := .int .i64 16) (y1 := .string S3) (y2 := .int .i64 res2.K) (y3 := .slice none 0 0) (f0 := .bool res2.hit) (f1 := .bool res2.full) (f2 := .int .i64 res2.arm) (f3 := .int .i64 res2.gone) (f4 := .int .i64 res2.rd) HF.out.1.2.2.1 HF.out.2.1 HF.out.2.2)
      | (have hz := HF.out.1; clear hz; go_at_call 44; refine (hd_fresh HF.out.1.1.1.1).mono ?_; rintro e Z5 ⟨rfl, b2⟩; have HG := Lib.hid (And.intro (HF.out.1.below b2) (And.intro (Blk.below HF.out.2.1 b2 HF.out.2.1.lt) (Blk.below HF.out.2.2 b2 HF.out.2.2.lt))); clear b2 HF; have s5 := sc_of (x0 := .int .i64 16) (x1 := .string S2) (x2 := .int .i64 res.K) (x3 := .slice none 0 0) (y0 := .int .i64 16) (y1 := .string S3) (y2 := .int .i64 res2.K) (y3 := .slice none 0 0) (f0 := .bool res2.hit) (f1 := .bool res2.full) (f2 := .int .i64 res2.arm) (f3 := .int .i64 res2.gone) (f4 := .int .i64 res2.rd) HG.out.1.2.2.1 HG.out.2.1 HG.out.2.2))
    clear s0 s1 s2 s3 s4 s5 v1
    go_upto_region 14 with (first | (go_at_call 34; refine (rg_new_ex 32 32 _ (by decide)).mono ?_; rintro e Z6 ⟨b7, g7, l1, l2, rfl, q1, q2⟩; have HH := Lib.hid (And.intro (wp_ring1 HG.out.1 q1 q2 l1 l2) (And.intro (Blk.below HG.out.2.1 q2 HG.out.2.1.lt) (Blk.below HG.out.2.2 q2 HG.out.2.2.lt))); clear q1 q2 l1 l2 HG) | fail)
    go_upto_region 15 with (first | (go_at_call 36; refine (ls_put5 HH.out.1 C HP2.out.1 C.size HP2.out.2.1 C HP2.out.2.2 HH.out.2.1 HH.out.2.2).mono ?_; rintro e Z7 ⟨rfl, q1, q2, q3⟩; have HJ := Lib.hid (And.intro q1 (And.intro q2 q3)); clear q1 q2 q3 HH) | fail)
    have HB : Hid (_ ∧ _ ∧ _) := Lib.hid (And.intro (HJ.out.1.below (Below.refl _ _).drew) (And.intro (Blk.below HJ.out.2.1 (Below.refl _ _).drew HJ.out.2.1.lt) (Blk.below HJ.out.2.2 (Below.refl _ _).drew HJ.out.2.2.lt)))
    have s0 := sc_of2 (y0 := .int .i64 16) (y1 := .string S3) (y2 := .int .i64 res2.K) (y3 := .slice none 0 0) (f0 := .bool res2.hit) (f1 := .bool res2.full) (f2 := .int .i64 res2.arm) (f3 := .int .i64 res2.gone) (f4 := .int .i64 res2.rd) HB.out.2.1 HB.out.2.2
    clear HJ
    go_region_held3 (fun w' => w'.cell? ⟨Fb, 0, none⟩ = some (.bool res2.hit) ∧ w'.cell? ⟨Fb, 1, none⟩ = some (.bool res2.full) ∧ w'.cell? ⟨Fb, 2, none⟩ = some (.int .i64 res2.arm) ∧ w'.cell? ⟨Fb, 3, none⟩ = some (.int .i64 res2.gone) ∧ w'.cell? ⟨Fb, 4, none⟩ = some (.int .i64 res2.rd) ∧ w'.cell? ⟨Y, 1, none⟩ = some (.string S3)) (first | with_reducible exact s0 | with_reducible exact s1 | with_reducible exact s2 | with_reducible exact s3 | with_reducible exact s4) (first
      | (go_at_call 39; refine (ls_look5 HB.out.1 res2 HL2.out.1 S3 R3 HL2.out.2.1 HL2.out.2.2 HB.out.2.1 HB.out.2.2).mono ?_; rintro e Z8 ⟨rfl, t6, ct6, f6, q1, q2, q3⟩; have HC := Lib.hid (And.intro q1 (And.intro q2 q3)); clear q1 q2 q3 HB; have s1 := sc_of2 (y0 := .int .i64 16) (y1 := .string S3) (y2 := .int .i64 res2.K) (y3 := .slice none 0 0) (f0 := .bool res2.hit) (f1 := .bool res2.full) (f2 := .int .i64 res2.arm) (f3 := .int .i64 res2.gone) (f4 := .int .i64 res2.rd) HC.out.2.1 HC.out.2.2)
      | (go_at_call 38; refine (hd_same res2.hit res2.full res2.arm res2.gone res2.rd _).mono ?_; rintro e Z9 ⟨rfl, b2⟩; have HD := Lib.hid (And.intro (HC.out.1.below b2) (And.intro (Blk.below HC.out.2.1 b2 HC.out.2.1.lt) (Blk.below HC.out.2.2 b2 HC.out.2.2.lt))); clear b2 HC; have s2 := sc_of2 (y0 := .int .i64 16) (y1 := .string S3) (y2 := .int .i64 res2.K) (y3 := .slice none 0 0) (f0 := .bool res2.hit) (f1 := .bool res2.full) (f2 := .int .i64 res2.arm) (f3 := .int .i64 res2.gone) (f4 := .int .i64 res2.rd) HD.out.2.1 HD.out.2.2)
      | (go_at_call 43; refine (hd_text HD.out.1.1).mono ?_; rintro e Z10 ⟨rfl, b2⟩; have HE := Lib.hid (And.intro (HD.out.1.below b2) (And.intro (Blk.below HD.out.2.1 b2 HD.out.2.1.lt) (Blk.below HD.out.2.2 b2 HD.out.2.2.lt))); clear b2 HD; have s3 := sc_of2 (y0 := .int .i64 16) (y1 := .string S3) (y2 := .int .i64 res2.K) (y3 := .slice none 0 0) (f0 := .bool res2.hit) (f1 := .bool res2.full) (f2 := .int .i64 res2.arm) (f3 := .int .i64 res2.gone) (f4 := .int .i64 res2.rd) HE.out.2.1 HE.out.2.2)
      | (go_at_call 47; refine (hd_lives _).mono ?_; rintro e Z11 ⟨rfl, b2⟩; have HF := Lib.hid (And.intro (HE.out.1.below b2) (And.intro (Blk.below HE.out.2.1 b2 HE.out.2.1.lt) (Blk.below HE.out.2.2 b2 HE.out.2.2.lt))); clear b2 HE; have s4 := sc_of2 (y0 := .int .i64 16) (y1 := .string S3) (y2 := .int .i64 res2.K) (y3 := .slice none 0 0) (f0 := .bool res2.hit) (f1 := .bool res2.full) (f2 := .int .i64 res2.arm) (f3 := .int .i64 res2.gone) (f4 := .int .i64 res2.rd) HF.out.2.1 HF.out.2.2))
    clear s0 s1 s2 s3 s4
    go_wp2_with fail
    go_ret
    exact ⟨rfl, HF.out.1.2.2.2.2.2.1⟩

set_option maxRecDepth 100000 in
theorem lifted (os : Os) (started : os.Started) (H : Type) (enc : TypeId × Value → H) :
    ReturnsInHanded {} Try.checked os 10 .any (Rows.holdCopiesSpec.pre6 enc Try.prog Try.f10 Rows.holdCopiesRow.domain false) (Rows.holdCopiesSpec.post enc Try.prog Try.f10 false true false false) := by
  refine returnsInHanded_of_change (C := Try.checked) ownKn started (by kernel_rfl) Try.func10
    (ChangeSpec.witness6 (enc := enc) (C := Try.checked) false ⟨#[], #[.slice none 0 0, .string ByteArray.empty, .string ByteArray.empty], []⟩ 8 (by kernel_rfl) (by kernel_rfl) (by kernel_rfl) (by kernel_rfl)) ?_
  intro W base args ds gs before hval0 hW hcnd _
  have hval : ∀ (j : Nat) t v, Try.f10.params[j]? = some t → args[j]? = some v → Value.okWide Try.prog W .any base t v := hval0
  have hW' := hW
  obtain ⟨p, q, hA0, hV, rfl, hfz, hnd⟩ := hW
  have hA : DataW.TrodAll enc Try.prog W 0 (fun _ => true) true Try.f10.params.toList args.toList ds p := hA0
  rw [Try.params10] at hA hval
  obtain ⟨v0, vs0, d0, ds0, p0, q0, hargs, rfl, rfl, h0, r0⟩ := trodAll_cons hA
  obtain ⟨v1, vs1, d1, ds1, p1, q1, rfl, rfl, rfl, h1, r1⟩ := trodAll_cons r0
  obtain ⟨v2, vs2, d2, ds2, p2, q2, rfl, rfl, rfl, h2, r2⟩ := trodAll_cons r1
  obtain ⟨rfl, rfl, rfl⟩ := trodAll_nil r2
  obtain rfl : args = #[v0, v1, v2] := by cases args; simp_all
  obtain ⟨rfl, rfl⟩ := trodVars_none hV
  have k0 := h0
  have lt0 : ∀ x ∈ p0, x.block < W.heap.size := by obtain ⟨m, hm⟩ := k0; exact DataW.trod_lt m _ _ _ hm
  obtain ⟨b0, lb0, cb0, rfl⟩ := okWide_slice Try.underlying65 (hval 0 65 v0 rfl rfl)
  obtain ⟨fu0, hf0⟩ := h0
  simp only [Value.cells] at hf0
  obtain ⟨a0, len0, cap0, z0, e0, w0⟩ := fld_strs Try.underlying65 Try.underlying9 (by kernel_rfl) hf0
  obtain ⟨rfl, rfl, rfl⟩ : b0 = a0 ∧ lb0 = len0 ∧ cb0 = cap0 := by simpa using e0
  have k1 := h1
  have lt1 : ∀ x ∈ p1, x.block < W.heap.size := by obtain ⟨m, hm⟩ := k1; exact DataW.trod_lt m _ _ _ hm
  obtain ⟨a1, rfl, rfl, rfl, w1⟩ := open_string Try.underlying9 (hval 1 9 v1 rfl rfl) h1
  have k2 := h2
  have lt2 : ∀ x ∈ p2, x.block < W.heap.size := by obtain ⟨m, hm⟩ := k2; exact DataW.trod_lt m _ _ _ hm
  obtain ⟨a2, rfl, rfl, rfl, w2⟩ := open_string Try.underlying9 (hval 2 9 v2 rfl rfl) h2
  clear hA0 hval0
  refine (walk b0 lb0 cb0 z0 a1 a2 W w0 w1 w2).mono fun e W' ⟨he, bel⟩ => ?_
  subst he
  exact ⟨_, rfl, _, _, _, [], _, [], hW', trodAll_mk1 (shut_bool Try.underlying4 _), (trodAll_cons_mk (Below.trod laidOut (by kernel_rfl) (of_decide_eq_true (by kernel_rfl)) k0 bel lt0) (trodAll_cons_mk (Below.trod laidOut (by kernel_rfl) (of_decide_eq_true (by kernel_rfl)) k1 bel lt1) (trodAll_cons_mk (Below.trod laidOut (by kernel_rfl) (of_decide_eq_true (by kernel_rfl)) k2 bel lt2) trodAll_mk0))), rfl, bel.frame _, fun h => by cases h⟩

theorem over : Rows.holdCopiesRow.holds Try.pinned (OpenSpec.ofChange Rows.holdCopiesSpec) :=
  OpenClaim.holds_of_wide 10 Try.f10 rfl rfl rfl rfl rfl rfl rfl ⟨rfl, rfl, rfl, rfl, rfl⟩ rfl rfl rfl rfl rfl (by kernel_rfl) Try.func10 (by kernel_rfl)
    (of_decide_eq_true (by kernel_rfl)) (by unfold Func.isWrapper; first | (rw [if_pos (by decide +kernel)]; kernel_rfl) | (rw [if_neg (by decide +kernel)]; exact ⟨rfl, rfl⟩))
    (fun os started H enc _ => lifted os started H enc)

/-- The statement. -/
theorem proved : Rows.HoldCopiesSaid := over
#print axioms proved
end Go.Proofs.Ytbdjcppkfihonaa.holdCopies
