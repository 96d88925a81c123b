/- Several texts in one. -/
import Derived.Test.YtbdjcppkfihonaaHdA
import Derived.Test.YtbdjcppkfihonaaStage
import Derived.Deep.RegionLaw
import Derived.WalkKit
import Derived.ProofKit
import Derived.Handy
import Derived.WalkLawsBesides
import Derived.WalkSpells
import Derived.Lib.Hide
import Derived.RegionTactic
import Derived.ChangeAlike
import Derived.WalkSmall
import Derived.Deep.QuietTactic
import Derived.BigQuiet
import Derived.OwnWalk
import Derived.Outline
import Derived.Deep.CutRange
import Derived.Deep.CutBlock
import Derived.LoopTactic
import Derived.Test.YtbdjcppkfihonaaShelf
import Derived.Test.YtbdjcppkfihonaaRgA
/- Hold: Look. -/
namespace Go.Proofs.Ytbdjcppkfihonaa
open Go.ChangeShapes Go.WideShapes Go.ChangeAt Go.RowKit
set_option linter.unusedSimpArgs false
set_option linter.unusedVariables false

theorem bl_size (S : ByteArray) : S.data.toList.length = S.size := by simp
theorem ext_list (S : ByteArray) (a : Nat) : (S.extract a S.size).data.toList = S.data.toList.drop a := by
  rw [ByteArray.data_extract, Array.toList_extract, List.extract_eq_take_drop]
  exact List.take_of_length_le (by rw [List.length_drop, bl_size]; exact Nat.le_refl _)
theorem hd_lgT (S : ByteArray) (K : Nat) (h : K < S.size) : lgT S.data.toList K = S[K] := by
  unfold lgT
  rw [List.getElem?_eq_getElem (by simpa using h)]
  rfl
theorem RAt.ots {w : World} {b g n f : Nat} {S : ByteArray} (h : RAt w b g n f S) : OT w b ∧ OT w g := by
  obtain ⟨h1, h2, h3, h4, h5, h6, R, h7, h8, h9⟩ := h
  exact ⟨OT.of h6 (by decide), OT.of h8 (by decide)⟩
theorem RAt.c2 {w : World} {b g n f : Nat} {S : ByteArray} (h : RAt w b g n f S) : w.cell? ⟨b, 2, none⟩ = some (.int .i64 S.size) := by
  obtain ⟨h1, h2, h3, h4, h5, h6, R, h7, h8, h9⟩ := h
  exact h6.cell (i := 2) rfl
def Hd.ms : Option Value → Option Value → Option Value → Nat
  | some (.slice _ m _), some (.int _ K), some (.int _ r) => (m - K.toNat) + r.toNat
  | _, _, _ => 0
/-- What stands at the head of Look's loop. -/
def LKI (w wr : World) (h b g n W : Nat) (pv : Value) (ap : Option Addr) (xs : List Nat) (Ls : List (List (Bool × BitVec 256))) (tb0 : List Nat) (res : Hd.R) (t : Option Addr) (m ct : Nat) (S : ByteArray) (K f : Nat) (R : ByteArray) (rd fuel : Nat) : Prop :=
  HO wr h W t m ct S K pv ap ∧ AX wr ap xs Ls (Ar.stk Ls (lgT S.data.toList) K) K ∧ RAt wr b g n f R ∧ FB wr w.heap.size false false 0 0 0 ∧ FB wr (w.heap.size + 1) false false 0 0 rd ∧ (∀ x ∈ tvB t ct, (x ∈ tb0 ∧ x < w.heap.size) ∨ w.heap.size + 2 ≤ x) ∧ Chg (h :: b :: (xs ++ tb0)) w wr ∧ Hd.look Ls W fuel S.data.toList K R.data.toList rd = res ∧ (m - K) + R.size < fuel ∧ rd + R.size ≤ 10000
theorem LKI.below {w wr w2 : World} {h b g n W : Nat} {pv : Value} {ap : Option Addr} {xs : List Nat} {Ls : List (List (Bool × BitVec 256))} {tb0 : List Nat} {res : Hd.R} {t : Option Addr} {m ct : Nat} {S : ByteArray} {K f : Nat} {R : ByteArray} {rd fuel : Nat} (H : LKI w wr h b g n W pv ap xs Ls tb0 res t m ct S K f R rd fuel) (q : Below wr.heap.size wr w2) : LKI w w2 h b g n W pv ap xs Ls tb0 res t m ct S K f R rd fuel := by
  obtain ⟨h1, h2, h3, h4, h5, h6, h7, h8⟩ := H
  exact ⟨h1.below q, h2.below q, h3.fresh q, Blk.below h4 q h4.lt, Blk.below h5 q h5.lt, h6, h7.trans (Chg.of_fresh (l := []) q) (by simp), h8⟩
/-- Behind a feed. -/
def HFP (w W2 : World) (h b g n W : Nat) (pv : Value) (ap : Option Addr) (xs : List Nat) (Ls : List (List (Bool × BitVec 256))) (tb0 : List Nat) (t : Option Addr) (m ct : Nat) (S : ByteArray) (K f : Nat) (R : ByteArray) (rd : Nat) : Prop :=
  HO W2 h W t m ct S K pv ap ∧ AX W2 ap xs Ls (Ar.stk Ls (lgT S.data.toList) (K + 1)) (K + 1) ∧ RAt W2 b g n f R ∧ FB W2 w.heap.size false false 0 0 0 ∧ FB W2 (w.heap.size + 1) false false 0 0 rd ∧ Chg (h :: b :: (xs ++ tb0)) w W2
/-- Ahead of the feed, or behind it. -/
def SI (W0 w : World) (h b g n W : Nat) (pv : Value) (ap : Option Addr) (xs : List Nat) (Ls : List (List (Bool × BitVec 256))) (tb0 : List Nat) (t : Option Addr) (m ct : Nat) (S : ByteArray) (K f : Nat) (R : ByteArray) (rd : Nat) (L : Nat → Bool) (w' : World) : Prop :=
  HO w' h W t m ct S K pv ap ∧ (L 14 = false → w' = W0) ∧ (L 14 = true → HFP w w' h b g n W pv ap xs Ls tb0 t m ct S K f R rd)
theorem SI.other {W0 w w' : World} {h b g n W : Nat} {pv : Value} {ap : Option Addr} {xs : List Nat} {Ls : List (List (Bool × BitVec 256))} {tb0 : List Nat} {t : Option Addr} {m ct : Nat} {S : ByteArray} {K f : Nat} {R : ByteArray} {rd : Nat} {L : Nat → Bool} {i : Nat} (H : SI W0 w h b g n W pv ap xs Ls tb0 t m ct S K f R rd L w') (hi : 14 ≠ i) : SI W0 w h b g n W pv ap xs Ls tb0 t m ct S K f R rd (doneL L i) w' := by
  unfold SI at *; rw [doneL_other L hi]; exact H
theorem SI.fed {W0 w w' : World} {h b g n W : Nat} {pv : Value} {ap : Option Addr} {xs : List Nat} {Ls : List (List (Bool × BitVec 256))} {tb0 : List Nat} {t : Option Addr} {m ct : Nat} {S : ByteArray} {K f : Nat} {R : ByteArray} {rd : Nat} {L : Nat → Bool} (H : HFP w w' h b g n W pv ap xs Ls tb0 t m ct S K f R rd) : SI W0 w h b g n W pv ap xs Ls tb0 t m ct S K f R rd (doneL L 14) w' := by
  unfold SI; rw [doneL_same]; exact ⟨H.1, (fun h => absurd h (by simp)), fun _ => H⟩
theorem SI.cell {W0 w w' : World} {h b g n W gt : Nat} {pv : Value} {ap : Option Addr} {xs : List Nat} {Ls : List (List (Bool × BitVec 256))} {tb0 : List Nat} {m ct : Nat} {S : ByteArray} {K f : Nat} {R : ByteArray} {rd : Nat} {L : Nat → Bool} (H : SI W0 w h b g n W pv ap xs Ls tb0 (some ⟨gt, 0, none⟩) m ct S K f R rd L w') (hK : K < S.size) {z : Int} (hz : (S[K].toNat : Int) = z) : w'.cell? ⟨gt, K, none⟩ = some (.int .u8 z) := by
  have h1 := H.1.tv.1
  obtain ⟨g2, e, hr⟩ := H.1.tv.row (by omega)
  injection e with e; injection e with e
  subst e
  have := hr.cell (bv_at S K hK)
  rw [hz] at this
  exact this
/-- What a look leaves. -/
def LKP (w w' : World) (h b g n W : Nat) (pv : Value) (ap : Option Addr) (xs : List Nat) (Ls : List (List (Bool × BitVec 256))) (tb0 : List Nat) (res : Hd.R) : Prop :=
  ∃ t m ct S f R, HO w' h W t m ct S res.K pv ap ∧ S.data.toList = res.S ∧ AX w' ap xs Ls (Ar.stk Ls (lgT res.S) res.K) res.K ∧ RAt w' b g n f R ∧ R.data.toList = res.Q ∧ (∀ x ∈ tvB t ct, x ∈ tb0 ∨ w.heap.size ≤ x) ∧ Chg (h :: b :: (xs ++ tb0)) w w'
set_option maxRecDepth 100000 in
set_option maxHeartbeats 16000000 in
theorem hd_look (h b g n f0 W m0 ct0 K0 : Nat) (t0 ap : Option Addr) (S0 R0 : ByteArray) (pv : Value) (xs : List Nat) (Ls : List (List (Bool × BitVec 256))) (res : Hd.R) (hres : Hd.look Ls W ((m0 - K0) + R0.size + 1) S0.data.toList K0 R0.data.toList 0 = res) (hb : h ≠ b ∧ h ≠ g) (htb : ∀ x ∈ tvB t0 ct0, x ≠ b ∧ x ≠ g) (w : World) (H : HO w h W t0 m0 ct0 S0 K0 pv ap) (hx : AX w ap xs Ls (Ar.stk Ls (lgT S0.data.toList) K0) K0) (hr : RAt w b g n f0 R0) :
    Calls Try.prog 39 #[.pointer (some ⟨h, 0, none⟩), .pointer (some ⟨b, 0, none⟩)] w fun e w' => e = .returned (.agg #[.bool res.hit, .bool res.full, .int .i64 res.arm, .int .i64 res.gone, .int .i64 res.rd]) ∧ LKP w w' h b g n W pv ap xs Ls (tvB t0 ct0) res := by
  obtain ⟨tb0, htb0⟩ : ∃ tb0, tvB t0 ct0 = tb0 := ⟨_, rfl⟩
  have HS : Hid (h < w.heap.size ∧ b < w.heap.size ∧ g < w.heap.size ∧ h ≠ b ∧ h ≠ g ∧ (∀ x ∈ tb0, x ≠ b ∧ x ≠ g ∧ x < w.heap.size) ∧ (∀ x ∈ xs, x < w.heap.size)) := Lib.hid ⟨H.o.lt, hr.lts.1, hr.lts.2, hb.1, hb.2, fun x hxx => by rw [← htb0] at hxx; exact ⟨(htb x hxx).1, (htb x hxx).2, (H.tv.ot x hxx).2⟩, hx.lt⟩
  have HI0 : Hid (LKI w ((w.alloc (.cells #[.bool false, .bool false, .int .i64 0, .int .i64 0, .int .i64 0] 75)).alloc (.cells #[.bool false, .bool false, .int .i64 0, .int .i64 0, .int .i64 0] 75)) h b g n W pv ap xs Ls tb0 res t0 m0 ct0 S0 K0 f0 R0 0 ((m0 - K0) + R0.size + 1)) := Lib.hid (by
    have q : Below w.heap.size w ((w.alloc (.cells #[.bool false, .bool false, .int .i64 0, .int .i64 0, .int .i64 0] 75)).alloc (.cells #[.bool false, .bool false, .int .i64 0, .int .i64 0, .int .i64 0] 75)) := ((Below.refl _ _).alloc (Nat.le_refl _) _).alloc (by simp) _
    have hn := hr.1
    have hsz : R0.size ≤ 4096 := by have := hr.2.2.2.1; have := hr.2.1; omega
    refine ⟨H.below q, hx.below q, hr.fresh q, (Blk.newA w _ _).alloc _, by simpa [FB] using Blk.newA (w.alloc (.cells #[.bool false, .bool false, .int .i64 0, .int .i64 0, .int .i64 0] 75)) #[.bool false, .bool false, .int .i64 0, .int .i64 0, .int .i64 0] 75, fun x hxx => Or.inl ⟨by rw [← htb0]; exact hxx, (H.tv.ot x hxx).2⟩, Chg.of_fresh q, hres, by omega, by omega⟩)
  rw [htb0]
  clear H hx hr hb htb hres htb0
  go_enter Try.func39, Try.ntmps39
  go_wp2_with fail
  revert HI0
  generalize ((w.alloc (.cells #[.bool false, .bool false, .int .i64 0, .int .i64 0, .int .i64 0] 75)).alloc (.cells #[.bool false, .bool false, .int .i64 0, .int .i64 0, .int .i64 0] 75)) = W1
  intro HI0
  go_loopw [6, 7] (fun _ _ wr => ∃ (t : Option Addr) (m ct : Nat) (S : ByteArray) (K f : Nat) (R : ByteArray) (rd fuel : Nat), Hid (LKI w wr h b g n W pv ap xs Ls tb0 res t m ct S K f R rd fuel)) (fun _ _ wr => Hd.ms (wr.cell? ⟨h, 1, none⟩) (wr.cell? ⟨h, 2, none⟩) (wr.cell? ⟨b, 2, none⟩))
  case atStart => exact ⟨_, _, _, _, _, _, _, _, _, HI0⟩
  case round =>
    clear HI0
    obtain ⟨t, m, ct, S, K, f, R, rd, fuel0, HB⟩ := hrel
    have hkm := HB.out.1.km
    have hms : Hd.ms (wr.cell? ⟨h, 1, none⟩) (wr.cell? ⟨h, 2, none⟩) (wr.cell? ⟨b, 2, none⟩) = (m - K) + R.size := by
      rw [HB.out.1.o.cell (i := 1) rfl, HB.out.1.o.cell (i := 2) rfl, HB.out.2.2.1.c2]; rfl
    have HMS := Lib.hid hms
    clear hms
    obtain ⟨fuel, hfuel⟩ : ∃ fuel, fuel0 = fuel + 1 := ⟨fuel0 - 1, by have := HB.out.2.2.2.2.2.2.2.2.1; omega⟩
    subst hfuel
    by_cases hK : K < m
    · have hgt : (0 : Int) < (m : Int) - (K : Int) := by omega
      have HBF : Hid (∀ wq, wq = wr → Calls Try.prog 44 #[.pointer (some ⟨h, 0, none⟩)] wq fun e w' => e = .returned (.int .i64 ((m : Int) - (K : Int))) ∧ Below wq.heap.size wq w') := Lib.hid (fun wq e => by subst e; exact hd_fresh HB.out.1)
      go_wp2_with fail
      refine (HBF.out _ rfl).mono ?_
      rintro e Wf ⟨rfl, hbf⟩
      replace HB := Lib.hid (LKI.below HB.out hbf)
      have HME : Hid ((m - (K + 1)) + R.size < Hd.ms (wr.cell? ⟨h, 1, none⟩) (wr.cell? ⟨h, 2, none⟩) (wr.cell? ⟨b, 2, none⟩)) := Lib.hid (by rw [HMS.out]; omega)
      clear hbf HBF HMS
      obtain ⟨q, ok, hat⟩ : ∃ q ok, Hd.at Ls S.data.toList K = (q, ok) := ⟨_, _, rfl⟩
      have hSm := HB.out.1.tv.1
      obtain ⟨gt, rfl, hrow⟩ := HB.out.1.tv.row (by omega)
      have hSK : K < S.size := by omega
      obtain ⟨z, hz⟩ : ∃ z : Int, (S[K].toNat : Int) = z := ⟨_, rfl⟩
      have hcell := hrow.cell (bv_at S K hSK)
      rw [hz] at hcell
      obtain ⟨n1, hn1⟩ : ∃ n1, K + 1 = n1 := ⟨_, rfl⟩
      have hn1I : (K : Int) + 1 = (n1 : Int) := by omega
      have w1 : IntKind.i64.wrap (n1 : Int) = (n1 : Int) := IntWalk.i64_in _ (by have := HB.out.1.mw; have := HB.out.1.w1.2; omega)
      have w2 : IntKind.i64.wrap ((K : Int) + 1) = (n1 : Int) := by rw [hn1I]; exact w1
      have HE : Hid (Hd.at Ls S.data.toList K = (q, ok) ∧ K + 1 = n1 ∧ (lgT S.data.toList K).toNat = S[K].toNat ∧ (S[K].toNat : Int) = z) := Lib.hid ⟨hat, hn1, by rw [hd_lgT S K hSK], hz⟩
      have c1 := HB.out.1.o.cell (i := 1) rfl
      have c2 := HB.out.1.o.cell (i := 2) rfl
      have c4 := HB.out.1.o.cell (i := 4) rfl
      have k0 : (0 : Int) ≤ (K : Int) := by omega
      have kI : (K : Int) < (m : Int) := by omega
      clear hat hSm hrow hz hn1
      go_wp2_with fail
      have HBF2 : Hid (∀ W2, AX W2 ap xs Ls (Ar.stk Ls (lgT S.data.toList) (K + 1)) (K + 1) → Chg xs Wf.drew W2 → HFP w W2 h b g n W pv ap xs Ls tb0 (some ⟨gt, 0, none⟩) m ct S K f R rd) := Lib.hid (fun W2 q1 q2 => by
        have hx := HB.out.2.1
        have o1 : h ∉ xs := hx.xs HB.out.1.ot
        have o2 := hx.xs (b := b) HB.out.2.2.1.ots.1
        have o3 := hx.xs (b := g) HB.out.2.2.1.ots.2
        have o4 : ∀ x ∈ tvB (some ⟨gt, 0, none⟩) ct, x ∉ xs := fun x hxx => hx.xs (HB.out.1.tv.ot x hxx).1
        have o5 := hx.xs (b := w.heap.size) (OT.of HB.out.2.2.2.1 (by decide))
        have o6 := hx.xs (b := w.heap.size + 1) (OT.of HB.out.2.2.2.2.1 (by decide))
        exact ⟨(HB.out.1.below (Below.refl _ _).drew).chg q2 o1 o4, q1, (HB.out.2.2.1.drew).chg q2 o2 o3, (Blk.drew HB.out.2.2.2.1).chg q2 o5, (Blk.drew HB.out.2.2.2.2.1).chg q2 o6, (HB.out.2.2.2.2.2.2.1.drew).trans q2 (fun x hx => Or.inl (by simp [hx]))⟩)
      refine wp_region_stages (SI Wf.drew w h b g n W pv ap xs Ls tb0 (some ⟨gt, 0, none⟩) m ct S K f R rd) (by kernel_rfl) (by kernel_rfl) (by kernel_rfl) ⟨HB.out.1.below (Below.refl _ _).drew, fun _ => rfl, fun h => by cases h⟩ ?_
      clear c1 c2 c4 hcell
      refine wpSt_step (fun KK hKK => ?_)
      rw [if_pos (by simp [Region.wanted])]
      apply Exists.intro
      refine ⟨fun L wq hcl hL0 hpr hC => ?_, ?_⟩
      · have c1 := hC.1.o.cell (i := 1) rfl
        have c2 := hC.1.o.cell (i := 2) rfl
        have c4 := hC.1.o.cell (i := 4) rfl
        have hcell := SI.cell hC hSK HE.out.2.2.2
        go_simp
        exact upSt_value rfl (SI.other hC (by decide))
      simp only [Act.put, List.setIfInBounds_toArray, List.set_cons_zero, List.set_cons_succ]
      refine hKK _ ?_
      clear hKK KK
      refine wpSt_step (fun KK hKK => ?_)
      rw [if_pos (by simp [Region.wanted])]
      apply Exists.intro
      refine ⟨fun L wq hcl hL0 hpr hC => ?_, ?_⟩
      · have c1 := hC.1.o.cell (i := 1) rfl
        have c2 := hC.1.o.cell (i := 2) rfl
        have c4 := hC.1.o.cell (i := 4) rfl
        have hcell := SI.cell hC hSK HE.out.2.2.2
        go_simp
        exact upSt_value rfl (SI.other hC (by decide))
      simp only [Act.put, List.setIfInBounds_toArray, List.set_cons_zero, List.set_cons_succ]
      refine hKK _ ?_
      clear hKK KK
      refine wpSt_step (fun KK hKK => ?_)
      rw [if_pos (by simp [Region.wanted])]
      apply Exists.intro
      refine ⟨fun L wq hcl hL0 hpr hC => ?_, ?_⟩
      · have c1 := hC.1.o.cell (i := 1) rfl
        have c2 := hC.1.o.cell (i := 2) rfl
        have c4 := hC.1.o.cell (i := 4) rfl
        have hcell := SI.cell hC hSK HE.out.2.2.2
        go_simp
        exact upSt_value rfl (SI.other hC (by decide))
      simp only [Act.put, List.setIfInBounds_toArray, List.set_cons_zero, List.set_cons_succ]
      refine hKK _ ?_
      clear hKK KK
      refine wpSt_step (fun KK hKK => ?_)
      rw [if_pos (by simp [Region.wanted])]
      apply Exists.intro
      refine ⟨fun L wq hcl hL0 hpr hC => ?_, ?_⟩
      · have c1 := hC.1.o.cell (i := 1) rfl
        have c2 := hC.1.o.cell (i := 2) rfl
        have c4 := hC.1.o.cell (i := 4) rfl
        have hcell := SI.cell hC hSK HE.out.2.2.2
        go_simp
        exact upSt_value rfl (SI.other hC (by decide))
      simp only [Act.put, List.setIfInBounds_toArray, List.set_cons_zero, List.set_cons_succ]
      refine hKK _ ?_
      clear hKK KK
      refine wpSt_step (fun KK hKK => ?_)
      rw [if_pos (by simp [Region.wanted])]
      apply Exists.intro
      refine ⟨fun L wq hcl hL0 hpr hC => ?_, ?_⟩
      · have c1 := hC.1.o.cell (i := 1) rfl
        have c2 := hC.1.o.cell (i := 2) rfl
        have c4 := hC.1.o.cell (i := 4) rfl
        have hcell := SI.cell hC hSK HE.out.2.2.2
        go_simp
        exact upSt_value rfl (SI.other hC (by decide))
      simp only [Act.put, List.setIfInBounds_toArray, List.set_cons_zero, List.set_cons_succ]
      refine hKK _ ?_
      clear hKK KK
      refine wpSt_step (fun KK hKK => ?_)
      rw [if_pos (by simp [Region.wanted])]
      apply Exists.intro
      refine ⟨fun L wq hcl hL0 hpr hC => ?_, ?_⟩
      · have c1 := hC.1.o.cell (i := 1) rfl
        have c2 := hC.1.o.cell (i := 2) rfl
        have c4 := hC.1.o.cell (i := 4) rfl
        have hcell := SI.cell hC hSK HE.out.2.2.2
        go_simp
        exact upSt_value rfl (SI.other hC (by decide))
      simp only [Act.put, List.setIfInBounds_toArray, List.set_cons_zero, List.set_cons_succ]
      refine hKK _ ?_
      clear hKK KK
      refine wpSt_step (fun KK hKK => ?_)
      rw [if_pos (by simp [Region.wanted])]
      apply Exists.intro
      refine ⟨fun L wq hcl hL0 hpr hC => ?_, ?_⟩
      · have c1 := hC.1.o.cell (i := 1) rfl
        have c2 := hC.1.o.cell (i := 2) rfl
        have c4 := hC.1.o.cell (i := 4) rfl
        have hcell := SI.cell hC hSK HE.out.2.2.2
        go_simp
        exact upSt_value rfl (SI.other hC (by decide))
      simp only [Act.put, List.setIfInBounds_toArray, List.set_cons_zero, List.set_cons_succ]
      refine hKK _ ?_
      clear hKK KK
      refine wpSt_step (fun KK hKK => ?_)
      rw [if_pos (by simp [Region.wanted])]
      apply Exists.intro
      refine ⟨fun L wq hcl hL0 hpr hC => ?_, ?_⟩
      · have c1 := hC.1.o.cell (i := 1) rfl
        have c2 := hC.1.o.cell (i := 2) rfl
        have c4 := hC.1.o.cell (i := 4) rfl
        have hcell := SI.cell hC hSK HE.out.2.2.2
        go_simp
        exact upSt_value rfl (SI.other hC (by decide))
      simp only [Act.put, List.setIfInBounds_toArray, List.set_cons_zero, List.set_cons_succ]
      refine hKK _ ?_
      clear hKK KK
      refine wpSt_step (fun KK hKK => ?_)
      rw [if_pos (by simp [Region.wanted])]
      apply Exists.intro
      refine ⟨fun L wq hcl hL0 hpr hC => ?_, ?_⟩
      · have c1 := hC.1.o.cell (i := 1) rfl
        have c2 := hC.1.o.cell (i := 2) rfl
        have c4 := hC.1.o.cell (i := 4) rfl
        have hcell := SI.cell hC hSK HE.out.2.2.2
        go_simp
        exact upSt_value rfl (SI.other hC (by decide))
      simp only [Act.put, List.setIfInBounds_toArray, List.set_cons_zero, List.set_cons_succ]
      refine hKK _ ?_
      clear hKK KK
      refine wpSt_step (fun KK hKK => ?_)
      rw [if_pos (by simp [Region.wanted])]
      apply Exists.intro
      refine ⟨fun L wq hcl hL0 hpr hC => ?_, ?_⟩
      · have c1 := hC.1.o.cell (i := 1) rfl
        have c2 := hC.1.o.cell (i := 2) rfl
        have c4 := hC.1.o.cell (i := 4) rfl
        have hcell := SI.cell hC hSK HE.out.2.2.2
        go_simp
        exact upSt_value rfl (SI.other hC (by decide))
      simp only [Act.put, List.setIfInBounds_toArray, List.set_cons_zero, List.set_cons_succ]
      refine hKK _ ?_
      clear hKK KK
      refine wpSt_step (fun KK hKK => ?_)
      rw [if_pos (by simp [Region.wanted])]
      apply Exists.intro
      refine ⟨fun L wq hcl hL0 hpr hC => ?_, ?_⟩
      · have c1 := hC.1.o.cell (i := 1) rfl
        have c2 := hC.1.o.cell (i := 2) rfl
        have c4 := hC.1.o.cell (i := 4) rfl
        have hcell := SI.cell hC hSK HE.out.2.2.2
        go_simp
        exact upSt_value rfl (SI.other hC (by decide))
      simp only [Act.put, List.setIfInBounds_toArray, List.set_cons_zero, List.set_cons_succ]
      refine hKK _ ?_
      clear hKK KK
      refine wpSt_step (fun KK hKK => ?_)
      rw [if_pos (by simp [Region.wanted])]
      apply Exists.intro
      refine ⟨fun L wq hcl hL0 hpr hC => ?_, ?_⟩
      · have c1 := hC.1.o.cell (i := 1) rfl
        have c2 := hC.1.o.cell (i := 2) rfl
        have c4 := hC.1.o.cell (i := 4) rfl
        have hcell := SI.cell hC hSK HE.out.2.2.2
        go_simp
        exact upSt_value rfl (SI.other hC (by decide))
      simp only [Act.put, List.setIfInBounds_toArray, List.set_cons_zero, List.set_cons_succ]
      refine hKK _ ?_
      clear hKK KK
      refine wpSt_step (fun KK hKK => ?_)
      rw [if_pos (by simp [Region.wanted])]
      apply Exists.intro
      refine ⟨fun L wq hcl hL0 hpr hC => ?_, ?_⟩
      · have c1 := hC.1.o.cell (i := 1) rfl
        have c2 := hC.1.o.cell (i := 2) rfl
        have c4 := hC.1.o.cell (i := 4) rfl
        have hcell := SI.cell hC hSK HE.out.2.2.2
        go_simp
        exact upSt_value rfl (SI.other hC (by decide))
      simp only [Act.put, List.setIfInBounds_toArray, List.set_cons_zero, List.set_cons_succ]
      refine hKK _ ?_
      clear hKK KK
      refine wpSt_step (fun KK hKK => ?_)
      rw [if_pos (by simp [Region.wanted])]
      apply Exists.intro
      refine ⟨fun L wq hcl hL0 hpr hC => ?_, ?_⟩
      · have c1 := hC.1.o.cell (i := 1) rfl
        have c2 := hC.1.o.cell (i := 2) rfl
        have c4 := hC.1.o.cell (i := 4) rfl
        have hcell := SI.cell hC hSK HE.out.2.2.2
        go_simp
        exact upSt_value rfl (SI.other hC (by decide))
      simp only [Act.put, List.setIfInBounds_toArray, List.set_cons_zero, List.set_cons_succ]
      refine hKK _ ?_
      clear hKK KK
      refine wpSt_step (fun KK hKK => ?_)
      rw [if_pos (by simp [Region.wanted])]
      apply Exists.intro
      refine ⟨fun L wq hcl hL0 hpr hC => ?_, ?_⟩
      · have hwq := hC.2.1 hL0
        subst hwq
        go_simp
        simp only [upSt]
        go_at_call 63
        refine (ax_feed (HB.out.2.1.below (Below.refl _ _).drew) (lgT S.data.toList K).toNat (by have := (lgT S.data.toList K).toNat_lt; omega) z (by rw [HE.out.2.2.1, ← HE.out.2.2.2]) rfl (by have := HB.out.1.mw; have := HB.out.1.w1.2; omega) q ok HE.out.1).mono ?_
        rintro e W2 ⟨rfl, q1, q2⟩
        exact ⟨rfl, SI.fed (HBF2.out _ q1 q2)⟩
      simp only [Act.put, List.setIfInBounds_toArray, List.set_cons_zero, List.set_cons_succ]
      refine hKK _ ?_
      clear hKK KK
      refine wpSt_step (fun KK hKK => ?_)
      rw [if_pos (by simp [Region.wanted])]
      apply Exists.intro
      refine ⟨fun L wq hcl hL0 hpr hC => ?_, ?_⟩
      · have c1 := hC.1.o.cell (i := 1) rfl
        have c2 := hC.1.o.cell (i := 2) rfl
        have c4 := hC.1.o.cell (i := 4) rfl
        have hcell := SI.cell hC hSK HE.out.2.2.2
        go_simp
        exact upSt_value rfl (SI.other hC (by decide))
      simp only [Act.put, List.setIfInBounds_toArray, List.set_cons_zero, List.set_cons_succ]
      refine hKK _ ?_
      clear hKK KK
      refine wpSt_step (fun KK hKK => ?_)
      rw [if_pos (by simp [Region.wanted])]
      apply Exists.intro
      refine ⟨fun L wq hcl hL0 hpr hC => ?_, ?_⟩
      · have c1 := hC.1.o.cell (i := 1) rfl
        have c2 := hC.1.o.cell (i := 2) rfl
        have c4 := hC.1.o.cell (i := 4) rfl
        have hcell := SI.cell hC hSK HE.out.2.2.2
        go_simp
        exact upSt_value rfl (SI.other hC (by decide))
      simp only [Act.put, List.setIfInBounds_toArray, List.set_cons_zero, List.set_cons_succ]
      refine hKK _ ?_
      clear hKK KK
      refine wpSt_step (fun KK hKK => ?_)
      rw [if_pos (by simp [Region.wanted])]
      apply Exists.intro
      refine ⟨fun L wq hcl hL0 hpr hC => ?_, ?_⟩
      · have c1 := hC.1.o.cell (i := 1) rfl
        have c2 := hC.1.o.cell (i := 2) rfl
        have c4 := hC.1.o.cell (i := 4) rfl
        have hcell := SI.cell hC hSK HE.out.2.2.2
        go_simp
        exact upSt_value rfl (SI.other hC (by decide))
      simp only [Act.put, List.setIfInBounds_toArray, List.set_cons_zero, List.set_cons_succ]
      refine hKK _ ?_
      clear hKK KK
      refine wpSt_step (fun KK hKK => ?_)
      rw [if_pos (by simp [Region.wanted])]
      apply Exists.intro
      refine ⟨fun L wq hcl hL0 hpr hC => ?_, ?_⟩
      · have c1 := hC.1.o.cell (i := 1) rfl
        have c2 := hC.1.o.cell (i := 2) rfl
        have c4 := hC.1.o.cell (i := 4) rfl
        have hcell := SI.cell hC hSK HE.out.2.2.2
        go_simp
        exact upSt_value rfl (SI.other hC (by decide))
      simp only [Act.put, List.setIfInBounds_toArray, List.set_cons_zero, List.set_cons_succ]
      refine hKK _ ?_
      clear hKK KK
      refine wpSt_step (fun KK hKK => ?_)
      rw [if_pos (by simp [Region.wanted])]
      apply Exists.intro
      refine ⟨fun L wq hcl hL0 hpr hC => ?_, ?_⟩
      · have c1 := hC.1.o.cell (i := 1) rfl
        have c2 := hC.1.o.cell (i := 2) rfl
        have c4 := hC.1.o.cell (i := 4) rfl
        have hcell := SI.cell hC hSK HE.out.2.2.2
        go_simp
        exact upSt_value rfl (SI.other hC (by decide))
      simp only [Act.put, List.setIfInBounds_toArray, List.set_cons_zero, List.set_cons_succ]
      refine hKK _ ?_
      clear hKK KK
      refine wpSt_nil ?_
      intro W2 hw4
      have HF : Hid (HFP w W2 h b g n W pv ap xs Ls tb0 (some ⟨gt, 0, none⟩) m ct S K f R rd) := Lib.hid (hw4.2.2 rfl)
      clear hw4 HBF2
      have c2 := HF.out.1.o.cell (i := 2) rfl
      have cf := HF.out.1.o.free 2
      have nhF : h ≠ w.heap.size + 1 := by have := HS.out.1; omega
      have HG : Hid (HO (W2.setCell ⟨h, 2, none⟩ (.int .i64 n1)) h W (some ⟨gt, 0, none⟩) m ct S n1 pv ap ∧ AX (W2.setCell ⟨h, 2, none⟩ (.int .i64 n1)) ap xs Ls (Ar.stk Ls (lgT S.data.toList) n1) n1 ∧ RAt (W2.setCell ⟨h, 2, none⟩ (.int .i64 n1)) b g n f R ∧ FB (W2.setCell ⟨h, 2, none⟩ (.int .i64 n1)) w.heap.size false false 0 0 0 ∧ FB (W2.setCell ⟨h, 2, none⟩ (.int .i64 n1)) (w.heap.size + 1) false false 0 0 rd ∧ Chg (h :: b :: (xs ++ tb0)) w (W2.setCell ⟨h, 2, none⟩ (.int .i64 n1))) := Lib.hid (by
        have k1 : Chg [h] W2 (W2.setCell ⟨h, 2, none⟩ (.int .i64 n1)) := (Chg.refl [h] W2).set (Or.inl (by simp)) _ _
        have h1 := HS.out
        have h2 := HF.out.1
        have hax : AX W2 ap xs Ls (Ar.stk Ls (lgT S.data.toList) n1) n1 := by rw [← HE.out.2.1]; exact HF.out.2.1
        refine ⟨⟨h2.o.set 2 _, h2.tv.chg k1 (fun x hx => by simp; exact fun e => h2.ht (e ▸ hx)), h2.ht, by have := HE.out.2.1; omega, h2.w1, h2.mw⟩, ?_, HF.out.2.2.1.chg k1 (by simp; exact fun e => h1.2.2.2.1 e.symm) (by simp; exact fun e => h1.2.2.2.2.1 e.symm), Blk.chg HF.out.2.2.2.1 k1 (by simp; omega), Blk.chg HF.out.2.2.2.2.1 k1 (by simp; omega), HF.out.2.2.2.2.2.set (Or.inl (by simp)) _ _⟩
        exact hax.chg k1 (fun b hb => by simp at hb; rw [hb]; exact h2.ot))
      cases ok with
      | false =>
        go_wp2_with fail
        revert HG
        generalize (W2.setCell ⟨h, 2, none⟩ (.int .i64 n1)) = W3
        intro HG
        have HN : Hid (LKI w W3 h b g n W pv ap xs Ls tb0 res (some ⟨gt, 0, none⟩) m ct S n1 f R rd fuel) := Lib.hid (by
          have h1 := HB.out.2.2.2.2.2.2.2
          refine ⟨HG.out.1, HG.out.2.1, HG.out.2.2.1, HG.out.2.2.2.1, HG.out.2.2.2.2.1, HB.out.2.2.2.2.2.1, HG.out.2.2.2.2.2, ?_, by have := HE.out.2.1; omega, h1.2.2⟩
          rw [← h1.1, look_on (by rw [bl_size]; omega) HE.out.1, HE.out.2.1])
        have hz1 := HN.out.1.o.cell (i := 1) rfl
        have hz2 := HN.out.1.o.cell (i := 2) rfl
        have hz3 := HN.out.2.2.1.c2
        refine ⟨?_, ?measure⟩
        case measure =>
          rw [hz1, hz2, hz3]
          have h1 := HE.out.2.1
          have h2 := HME.out
          show (m - (n1 : Int).toNat) + (R.size : Int).toNat < _
          rw [Int.toNat_natCast, Int.toNat_natCast]
          omega
        first
          | exact ⟨_, _, _, _, _, _, _, _, _, HN⟩
          | ((repeat apply Exists.intro); exact ⟨⟨_, _, _, _, _, _, _, _, _, HN⟩, rfl⟩)
          | exact ⟨⟨_, _, _, _, _, _, _, _, _, HN⟩, by simp⟩
      | true =>
        have HRES : Hid (res = ⟨S.data.toList.drop n1, 0, R.data.toList, true, false, q, n1, rd⟩) := Lib.hid (by
          rw [← HB.out.2.2.2.2.2.2.2.1, look_hit (by rw [bl_size]; omega) HE.out.1, HE.out.2.1])
        have e0 := HF.out.2.2.2.2.1.cell (i := 0) rfl
        have e2 := HF.out.2.2.2.2.1.cell (i := 2) rfl
        have e3 := HF.out.2.2.2.2.1.cell (i := 3) rfl
        have ef0 := HF.out.2.2.2.2.1.free 0
        have ef2 := HF.out.2.2.2.2.1.free 2
        have ef3 := HF.out.2.2.2.2.1.free 3
        have nhF2 : w.heap.size + 1 ≠ h := fun e => nhF e.symm
        go_wp2_with fail
        have HV : Hid (HO ((((W2.setCell ⟨h, 2, none⟩ (.int .i64 n1)).setCell ⟨w.heap.size + 1, 0, none⟩ (.bool true)).setCell ⟨w.heap.size + 1, 2, none⟩ (.int .i64 q)).setCell ⟨w.heap.size + 1, 3, none⟩ (.int .i64 n1)) h W (some ⟨gt, 0, none⟩) m ct S n1 pv ap ∧ AX ((((W2.setCell ⟨h, 2, none⟩ (.int .i64 n1)).setCell ⟨w.heap.size + 1, 0, none⟩ (.bool true)).setCell ⟨w.heap.size + 1, 2, none⟩ (.int .i64 q)).setCell ⟨w.heap.size + 1, 3, none⟩ (.int .i64 n1)) ap xs Ls (Ar.stk Ls (lgT S.data.toList) n1) n1 ∧ RAt ((((W2.setCell ⟨h, 2, none⟩ (.int .i64 n1)).setCell ⟨w.heap.size + 1, 0, none⟩ (.bool true)).setCell ⟨w.heap.size + 1, 2, none⟩ (.int .i64 q)).setCell ⟨w.heap.size + 1, 3, none⟩ (.int .i64 n1)) b g n f R ∧ FB ((((W2.setCell ⟨h, 2, none⟩ (.int .i64 n1)).setCell ⟨w.heap.size + 1, 0, none⟩ (.bool true)).setCell ⟨w.heap.size + 1, 2, none⟩ (.int .i64 q)).setCell ⟨w.heap.size + 1, 3, none⟩ (.int .i64 n1)) w.heap.size false false 0 0 0 ∧ FB ((((W2.setCell ⟨h, 2, none⟩ (.int .i64 n1)).setCell ⟨w.heap.size + 1, 0, none⟩ (.bool true)).setCell ⟨w.heap.size + 1, 2, none⟩ (.int .i64 q)).setCell ⟨w.heap.size + 1, 3, none⟩ (.int .i64 n1)) (w.heap.size + 1) true false q n1 rd ∧ Chg (h :: b :: (xs ++ tb0)) w ((((W2.setCell ⟨h, 2, none⟩ (.int .i64 n1)).setCell ⟨w.heap.size + 1, 0, none⟩ (.bool true)).setCell ⟨w.heap.size + 1, 2, none⟩ (.int .i64 q)).setCell ⟨w.heap.size + 1, 3, none⟩ (.int .i64 n1))) := Lib.hid (by
          have h1 := HS.out
          obtain ⟨y1, y2, y3, y4, y5, y6⟩ := HG.out
          revert y1 y2 y3 y4 y5 y6
          generalize (W2.setCell ⟨h, 2, none⟩ (.int .i64 n1)) = W3
          intro y1 y2 y3 y4 y5 y6
          have k1 : Chg [w.heap.size + 1] W3 (((W3.setCell ⟨w.heap.size + 1, 0, none⟩ (.bool true)).setCell ⟨w.heap.size + 1, 2, none⟩ (.int .i64 q)).setCell ⟨w.heap.size + 1, 3, none⟩ (.int .i64 n1)) := (((Chg.refl [w.heap.size + 1] W3).set (Or.inl (by simp)) _ _).set (Or.inl (by simp)) _ _).set (Or.inl (by simp)) _ _
          have h6 := HB.out.2.2.2.2.2.1
          exact ⟨y1.chg k1 (by simp; omega) (fun x hx => by simp; rcases h6 x hx with e | e <;> omega), y2.chg k1 (fun x hx => by simp at hx; rw [hx]; exact OT.of y5 (by decide)), y3.chg k1 (by simp; omega) (by simp; omega), Blk.chg y4 k1 (by simp), ((Blk.set y5 0 _).set 2 _).set 3 _, y6.trans k1 (fun x hx => by simp at hx; right; omega)⟩)
        clear HG e0 e2 e3 ef0 ef2 ef3 c2 cf
        revert HV
        generalize ((((W2.setCell ⟨h, 2, none⟩ (.int .i64 n1)).setCell ⟨w.heap.size + 1, 0, none⟩ (.bool true)).setCell ⟨w.heap.size + 1, 2, none⟩ (.int .i64 q)).setCell ⟨w.heap.size + 1, 3, none⟩ (.int .i64 n1)) = W3
        intro HV
        refine (hd_forget h W m ct n1 n1 (some ⟨gt, 0, none⟩) ap S (S.extract n1 m) pv xs Ls _ n1 (by have := HE.out.2.1; omega) HV.out.1.km rfl W3 HV.out.1 HV.out.2.1).mono ?_
        rintro e W5 ⟨rfl, t5, ct5, q1, q2, q3, q4⟩
        have HP : Hid (HO W5 h W t5 (m - n1) ct5 (S.extract n1 m) 0 pv ap ∧ AX W5 ap xs Ls (Ar.st0 Ls) 0 ∧ RAt W5 b g n f R ∧ FB W5 w.heap.size false false 0 0 0 ∧ FB W5 (w.heap.size + 1) true false q n1 rd ∧ (∀ x ∈ tvB t5 ct5, w.heap.size + 2 ≤ x) ∧ Chg (h :: b :: (xs ++ tb0)) w W5) := Lib.hid (by
          have h1 := HS.out
          have o2 := HV.out.2.1.xs (b := b) HV.out.2.2.1.ots.1
          have o3 := HV.out.2.1.xs (b := g) HV.out.2.2.1.ots.2
          have o5 := HV.out.2.1.xs (b := w.heap.size) (OT.of HV.out.2.2.2.1 (by decide))
          have o6 := HV.out.2.1.xs (b := w.heap.size + 1) (OT.of HV.out.2.2.2.2.1 (by decide))
          have hl := HV.out.2.2.2.2.1.lt
          exact ⟨q1, q2, HV.out.2.2.1.chg q4 (by simp; exact ⟨fun e => h1.2.2.2.1 e.symm, o2⟩) (by simp; exact ⟨fun e => h1.2.2.2.2.1 e.symm, o3⟩), Blk.chg HV.out.2.2.2.1 q4 (by simp; exact ⟨by omega, o5⟩), Blk.chg HV.out.2.2.2.2.1 q4 (by simp; exact ⟨by omega, o6⟩), fun x hx => by have := q3 x hx; omega, HV.out.2.2.2.2.2.trans q4 (fun x hx => Or.inl (by simp at hx ⊢; rcases hx with e | e <;> simp [e]))⟩)
        clear q1 q2 q3 q4
        have e0 := HP.out.2.2.2.2.1.cell (i := 0) rfl
        have e1 := HP.out.2.2.2.2.1.cell (i := 1) rfl
        have e2 := HP.out.2.2.2.2.1.cell (i := 2) rfl
        have e3 := HP.out.2.2.2.2.1.cell (i := 3) rfl
        have e4 := HP.out.2.2.2.2.1.cell (i := 4) rfl
        have z0 := HP.out.2.2.2.1.cell (i := 0) rfl
        have z1 := HP.out.2.2.2.1.cell (i := 1) rfl
        have z2 := HP.out.2.2.2.1.cell (i := 2) rfl
        have z3 := HP.out.2.2.2.1.cell (i := 3) rfl
        have z4 := HP.out.2.2.2.1.cell (i := 4) rfl
        have y0 := HP.out.2.2.2.1.free 0
        have y1 := HP.out.2.2.2.1.free 1
        have y2 := HP.out.2.2.2.1.free 2
        have y3 := HP.out.2.2.2.1.free 3
        have y4 := HP.out.2.2.2.1.free 4
        go_wp2_with fail
        refine bodyPost_ret (v := .agg #[.bool true, .bool false, .int .i64 q, .int .i64 n1, .int .i64 rd]) (by simp [results, Try.results39, go_sem, z0, z1, z2, z3, z4]) rfl ?_
        have h1 := HS.out
        have k1 : Chg [w.heap.size] W5 (((((W5.setCell ⟨w.heap.size, 0, none⟩ (.bool true)).setCell ⟨w.heap.size, 1, none⟩ (.bool false)).setCell ⟨w.heap.size, 2, none⟩ (.int .i64 q)).setCell ⟨w.heap.size, 3, none⟩ (.int .i64 n1)).setCell ⟨w.heap.size, 4, none⟩ (.int .i64 rd)) := (((((Chg.refl [w.heap.size] W5).set (Or.inl (by simp)) _ _).set (Or.inl (by simp)) _ _).set (Or.inl (by simp)) _ _).set (Or.inl (by simp)) _ _).set (Or.inl (by simp)) _ _
        have hz := OT.of HP.out.2.2.2.1 (by decide)
        unfold LKP
        rw [HRES.out]
        refine ⟨rfl, t5, m - n1, ct5, S.extract n1 m, f, R, HP.out.1.chg k1 (by simp; omega) (fun x hx => by simp; have := HP.out.2.2.2.2.2.1 x hx; omega), ?_, HP.out.2.1.chg k1 (fun x hx => by simp at hx; rw [hx]; exact hz), HP.out.2.2.1.chg k1 (by simp; omega) (by simp; omega), rfl, fun x hx => Or.inr (by have := HP.out.2.2.2.2.2.1 x hx; omega), HP.out.2.2.2.2.2.2.trans k1 (fun x hx => Or.inr (by simp at hx; omega))⟩
        rw [← HV.out.1.tv.1, ext_list]
    · have hKm : K = m := by omega
      have hgt : ¬ (0 : Int) < (m : Int) - (K : Int) := by omega
      have hgt2 : decide ((0 : Int) < (m : Int) - (K : Int)) = false := by simpa using hgt
      have HBF : Hid (∀ wq, wq = wr → Calls Try.prog 44 #[.pointer (some ⟨h, 0, none⟩)] wq fun e w' => e = .returned (.int .i64 ((m : Int) - (K : Int))) ∧ Below wq.heap.size wq w') := Lib.hid (fun wq e => by subst e; exact hd_fresh HB.out.1)
      have HKM := Lib.hid hKm
      clear hKm
      go_wp2_with fail
      refine (HBF.out _ rfl).mono ?_
      rintro e Wf ⟨rfl, hbf⟩
      replace HB := Lib.hid (LKI.below HB.out hbf)
      clear hbf HBF
      by_cases hR0 : R.size = 0
      · have HRES : Hid (res = ⟨S.data.toList, K, R.data.toList, false, false, 0, 0, rd⟩) := Lib.hid (by
          have hQ : R.data.toList = [] := List.length_eq_zero_iff.1 (by rw [bl_size]; exact hR0)
          rw [← HB.out.2.2.2.2.2.2.2.1, hQ, look_end (by rw [bl_size, HB.out.1.tv.1]; exact hK)])
        have HR0 := Lib.hid hR0
        clear hR0
        go_wp2_with fail
        refine (hd_read_none h (w.heap.size + 1) b g n f R HR0.out Wf HB.out.2.2.1).mono ?_
        rintro e W5 ⟨rfl, hw5⟩
        subst hw5
        have HP := HB
        have e0 := HP.out.2.2.2.2.1.cell (i := 0) rfl
        have e1 := HP.out.2.2.2.2.1.cell (i := 1) rfl
        have e2 := HP.out.2.2.2.2.1.cell (i := 2) rfl
        have e3 := HP.out.2.2.2.2.1.cell (i := 3) rfl
        have e4 := HP.out.2.2.2.2.1.cell (i := 4) rfl
        have z0 := HP.out.2.2.2.1.cell (i := 0) rfl
        have z1 := HP.out.2.2.2.1.cell (i := 1) rfl
        have z2 := HP.out.2.2.2.1.cell (i := 2) rfl
        have z3 := HP.out.2.2.2.1.cell (i := 3) rfl
        have z4 := HP.out.2.2.2.1.cell (i := 4) rfl
        have y0 := HP.out.2.2.2.1.free 0
        have y1 := HP.out.2.2.2.1.free 1
        have y2 := HP.out.2.2.2.1.free 2
        have y3 := HP.out.2.2.2.1.free 3
        have y4 := HP.out.2.2.2.1.free 4
        go_wp2_with fail
        refine bodyPost_ret (v := .agg #[.bool false, .bool false, .int .i64 0, .int .i64 0, .int .i64 rd]) (by simp [results, Try.results39, go_sem, z0, z1, z2, z3, z4]) rfl ?_
        have h1 := HS.out
        have k1 : Chg [w.heap.size] Wf (((((Wf.setCell ⟨w.heap.size, 0, none⟩ (.bool false)).setCell ⟨w.heap.size, 1, none⟩ (.bool false)).setCell ⟨w.heap.size, 2, none⟩ (.int .i64 0)).setCell ⟨w.heap.size, 3, none⟩ (.int .i64 0)).setCell ⟨w.heap.size, 4, none⟩ (.int .i64 rd)) := (((((Chg.refl [w.heap.size] Wf).set (Or.inl (by simp)) _ _).set (Or.inl (by simp)) _ _).set (Or.inl (by simp)) _ _).set (Or.inl (by simp)) _ _).set (Or.inl (by simp)) _ _
        have hz := OT.of HP.out.2.2.2.1 (by decide)
        unfold LKP
        rw [HRES.out]
        refine ⟨rfl, t, m, ct, S, f, R, HP.out.1.chg k1 (by simp; omega) (fun x hx => by simp; rcases HP.out.2.2.2.2.2.1 x hx with e | e <;> omega), rfl, HP.out.2.1.chg k1 (fun x hx => by simp at hx; rw [hx]; exact hz), HP.out.2.2.1.chg k1 (by simp; omega) (by simp; omega), rfl, fun x hx => by rcases HP.out.2.2.2.2.2.1 x hx with e | e; exact Or.inl e.1; exact Or.inr (by omega), HP.out.2.2.2.2.2.2.1.trans k1 (fun x hx => Or.inr (by simp at hx; omega))⟩
      · have hRp : 0 < R.size := by omega
        have hQ : R.data.toList = R[0] :: (R.extract 1 R.size).data.toList := by
          have hlt : 0 < R.data.toList.length := by rw [bl_size]; exact hRp
          have h1 := List.drop_eq_getElem_cons hlt
          rw [ext_list]
          exact h1
        have HQ := Lib.hid hQ
        clear hQ hR0
        by_cases hWm : W ≤ m
        · have HRES : Hid (res = ⟨S.data.toList, K, R.data.toList, false, true, 0, 0, rd⟩) := Lib.hid (by
            rw [← HB.out.2.2.2.2.2.2.2.1, HQ.out, look_full (by rw [bl_size, HB.out.1.tv.1]; exact hK) (by rw [bl_size, HB.out.1.tv.1]; exact hWm)])
          go_wp2_with fail
          refine (hd_read_full h (w.heap.size + 1) b g n f W m ct K t ap S R pv false false 0 0 rd hRp hWm (by have := HS.out.1; omega) Wf HB.out.1 HB.out.2.2.1 HB.out.2.2.2.2.1).mono ?_
          rintro e W5 ⟨rfl, q1, q2⟩
          have HP : Hid (HO W5 h W t m ct S K pv ap ∧ AX W5 ap xs Ls (Ar.stk Ls (lgT S.data.toList) K) K ∧ RAt W5 b g n f R ∧ FB W5 w.heap.size false false 0 0 0 ∧ FB W5 (w.heap.size + 1) false true 0 0 rd ∧ (∀ x ∈ tvB t ct, (x ∈ tb0 ∧ x < w.heap.size) ∨ w.heap.size + 2 ≤ x) ∧ Chg (h :: b :: (xs ++ tb0)) w W5) := Lib.hid (by
            have h1 := HS.out
            have h6 := HB.out.2.2.2.2.2.1
            exact ⟨HB.out.1.chg q2 (by simp; omega) (fun x hx => by simp; rcases h6 x hx with e | e <;> omega), HB.out.2.1.chg q2 (fun x hx => by simp at hx; rw [hx]; exact OT.of HB.out.2.2.2.2.1 (by decide)), HB.out.2.2.1.chg q2 (by simp; omega) (by simp; omega), Blk.chg HB.out.2.2.2.1 q2 (by simp), q1, h6, HB.out.2.2.2.2.2.2.1.trans q2 (fun x hx => Or.inr (by simp at hx; omega))⟩)
          clear q1 q2
          have e0 := HP.out.2.2.2.2.1.cell (i := 0) rfl
          have e1 := HP.out.2.2.2.2.1.cell (i := 1) rfl
          have e2 := HP.out.2.2.2.2.1.cell (i := 2) rfl
          have e3 := HP.out.2.2.2.2.1.cell (i := 3) rfl
          have e4 := HP.out.2.2.2.2.1.cell (i := 4) rfl
          have z0 := HP.out.2.2.2.1.cell (i := 0) rfl
          have z1 := HP.out.2.2.2.1.cell (i := 1) rfl
          have z2 := HP.out.2.2.2.1.cell (i := 2) rfl
          have z3 := HP.out.2.2.2.1.cell (i := 3) rfl
          have z4 := HP.out.2.2.2.1.cell (i := 4) rfl
          have y0 := HP.out.2.2.2.1.free 0
          have y1 := HP.out.2.2.2.1.free 1
          have y2 := HP.out.2.2.2.1.free 2
          have y3 := HP.out.2.2.2.1.free 3
          have y4 := HP.out.2.2.2.1.free 4
          go_wp2_with fail
          refine bodyPost_ret (v := .agg #[.bool false, .bool true, .int .i64 0, .int .i64 0, .int .i64 rd]) (by simp [results, Try.results39, go_sem, z0, z1, z2, z3, z4]) rfl ?_
          have h1 := HS.out
          have k1 : Chg [w.heap.size] W5 (((((W5.setCell ⟨w.heap.size, 0, none⟩ (.bool false)).setCell ⟨w.heap.size, 1, none⟩ (.bool true)).setCell ⟨w.heap.size, 2, none⟩ (.int .i64 0)).setCell ⟨w.heap.size, 3, none⟩ (.int .i64 0)).setCell ⟨w.heap.size, 4, none⟩ (.int .i64 rd)) := (((((Chg.refl [w.heap.size] W5).set (Or.inl (by simp)) _ _).set (Or.inl (by simp)) _ _).set (Or.inl (by simp)) _ _).set (Or.inl (by simp)) _ _).set (Or.inl (by simp)) _ _
          have hz := OT.of HP.out.2.2.2.1 (by decide)
          unfold LKP
          rw [HRES.out]
          refine ⟨rfl, t, m, ct, S, f, R, HP.out.1.chg k1 (by simp; omega) (fun x hx => by simp; rcases HP.out.2.2.2.2.2.1 x hx with e | e <;> omega), rfl, HP.out.2.1.chg k1 (fun x hx => by simp at hx; rw [hx]; exact hz), HP.out.2.2.1.chg k1 (by simp; omega) (by simp; omega), rfl, fun x hx => by rcases HP.out.2.2.2.2.2.1 x hx with e | e; exact Or.inl e.1; exact Or.inr (by omega), HP.out.2.2.2.2.2.2.trans k1 (fun x hx => Or.inr (by simp at hx; omega))⟩
        · go_wp2_with fail
          refine (hd_read_yes h (w.heap.size + 1) b g n f W m ct K t ap S R pv false false 0 0 rd (by have := HB.out.2.2.2.2.2.2.2.2.2; omega) hRp (by omega) Wf HB.out.1 HB.out.2.2.1 HB.out.2.2.2.2.1 (by
            have h1 := HS.out
            exact ⟨h1.2.2.2.1, h1.2.2.2.2.1, by omega, by omega, by omega, fun x hx => by rcases HB.out.2.2.2.2.2.1 x hx with e | e; exact ⟨(h1.2.2.2.2.2.1 x e.1).1, (h1.2.2.2.2.2.1 x e.1).2.1, by omega⟩; exact ⟨by omega, by omega, by omega⟩⟩)).mono ?_
          rintro e Wr ⟨g', ct1, f1, rfl, q1, q2, q3, q4, q5, q6⟩
          obtain ⟨t1, ht1⟩ : ∃ t1, (some ⟨g', 0, none⟩ : Option Addr) = t1 := ⟨_, rfl⟩
          obtain ⟨S1, hS1⟩ : ∃ S1, Hd.snoc S R[0] = S1 := ⟨_, rfl⟩
          obtain ⟨R1, hR1⟩ : ∃ R1, R.extract 1 R.size = R1 := ⟨_, rfl⟩
          obtain ⟨m1, hm1⟩ : ∃ m1, m + 1 = m1 := ⟨_, rfl⟩
          obtain ⟨rd1, hrd1⟩ : ∃ rd1, rd + 1 = rd1 := ⟨_, rfl⟩
          have hR1s : R1.size + 1 = R.size := by rw [← hR1, ByteArray.size_extract]; omega
          have HB1 : Hid (LKI w Wr h b g n W pv ap xs Ls tb0 res t1 m1 ct1 S1 K f1 R1 rd1 (fuel + 1)) := Lib.hid (by
            have h1 := HS.out
            have h6 := HB.out.2.2.2.2.2.1
            have h9 := HB.out.2.2.2.2.2.2.2.2
            have hSK : K ≤ S.data.toList.length := by rw [bl_size, HB.out.1.tv.1]; omega
            have eS : S1.data.toList = S.data.toList ++ [R[0]] := by rw [← hS1, snoc_list]
            rw [ht1] at q1 q4 q5
            rw [hS1, hm1] at q1
            rw [hR1] at q2
            rw [hrd1] at q3
            refine ⟨q1, ?_, q2, Blk.chg HB.out.2.2.2.1 q6 ?_, q3, fun x hx => ?_, HB.out.2.2.2.2.2.2.1.trans q6 (fun x hx => ?_), ?_, by omega, by omega⟩
            · rw [eS, stk_snoc _ _ hSK]
              refine HB.out.2.1.chg q6 (fun x hx => ?_)
              simp at hx
              rcases hx with e | e | e | e
              · rw [e]; exact HB.out.1.ot
              · rw [e]; exact HB.out.2.2.1.ots.1
              · rw [e]; exact OT.of HB.out.2.2.2.2.1 (by decide)
              · exact (HB.out.1.tv.ot x e).1
            · simp
              refine ⟨by omega, by omega, fun e => ?_⟩
              rcases h6 _ e with e2 | e2 <;> omega
            · have hsz := HB.out.2.2.2.2.1.lt
              rcases q5 x hx with e | e
              · exact h6 x e
              · exact Or.inr (by omega)
            · simp at hx
              rcases hx with e | e | e | e
              · exact Or.inl (by simp [e])
              · exact Or.inl (by simp [e])
              · exact Or.inr (by omega)
              · rcases h6 x e with e2 | e2
                · exact Or.inl (by simp [e2.1])
                · exact Or.inr (by omega)
            · rw [← HB.out.2.2.2.2.2.2.2.1, HQ.out, look_read (by rw [bl_size, HB.out.1.tv.1]; exact hK) (by rw [bl_size, HB.out.1.tv.1]; exact HKM.out) (by rw [bl_size, HB.out.1.tv.1]; exact hWm), eS, hR1, hrd1])
          have hK1 : K < m1 := by have := HKM.out; omega
          have HME : Hid ((m1 - (K + 1)) + R1.size < Hd.ms (wr.cell? ⟨h, 1, none⟩) (wr.cell? ⟨h, 2, none⟩) (wr.cell? ⟨b, 2, none⟩)) := Lib.hid (by rw [HMS.out]; have := HKM.out; omega)
          clear q1 q2 q3 q4 q5 q6 ht1 hS1 hR1 hm1 hrd1 hR1s HB HMS HQ hWm hRp
          obtain ⟨q, ok, hat⟩ : ∃ q ok, Hd.at Ls S1.data.toList K = (q, ok) := ⟨_, _, rfl⟩
          have hSm := HB1.out.1.tv.1
          obtain ⟨gt, rfl, hrow⟩ := HB1.out.1.tv.row (by omega)
          have hSK : K < S1.size := by omega
          obtain ⟨z, hz⟩ : ∃ z : Int, (S1[K].toNat : Int) = z := ⟨_, rfl⟩
          have hcell := hrow.cell (bv_at S1 K hSK)
          rw [hz] at hcell
          obtain ⟨n1, hn1⟩ : ∃ n1, K + 1 = n1 := ⟨_, rfl⟩
          have hn1I : (K : Int) + 1 = (n1 : Int) := by omega
          have w1 : IntKind.i64.wrap (n1 : Int) = (n1 : Int) := IntWalk.i64_in _ (by have := HB1.out.1.mw; have := HB1.out.1.w1.2; omega)
          have w2 : IntKind.i64.wrap ((K : Int) + 1) = (n1 : Int) := by rw [hn1I]; exact w1
          have HE : Hid (Hd.at Ls S1.data.toList K = (q, ok) ∧ K + 1 = n1 ∧ (lgT S1.data.toList K).toNat = S1[K].toNat ∧ (S1[K].toNat : Int) = z) := Lib.hid ⟨hat, hn1, by rw [hd_lgT S1 K hSK], hz⟩
          have c1 := HB1.out.1.o.cell (i := 1) rfl
          have c2 := HB1.out.1.o.cell (i := 2) rfl
          have c4 := HB1.out.1.o.cell (i := 4) rfl
          have k0 : (0 : Int) ≤ (K : Int) := by omega
          have kI : (K : Int) < (m1 : Int) := by omega
          clear hat hSm hrow hz hn1
          go_wp2_with fail
          have HBF2 : Hid (∀ W2, AX W2 ap xs Ls (Ar.stk Ls (lgT S1.data.toList) (K + 1)) (K + 1) → Chg xs Wr.drew W2 → HFP w W2 h b g n W pv ap xs Ls tb0 (some ⟨gt, 0, none⟩) m1 ct1 S1 K f1 R1 rd1) := Lib.hid (fun W2 q1 q2 => by
            have hx := HB1.out.2.1
            have o1 : h ∉ xs := hx.xs HB1.out.1.ot
            have o2 := hx.xs (b := b) HB1.out.2.2.1.ots.1
            have o3 := hx.xs (b := g) HB1.out.2.2.1.ots.2
            have o4 : ∀ x ∈ tvB (some ⟨gt, 0, none⟩) ct1, x ∉ xs := fun x hxx => hx.xs (HB1.out.1.tv.ot x hxx).1
            have o5 := hx.xs (b := w.heap.size) (OT.of HB1.out.2.2.2.1 (by decide))
            have o6 := hx.xs (b := w.heap.size + 1) (OT.of HB1.out.2.2.2.2.1 (by decide))
            exact ⟨(HB1.out.1.below (Below.refl _ _).drew).chg q2 o1 o4, q1, (HB1.out.2.2.1.drew).chg q2 o2 o3, (Blk.drew HB1.out.2.2.2.1).chg q2 o5, (Blk.drew HB1.out.2.2.2.2.1).chg q2 o6, (HB1.out.2.2.2.2.2.2.1.drew).trans q2 (fun x hx => Or.inl (by simp [hx]))⟩)
          refine wp_region_stages (SI Wr.drew w h b g n W pv ap xs Ls tb0 (some ⟨gt, 0, none⟩) m1 ct1 S1 K f1 R1 rd1) (by kernel_rfl) (by kernel_rfl) (by kernel_rfl) ⟨HB1.out.1.below (Below.refl _ _).drew, fun _ => rfl, fun h => by cases h⟩ ?_
          clear c1 c2 c4 hcell
          refine wpSt_step (fun KK hKK => ?_)
          rw [if_pos (by simp [Region.wanted])]
          apply Exists.intro
          refine ⟨fun L wq hcl hL0 hpr hC => ?_, ?_⟩
          · have c1 := hC.1.o.cell (i := 1) rfl
            have c2 := hC.1.o.cell (i := 2) rfl
            have c4 := hC.1.o.cell (i := 4) rfl
            have hcell := SI.cell hC hSK HE.out.2.2.2
            go_simp
            exact upSt_value rfl (SI.other hC (by decide))
          simp only [Act.put, List.setIfInBounds_toArray, List.set_cons_zero, List.set_cons_succ]
          refine hKK _ ?_
          clear hKK KK
          refine wpSt_step (fun KK hKK => ?_)
          rw [if_pos (by simp [Region.wanted])]
          apply Exists.intro
          refine ⟨fun L wq hcl hL0 hpr hC => ?_, ?_⟩
          · have c1 := hC.1.o.cell (i := 1) rfl
            have c2 := hC.1.o.cell (i := 2) rfl
            have c4 := hC.1.o.cell (i := 4) rfl
            have hcell := SI.cell hC hSK HE.out.2.2.2
            go_simp
            exact upSt_value rfl (SI.other hC (by decide))
          simp only [Act.put, List.setIfInBounds_toArray, List.set_cons_zero, List.set_cons_succ]
          refine hKK _ ?_
          clear hKK KK
          refine wpSt_step (fun KK hKK => ?_)
          rw [if_pos (by simp [Region.wanted])]
          apply Exists.intro
          refine ⟨fun L wq hcl hL0 hpr hC => ?_, ?_⟩
          · have c1 := hC.1.o.cell (i := 1) rfl
            have c2 := hC.1.o.cell (i := 2) rfl
            have c4 := hC.1.o.cell (i := 4) rfl
            have hcell := SI.cell hC hSK HE.out.2.2.2
            go_simp
            exact upSt_value rfl (SI.other hC (by decide))
          simp only [Act.put, List.setIfInBounds_toArray, List.set_cons_zero, List.set_cons_succ]
          refine hKK _ ?_
          clear hKK KK
          refine wpSt_step (fun KK hKK => ?_)
          rw [if_pos (by simp [Region.wanted])]
          apply Exists.intro
          refine ⟨fun L wq hcl hL0 hpr hC => ?_, ?_⟩
          · have c1 := hC.1.o.cell (i := 1) rfl
            have c2 := hC.1.o.cell (i := 2) rfl
            have c4 := hC.1.o.cell (i := 4) rfl
            have hcell := SI.cell hC hSK HE.out.2.2.2
            go_simp
            exact upSt_value rfl (SI.other hC (by decide))
          simp only [Act.put, List.setIfInBounds_toArray, List.set_cons_zero, List.set_cons_succ]
          refine hKK _ ?_
          clear hKK KK
          refine wpSt_step (fun KK hKK => ?_)
          rw [if_pos (by simp [Region.wanted])]
          apply Exists.intro
          refine ⟨fun L wq hcl hL0 hpr hC => ?_, ?_⟩
          · have c1 := hC.1.o.cell (i := 1) rfl
            have c2 := hC.1.o.cell (i := 2) rfl
            have c4 := hC.1.o.cell (i := 4) rfl
            have hcell := SI.cell hC hSK HE.out.2.2.2
            go_simp
            exact upSt_value rfl (SI.other hC (by decide))
          simp only [Act.put, List.setIfInBounds_toArray, List.set_cons_zero, List.set_cons_succ]
          refine hKK _ ?_
          clear hKK KK
          refine wpSt_step (fun KK hKK => ?_)
          rw [if_pos (by simp [Region.wanted])]
          apply Exists.intro
          refine ⟨fun L wq hcl hL0 hpr hC => ?_, ?_⟩
          · have c1 := hC.1.o.cell (i := 1) rfl
            have c2 := hC.1.o.cell (i := 2) rfl
            have c4 := hC.1.o.cell (i := 4) rfl
            have hcell := SI.cell hC hSK HE.out.2.2.2
            go_simp
            exact upSt_value rfl (SI.other hC (by decide))
          simp only [Act.put, List.setIfInBounds_toArray, List.set_cons_zero, List.set_cons_succ]
          refine hKK _ ?_
          clear hKK KK
          refine wpSt_step (fun KK hKK => ?_)
          rw [if_pos (by simp [Region.wanted])]
          apply Exists.intro
          refine ⟨fun L wq hcl hL0 hpr hC => ?_, ?_⟩
          · have c1 := hC.1.o.cell (i := 1) rfl
            have c2 := hC.1.o.cell (i := 2) rfl
            have c4 := hC.1.o.cell (i := 4) rfl
            have hcell := SI.cell hC hSK HE.out.2.2.2
            go_simp
            exact upSt_value rfl (SI.other hC (by decide))
          simp only [Act.put, List.setIfInBounds_toArray, List.set_cons_zero, List.set_cons_succ]
          refine hKK _ ?_
          clear hKK KK
          refine wpSt_step (fun KK hKK => ?_)
          rw [if_pos (by simp [Region.wanted])]
          apply Exists.intro
          refine ⟨fun L wq hcl hL0 hpr hC => ?_, ?_⟩
          · have c1 := hC.1.o.cell (i := 1) rfl
            have c2 := hC.1.o.cell (i := 2) rfl
            have c4 := hC.1.o.cell (i := 4) rfl
            have hcell := SI.cell hC hSK HE.out.2.2.2
            go_simp
            exact upSt_value rfl (SI.other hC (by decide))
          simp only [Act.put, List.setIfInBounds_toArray, List.set_cons_zero, List.set_cons_succ]
          refine hKK _ ?_
          clear hKK KK
          refine wpSt_step (fun KK hKK => ?_)
          rw [if_pos (by simp [Region.wanted])]
          apply Exists.intro
          refine ⟨fun L wq hcl hL0 hpr hC => ?_, ?_⟩
          · have c1 := hC.1.o.cell (i := 1) rfl
            have c2 := hC.1.o.cell (i := 2) rfl
            have c4 := hC.1.o.cell (i := 4) rfl
            have hcell := SI.cell hC hSK HE.out.2.2.2
            go_simp
            exact upSt_value rfl (SI.other hC (by decide))
          simp only [Act.put, List.setIfInBounds_toArray, List.set_cons_zero, List.set_cons_succ]
          refine hKK _ ?_
          clear hKK KK
          refine wpSt_step (fun KK hKK => ?_)
          rw [if_pos (by simp [Region.wanted])]
          apply Exists.intro
          refine ⟨fun L wq hcl hL0 hpr hC => ?_, ?_⟩
          · have c1 := hC.1.o.cell (i := 1) rfl
            have c2 := hC.1.o.cell (i := 2) rfl
            have c4 := hC.1.o.cell (i := 4) rfl
            have hcell := SI.cell hC hSK HE.out.2.2.2
            go_simp
            exact upSt_value rfl (SI.other hC (by decide))
          simp only [Act.put, List.setIfInBounds_toArray, List.set_cons_zero, List.set_cons_succ]
          refine hKK _ ?_
          clear hKK KK
          refine wpSt_step (fun KK hKK => ?_)
          rw [if_pos (by simp [Region.wanted])]
          apply Exists.intro
          refine ⟨fun L wq hcl hL0 hpr hC => ?_, ?_⟩
          · have c1 := hC.1.o.cell (i := 1) rfl
            have c2 := hC.1.o.cell (i := 2) rfl
            have c4 := hC.1.o.cell (i := 4) rfl
            have hcell := SI.cell hC hSK HE.out.2.2.2
            go_simp
            exact upSt_value rfl (SI.other hC (by decide))
          simp only [Act.put, List.setIfInBounds_toArray, List.set_cons_zero, List.set_cons_succ]
          refine hKK _ ?_
          clear hKK KK
          refine wpSt_step (fun KK hKK => ?_)
          rw [if_pos (by simp [Region.wanted])]
          apply Exists.intro
          refine ⟨fun L wq hcl hL0 hpr hC => ?_, ?_⟩
          · have c1 := hC.1.o.cell (i := 1) rfl
            have c2 := hC.1.o.cell (i := 2) rfl
            have c4 := hC.1.o.cell (i := 4) rfl
            have hcell := SI.cell hC hSK HE.out.2.2.2
            go_simp
            exact upSt_value rfl (SI.other hC (by decide))
          simp only [Act.put, List.setIfInBounds_toArray, List.set_cons_zero, List.set_cons_succ]
          refine hKK _ ?_
          clear hKK KK
          refine wpSt_step (fun KK hKK => ?_)
          rw [if_pos (by simp [Region.wanted])]
          apply Exists.intro
          refine ⟨fun L wq hcl hL0 hpr hC => ?_, ?_⟩
          · have c1 := hC.1.o.cell (i := 1) rfl
            have c2 := hC.1.o.cell (i := 2) rfl
            have c4 := hC.1.o.cell (i := 4) rfl
            have hcell := SI.cell hC hSK HE.out.2.2.2
            go_simp
            exact upSt_value rfl (SI.other hC (by decide))
          simp only [Act.put, List.setIfInBounds_toArray, List.set_cons_zero, List.set_cons_succ]
          refine hKK _ ?_
          clear hKK KK
          refine wpSt_step (fun KK hKK => ?_)
          rw [if_pos (by simp [Region.wanted])]
          apply Exists.intro
          refine ⟨fun L wq hcl hL0 hpr hC => ?_, ?_⟩
          · have c1 := hC.1.o.cell (i := 1) rfl
            have c2 := hC.1.o.cell (i := 2) rfl
            have c4 := hC.1.o.cell (i := 4) rfl
            have hcell := SI.cell hC hSK HE.out.2.2.2
            go_simp
            exact upSt_value rfl (SI.other hC (by decide))
          simp only [Act.put, List.setIfInBounds_toArray, List.set_cons_zero, List.set_cons_succ]
          refine hKK _ ?_
          clear hKK KK
          refine wpSt_step (fun KK hKK => ?_)
          rw [if_pos (by simp [Region.wanted])]
          apply Exists.intro
          refine ⟨fun L wq hcl hL0 hpr hC => ?_, ?_⟩
          · have hwq := hC.2.1 hL0
            subst hwq
            go_simp
            simp only [upSt]
            go_at_call 63
            refine (ax_feed (HB1.out.2.1.below (Below.refl _ _).drew) (lgT S1.data.toList K).toNat (by have := (lgT S1.data.toList K).toNat_lt; omega) z (by rw [HE.out.2.2.1, ← HE.out.2.2.2]) rfl (by have := HB1.out.1.mw; have := HB1.out.1.w1.2; omega) q ok HE.out.1).mono ?_
            rintro e W2 ⟨rfl, q1, q2⟩
            exact ⟨rfl, SI.fed (HBF2.out _ q1 q2)⟩
          simp only [Act.put, List.setIfInBounds_toArray, List.set_cons_zero, List.set_cons_succ]
          refine hKK _ ?_
          clear hKK KK
          refine wpSt_step (fun KK hKK => ?_)
          rw [if_pos (by simp [Region.wanted])]
          apply Exists.intro
          refine ⟨fun L wq hcl hL0 hpr hC => ?_, ?_⟩
          · have c1 := hC.1.o.cell (i := 1) rfl
            have c2 := hC.1.o.cell (i := 2) rfl
            have c4 := hC.1.o.cell (i := 4) rfl
            have hcell := SI.cell hC hSK HE.out.2.2.2
            go_simp
            exact upSt_value rfl (SI.other hC (by decide))
          simp only [Act.put, List.setIfInBounds_toArray, List.set_cons_zero, List.set_cons_succ]
          refine hKK _ ?_
          clear hKK KK
          refine wpSt_step (fun KK hKK => ?_)
          rw [if_pos (by simp [Region.wanted])]
          apply Exists.intro
          refine ⟨fun L wq hcl hL0 hpr hC => ?_, ?_⟩
          · have c1 := hC.1.o.cell (i := 1) rfl
            have c2 := hC.1.o.cell (i := 2) rfl
            have c4 := hC.1.o.cell (i := 4) rfl
            have hcell := SI.cell hC hSK HE.out.2.2.2
            go_simp
            exact upSt_value rfl (SI.other hC (by decide))
          simp only [Act.put, List.setIfInBounds_toArray, List.set_cons_zero, List.set_cons_succ]
          refine hKK _ ?_
          clear hKK KK
          refine wpSt_step (fun KK hKK => ?_)
          rw [if_pos (by simp [Region.wanted])]
          apply Exists.intro
          refine ⟨fun L wq hcl hL0 hpr hC => ?_, ?_⟩
          · have c1 := hC.1.o.cell (i := 1) rfl
            have c2 := hC.1.o.cell (i := 2) rfl
            have c4 := hC.1.o.cell (i := 4) rfl
            have hcell := SI.cell hC hSK HE.out.2.2.2
            go_simp
            exact upSt_value rfl (SI.other hC (by decide))
          simp only [Act.put, List.setIfInBounds_toArray, List.set_cons_zero, List.set_cons_succ]
          refine hKK _ ?_
          clear hKK KK
          refine wpSt_step (fun KK hKK => ?_)
          rw [if_pos (by simp [Region.wanted])]
          apply Exists.intro
          refine ⟨fun L wq hcl hL0 hpr hC => ?_, ?_⟩
          · have c1 := hC.1.o.cell (i := 1) rfl
            have c2 := hC.1.o.cell (i := 2) rfl
            have c4 := hC.1.o.cell (i := 4) rfl
            have hcell := SI.cell hC hSK HE.out.2.2.2
            go_simp
            exact upSt_value rfl (SI.other hC (by decide))
          simp only [Act.put, List.setIfInBounds_toArray, List.set_cons_zero, List.set_cons_succ]
          refine hKK _ ?_
          clear hKK KK
          refine wpSt_step (fun KK hKK => ?_)
          rw [if_pos (by simp [Region.wanted])]
          apply Exists.intro
          refine ⟨fun L wq hcl hL0 hpr hC => ?_, ?_⟩
          · have c1 := hC.1.o.cell (i := 1) rfl
            have c2 := hC.1.o.cell (i := 2) rfl
            have c4 := hC.1.o.cell (i := 4) rfl
            have hcell := SI.cell hC hSK HE.out.2.2.2
            go_simp
            exact upSt_value rfl (SI.other hC (by decide))
          simp only [Act.put, List.setIfInBounds_toArray, List.set_cons_zero, List.set_cons_succ]
          refine hKK _ ?_
          clear hKK KK
          refine wpSt_nil ?_
          intro W2 hw4
          have HF : Hid (HFP w W2 h b g n W pv ap xs Ls tb0 (some ⟨gt, 0, none⟩) m1 ct1 S1 K f1 R1 rd1) := Lib.hid (hw4.2.2 rfl)
          clear hw4 HBF2
          have c2 := HF.out.1.o.cell (i := 2) rfl
          have cf := HF.out.1.o.free 2
          have nhF : h ≠ w.heap.size + 1 := by have := HS.out.1; omega
          have HG : Hid (HO (W2.setCell ⟨h, 2, none⟩ (.int .i64 n1)) h W (some ⟨gt, 0, none⟩) m1 ct1 S1 n1 pv ap ∧ AX (W2.setCell ⟨h, 2, none⟩ (.int .i64 n1)) ap xs Ls (Ar.stk Ls (lgT S1.data.toList) n1) n1 ∧ RAt (W2.setCell ⟨h, 2, none⟩ (.int .i64 n1)) b g n f1 R1 ∧ FB (W2.setCell ⟨h, 2, none⟩ (.int .i64 n1)) w.heap.size false false 0 0 0 ∧ FB (W2.setCell ⟨h, 2, none⟩ (.int .i64 n1)) (w.heap.size + 1) false false 0 0 rd1 ∧ Chg (h :: b :: (xs ++ tb0)) w (W2.setCell ⟨h, 2, none⟩ (.int .i64 n1))) := Lib.hid (by
            have k1 : Chg [h] W2 (W2.setCell ⟨h, 2, none⟩ (.int .i64 n1)) := (Chg.refl [h] W2).set (Or.inl (by simp)) _ _
            have h1 := HS.out
            have h2 := HF.out.1
            have hax : AX W2 ap xs Ls (Ar.stk Ls (lgT S1.data.toList) n1) n1 := by rw [← HE.out.2.1]; exact HF.out.2.1
            refine ⟨⟨h2.o.set 2 _, h2.tv.chg k1 (fun x hx => by simp; exact fun e => h2.ht (e ▸ hx)), h2.ht, by have := HE.out.2.1; omega, h2.w1, h2.mw⟩, ?_, HF.out.2.2.1.chg k1 (by simp; exact fun e => h1.2.2.2.1 e.symm) (by simp; exact fun e => h1.2.2.2.2.1 e.symm), Blk.chg HF.out.2.2.2.1 k1 (by simp; omega), Blk.chg HF.out.2.2.2.2.1 k1 (by simp; omega), HF.out.2.2.2.2.2.set (Or.inl (by simp)) _ _⟩
            exact hax.chg k1 (fun b hb => by simp at hb; rw [hb]; exact h2.ot))
          cases ok with
          | false =>
            go_wp2_with fail
            revert HG
            generalize (W2.setCell ⟨h, 2, none⟩ (.int .i64 n1)) = W3
            intro HG
            have HN : Hid (LKI w W3 h b g n W pv ap xs Ls tb0 res (some ⟨gt, 0, none⟩) m1 ct1 S1 n1 f1 R1 rd1 fuel) := Lib.hid (by
              have h1 := HB1.out.2.2.2.2.2.2.2
              refine ⟨HG.out.1, HG.out.2.1, HG.out.2.2.1, HG.out.2.2.2.1, HG.out.2.2.2.2.1, HB1.out.2.2.2.2.2.1, HG.out.2.2.2.2.2, ?_, by have := HE.out.2.1; omega, h1.2.2⟩
              rw [← h1.1, look_on (by rw [bl_size]; omega) HE.out.1, HE.out.2.1])
            have hz1 := HN.out.1.o.cell (i := 1) rfl
            have hz2 := HN.out.1.o.cell (i := 2) rfl
            have hz3 := HN.out.2.2.1.c2
            refine ⟨?_, ?measure⟩
            case measure =>
              rw [hz1, hz2, hz3]
              have h1 := HE.out.2.1
              have h2 := HME.out
              show (m1 - (n1 : Int).toNat) + (R1.size : Int).toNat < _
              rw [Int.toNat_natCast, Int.toNat_natCast]
              omega
            first
              | exact ⟨_, _, _, _, _, _, _, _, _, HN⟩
              | ((repeat apply Exists.intro); exact ⟨⟨_, _, _, _, _, _, _, _, _, HN⟩, rfl⟩)
              | exact ⟨⟨_, _, _, _, _, _, _, _, _, HN⟩, by simp⟩
          | true =>
            have HRES : Hid (res = ⟨S1.data.toList.drop n1, 0, R1.data.toList, true, false, q, n1, rd1⟩) := Lib.hid (by
              rw [← HB1.out.2.2.2.2.2.2.2.1, look_hit (by rw [bl_size]; omega) HE.out.1, HE.out.2.1])
            have e0 := HF.out.2.2.2.2.1.cell (i := 0) rfl
            have e2 := HF.out.2.2.2.2.1.cell (i := 2) rfl
            have e3 := HF.out.2.2.2.2.1.cell (i := 3) rfl
            have ef0 := HF.out.2.2.2.2.1.free 0
            have ef2 := HF.out.2.2.2.2.1.free 2
            have ef3 := HF.out.2.2.2.2.1.free 3
            have nhF2 : w.heap.size + 1 ≠ h := fun e => nhF e.symm
            go_wp2_with fail
            have HV : Hid (HO ((((W2.setCell ⟨h, 2, none⟩ (.int .i64 n1)).setCell ⟨w.heap.size + 1, 0, none⟩ (.bool true)).setCell ⟨w.heap.size + 1, 2, none⟩ (.int .i64 q)).setCell ⟨w.heap.size + 1, 3, none⟩ (.int .i64 n1)) h W (some ⟨gt, 0, none⟩) m1 ct1 S1 n1 pv ap ∧ AX ((((W2.setCell ⟨h, 2, none⟩ (.int .i64 n1)).setCell ⟨w.heap.size + 1, 0, none⟩ (.bool true)).setCell ⟨w.heap.size + 1, 2, none⟩ (.int .i64 q)).setCell ⟨w.heap.size + 1, 3, none⟩ (.int .i64 n1)) ap xs Ls (Ar.stk Ls (lgT S1.data.toList) n1) n1 ∧ RAt ((((W2.setCell ⟨h, 2, none⟩ (.int .i64 n1)).setCell ⟨w.heap.size + 1, 0, none⟩ (.bool true)).setCell ⟨w.heap.size + 1, 2, none⟩ (.int .i64 q)).setCell ⟨w.heap.size + 1, 3, none⟩ (.int .i64 n1)) b g n f1 R1 ∧ FB ((((W2.setCell ⟨h, 2, none⟩ (.int .i64 n1)).setCell ⟨w.heap.size + 1, 0, none⟩ (.bool true)).setCell ⟨w.heap.size + 1, 2, none⟩ (.int .i64 q)).setCell ⟨w.heap.size + 1, 3, none⟩ (.int .i64 n1)) w.heap.size false false 0 0 0 ∧ FB ((((W2.setCell ⟨h, 2, none⟩ (.int .i64 n1)).setCell ⟨w.heap.size + 1, 0, none⟩ (.bool true)).setCell ⟨w.heap.size + 1, 2, none⟩ (.int .i64 q)).setCell ⟨w.heap.size + 1, 3, none⟩ (.int .i64 n1)) (w.heap.size + 1) true false q n1 rd1 ∧ Chg (h :: b :: (xs ++ tb0)) w ((((W2.setCell ⟨h, 2, none⟩ (.int .i64 n1)).setCell ⟨w.heap.size + 1, 0, none⟩ (.bool true)).setCell ⟨w.heap.size + 1, 2, none⟩ (.int .i64 q)).setCell ⟨w.heap.size + 1, 3, none⟩ (.int .i64 n1))) := Lib.hid (by
              have h1 := HS.out
              obtain ⟨y1, y2, y3, y4, y5, y6⟩ := HG.out
              revert y1 y2 y3 y4 y5 y6
              generalize (W2.setCell ⟨h, 2, none⟩ (.int .i64 n1)) = W3
              intro y1 y2 y3 y4 y5 y6
              have k1 : Chg [w.heap.size + 1] W3 (((W3.setCell ⟨w.heap.size + 1, 0, none⟩ (.bool true)).setCell ⟨w.heap.size + 1, 2, none⟩ (.int .i64 q)).setCell ⟨w.heap.size + 1, 3, none⟩ (.int .i64 n1)) := (((Chg.refl [w.heap.size + 1] W3).set (Or.inl (by simp)) _ _).set (Or.inl (by simp)) _ _).set (Or.inl (by simp)) _ _
              have h6 := HB1.out.2.2.2.2.2.1
              exact ⟨y1.chg k1 (by simp; omega) (fun x hx => by simp; rcases h6 x hx with e | e <;> omega), y2.chg k1 (fun x hx => by simp at hx; rw [hx]; exact OT.of y5 (by decide)), y3.chg k1 (by simp; omega) (by simp; omega), Blk.chg y4 k1 (by simp), ((Blk.set y5 0 _).set 2 _).set 3 _, y6.trans k1 (fun x hx => by simp at hx; right; omega)⟩)
            clear HG e0 e2 e3 ef0 ef2 ef3 c2 cf
            revert HV
            generalize ((((W2.setCell ⟨h, 2, none⟩ (.int .i64 n1)).setCell ⟨w.heap.size + 1, 0, none⟩ (.bool true)).setCell ⟨w.heap.size + 1, 2, none⟩ (.int .i64 q)).setCell ⟨w.heap.size + 1, 3, none⟩ (.int .i64 n1)) = W3
            intro HV
            refine (hd_forget h W m1 ct1 n1 n1 (some ⟨gt, 0, none⟩) ap S1 (S1.extract n1 m1) pv xs Ls _ n1 (by have := HE.out.2.1; omega) HV.out.1.km rfl W3 HV.out.1 HV.out.2.1).mono ?_
            rintro e W5 ⟨rfl, t5, ct5, q1, q2, q3, q4⟩
            have HP : Hid (HO W5 h W t5 (m1 - n1) ct5 (S1.extract n1 m1) 0 pv ap ∧ AX W5 ap xs Ls (Ar.st0 Ls) 0 ∧ RAt W5 b g n f1 R1 ∧ FB W5 w.heap.size false false 0 0 0 ∧ FB W5 (w.heap.size + 1) true false q n1 rd1 ∧ (∀ x ∈ tvB t5 ct5, w.heap.size + 2 ≤ x) ∧ Chg (h :: b :: (xs ++ tb0)) w W5) := Lib.hid (by
              have h1 := HS.out
              have o2 := HV.out.2.1.xs (b := b) HV.out.2.2.1.ots.1
              have o3 := HV.out.2.1.xs (b := g) HV.out.2.2.1.ots.2
              have o5 := HV.out.2.1.xs (b := w.heap.size) (OT.of HV.out.2.2.2.1 (by decide))
              have o6 := HV.out.2.1.xs (b := w.heap.size + 1) (OT.of HV.out.2.2.2.2.1 (by decide))
              have hl := HV.out.2.2.2.2.1.lt
              exact ⟨q1, q2, HV.out.2.2.1.chg q4 (by simp; exact ⟨fun e => h1.2.2.2.1 e.symm, o2⟩) (by simp; exact ⟨fun e => h1.2.2.2.2.1 e.symm, o3⟩), Blk.chg HV.out.2.2.2.1 q4 (by simp; exact ⟨by omega, o5⟩), Blk.chg HV.out.2.2.2.2.1 q4 (by simp; exact ⟨by omega, o6⟩), fun x hx => by have := q3 x hx; omega, HV.out.2.2.2.2.2.trans q4 (fun x hx => Or.inl (by simp at hx ⊢; rcases hx with e | e <;> simp [e]))⟩)
            clear q1 q2 q3 q4
            have e0 := HP.out.2.2.2.2.1.cell (i := 0) rfl
            have e1 := HP.out.2.2.2.2.1.cell (i := 1) rfl
            have e2 := HP.out.2.2.2.2.1.cell (i := 2) rfl
            have e3 := HP.out.2.2.2.2.1.cell (i := 3) rfl
            have e4 := HP.out.2.2.2.2.1.cell (i := 4) rfl
            have z0 := HP.out.2.2.2.1.cell (i := 0) rfl
            have z1 := HP.out.2.2.2.1.cell (i := 1) rfl
            have z2 := HP.out.2.2.2.1.cell (i := 2) rfl
            have z3 := HP.out.2.2.2.1.cell (i := 3) rfl
            have z4 := HP.out.2.2.2.1.cell (i := 4) rfl
            have y0 := HP.out.2.2.2.1.free 0
            have y1 := HP.out.2.2.2.1.free 1
            have y2 := HP.out.2.2.2.1.free 2
            have y3 := HP.out.2.2.2.1.free 3
            have y4 := HP.out.2.2.2.1.free 4
            go_wp2_with fail
            refine bodyPost_ret (v := .agg #[.bool true, .bool false, .int .i64 q, .int .i64 n1, .int .i64 rd1]) (by simp [results, Try.results39, go_sem, z0, z1, z2, z3, z4]) rfl ?_
            have h1 := HS.out
            have k1 : Chg [w.heap.size] W5 (((((W5.setCell ⟨w.heap.size, 0, none⟩ (.bool true)).setCell ⟨w.heap.size, 1, none⟩ (.bool false)).setCell ⟨w.heap.size, 2, none⟩ (.int .i64 q)).setCell ⟨w.heap.size, 3, none⟩ (.int .i64 n1)).setCell ⟨w.heap.size, 4, none⟩ (.int .i64 rd1)) := (((((Chg.refl [w.heap.size] W5).set (Or.inl (by simp)) _ _).set (Or.inl (by simp)) _ _).set (Or.inl (by simp)) _ _).set (Or.inl (by simp)) _ _).set (Or.inl (by simp)) _ _
            have hz := OT.of HP.out.2.2.2.1 (by decide)
            unfold LKP
            rw [HRES.out]
            refine ⟨rfl, t5, m1 - n1, ct5, S1.extract n1 m1, f1, R1, HP.out.1.chg k1 (by simp; omega) (fun x hx => by simp; have := HP.out.2.2.2.2.2.1 x hx; omega), ?_, HP.out.2.1.chg k1 (fun x hx => by simp at hx; rw [hx]; exact hz), HP.out.2.2.1.chg k1 (by simp; omega) (by simp; omega), rfl, fun x hx => Or.inr (by have := HP.out.2.2.2.2.2.1 x hx; omega), HP.out.2.2.2.2.2.2.trans k1 (fun x hx => Or.inr (by simp at hx; omega))⟩
            rw [← HV.out.1.tv.1, ext_list]
end Go.Proofs.Ytbdjcppkfihonaa
/- Hold: the nil window, Begin. -/
namespace Go.Proofs.Ytbdjcppkfihonaa
open Go.ChangeShapes Go.WideShapes Go.ChangeAt Go.RowKit
set_option linter.unusedSimpArgs false
set_option linter.unusedVariables false

set_option maxRecDepth 20000 in
theorem hd_begin_nil (v : Value) (w : World) : Calls Try.prog 42 #[.pointer none, v] w fun e w' => e = .returned (.int .i64 1) ∧ w' = w := by
  go_enter Try.func42, Try.ntmps42
  go_wp2
  go_ret
  exact ⟨rfl, rfl⟩
set_option maxRecDepth 20000 in
theorem hd_len_nil (w : World) : Calls Try.prog 45 #[.pointer none] w fun e w' => e = .returned (.int .i64 0) ∧ w' = w := by
  go_enter Try.func45, Try.ntmps45
  go_wp2
  go_ret
  exact ⟨rfl, rfl⟩
set_option maxRecDepth 20000 in
theorem hd_fresh_nil (w : World) : Calls Try.prog 44 #[.pointer none] w fun e w' => e = .returned (.int .i64 0) ∧ w' = w := by
  go_enter Try.func44, Try.ntmps44
  go_wp2
  go_ret
  exact ⟨rfl, rfl⟩
set_option maxRecDepth 20000 in
theorem hd_text_nil (w : World) : Calls Try.prog 43 #[.pointer none] w fun e w' => e = .returned (.string ⟨#[]⟩) ∧ w' = w := by
  go_enter Try.func43, Try.ntmps43
  go_wp2
  go_ret
  exact ⟨rfl, rfl⟩
set_option maxRecDepth 20000 in
theorem hd_copy_nil (w : World) : Calls Try.prog 50 #[.pointer none] w fun e w' => e = .returned (.pointer none) ∧ w' = w := by
  go_enter Try.func50, Try.ntmps50
  go_wp2
  go_ret
  exact ⟨rfl, rfl⟩
set_option maxRecDepth 20000 in
theorem hd_begin_no (h W m ct K : Nat) (t ap : Option Addr) (S : ByteArray) (pv : Value) (ss : List ByteArray) (n : Nat) (hn : ss.length = n) (hn8 : n ≤ 8) (a : Option Addr) (c : Nat) (hs : ∀ s ∈ ss, s.size ≤ 1000000) (k e : Nat) (hr : Ar.nw ss n = (k, e)) (he : e ≠ 0) (w : World) (H : HO w h W t m ct S K pv ap) (hI : TX w a ss) :
    Calls Try.prog 42 #[.pointer (some ⟨h, 0, none⟩), .slice a n c] w fun r w' => r = .returned (.int .i64 e) ∧ Below w.heap.size w w' := by
  have HH := Lib.hid (And.intro hn (And.intro hs (And.intro hr (And.intro he hI))))
  have he0 : ¬ (e : Int) = 0 := by omega
  have he1 : ((e : Int) == 0) = false := by simpa using he0
  clear hn hs hr he hI H
  go_enter Try.func42, Try.ntmps42
  go_wp2_with (go_at_call 65; refine (ar_new_no ss n HH.out.1 hn8 a c HH.out.2.1 k e HH.out.2.2.1 HH.out.2.2.2.1 _ HH.out.2.2.2.2).mono ?_; rintro r W1 ⟨rfl, hb⟩)
  go_ret
  exact ⟨rfl, hb⟩
set_option maxRecDepth 20000 in
set_option maxHeartbeats 4000000 in
theorem hd_begin_yes (h W m ct K : Nat) (t ap : Option Addr) (S : ByteArray) (pv : Value) (ss : List ByteArray) (n : Nat) (hn : ss.length = n) (hn8 : n ≤ 8) (g c : Nat) (hs : ∀ s ∈ ss, s.size ≤ 1000000) (he : (Ar.nw ss n).2 = 0) (w : World) (H : HO w h W t m ct S K pv ap) (hI : TX w (some ⟨g, 0, none⟩) ss) :
    Calls Try.prog 42 #[.pointer (some ⟨h, 0, none⟩), .slice (some ⟨g, 0, none⟩) n c] w fun r w' => ∃ x gp cp xs, r = .returned (.int .i64 0) ∧ HO w' h W t m ct S 0 (.slice (some ⟨gp, 0, none⟩) n cp) (some ⟨x, 0, none⟩) ∧ AX w' (some ⟨x, 0, none⟩) xs (ss.map Ar.pat) (Ar.st0 (ss.map Ar.pat)) 0 ∧ w.heap.size ≤ gp ∧ Rw w' gp cp (ss.map .string) 9 ∧ (∀ b ∈ xs, w.heap.size ≤ b) ∧ Chg [h] w w' := by
  have HH := Lib.hid (And.intro hn (And.intro hs (And.intro he (And.intro hI (And.intro H H.o.lt)))))
  clear hn hs he hI H
  go_enter Try.func42, Try.ntmps42
  go_wp2_with (first
    | (go_at_call 65; refine (ar_new_row ss n HH.out.1 hn8 (some ⟨g, 0, none⟩) c HH.out.2.1 HH.out.2.2.1 _ HH.out.2.2.2.1).mono ?_; rintro r W1 ⟨x, gs, cs, b, ca, A, rfl, q1, q2, q3, q4, q5, q6⟩; have HX : Hid (HO W1 h W t m ct S K pv ap ∧ AS W1 x gs cs b ca A n (Ar.st0 (ss.map Ar.pat)) 0 ∧ A.map Prod.fst = ss.map Ar.pat ∧ w.heap.size ≤ x ∧ x < gs ∧ TX W1 (some ⟨g, 0, none⟩) ss ∧ Below w.heap.size w W1) := Lib.hid ⟨HH.out.2.2.2.2.1.below q6, ⟨q1, q5⟩, q2, q3, q4, HH.out.2.2.2.1.below q6, q6⟩; clear q1 q2 q3 q4 q5 q6)
    | (go_at_call 66; refine (Try.slices_Clone_string g 0 n c ss _ (by have := HH.out.1; omega) (by omega) (fun j hj => by
         have h1 := HX.out.2.2.2.2.2.1.at0 (k := j) (s := ss.getD j ByteArray.empty) (by rw [List.getD_eq_getElem?_getD, List.getElem?_eq_getElem hj]; rfl)
         rw [Nat.zero_add]; exact h1)).mono ?_
       rintro r W2 ⟨v, rfl, q1, q2, q3⟩
       rw [List.take_of_length_le (by have := HH.out.1; omega)] at q1
       obtain ⟨gp, cp, rfl, z1, z2, _⟩ := Rw.of_own q1 q2
       have HY : Hid (HO W2 h W t m ct S K pv ap ∧ AS W2 x gs cs b ca A n (Ar.st0 (ss.map Ar.pat)) 0 ∧ w.heap.size ≤ gp ∧ Rw W2 gp cp (ss.map .string) 9 ∧ Below w.heap.size w W2) := Lib.hid ⟨HX.out.1.below q3, HX.out.2.1.below q3, Nat.le_trans HX.out.2.2.2.2.2.2.size z1, z2, HX.out.2.2.2.2.2.2.trans (q3.mono HX.out.2.2.2.2.2.2.size)⟩
       clear q1 q2 q3 z1 z2
       have c2 := HY.out.1.o.cell (i := 2) rfl
       have c3 := HY.out.1.o.cell (i := 3) rfl
       have c4 := HY.out.1.o.cell (i := 4) rfl
       have f2 := HY.out.1.o.free 2
       have f3 := HY.out.1.o.free 3
       have f4 := HY.out.1.o.free 4))
  go_ret
  have hl := HH.out.2.2.2.2.2
  have k1 : Chg [h] W2 (((W2.setCell ⟨h, 3, none⟩ (.slice (some ⟨gp, 0, none⟩) n cp)).setCell ⟨h, 4, none⟩ (.pointer (some ⟨x, 0, none⟩))).setCell ⟨h, 2, none⟩ (.int .i64 0)) := (((Chg.refl [h] W2).set (Or.inl (by simp)) _ _).set (Or.inl (by simp)) _ _).set (Or.inl (by simp)) _ _
  have h1 := HY.out.1
  have hx := HX.out
  have hnl : n = (ss.map Ar.pat).length := by rw [List.length_map]; exact HH.out.1.symm
  refine ⟨x, gp, cp, axB x gs n, rfl, ⟨((h1.o.set 3 _).set 4 _).set 2 _, h1.tv.chg k1 (fun b hb => by simp; exact fun e => h1.ht (e ▸ hb)), h1.ht, by omega, h1.w1, h1.mw⟩, Or.inr ⟨x, gs, cs, b, ca, A, n, rfl, rfl, HY.out.2.1.chg k1 (fun b hb => by simp at hb; rw [hb]; exact h1.ot), hx.2.2.1, hnl, hn8⟩, HY.out.2.2.1, HY.out.2.2.2.1.chg k1 (by simp; have := HY.out.2.2.1; omega), ?_, (Chg.of_fresh HY.out.2.2.2.2).trans k1 (fun b hb => Or.inl hb)⟩
  intro b hb
  unfold axB at hb
  split at hb <;> simp at hb <;> omega
set_option maxRecDepth 20000 in
set_option maxHeartbeats 4000000 in
/-- No window finds nothing. -/
theorem hd_look_nil (r : Option Addr) (w : World) : Calls Try.prog 39 #[.pointer none, .pointer r] w fun e w' => e = .returned (.agg #[.bool false, .bool false, .int .i64 0, .int .i64 0, .int .i64 0]) ∧ Below w.heap.size w w' := by
  go_enter Try.func39, Try.ntmps39
  have q1 : Below w.heap.size w ((w.alloc (.cells #[.bool false, .bool false, .int .i64 0, .int .i64 0, .int .i64 0] 75)).alloc (.cells #[.bool false, .bool false, .int .i64 0, .int .i64 0, .int .i64 0] 75)) := ((Below.refl _ _).alloc (Nat.le_refl _) _).alloc (by simp) _
  have HB : Hid (FB ((w.alloc (.cells #[.bool false, .bool false, .int .i64 0, .int .i64 0, .int .i64 0] 75)).alloc (.cells #[.bool false, .bool false, .int .i64 0, .int .i64 0, .int .i64 0] 75)) w.heap.size false false 0 0 0 ∧ FB ((w.alloc (.cells #[.bool false, .bool false, .int .i64 0, .int .i64 0, .int .i64 0] 75)).alloc (.cells #[.bool false, .bool false, .int .i64 0, .int .i64 0, .int .i64 0] 75)) (w.heap.size + 1) false false 0 0 0 ∧ Below w.heap.size w ((w.alloc (.cells #[.bool false, .bool false, .int .i64 0, .int .i64 0, .int .i64 0] 75)).alloc (.cells #[.bool false, .bool false, .int .i64 0, .int .i64 0, .int .i64 0] 75))) := Lib.hid ⟨(Blk.newA w _ _).alloc _, by simpa [FB] using Blk.newA (w.alloc (.cells #[.bool false, .bool false, .int .i64 0, .int .i64 0, .int .i64 0] 75)) #[.bool false, .bool false, .int .i64 0, .int .i64 0, .int .i64 0] 75, q1⟩
  clear q1
  go_wp2_with fail
  revert HB
  generalize ((w.alloc (.cells #[.bool false, .bool false, .int .i64 0, .int .i64 0, .int .i64 0] 75)).alloc (.cells #[.bool false, .bool false, .int .i64 0, .int .i64 0, .int .i64 0] 75)) = W1
  intro HB
  have z0 := HB.out.1.cell (i := 0) rfl
  have z1 := HB.out.1.cell (i := 1) rfl
  have z2 := HB.out.1.cell (i := 2) rfl
  have z3 := HB.out.1.cell (i := 3) rfl
  have z4 := HB.out.1.cell (i := 4) rfl
  refine bodyPost_ret (v := .agg #[.bool false, .bool false, .int .i64 0, .int .i64 0, .int .i64 0]) (by simp [results, Try.results39, go_sem, z0, z1, z2, z3, z4]) rfl ?_
  exact ⟨rfl, HB.out.2.2⟩
set_option maxRecDepth 20000 in
set_option maxHeartbeats 4000000 in
/-- No ring: nothing comes. -/
theorem hd_look_noring (h W m ct : Nat) (t ap : Option Addr) (S : ByteArray) (pv : Value) (w : World) (H : HO w h W t m ct S m pv ap) : Calls Try.prog 39 #[.pointer (some ⟨h, 0, none⟩), .pointer none] w fun e w' => e = .returned (.agg #[.bool false, .bool false, .int .i64 0, .int .i64 0, .int .i64 0]) ∧ Below w.heap.size w w' := by
  have q1 : Below w.heap.size w ((w.alloc (.cells #[.bool false, .bool false, .int .i64 0, .int .i64 0, .int .i64 0] 75)).alloc (.cells #[.bool false, .bool false, .int .i64 0, .int .i64 0, .int .i64 0] 75)) := ((Below.refl _ _).alloc (Nat.le_refl _) _).alloc (by simp) _
  have HB : Hid (HO ((w.alloc (.cells #[.bool false, .bool false, .int .i64 0, .int .i64 0, .int .i64 0] 75)).alloc (.cells #[.bool false, .bool false, .int .i64 0, .int .i64 0, .int .i64 0] 75)) h W t m ct S m pv ap ∧ FB ((w.alloc (.cells #[.bool false, .bool false, .int .i64 0, .int .i64 0, .int .i64 0] 75)).alloc (.cells #[.bool false, .bool false, .int .i64 0, .int .i64 0, .int .i64 0] 75)) w.heap.size false false 0 0 0 ∧ FB ((w.alloc (.cells #[.bool false, .bool false, .int .i64 0, .int .i64 0, .int .i64 0] 75)).alloc (.cells #[.bool false, .bool false, .int .i64 0, .int .i64 0, .int .i64 0] 75)) (w.heap.size + 1) false false 0 0 0 ∧ Below w.heap.size w ((w.alloc (.cells #[.bool false, .bool false, .int .i64 0, .int .i64 0, .int .i64 0] 75)).alloc (.cells #[.bool false, .bool false, .int .i64 0, .int .i64 0, .int .i64 0] 75))) := Lib.hid ⟨H.below q1, (Blk.newA w _ _).alloc _, by simpa [FB] using Blk.newA (w.alloc (.cells #[.bool false, .bool false, .int .i64 0, .int .i64 0, .int .i64 0] 75)) #[.bool false, .bool false, .int .i64 0, .int .i64 0, .int .i64 0] 75, q1⟩
  clear q1 H
  go_enter Try.func39, Try.ntmps39
  go_wp2_with fail
  revert HB
  generalize ((w.alloc (.cells #[.bool false, .bool false, .int .i64 0, .int .i64 0, .int .i64 0] 75)).alloc (.cells #[.bool false, .bool false, .int .i64 0, .int .i64 0, .int .i64 0] 75)) = W1
  intro HB
  go_loopw [6, 7] (fun _ _ wr => Hid (HO wr h W t m ct S m pv ap ∧ FB wr w.heap.size false false 0 0 0 ∧ FB wr (w.heap.size + 1) false false 0 0 0 ∧ Below w.heap.size w wr)) (fun _ _ _ => 0)
  case atStart => exact HB
  case round =>
    clear HB
    have HB := hrel
    clear hrel
    have hgt : ¬ (0 : Int) < (m : Int) - (m : Int) := by omega
    have hgt2 : decide ((0 : Int) < (m : Int) - (m : Int)) = false := by simp
    have HBF : Hid (∀ wq, wq = wr → Calls Try.prog 44 #[.pointer (some ⟨h, 0, none⟩)] wq fun e w' => e = .returned (.int .i64 ((m : Int) - (m : Int))) ∧ Below wq.heap.size wq w') := Lib.hid (fun wq e => by subst e; exact hd_fresh HB.out.1)
    go_wp2_with fail
    refine (HBF.out _ rfl).mono ?_
    rintro e Wf ⟨rfl, hbf⟩
    replace HB : Hid (HO Wf h W t m ct S m pv ap ∧ FB Wf w.heap.size false false 0 0 0 ∧ FB Wf (w.heap.size + 1) false false 0 0 0 ∧ Below w.heap.size w Wf) := Lib.hid ⟨HB.out.1.below hbf, Blk.below HB.out.2.1 hbf HB.out.2.1.lt, Blk.below HB.out.2.2.1 hbf HB.out.2.2.1.lt, HB.out.2.2.2.trans (hbf.mono HB.out.2.2.2.size)⟩
    clear hbf HBF
    go_wp2_with fail
    refine (hd_read_nil h (w.heap.size + 1) Wf).mono ?_
    rintro e W5 ⟨rfl, hw5⟩
    subst hw5
    have e0 := HB.out.2.2.1.cell (i := 0) rfl
    have e1 := HB.out.2.2.1.cell (i := 1) rfl
    have e2 := HB.out.2.2.1.cell (i := 2) rfl
    have e3 := HB.out.2.2.1.cell (i := 3) rfl
    have e4 := HB.out.2.2.1.cell (i := 4) rfl
    have z0 := HB.out.2.1.cell (i := 0) rfl
    have z1 := HB.out.2.1.cell (i := 1) rfl
    have z2 := HB.out.2.1.cell (i := 2) rfl
    have z3 := HB.out.2.1.cell (i := 3) rfl
    have z4 := HB.out.2.1.cell (i := 4) rfl
    have y0 := HB.out.2.1.free 0
    have y1 := HB.out.2.1.free 1
    have y2 := HB.out.2.1.free 2
    have y3 := HB.out.2.1.free 3
    have y4 := HB.out.2.1.free 4
    go_wp2_with fail
    refine bodyPost_ret (v := .agg #[.bool false, .bool false, .int .i64 0, .int .i64 0, .int .i64 0]) (by simp [results, Try.results39, go_sem, z0, z1, z2, z3, z4]) rfl ?_
    exact ⟨rfl, ((((HB.out.2.2.2.setCell (Nat.le_refl _) _).setCell (Nat.le_refl _) _).setCell (Nat.le_refl _) _).setCell (Nat.le_refl _) _).setCell (Nat.le_refl _) _⟩
end Go.Proofs.Ytbdjcppkfihonaa
/- Hold: window and ring together. -/
namespace Go.Proofs.Ytbdjcppkfihonaa
open Go.ChangeShapes Go.WideShapes Go.ChangeAt Go.RowKit
set_option linter.unusedSimpArgs false
set_option linter.unusedVariables false

/-- A window and a ring, apart, both above B; all below B is as in w0. -/
def LS (B : Nat) (w0 w : World) (h b g n W : Nat) (pv : Value) (ap : Option Addr) (xs : List Nat) (Ls : List (List (Bool × BitVec 256))) (t : Option Addr) (m ct : Nat) (S : ByteArray) (K f : Nat) (R : ByteArray) : Prop :=
  HO w h W t m ct S K pv ap ∧ AX w ap xs Ls (Ar.stk Ls (lgT S.data.toList) K) K ∧ RAt w b g n f R ∧ (h ≠ b ∧ h ≠ g ∧ ∀ x ∈ tvB t ct, x ≠ b ∧ x ≠ g) ∧ (B ≤ h ∧ B ≤ b ∧ B ≤ g ∧ (∀ x ∈ xs, B ≤ x) ∧ ∀ x ∈ tvB t ct, B ≤ x) ∧ Below B w0 w ∧ B ≤ w.heap.size
theorem LS.below {B : Nat} {w0 w : World} {h b g n W : Nat} {pv : Value} {ap : Option Addr} {xs : List Nat} {Ls : List (List (Bool × BitVec 256))} {t : Option Addr} {m ct : Nat} {S : ByteArray} {K f : Nat} {R : ByteArray} (H : LS B w0 w h b g n W pv ap xs Ls t m ct S K f R) {w' : World} (k : Below w.heap.size w w') : LS B w0 w' h b g n W pv ap xs Ls t m ct S K f R :=
  ⟨H.1.below k, H.2.1.below k, H.2.2.1.fresh k, H.2.2.2.1, H.2.2.2.2.1, H.2.2.2.2.2.1.trans (k.mono H.2.2.2.2.2.2), Nat.le_trans H.2.2.2.2.2.2 k.size⟩
theorem ls_look {B : Nat} {w0 w : World} {h b g n W : Nat} {pv : Value} {ap : Option Addr} {xs : List Nat} {Ls : List (List (Bool × BitVec 256))} {t : Option Addr} {m ct : Nat} {S : ByteArray} {K f : Nat} {R : ByteArray} (H : LS B w0 w h b g n W pv ap xs Ls t m ct S K f R) (res : Hd.R) (hres : Hd.look Ls W ((m - K) + R.size + 1) S.data.toList K R.data.toList 0 = res) :
    Calls Try.prog 39 #[.pointer (some ⟨h, 0, none⟩), .pointer (some ⟨b, 0, none⟩)] w fun e w' => e = .returned (.agg #[.bool res.hit, .bool res.full, .int .i64 res.arm, .int .i64 res.gone, .int .i64 res.rd]) ∧ ∃ t' m' ct' S' f' R', LS B w0 w' h b g n W pv ap xs Ls t' m' ct' S' res.K f' R' ∧ S'.data.toList = res.S ∧ R'.data.toList = res.Q ∧ S'.size = m' :=
  (hd_look h b g n f W m ct K t ap S R pv xs Ls res hres ⟨H.2.2.2.1.1, H.2.2.2.1.2.1⟩ H.2.2.2.1.2.2 w H.1 H.2.1 H.2.2.1).mono fun e w' ⟨he, t', m', ct', S', f', R', q1, q2, q3, q4, q5, q6, q7⟩ => by
    have hl := H.2.2.1.lts
    have hs := H.2.2.2.1
    have hB := H.2.2.2.2.1
    have hw := H.2.2.2.2.2.2
    refine ⟨he, t', m', ct', S', f', R', ⟨q1, by rw [q2]; exact q3, q4, ⟨hs.1, hs.2.1, fun x hx => ?_⟩, ⟨hB.1, hB.2.1, hB.2.2.1, hB.2.2.2.1, fun x hx => ?_⟩, q7.onto H.2.2.2.2.2.1 hw (fun x hx => ?_), Nat.le_trans hw q7.size⟩, q2, q5, q1.tv.1⟩
    · rcases q6 x hx with e | e
      · exact hs.2.2 x e
      · omega
    · rcases q6 x hx with e | e
      · exact hB.2.2.2.2 x e
      · omega
    · simp at hx
      rcases hx with e | e | e | e
      · omega
      · omega
      · exact hB.2.2.2.1 x e
      · exact hB.2.2.2.2 x e
theorem ls_put {B : Nat} {w0 w : World} {h b g n W : Nat} {pv : Value} {ap : Option Addr} {xs : List Nat} {Ls : List (List (Bool × BitVec 256))} {t : Option Addr} {m ct : Nat} {S : ByteArray} {K f : Nat} {R : ByteArray} (H : LS B w0 w h b g n W pv ap xs Ls t m ct S K f R) (s : ByteArray) (hs : s.size ≤ 100000) :
    Calls Try.prog 36 #[.pointer (some ⟨b, 0, none⟩), .string s] w fun e w' => e = .returned (.int .i64 (min s.size (n - R.size) : Nat)) ∧ LS B w0 w' h b g n W pv ap xs Ls t m ct S K f (R ++ s.extract 0 (min s.size (n - R.size))) :=
  (put_any b g n f R s w hs H.2.2.1).mono fun e w' ⟨he, q1, q2⟩ => by
    have hsp := H.2.2.2.1
    have hB := H.2.2.2.2.1
    have ot := H.2.2.1.ots
    refine ⟨he, H.1.chg q2 (by simp; exact ⟨hsp.1, hsp.2.1⟩) (fun x hx => by simp; exact hsp.2.2 x hx), H.2.1.chg q2 (fun x hx => by simp at hx; rcases hx with e | e; rw [e]; exact ot.1; rw [e]; exact ot.2), q1, hsp, hB, q2.onto H.2.2.2.2.2.1 H.2.2.2.2.2.2 (fun x hx => by simp at hx; rcases hx with e | e <;> omega), Nat.le_trans H.2.2.2.2.2.2 q2.size⟩
theorem ls_text {B : Nat} {w0 w : World} {h b g n W : Nat} {pv : Value} {ap : Option Addr} {xs : List Nat} {Ls : List (List (Bool × BitVec 256))} {t : Option Addr} {m ct : Nat} {S : ByteArray} {K f : Nat} {R : ByteArray} (H : LS B w0 w h b g n W pv ap xs Ls t m ct S K f R) : Calls Try.prog 43 #[.pointer (some ⟨h, 0, none⟩)] w fun e w' => e = .returned (.string S) ∧ LS B w0 w' h b g n W pv ap xs Ls t m ct S K f R :=
  (hd_text H.1).mono fun e w' ⟨he, k⟩ => ⟨he, H.below k⟩
theorem ls_fresh {B : Nat} {w0 w : World} {h b g n W : Nat} {pv : Value} {ap : Option Addr} {xs : List Nat} {Ls : List (List (Bool × BitVec 256))} {t : Option Addr} {m ct : Nat} {S : ByteArray} {K f : Nat} {R : ByteArray} (H : LS B w0 w h b g n W pv ap xs Ls t m ct S K f R) : Calls Try.prog 44 #[.pointer (some ⟨h, 0, none⟩)] w fun e w' => e = .returned (.int .i64 ((m : Int) - (K : Int))) ∧ LS B w0 w' h b g n W pv ap xs Ls t m ct S K f R :=
  (hd_fresh H.1).mono fun e w' ⟨he, k⟩ => ⟨he, H.below k⟩
theorem ls_len {B : Nat} {w0 w : World} {h b g n W : Nat} {pv : Value} {ap : Option Addr} {xs : List Nat} {Ls : List (List (Bool × BitVec 256))} {t : Option Addr} {m ct : Nat} {S : ByteArray} {K f : Nat} {R : ByteArray} (H : LS B w0 w h b g n W pv ap xs Ls t m ct S K f R) : Calls Try.prog 45 #[.pointer (some ⟨h, 0, none⟩)] w fun e w' => e = .returned (.int .i64 m) ∧ LS B w0 w' h b g n W pv ap xs Ls t m ct S K f R :=
  (hd_len H.1).mono fun e w' ⟨he, k⟩ => ⟨he, by rw [← k]; exact H⟩
/-- Other patterns. -/
theorem ls_begin_yes {B : Nat} {w0 w : World} {h b g n W : Nat} {pv : Value} {ap : Option Addr} {xs : List Nat} {Ls : List (List (Bool × BitVec 256))} {t : Option Addr} {m ct : Nat} {S : ByteArray} {K f : Nat} {R : ByteArray} (H : LS B w0 w h b g n W pv ap xs Ls t m ct S K f R) (ss : List ByteArray) (k : Nat) (hk : ss.length = k) (hk8 : k ≤ 8) (gg c : Nat) (hs : ∀ s ∈ ss, s.size ≤ 1000000) (he : (Ar.nw ss k).2 = 0) (hI : TX w (some ⟨gg, 0, none⟩) ss) (Ls' : List (List (Bool × BitVec 256))) (hL : ss.map Ar.pat = Ls') :
    Calls Try.prog 42 #[.pointer (some ⟨h, 0, none⟩), .slice (some ⟨gg, 0, none⟩) k c] w fun r w' => ∃ x gp cp xs', r = .returned (.int .i64 0) ∧ LS B w0 w' h b g n W (.slice (some ⟨gp, 0, none⟩) k cp) (some ⟨x, 0, none⟩) xs' Ls' t m ct S 0 f R ∧ w.heap.size ≤ gp ∧ Rw w' gp cp (ss.map .string) 9 ∧ Chg [h] w w' :=
  (hd_begin_yes h W m ct K t ap S pv ss k hk hk8 gg c hs he w H.1 hI).mono fun r w' ⟨x, gp, cp, xs', q0, q1, q2, q3, q4, q5, q6⟩ => by
    have hsp := H.2.2.2.1
    have hB := H.2.2.2.2.1
    rw [hL] at q2
    refine ⟨x, gp, cp, xs', q0, ⟨q1, q2, H.2.2.1.chg q6 (by simp; exact fun e => hsp.1 e.symm) (by simp; exact fun e => hsp.2.1 e.symm), hsp, ⟨hB.1, hB.2.1, hB.2.2.1, fun y hy => Nat.le_trans H.2.2.2.2.2.2 (q5 y hy), hB.2.2.2.2⟩, q6.onto H.2.2.2.2.2.1 H.2.2.2.2.2.2 (fun y hy => by simp at hy; omega), Nat.le_trans H.2.2.2.2.2.2 q6.size⟩, q3, q4, q6⟩
theorem ls_begin_no {B : Nat} {w0 w : World} {h b g n W : Nat} {pv : Value} {ap : Option Addr} {xs : List Nat} {Ls : List (List (Bool × BitVec 256))} {t : Option Addr} {m ct : Nat} {S : ByteArray} {K f : Nat} {R : ByteArray} (H : LS B w0 w h b g n W pv ap xs Ls t m ct S K f R) (ss : List ByteArray) (k : Nat) (hk : ss.length = k) (hk8 : k ≤ 8) (a : Option Addr) (c : Nat) (hs : ∀ s ∈ ss, s.size ≤ 1000000) (i e : Nat) (hr : Ar.nw ss k = (i, e)) (he : e ≠ 0) (hI : TX w a ss) :
    Calls Try.prog 42 #[.pointer (some ⟨h, 0, none⟩), .slice a k c] w fun r w' => r = .returned (.int .i64 e) ∧ LS B w0 w' h b g n W pv ap xs Ls t m ct S K f R :=
  (hd_begin_no h W m ct K t ap S pv ss k hk hk8 a c hs i e hr he w H.1 hI).mono fun r w' ⟨h1, k⟩ => ⟨h1, H.below k⟩
/-- Both made. -/
theorem ls_new {w0 w1 w2 : World} {h W n : Nat} (h1 : HO w1 h W none 0 0 ByteArray.empty 0 (.slice none 0 0) none) (hb1 : Below w0.heap.size w0 w1) (hh : w0.heap.size ≤ h) (h2 : RAt w2 (w1.heap.size + 1) w1.heap.size n 0 ByteArray.empty) (hb2 : Below w1.heap.size w1 w2) :
    LS w0.heap.size w0 w2 h (w1.heap.size + 1) w1.heap.size n W (.slice none 0 0) none [] [] none 0 0 ByteArray.empty 0 0 ByteArray.empty := by
  have hl := h1.o.lt
  have hs := hb1.size
  refine ⟨h1.below hb2, Or.inl ⟨rfl, rfl, rfl⟩, h2, ⟨by omega, by omega, by simp [tvB]⟩, ⟨hh, by omega, hs, by simp, by simp [tvB]⟩, hb1.trans (hb2.mono hs), Nat.le_trans hs hb2.size⟩
theorem ls_look2 {B : Nat} {w0 w : World} {h b g n W : Nat} {pv : Value} {ap : Option Addr} {xs : List Nat} {Ls : List (List (Bool × BitVec 256))} {t : Option Addr} {m ct : Nat} {S : ByteArray} {K f : Nat} {R : ByteArray} (H : LS B w0 w h b g n W pv ap xs Ls t m ct S K f R) (S2 Q2 : List UInt8) (K2 : Nat) (hit full : Bool) (arm gone rd : Nat) (hres : Hd.look Ls W ((m - K) + R.size + 1) S.data.toList K R.data.toList 0 = ⟨S2, K2, Q2, hit, full, arm, gone, rd⟩) :
    Calls Try.prog 39 #[.pointer (some ⟨h, 0, none⟩), .pointer (some ⟨b, 0, none⟩)] w fun e w' => e = .returned (.agg #[.bool hit, .bool full, .int .i64 arm, .int .i64 gone, .int .i64 rd]) ∧ ∃ t' m' ct' S' f' R', LS B w0 w' h b g n W pv ap xs Ls t' m' ct' S' K2 f' R' ∧ S'.data.toList = S2 ∧ R'.data.toList = Q2 ∧ S'.size = m' :=
  ls_look H ⟨S2, K2, Q2, hit, full, arm, gone, rd⟩ hres
theorem ba_of {S : ByteArray} {l : List UInt8} (h : S.data.toList = l) : S = ⟨l.toArray⟩ := by
  apply ByteArray.ext
  rw [← h]
theorem lv19 : ∃ L : List (List (Bool × BitVec 256)), [({ data := #[111, 107] } : ByteArray)].map Ar.pat = L ∧ Hd.look L 4 10 [] 0 [120, 111, 107, 33, 98, 99, 100, 101, 102] 0 = ⟨[], 0, [33, 98, 99, 100, 101, 102], true, false, 0, 3, 3⟩ ∧ Hd.look L 4 7 [] 0 [33, 98, 99, 100, 101, 102] 0 = ⟨[33, 98, 99, 100], 4, [101, 102], false, true, 0, 0, 4⟩ := ⟨_, rfl, by kernel_rfl, by kernel_rfl⟩
theorem lv19_nw : Ar.nw [({ data := #[111, 107] } : ByteArray)] 1 = (0, 0) := by decide +kernel
theorem lv19_tx (w : World) : TX (w.alloc (.cells #[.string ({ data := #[111, 107] } : ByteArray)] 9)) (some ⟨w.heap.size, 0, none⟩) [({ data := #[111, 107] } : ByteArray)] := by
  have h : Rw (w.alloc (.cells #[.string ({ data := #[111, 107] } : ByteArray)] 9)) w.heap.size 1 ([({ data := #[111, 107] } : ByteArray)].map .string) 9 := ⟨[], rfl, by omega, Blk.newA w _ _⟩
  exact TX.of_rw h (by intro s hs; simp at hs; subst hs; decide)
set_option maxRecDepth 20000 in
set_option maxHeartbeats 4000000 in
theorem hd_lives (w : World) : Calls Try.prog 47 #[] w fun e w' => e = .returned (.bool true) ∧ Below w.heap.size w w' := by
  obtain ⟨L, l1, l2, l3⟩ := lv19
  have HL := Lib.hid (And.intro l1 (And.intro l2 l3))
  clear l1 l2 l3
  go_enter Try.func47, Try.ntmps47
  go_wp2_with (first
    | (go_at_call 32; refine (hd_new 4 4 (by decide) _).mono ?_; rintro e W1 ⟨rfl, q1, q2⟩; have H1 := Lib.hid (And.intro q1 q2); clear q1 q2)
    | (go_at_call 34; refine (new_any 9 9 _ (by decide)).mono ?_; rintro e W2 ⟨rfl, q1, q2⟩; have HS := Lib.hid (ls_new H1.out.1 H1.out.2 (Nat.le_refl _) q1 q2); clear q1 q2)
    | (go_at_call 42; refine (ls_begin_yes (HS.out.below ((Below.refl _ _).alloc (Nat.le_refl _) _)) [({ data := #[111, 107] } : ByteArray)] 1 rfl (by omega) _ 1 (by intro s hs; simp at hs; subst hs; decide) (by rw [lv19_nw]) (lv19_tx _) L HL.out.1).mono ?_; rintro e W3 ⟨x, gp, cp, xs, rfl, q1, _, _, _⟩; replace HS := Lib.hid q1; clear q1)
    | (go_at_call 36; refine (ls_put HS.out ⟨#[120, 111, 107, 33, 98, 99, 100, 101, 102]⟩ (by decide)).mono ?_; rintro e W4 ⟨rfl, q1⟩; have HP : Hid (LS w.heap.size w W4 w.heap.size (W1.heap.size + 1) W1.heap.size 9 4 (.slice (some ⟨gp, 0, none⟩) 1 cp) (some ⟨x, 0, none⟩) xs L none 0 0 ByteArray.empty 0 0 ⟨#[120, 111, 107, 33, 98, 99, 100, 101, 102]⟩) := Lib.hid q1; clear q1 HS)
    | (go_at_call 39; refine (ls_look2 HP.out [] [33, 98, 99, 100, 101, 102] 0 true false 0 3 3 (by exact HL.out.2.1)).mono ?_; rintro e W5 ⟨rfl, t5, m5, ct5, S5, f5, R5, q1, q2, q3, q4⟩; obtain rfl := ba_of q2; obtain rfl := ba_of q3; have HQ : Hid (LS w.heap.size w W5 w.heap.size (W1.heap.size + 1) W1.heap.size 9 4 (.slice (some ⟨gp, 0, none⟩) 1 cp) (some ⟨x, 0, none⟩) xs L t5 0 ct5 ⟨#[]⟩ 0 f5 ⟨#[33, 98, 99, 100, 101, 102]⟩) := Lib.hid (by have e : 0 = m5 := q4; subst e; exact q1); clear q1 q2 q3 q4 HP)
    | (go_at_call 39; refine (ls_look2 HQ.out [33, 98, 99, 100] [101, 102] 4 false true 0 0 4 (by exact HL.out.2.2)).mono ?_; rintro e W6 ⟨rfl, t6, m6, ct6, S6, f6, R6, q1, q2, q3, q4⟩; obtain rfl := ba_of q2; obtain rfl := ba_of q3; have HR := Lib.hid q1; clear q1 q2 q3 q4 HQ)
    | (go_at_call 43; refine (ls_text (HR.out.below (((Below.refl _ _).alloc (Nat.le_refl _) _).alloc (by simp) _))).mono ?_; rintro e W7 ⟨rfl, q1⟩; have HZ := Lib.hid q1.2.2.2.2.2.1; clear q1 HR))
  go_ret
  exact ⟨rfl, HZ.out⟩
end Go.Proofs.Ytbdjcppkfihonaa
/- Hold: Put of any text. -/
namespace Go.Proofs.Ytbdjcppkfihonaa
open Go.ChangeShapes Go.WideShapes Go.ChangeAt Go.RowKit
set_option linter.unusedSimpArgs false
set_option linter.unusedVariables false

set_option maxHeartbeats 1000000 in
set_option maxRecDepth 20000 in
theorem put_none_b (b g n f : Nat) (S s : ByteArray) (w : World) (hs : s.size ≤ maxLen) (h : RAt w b g n f S) (hm : min s.size (n - S.size) = 0) :
    Calls Try.prog 36 #[.pointer (some ⟨b, 0, none⟩), .string s] w fun e w' => e = .returned (.int .i64 0) ∧ w = w' := by
  have HR := Lib.hid h
  unfold maxLen at hs
  obtain ⟨h1, h2, h3, h4, h5, h6, R, h7, h8, h9⟩ := h
  have hmi : min (s.size : Int) ((n - S.size : Nat) : Int) = 0 := by omega
  have hem : (s.extract 0 0).toList.isEmpty = true := size_empty (by simp)
  clear h6 h7 h8 h9 hm
  go_enter Try.func36, Try.ntmps36
  go_wp2_with (go_at_call 60; refine (room_any _ _ _ _ _ _ HR.out).mono ?_; rintro e w' ⟨rfl, rfl⟩)
  go_ret
  exact ⟨rfl, rfl⟩
set_option maxHeartbeats 1000000 in
set_option maxRecDepth 20000 in
theorem put_some_b (b g n f m : Nat) (S s : ByteArray) (w : World) (hs : s.size ≤ maxLen) (h : RAt w b g n f S) (hm : min s.size (n - S.size) = m) (hm0 : 0 < m) :
    Calls Try.prog 36 #[.pointer (some ⟨b, 0, none⟩), .string s] w fun e w' => e = .returned (.int .i64 m) ∧ RAt w' b g n f (S ++ s.extract 0 m) ∧ Chg [b, g] w w' := by
  have HR := Lib.hid h
  unfold maxLen at hs
  obtain ⟨h1, h2, h3, h4, h5, h6, R, h7, h8, h9⟩ := h
  have hmi : min (s.size : Int) ((n - S.size : Nat) : Int) = (m : Int) := by omega
  have hms : m ≤ s.size := by omega
  have hmn : m ≤ n - S.size := by omega
  have i1 : (0 : Int) ≤ (m : Int) := by omega
  have i2 : (m : Int) ≤ (s.size : Int) := by omega
  obtain ⟨G, hG⟩ : ∃ G, s.extract 0 m = G := ⟨_, rfl⟩
  have hGz : G.size = m := by rw [← hG, ByteArray.size_extract]; omega
  have hge := size_full (G := G) (by omega)
  have H9 := Lib.hid h9
  have H8 := Lib.hid h8
  have H7 := Lib.hid h7
  have HM := Lib.hid hm
  have HG := Lib.hid hG
  have c0 := h6.cell (i := 0) rfl
  have c1 := h6.cell (i := 1) rfl
  have c2 := h6.cell (i := 2) rfl
  have f2 := h6.free 2
  clear h7 h8 h9 hm
  go_enter Try.func36, Try.ntmps36
  go_wp2_with (go_at_call 60; refine (room_any _ _ _ _ _ _ HR.out).mono ?_; rintro e w' ⟨rfl, rfl⟩)
  obtain ⟨at_, hat⟩ : ∃ x, rix f n S.size = x := ⟨_, rfl⟩
  have hatn : at_ < n := by rw [← hat]; unfold rix; split <;> omega
  have hrem : ((f : Int) + (S.size : Int)).tmod (n : Int) = (at_ : Int) := by
    have : ((f + S.size : Nat) : Int) = (f : Int) + (S.size : Int) := by omega
    rw [← this, ← hat, ← rix_eq f n S.size h3 h4]
    rfl
  have hrem2 : ((f : Int) + (S.size : Int)) % (n : Int) = (at_ : Int) := by
    rw [← hrem, Int.tmod_eq_emod_of_nonneg (by omega)]
  have e4 : ¬ n = 0 := by omega
  have e1 : (0 : Int) ≤ (at_ : Int) := by omega
  have e2 : (at_ : Int) ≤ (n : Int) := by omega
  have e3 : ¬ n = at_ := by omega
  have HA := Lib.hid hat
  clear hat
  go_quiet (fail)
  have hV : Hid (Blk (w.drewN nq) b [.slice (some ⟨g, 0, none⟩) n n, .int .i64 f, .int .i64 S.size] 110 ∧ Blk (w.drewN nq) g R 5 ∧ Chg [b, g] w (w.drewN nq)) := ⟨h6.drewN _, H8.out.drewN _, (Chg.refl _ _).drewN _⟩
  clear h6 c0 c1 c2 f2 H8
  revert hV
  generalize w.drewN nq = W1
  intro hV
  have c0 := hV.out.1.cell (i := 0) rfl
  have hu := Try.underlying85
  obtain ⟨q, hq⟩ : ∃ q, min m (n - at_) = q := ⟨_, rfl⟩
  have hqm : q ≤ m := by omega
  have hr1 := run_copy_text (P := Try.prog) W1 85 9 3 5 g at_ (n - at_) (n - at_) G R 5 q hu size5 hV.out.2.1 (by rw [hGz]; exact hq.symm) (by rw [H7.out]; omega)
  have HZ := Lib.hid hGz
  have HQ := Lib.hid hq
  clear hGz hq hrem hrem2
  obtain ⟨row1, hrow1⟩ : ∃ r, R.take at_ ++ bv (G.extract 0 q) ++ R.drop (at_ + q) = r := ⟨_, rfl⟩
  have hl1 : Hid (row1.length = n) := by
    have h7 := H7.out
    have hq := HQ.out
    have hx := bv_cut G 0 q (by rw [HZ.out]; omega)
    rw [Nat.zero_add] at hx
    have := laid_length R (bv (G.extract 0 q)) at_ (by omega)
    rw [hx, hrow1, h7] at this
    exact this
  rw [hrow1] at hr1
  have HR1 := Lib.hid hrow1
  clear hrow1
  go_wp2_with (with_reducible refine Lib.wpList_copy_run _ rfl (.tmp 36) (.tmp 37) 85 9 rfl _ _ rfl rfl hr1 ?_)
  have hU : Hid (Blk (W1.setRow g row1.toArray) b [.slice (some ⟨g, 0, none⟩) n n, .int .i64 f, .int .i64 S.size] 110 ∧ Blk (W1.setRow g row1.toArray) g row1 5 ∧ Chg [b, g] w (W1.setRow g row1.toArray)) :=
    ⟨hV.out.1.rowOther h5 _, hV.out.2.1.setRow, hV.out.2.2.row (Or.inl (by simp)) _⟩
  clear hr1 hV c0
  revert hU
  generalize W1.setRow g row1.toArray = W2
  intro hU
  have c0 := hU.out.1.cell (i := 0) rfl
  have hz : G.size = m := HZ.out
  have u1 : (0 : Int) ≤ (q : Int) := by omega
  have u2 : (q : Int) ≤ (m : Int) := by omega
  go_still_tail 7, (by kernel_rfl)
  change wpList _ _ _ _ _ W2.drew
  have hr2 := run_copy_text (P := Try.prog) W2.drew 85 9 3 5 g 0 n n (G.extract q m) row1 5 (m - q) hu size5 hU.out.2.1.drew (by rw [ByteArray.size_extract, hz]; omega) (by rw [hl1.out]; omega)
  refine Lib.wpList_copy_run _ rfl _ _ _ _ rfl _ _ rfl rfl hr2 ?_
  obtain ⟨row2, hrow2⟩ : ∃ r, row1.take 0 ++ bv ((G.extract q m).extract 0 (m - q)) ++ row1.drop (0 + (m - q)) = r := ⟨_, rfl⟩
  have hl2 : Hid (row2.length = n) := by
    have hx := bv_length ((G.extract q m).extract 0 (m - q))
    rw [ByteArray.size_extract, ByteArray.size_extract, hz] at hx
    have := laid_length row1 (bv ((G.extract q m).extract 0 (m - q))) 0 (by rw [hl1.out]; omega)
    rw [show (bv ((G.extract q m).extract 0 (m - q))).length = m - q by omega, hrow2, hl1.out] at this
    exact this
  have HR2 := Lib.hid hrow2
  rw [hrow2]
  have hT : Hid (Blk (W2.drew.setRow g row2.toArray) b [.slice (some ⟨g, 0, none⟩) n n, .int .i64 f, .int .i64 S.size] 110 ∧ Blk (W2.drew.setRow g row2.toArray) g row2 5 ∧ Chg [b, g] w (W2.drew.setRow g row2.toArray)) :=
    ⟨hU.out.1.drew.rowOther h5 _, hU.out.2.1.drew.setRow, hU.out.2.2.drew.row (Or.inl (by simp)) _⟩
  clear hr2 hU c0 hrow2
  revert hT
  generalize W2.drew.setRow g row2.toArray = W3
  intro hT
  have c2 := hT.out.1.cell (i := 2) rfl
  have f2 := hT.out.1.free 2
  go_wp2
  go_ret
  refine ⟨rfl, ?_, hT.out.2.2.set (Or.inl (by simp)) _ _⟩
  have hbk := hT.out.1.set 2 (.int .i64 ((S.size : Int) + (m : Int)))
  have hsz : (S ++ s.extract 0 m).size = S.size + m := by rw [ByteArray.size_append, HG.out, hz]
  refine ⟨h1, h2, h3, by rw [hsz]; omega, h5, ?_, row2, hl2.out, hT.out.2.1.other (Ne.symm h5) _ _, ?_⟩
  · rw [hsz, show ((S.size + m : Nat) : Int) = (S.size : Int) + (m : Int) by omega]
    exact hbk
  · rw [HG.out]
    have := put_row f n S.size m q at_ S G R h3 rfl hz H7.out hmn (by omega) HA.out HQ.out.symm H9.out
    rw [HR1.out, HR2.out] at this
    exact this
theorem put_any_b (b g n f : Nat) (S s : ByteArray) (w : World) (hs : s.size ≤ maxLen) (h : RAt w b g n f S) :
    Calls Try.prog 36 #[.pointer (some ⟨b, 0, none⟩), .string s] w fun e w' => e = .returned (.int .i64 (min s.size (n - S.size) : Nat)) ∧ RAt w' b g n f (S ++ s.extract 0 (min s.size (n - S.size))) ∧ Chg [b, g] w w' := by
  by_cases hm : min s.size (n - S.size) = 0
  · rw [hm]
    refine (put_none_b b g n f S s w hs h hm).mono fun e w' ⟨he, hw⟩ => ⟨he, ?_, by rw [← hw]; exact Chg.refl _ _⟩
    rw [append_none _ _ (by simp), ← hw]; exact h
  · exact put_some_b b g n f _ S s w hs h rfl (by omega)
end Go.Proofs.Ytbdjcppkfihonaa
