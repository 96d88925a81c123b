/- Several texts in one. -/
import Derived.Test.YtoniipmgkoogbaaLg16
import Derived.Test.YtoniipmgkoogbaaClass
import Derived.Test.YtoniipmgkoogbaaCsParts
import Derived.Test.YtoniipmgkoogbaaCs5
import Derived.Lib.ConvBytes
/- Tables: states as bits. -/
namespace Go.Proofs.Ytoniipmgkoogbaa
open Go.ChangeShapes Go.WideShapes Go.ChangeAt Go.RowKit
set_option linter.unusedSimpArgs false
set_option linter.unusedVariables false

/-- A state as a value. -/
def uv (X : BitVec 64) : Value := .int .u64 (X.toNat : Int)
theorem u_ofInt (X : BitVec 64) : BitVec.ofInt 64 (X.toNat : Int) = X := by
  apply BitVec.eq_of_toNat_eq
  rw [BitVec.ofInt_natCast, BitVec.toNat_ofNat]
  exact Nat.mod_eq_of_lt X.isLt
theorem u_and (X Y : BitVec 64) : bits BinOp.and IntKind.u64 (X.toNat : Int) (Y.toNat : Int) = ((X &&& Y).toNat : Int) := by
  show IntKind.u64.wrap _ = _
  have h : (BitVec.ofInt 64 (X.toNat : Int) &&& BitVec.ofInt 64 (Y.toNat : Int)) = X &&& Y := by rw [u_ofInt, u_ofInt]
  exact (congrArg (fun v : BitVec 64 => IntKind.u64.wrap (v.toNat : Int)) h).trans (Cs.wrap_toNat _)
theorem u_or (X Y : BitVec 64) : bits BinOp.or IntKind.u64 (X.toNat : Int) (Y.toNat : Int) = ((X ||| Y).toNat : Int) := by
  show IntKind.u64.wrap _ = _
  have h : (BitVec.ofInt 64 (X.toNat : Int) ||| BitVec.ofInt 64 (Y.toNat : Int)) = X ||| Y := by rw [u_ofInt, u_ofInt]
  exact (congrArg (fun v : BitVec 64 => IntKind.u64.wrap (v.toNat : Int)) h).trans (Cs.wrap_toNat _)
theorem u_shl1 (X : BitVec 64) : IntKind.u64.wrap ((X.toNat : Int) * 2) = ((X <<< 1).toNat : Int) := by
  have h := X.isLt
  rw [BitVec.toNat_shiftLeft, Nat.shiftLeft_eq]
  simp only [IntKind.wrap, IntKind.signed, IntKind.bits]
  simp
theorem u_bit (k : Nat) (hk : k < 64) : ((BitVec.twoPow 64 k).toNat : Int) = 2 ^ k := by
  rw [BitVec.toNat_twoPow]
  have : 2 ^ k < 2 ^ 64 := Nat.pow_lt_pow_right (by omega) hk
  rw [Nat.mod_eq_of_lt this]
  push_cast; rfl
theorem u_ext {X Y : BitVec 64} (h : ∀ i, i < 64 → X.getLsbD i = Y.getLsbD i) : X = Y := BitVec.eq_of_getLsbD_eq fun i hi => h i hi
/-- The bits below n. -/
def Tb.low (n : Nat) : BitVec 64 := BitVec.ofNat 64 (2 ^ n - 1)
theorem low_get (n i : Nat) (hi : i < 64) : (Tb.low n).getLsbD i = decide (i < n) := by
  unfold Tb.low
  rw [BitVec.getLsbD_ofNat, Nat.testBit_two_pow_sub_one]
  simp [hi]
theorem low_val (n : Nat) (hn : n < 64) : ((Tb.low n).toNat : Int) = (2 : Int) ^ n - 1 := by
  unfold Tb.low
  have h : 2 ^ n < 2 ^ 64 := Nat.pow_lt_pow_right (by omega) hn
  have h0 : 0 < 2 ^ n := Nat.pow_pos (by omega)
  rw [BitVec.toNat_ofNat, Nat.mod_eq_of_lt (by omega)]
  have : ((2 ^ n - 1 : Nat) : Int) = ((2 ^ n : Nat) : Int) - 1 := by omega
  rw [this]; push_cast; rfl
theorem u_low_wrap (n : Nat) (hn : n < 64) : IntKind.u64.wrap ((2 : Int) ^ n - 1) = ((Tb.low n).toNat : Int) := by
  rw [← low_val n hn]; exact Cs.wrap_toNat _
/-- Bits by a function. -/
def Tb.mk (f : Nat → Bool) : Nat → BitVec 64
  | 0 => 0
  | n + 1 => Tb.mk f n ||| (if f n then BitVec.twoPow 64 n else 0)
theorem mk_get (f : Nat → Bool) : ∀ (n i : Nat), i < 64 → (Tb.mk f n).getLsbD i = (decide (i < n) && f i)
  | 0, i, hi => by simp [Tb.mk]
  | n + 1, i, hi => by
    rw [Tb.mk, BitVec.getLsbD_or, mk_get f n i hi]
    by_cases e : i = n
    · subst e
      cases h : f i <;> simp [BitVec.getLsbD_twoPow, hi]
    · have e1 : decide (i < n + 1) = decide (i < n) := by congr 1; apply propext; omega
      rw [e1]
      cases h : f n with
      | true =>
        rw [if_pos rfl, BitVec.getLsbD_twoPow]
        have : (n == i) = false := by rw [beq_eq_false_iff_ne]; omega
        simp; omega
      | false => simp
/-- One round of what counts with it. -/
def Tb.F (R X : BitVec 64) : BitVec 64 := X ||| ((X &&& R) <<< 1)
theorem F_get (R X : BitVec 64) (i : Nat) (hi : i < 64) : (Tb.F R X).getLsbD i = (X.getLsbD i || (decide (0 < i) && X.getLsbD (i - 1) && R.getLsbD (i - 1))) := by
  unfold Tb.F
  rw [BitVec.getLsbD_or, BitVec.getLsbD_shiftLeft, BitVec.getLsbD_and]
  cases i with
  | zero => simp
  | succ i => simp [hi]
/-- All that counts with it. -/
def Tb.cl (R X : BitVec 64) : Nat → Bool
  | 0 => X.getLsbD 0
  | k + 1 => X.getLsbD (k + 1) || (Tb.cl R X k && R.getLsbD k)
theorem cl_F (R X : BitVec 64) : ∀ k, k < 64 → Tb.cl R (Tb.F R X) k = Tb.cl R X k
  | 0, hk => by rw [Tb.cl, Tb.cl, F_get _ _ _ hk]; simp
  | k + 1, hk => by
    rw [Tb.cl, Tb.cl, cl_F R X k (by omega), F_get _ _ _ hk]
    have h : X.getLsbD k = true → Tb.cl R X k = true := by
      intro h
      cases k with
      | zero => exact h
      | succ k => rw [Tb.cl, h]; rfl
    simp only [Nat.add_sub_cancel]
    cases h1 : X.getLsbD k with
    | true => rw [h h1]; cases X.getLsbD (k + 1) <;> cases R.getLsbD k <;> simp
    | false => cases X.getLsbD (k + 1) <;> simp
theorem cl_fix {R X : BitVec 64} (h : Tb.F R X = X) : ∀ k, k < 64 → Tb.cl R X k = X.getLsbD k
  | 0, _ => rfl
  | k + 1, hk => by
    rw [Tb.cl, cl_fix h k (by omega)]
    have := F_get R X (k + 1) hk
    rw [h] at this
    simp only [Nat.add_sub_cancel] at this
    rw [this]
    cases X.getLsbD (k + 1) <;> cases X.getLsbD k <;> cases R.getLsbD k <;> simp
/-- How many bits are set. -/
def Tb.ct (X : BitVec 64) : Nat := (List.range 64).countP X.getLsbD
theorem ct_le (X : BitVec 64) : Tb.ct X ≤ 64 := by
  unfold Tb.ct
  have := List.countP_le_length (p := X.getLsbD) (l := List.range 64)
  simpa using this
theorem ct_F {R X : BitVec 64} (h : Tb.F R X ≠ X) : Tb.ct X < Tb.ct (Tb.F R X) := by
  unfold Tb.ct
  obtain ⟨i, hi, h1, h2⟩ : ∃ i, i < 64 ∧ X.getLsbD i = false ∧ (Tb.F R X).getLsbD i = true := by
    refine Classical.byContradiction fun hn => h (u_ext fun i hi => ?_)
    have := F_get R X i hi
    cases hx : X.getLsbD i with
    | true => rw [this, hx]; rfl
    | false =>
      cases hf : (Tb.F R X).getLsbD i with
      | false => rfl
      | true => exact absurd ⟨i, hi, hx, hf⟩ hn
  have hsub : ∀ j ∈ List.range 64, X.getLsbD j = true → (Tb.F R X).getLsbD j = true := by
    intro j hj hx
    rw [F_get R X j (List.mem_range.1 hj), hx]; rfl
  have key : ∀ (l : List Nat), (∀ j ∈ l, X.getLsbD j = true → (Tb.F R X).getLsbD j = true) → i ∈ l → l.countP X.getLsbD < l.countP (Tb.F R X).getLsbD := by
    intro l
    induction l with
    | nil => intro _ h; cases h
    | cons x r ih =>
      intro hs hm
      have hr : r.countP X.getLsbD ≤ r.countP (Tb.F R X).getLsbD := List.countP_mono_left fun j hj hx => hs j (by simp [hj]) hx
      rcases List.mem_cons.1 hm with e | e
      · subst e
        rw [List.countP_cons_of_neg (by rw [h1]; simp), List.countP_cons_of_pos h2]
        omega
      · have := ih (fun j hj => hs j (by simp [hj])) e
        rw [List.countP_cons, List.countP_cons]
        have hx := hs x (by simp)
        cases hq : X.getLsbD x with
        | true => rw [hx hq]; simp; omega
        | false => simp; split <;> omega
  exact key _ hsub (List.mem_range.2 hi)
/-- A state with all that counts with it, and nothing else. -/
def Tb.whole (n : Nat) (R X : BitVec 64) : BitVec 64 := Tb.mk (Tb.cl R (X &&& Tb.low (n + 1))) 64
theorem whole_get (n : Nat) (R X : BitVec 64) (i : Nat) (hi : i < 64) : (Tb.whole n R X).getLsbD i = Tb.cl R (X &&& Tb.low (n + 1)) i := by
  unfold Tb.whole; rw [mk_get _ _ _ hi]; simp [hi]
theorem whole_fix {n : Nat} {R X Y : BitVec 64} (h : ∀ k, k < 64 → Tb.cl R Y k = Tb.cl R (X &&& Tb.low (n + 1)) k) (hf : Tb.F R Y = Y) : Tb.whole n R X = Y :=
  u_ext fun i hi => by rw [whole_get _ _ _ _ hi, ← h i hi, cl_fix hf i hi]
end Go.Proofs.Ytoniipmgkoogbaa
/- Tables: what a state comes to with all that counts with it. -/
namespace Go.Proofs.Ytoniipmgkoogbaa
open Go.ChangeShapes Go.WideShapes Go.ChangeAt Go.RowKit
set_option linter.unusedSimpArgs false
set_option linter.unusedVariables false

/-- A table's cells. -/
def tbc (n : Nat) (R : BitVec 64) (H : Nat → BitVec 64) : List Value := .int .i64 n :: uv R :: (List.range 256).map fun b => uv (H b)
/-- A table in a block. -/
def TB (w : World) (p n : Nat) (R : BitVec 64) (H : Nat → BitVec 64) : Prop := Blk w p (tbc n R H) 75
theorem TB.below {w w' : World} {p n : Nat} {R : BitVec 64} {H : Nat → BitVec 64} (h : TB w p n R H) (k : Below w.heap.size w w') : TB w' p n R H := Blk.below h k (Blk.lt h)
theorem TB.c0 {w : World} {p n : Nat} {R : BitVec 64} {H : Nat → BitVec 64} (h : TB w p n R H) : w.cell? ⟨p, 0, none⟩ = some (.int .i64 n) := Blk.cell h rfl
theorem TB.c1 {w : World} {p n : Nat} {R : BitVec 64} {H : Nat → BitVec 64} (h : TB w p n R H) : w.cell? ⟨p, 1, none⟩ = some (.int .u64 R.toNat) := Blk.cell h rfl
theorem TB.ch {w : World} {p n : Nat} {R : BitVec 64} {H : Nat → BitVec 64} (h : TB w p n R H) {b : Nat} (hb : b < 256) : w.cell? ⟨p, 2 + b, none⟩ = some (.int .u64 (H b).toNat) := by
  refine Blk.cell h ?_
  unfold tbc
  rw [Nat.add_comm]
  simp [hb, uv]
end Go.Proofs.Ytoniipmgkoogbaa
/- Tables: a byte more. -/
namespace Go.Proofs.Ytoniipmgkoogbaa
open Go.ChangeShapes Go.WideShapes Go.ChangeAt Go.RowKit
set_option linter.unusedSimpArgs false
set_option linter.unusedVariables false

/-- The state at the beginning. -/
def Tb.start (n : Nat) (R : BitVec 64) : BitVec 64 := Tb.whole n R 1
/-- The state behind a byte more. -/
def Tb.step (n : Nat) (R Hb X : BitVec 64) : BitVec 64 := Tb.whole n R ((Tb.whole n R X &&& R) ||| ((Tb.whole n R X &&& Hb) <<< 1))
/-- The state behind a byte more, begun anew. -/
def Tb.seek (n : Nat) (R Hb X : BitVec 64) : BitVec 64 := Tb.step n R Hb X ||| Tb.start n R
theorem u_shr (Y : BitVec 64) (n : Nat) : ((Y.toNat : Int) / 2 ^ n) = ((Y >>> n).toNat : Int) := by
  rw [BitVec.toNat_ushiftRight, Nat.shiftRight_eq_div_pow]
  push_cast; rfl
theorem u_test (Y : BitVec 64) (n : Nat) (b : Bool) (hb : Y.getLsbD n = b) : bits BinOp.and IntKind.u64 ((Y >>> n).toNat : Int) 1 = if b then 1 else 0 := by
  have h := u_and (Y >>> n) 1
  rw [show (((1 : BitVec 64)).toNat : Int) = 1 from rfl] at h
  rw [h]
  have e : (Y >>> n) &&& 1 = if b then 1 else 0 := by
    apply u_ext
    intro i hi
    rw [BitVec.getLsbD_and, BitVec.getLsbD_ushiftRight]
    cases i with
    | zero => cases b <;> simp [hb]
    | succ i => cases b <;> simp [BitVec.getLsbD_one]
  rw [e]
  cases b <;> rfl
end Go.Proofs.Ytoniipmgkoogbaa
/- Tables: an item noted. -/
namespace Go.Proofs.Ytoniipmgkoogbaa
open Go.ChangeShapes Go.WideShapes Go.ChangeAt Go.RowKit
set_option linter.unusedSimpArgs false
set_option linter.unusedVariables false

/-- Bytes laid as a row of their own. -/
theorem bytes_laid (w : World) (s : ByteArray) : ∃ V cap, (∀ src dst, Try.prog.underlying src = some .string → Try.prog.underlying dst = some (.slice 5) → (convert src dst (.string s)).run Try.prog w = .ok (.slice (some ⟨w.heap.size, 0, none⟩) s.size cap) V) ∧ Below w.heap.size w V ∧ w.heap.size < V.heap.size ∧ ∀ j (hj : j < s.size), V.cell? ⟨w.heap.size, j, none⟩ = some (.int .u8 s[j].toNat) := by
  refine ⟨Lib.bytesWorld w 5 s, grownCap w s.size 0 5, fun src dst h1 h2 => Lib.run_convert_string_bytes w src dst 5 s h1 h2 Try.underlying5, ?_, ?_, ?_⟩
  · refine ⟨rfl, rfl, rfl, ?_, fun j hj => Lib.bytesWorld_at_old w _ s j hj⟩
    have := (Array.getElem?_eq_some_iff.1 (Lib.bytesWorld_at_new w 5 s)).1
    omega
  · exact (Array.getElem?_eq_some_iff.1 (Lib.bytesWorld_at_new w 5 s)).1
  · intro j hj
    simp only [World.cell?, Lib.bytesWorld_at_new]
    simp [Lib.bytesCells, hj, Array.getElem?_append]
    rfl
/-- The sets of a table, with an item noted for the bytes of a list. -/
def Tb.nt (k : Nat) (M : List UInt8) (H : Nat → BitVec 64) (b : Nat) : BitVec 64 := if (M.any fun c => c.toNat == b) then H b ||| BitVec.twoPow 64 k else H b
theorem TB.put {w : World} {p n : Nat} {R : BitVec 64} {H H' : Nat → BitVec 64} (h : TB w p n R H) {b : Nat} (hb : b < 256) {V : BitVec 64} {v : Int} (hv : (V.toNat : Int) = v) (hH : ∀ j, j < 256 → H' j = if j = b then V else H j) : TB (w.setCell ⟨p, 2 + b, none⟩ (.int .u64 v)) p n R H' := by
  have k := Blk.set h (2 + b) (.int .u64 v)
  have e : (tbc n R H).set (2 + b) (.int .u64 v) = tbc n R H' := by
    unfold tbc
    rw [Nat.add_comm, List.set_cons_succ, List.set_cons_succ]
    congr 2
    apply List.ext_getElem?
    intro j
    rw [List.getElem?_set]
    by_cases hj : j < 256
    · by_cases e : b = j
      · subst e; simp [hj, hH b hj, uv, hv]
      · have e2 : ¬ j = b := fun x => e x.symm
        rw [if_neg e]; simp [hj, hH j hj, e2]
    · by_cases e : b = j
      · subst e; omega
      · rw [if_neg e]; simp [hj]
  rw [e] at k
  exact k
theorem TB.runs {w : World} {p n : Nat} {R : BitVec 64} {H : Nat → BitVec 64} (h : TB w p n R H) {V : BitVec 64} {v : Int} (hv : (V.toNat : Int) = v) : TB (w.setCell ⟨p, 1, none⟩ (.int .u64 v)) p n V H := by
  have k := Blk.set h 1 (.int .u64 v)
  have e : (tbc n R H).set 1 (.int .u64 v) = tbc n V H := by
    unfold tbc uv
    rw [hv]; rfl
  rw [e] at k
  exact k
theorem nt_step (k : Nat) (M : List UInt8) (c : UInt8) (H : Nat → BitVec 64) (j : Nat) : Tb.nt k (M ++ [c]) H j = if j = c.toNat then Tb.nt k M H j ||| BitVec.twoPow 64 k else Tb.nt k M H j := by
  unfold Tb.nt
  rw [List.any_append]
  by_cases e : j = c.toNat
  · subst e
    rw [if_pos rfl]
    have h1 : ([c].any fun d => d.toNat == c.toNat) = true := by simp
    rw [h1, Bool.or_true, if_pos rfl]
    cases (M.any fun d => d.toNat == c.toNat) with
    | true => rw [if_pos rfl, BitVec.or_assoc, BitVec.or_self]
    | false => rw [if_neg (by simp)]
  · rw [if_neg e]
    have h1 : ([c].any fun d => d.toNat == j) = false := by simp; omega
    rw [h1, Bool.or_false]
set_option maxRecDepth 20000 in
set_option maxHeartbeats 8000000 in
theorem tb_note (p n : Nat) (R : BitVec 64) (H : Nat → BitVec 64) (q : Nat) (hq : q < 64) (X : BitVec 256) (w : World) (h : TB w p n R H) :
    Calls Try.prog 38 #[.pointer (some ⟨p, 0, none⟩), .int .i64 q, Cs.sv X] w fun e w' => e = .returned (.tuple #[]) ∧ TB w' p n R (Tb.nt q (Cs.memT X 256) H) ∧ Chg [p] w w' := by
  obtain ⟨s, hs⟩ := text_mk (Cs.memT X 256)
  obtain ⟨t, ht⟩ : ∃ t, Cs.memT X 256 = t := ⟨_, rfl⟩
  obtain ⟨N, hN⟩ : ∃ N, s.size = N := ⟨_, rfl⟩
  have hN6 : N ≤ 256 := by
    have e : s.size = (Cs.memT X 256).length := size_of hs
    have := Cs.memT_le X
    omega
  have HS := Lib.hid (And.intro hs (show s.data.toList = t by rw [hs, ht]))
  have hplt := Blk.lt h
  have HI : Hid (SB (w.alloc (.cells #[.int .u64 (Cs.wd X 0), .int .u64 (Cs.wd X 1), .int .u64 (Cs.wd X 2), .int .u64 (Cs.wd X 3)] 67)) w.heap.size X ∧ TB (w.alloc (.cells #[.int .u64 (Cs.wd X 0), .int .u64 (Cs.wd X 1), .int .u64 (Cs.wd X 2), .int .u64 (Cs.wd X 3)] 67)) p n R H ∧ Chg [p] w (w.alloc (.cells #[.int .u64 (Cs.wd X 0), .int .u64 (Cs.wd X 1), .int .u64 (Cs.wd X 2), .int .u64 (Cs.wd X 3)] 67))) := Lib.hid ⟨SB.new w X, Blk.alloc h _, (Chg.refl _ _).alloc _⟩
  have s1 := shl_one q hq
  have q0 : (0 : Int) ≤ (q : Int) := by omega
  have us := Try.underlying9
  have ub := Try.underlying82
  have HU := Lib.hid (And.intro us ub)
  rw [ht]
  have HT := Lib.hid ht
  clear hs h ht us ub
  unfold Cs.sv
  go_enter Try.func38, Try.ntmps38
  go_upto_region 1 with fail
  revert HI
  generalize w.alloc (.cells #[.int .u64 (Cs.wd X 0), .int .u64 (Cs.wd X 1), .int .u64 (Cs.wd X 2), .int .u64 (Cs.wd X 3)] 67) = W0
  intro HI
  have x0 := HI.out.1.at (i := 0) (by decide)
  have x1 := HI.out.1.at (i := 1) (by decide)
  have x2 := HI.out.1.at (i := 2) (by decide)
  have x3 := HI.out.1.at (i := 3) (by decide)
  go_upto_region 2 with (go_at_call 43; rw [sv_def X]; refine (cs_bytes X s HS.out.1 _).mono ?_; rintro e W1 ⟨rfl, hb1⟩; obtain ⟨V, cap, hcv, kb, kl, kc⟩ := bytes_laid W1 s; have hcv2 := hcv _ _ HU.out.1 HU.out.2; rw [hN] at hcv2; obtain ⟨g, hg⟩ : ∃ g, W1.heap.size = g := ⟨_, rfl⟩; have HB : Hid ((TB V p n R (Tb.nt q (t.take 0) H) ∧ Chg [p] w V ∧ g < V.heap.size ∧ (∀ j (hj : j < s.size), V.cell? ⟨g, j, none⟩ = some (.int .u8 s[j].toNat))) ∧ p < g) := Lib.hid (by
    have h1 := TB.below HI.out.2.1 hb1
    have hp1 := Blk.lt h1
    refine ⟨⟨Blk.below h1 kb hp1, (HI.out.2.2.trans (Chg.of_fresh (l := []) hb1) (by simp)).trans (Chg.of_fresh (l := []) kb) (by simp), by rw [← hg]; exact kl, by rw [← hg]; exact kc⟩, by rw [← hg]; exact hp1⟩); rw [hg] at hcv2; clear hb1 kb kl kc hcv x0 x1 x2 x3)
  clear HI
  go_wp2_with fail
  go_loopw [12] (fun i wr => ∃ k : Nat, i = .int .i64 k ∧ k ≤ N ∧ Hid (TB wr p n R (Tb.nt q (t.take k) H) ∧ Chg [p] w wr ∧ g < wr.heap.size ∧ (∀ j (hj : j < s.size), wr.cell? ⟨g, j, none⟩ = some (.int .u8 s[j].toNat)))) (fun i _ => N - (intOf i).toNat)
  case atStart => exact ⟨0, rfl, by omega, Lib.hid HB.out.1⟩
  case round =>
    have hpg := HB.out.2
    clear HB hcv2
    obtain ⟨k, rfl, hk, HB⟩ := hrel
    have k0 : (0 : Int) ≤ (k : Int) := by omega
    by_cases hkN : k < N
    · have hks : k < s.size := by omega
      obtain ⟨c, hc⟩ : ∃ c, s[k] = c := ⟨_, rfl⟩
      have ce := HB.out.2.2.2 k hks
      rw [hc] at ce
      have HCt : Hid (t.take (k + 1) = t.take k ++ [c]) := Lib.hid (by
        have : t[k]? = some c := by rw [← HS.out.2, byte_at hks, hc]
        rw [List.take_add_one, this]; rfl)
      obtain ⟨b, hb⟩ : ∃ b, c.toNat = b := ⟨_, rfl⟩
      have hb2 : b < 256 := by rw [← hb]; exact c.toNat_lt
      obtain ⟨hv, hhv⟩ : ∃ x : Int, ((Tb.nt q (t.take k) H b).toNat : Int) = x := ⟨_, rfl⟩
      obtain ⟨v, hvv⟩ : ∃ x : Int, ((Tb.nt q (t.take k) H b ||| BitVec.twoPow 64 q).toNat : Int) = x := ⟨_, rfl⟩
      have a1 : bits BinOp.or IntKind.u64 hv (2 ^ q) = v := by rw [← hhv, ← hvv, ← u_bit q hq]; exact u_or _ _
      have ch := HB.out.1.ch hb2
      rw [hhv] at ch
      have cf := Blk.free HB.out.1 (2 + b)
      rw [hb] at ce
      have HN : Hid (TB (wr.setCell ⟨p, 2 + b, none⟩ (.int .u64 v)) p n R (Tb.nt q (t.take (k + 1)) H) ∧ Chg [p] w (wr.setCell ⟨p, 2 + b, none⟩ (.int .u64 v)) ∧ g < (wr.setCell ⟨p, 2 + b, none⟩ (.int .u64 v)).heap.size ∧ (∀ j (hj : j < s.size), (wr.setCell ⟨p, 2 + b, none⟩ (.int .u64 v)).cell? ⟨g, j, none⟩ = some (.int .u8 s[j].toNat))) := Lib.hid ⟨HB.out.1.put hb2 hvv (fun j _ => if e : j = b then by rw [HCt.out, nt_step, hb, if_pos e, if_pos e, e] else by rw [HCt.out, nt_step, hb, if_neg e, if_neg e]), HB.out.2.1.set (Or.inl (by simp)) _ _, by simpa using HB.out.2.2.1, fun j hj => by
        have e0 := HB.out.2.2.2 j hj
        rw [← e0]
        exact Chg.cell (l := [p]) ((Chg.refl [p] wr).set (Or.inl (by simp)) _ _) (p := ⟨g, j, none⟩) HB.out.2.2.1 (by simp; omega)⟩
      have b0 : (0 : Int) ≤ (b : Int) := by omega
      have b3 : (b : Int) < 256 := by omega
      clear hc hhv hvv hb
      go_wp2_with fail
      go_region
      have HNd : Hid (TB (wr.setCell ⟨p, 2 + b, none⟩ (.int .u64 v)).drew p n R (Tb.nt q (t.take (k + 1)) H) ∧ Chg [p] w (wr.setCell ⟨p, 2 + b, none⟩ (.int .u64 v)).drew ∧ g < (wr.setCell ⟨p, 2 + b, none⟩ (.int .u64 v)).drew.heap.size ∧ (∀ j (hj : j < s.size), (wr.setCell ⟨p, 2 + b, none⟩ (.int .u64 v)).drew.cell? ⟨g, j, none⟩ = some (.int .u8 s[j].toNat))) := Lib.hid ⟨Blk.drew HN.out.1, HN.out.2.1.drew, HN.out.2.2.1, HN.out.2.2.2⟩
      go_wp2
      refine ⟨?_, ?measure⟩
      case measure => simp [intOf]; omega
      first
        | exact ⟨k + 1, by go_num, by omega, HNd⟩
        | exact ⟨k + 1, by go_num, by omega, HN⟩
        | ((repeat apply Exists.intro); exact ⟨⟨k + 1, by go_num, by omega, HNd⟩, rfl⟩)
    · obtain rfl : k = N := by omega
      go_wp2
      go_end0
      exact ⟨rfl, by rw [show t = t.take k from (List.take_of_length_le (by rw [← HS.out.2]; simp; omega)).symm]; exact HB.out.1, HB.out.2.1⟩
end Go.Proofs.Ytoniipmgkoogbaa
/- Tables: the table of a pattern. -/
namespace Go.Proofs.Ytoniipmgkoogbaa
open Go.ChangeShapes Go.WideShapes Go.ChangeAt Go.RowKit
set_option linter.unusedSimpArgs false
set_option linter.unusedVariables false

/-- The runs of a pattern, and which of its sets have a byte. -/
def Tb.rf (l : List (Bool × BitVec 256)) (k : Nat) : Bool := (lgL l k).1
def Tb.hf (l : List (Bool × BitVec 256)) (b k : Nat) : Bool := !(lgL l k).1 && (lgL l k).2.getLsbD b
/-- A pattern's table, so far. -/
def TP (w : World) (p : Nat) (l : List (Bool × BitVec 256)) (n k : Nat) : Prop := TB w p n (Tb.mk (Tb.rf l) k) (fun b => Tb.mk (Tb.hf l b) k)
theorem TB.congr {w : World} {p n : Nat} {R R' : BitVec 64} {H H' : Nat → BitVec 64} (h : TB w p n R H) (hR : R = R') (hH : ∀ j, j < 256 → H j = H' j) : TB w p n R' H' := by
  subst hR
  have e : tbc n R H = tbc n R H' := by
    unfold tbc
    congr 2
    exact List.map_congr_left fun j hj => by rw [hH j (List.mem_range.1 hj)]
  unfold TB at h ⊢
  rw [← e]; exact h
theorem memT_any (X : BitVec 256) (b : Nat) (hb : b < 256) : ((Cs.memT X 256).any fun c => c.toNat == b) = X.getLsbD b := by
  apply bool_iff
  rw [List.any_eq_true]
  unfold Cs.memT
  constructor
  · rintro ⟨c, hc, h⟩
    rw [List.mem_map] at hc
    obtain ⟨j, hj, e⟩ := hc
    rw [List.mem_filter] at hj
    have hj2 := List.mem_range.1 hj.1
    rw [← e, UInt8.toNat_ofNat', show j % 2 ^ 8 = j by omega, beq_iff_eq] at h
    rw [← h]; exact hj.2
  · intro h
    exact ⟨UInt8.ofNat b, List.mem_map.2 ⟨b, List.mem_filter.2 ⟨List.mem_range.2 hb, h⟩, rfl⟩, by rw [UInt8.toNat_ofNat', show b % 2 ^ 8 = b by omega]; simp⟩
theorem TP.run {w : World} {p n k : Nat} {l : List (Bool × BitVec 256)} {X : BitVec 256} (h : TP w p l n k) (hl : lgL l k = (true, X)) {v : Int} (hv : ((Tb.mk (Tb.rf l) k ||| BitVec.twoPow 64 k).toNat : Int) = v) : TP (w.setCell ⟨p, 1, none⟩ (.int .u64 v)) p l n (k + 1) := by
  have h1 := TB.runs h hv
  refine TB.congr h1 ?_ ?_
  · rw [Tb.mk]
    unfold Tb.rf
    rw [hl, if_pos rfl]
  · intro j hj
    rw [Tb.mk]
    unfold Tb.hf
    rw [hl]; simp
theorem TP.set {w : World} {p n k : Nat} {l : List (Bool × BitVec 256)} {X : BitVec 256} (h : TB w p n (Tb.mk (Tb.rf l) k) (Tb.nt k (Cs.memT X 256) (fun b => Tb.mk (Tb.hf l b) k))) (hl : lgL l k = (false, X)) : TP w p l n (k + 1) := by
  refine TB.congr h ?_ ?_
  · rw [Tb.mk]
    unfold Tb.rf
    rw [hl]; simp
  · intro j hj
    unfold Tb.nt
    rw [memT_any X j hj, Tb.mk]
    unfold Tb.hf
    rw [hl]
    cases X.getLsbD j <;> simp
/-- The cells of an empty table. -/
def zcT : Array Value := (Value.int .i64 0 :: Value.int .u64 0 :: List.replicate 256 (Value.int .u64 0)).toArray
theorem zcT_zero (w : World) : Sem.run Try.prog (zeroValue 75) w = Result.ok (Value.agg zcT) w := by kernel_rfl
theorem zcT_size : zcT.size = 258 := by kernel_rfl
theorem zcT_ne : ¬ zcT = #[] := fun h => by
  have := zcT_size
  rw [h] at this
  cases this
attribute [local go_sem] zcT_zero
attribute [local simp] zcT_ne zcT_size
set_option maxRecDepth 100000 in
theorem TP.new (w : World) (l : List (Bool × BitVec 256)) (n : Nat) : TP (w.alloc (.cells (zcT.setIfInBounds 0 (.int .i64 n)) 75)) w.heap.size l n 0 := by
  have h := Blk.newA w (zcT.setIfInBounds 0 (.int .i64 n)) 75
  have e0 : zcT.toList = Value.int .i64 0 :: Value.int .u64 0 :: List.replicate 256 (Value.int .u64 0) := by kernel_rfl
  have e1 : ((zcT.setIfInBounds 0 (.int .i64 n))).toList = tbc n (Tb.mk (Tb.rf l) 0) (fun b => Tb.mk (Tb.hf l b) 0) := by
    rw [Array.toList_setIfInBounds, e0]
    unfold tbc
    simp only [Tb.mk, List.set_cons_zero]
    congr 2 <;> (first | rfl | (rw [List.map_const', List.length_range]; rfl))
  rw [e1] at h
  exact h
set_option maxRecDepth 20000 in
theorem tb_form (l : List (Bool × BitVec 256)) (hb : goodB l = false) (n : Nat) (a : Option Addr) (c : Nat) (hn : l.length = n) (hn6 : n ≤ 1000000) (w : World) (hI : IK w a l) :
    Calls Try.prog 34 #[.slice a n c] w fun e w' => e = .returned (.tuple #[.pointer none, .int .i64 2]) ∧ Below w.heap.size w w' := by
  have HG := Lib.hid (And.intro hb (And.intro hn hI.li))
  clear hb hn hI
  go_enter Try.func34, Try.ntmps34
  go_wp2_with (go_at_call 36; with_reducible refine (gl_good l false HG.out.1 a n c HG.out.2.1 hn6 _ HG.out.2.2).mono ?_; rintro e W1 ⟨rfl, hb1⟩; have HB := Lib.hid hb1; clear hb1)
  go_ret2
  exact ⟨rfl, HB.out⟩
set_option maxRecDepth 20000 in
theorem tb_empty (l : List (Bool × BitVec 256)) (hb : goodB l = true) (m : Nat) (hm : Lg.least l = m) (hm0 : decide (m = 0) = true) (n : Nat) (a : Option Addr) (c : Nat) (hn : l.length = n) (hn6 : n ≤ 1000000) (w : World) (hI : IK w a l) :
    Calls Try.prog 34 #[.slice a n c] w fun e w' => e = .returned (.tuple #[.pointer none, .int .i64 9]) ∧ Below w.heap.size w w' := by
  have HG := Lib.hid (And.intro hb (And.intro hn (And.intro hI (And.intro hm hm0))))
  clear hb hn hI hm hm0
  go_enter Try.func34, Try.ntmps34
  go_wp2_with (first
    | (go_at_call 36; with_reducible refine (gl_good l true HG.out.1 a n c HG.out.2.1 hn6 _ HG.out.2.2.1.li).mono ?_; rintro e W1 ⟨rfl, hb1⟩; have HB := Lib.hid (And.intro (IK.below HG.out.2.2.1 hb1) hb1); clear hb1)
    | (go_at_call 37; with_reducible refine (lg_empty2 l m HG.out.2.2.2.1 true HG.out.2.2.2.2 n a c HG.out.2.1 hn6 _ HB.out.1.ia).mono ?_; rintro e W2 ⟨rfl, hb1⟩; replace HB := Lib.hid (HB.out.2.trans (hb1.mono HB.out.2.size)); clear hb1))
  go_ret2
  exact ⟨rfl, HB.out⟩
set_option maxRecDepth 40000 in
set_option maxHeartbeats 16000000 in
theorem tb_compile (l : List (Bool × BitVec 256)) (hb : goodB l = true) (m : Nat) (hm : Lg.least l = m) (hm0 : decide (m = 0) = false) (n : Nat) (a : Option Addr) (c : Nat) (hn : l.length = n) (w : World) (hI : IK w a l) :
    Calls Try.prog 34 #[.slice a n c] w fun e w' => ∃ p, e = .returned (.tuple #[.pointer (some ⟨p, 0, none⟩), .int .i64 0]) ∧ TP w' p l n n ∧ Below w.heap.size w w' := by
  have hn60 : n ≤ 60 := by have := (goodB_ok hb).2; omega
  have hn6 : n ≤ 1000000 := by omega
  have HG := Lib.hid (And.intro hb (And.intro hn (And.intro hI (And.intro hm hm0))))
  clear hb hn hI hm hm0
  go_enter Try.func34, Try.ntmps34
  go_upto_region 5 with (first
    | (go_at_call 36; with_reducible refine (gl_good l true HG.out.1 a n c HG.out.2.1 hn6 _ HG.out.2.2.1.li).mono ?_; rintro e W1 ⟨rfl, hb1⟩; have HB := Lib.hid (And.intro (IK.below HG.out.2.2.1 hb1) hb1); clear hb1)
    | (go_at_call 37; with_reducible refine (lg_empty2 l m HG.out.2.2.2.1 false HG.out.2.2.2.2 n a c HG.out.2.1 hn6 _ HB.out.1.ia).mono ?_; rintro e W2 ⟨rfl, hb1⟩; replace HB := Lib.hid (HB.out.2.trans (hb1.mono HB.out.2.size)); clear hb1))
  have HT : Hid (TP (W2.alloc (.cells (zcT.setIfInBounds 0 (.int .i64 n)) 75)) W2.heap.size l n 0 ∧ Below w.heap.size w (W2.alloc (.cells (zcT.setIfInBounds 0 (.int .i64 n)) 75)) ∧ w.heap.size ≤ W2.heap.size) := Lib.hid ⟨TP.new W2 l n, HB.out.alloc HB.out.size _, HB.out.size⟩
  clear HB
  go_upto_region 6 with fail
  revert HT
  generalize W2.alloc (.cells (zcT.setIfInBounds 0 (.int .i64 n)) 75) = W3
  generalize W2.heap.size = p
  intro HT
  have hpw : w.heap.size ≤ p := HT.out.2.2
  replace HT : Hid (TP W3 p l n 0 ∧ Below w.heap.size w W3) := Lib.hid ⟨HT.out.1, HT.out.2.1⟩
  go_wp2_with fail
  go_loopw [18] (fun i wr => ∃ k : Nat, i = .int .i64 k ∧ k ≤ n ∧ Hid (TP wr p l n k ∧ Below w.heap.size w wr)) (fun i _ => n - (intOf i).toNat)
  case atStart => exact ⟨0, rfl, by omega, HT⟩
  case round =>
    clear HT
    obtain ⟨k, rfl, hk, HB⟩ := hrel
    have k0 : (0 : Int) ≤ (k : Int) := by omega
    by_cases hkl : k < n
    · obtain ⟨x, hx⟩ : ∃ x, l[k]? = some x := ⟨_, List.getElem?_eq_getElem (by rw [HG.out.2.1]; exact hkl)⟩
      obtain ⟨r, X⟩ := x
      have hIA : IA wr a l := HG.out.2.2.1.ia.below HB.out.2
      obtain ⟨gi, o, ha, hgi, z0, z1, z2, z3, z4⟩ := hIA.cell hx
      subst ha
      have HL : Hid (lgL l k = (r, X)) := Lib.hid (by unfold lgL; rw [hx]; rfl)
      dsimp only at z0 z1 z2 z3 z4
      have hd : Hid (TP (wr.alloc (.cells #[.bool r, .int .u64 (Cs.wd X 0), .int .u64 (Cs.wd X 1), .int .u64 (Cs.wd X 2), .int .u64 (Cs.wd X 3)] 69)) p l n k ∧ Below w.heap.size w (wr.alloc (.cells #[.bool r, .int .u64 (Cs.wd X 0), .int .u64 (Cs.wd X 1), .int .u64 (Cs.wd X 2), .int .u64 (Cs.wd X 3)] 69)) ∧ IB (wr.alloc (.cells #[.bool r, .int .u64 (Cs.wd X 0), .int .u64 (Cs.wd X 1), .int .u64 (Cs.wd X 2), .int .u64 (Cs.wd X 3)] 69)) wr.heap.size r X) := Lib.hid ⟨Blk.alloc HB.out.1 _, HB.out.2.alloc HB.out.2.size _, IB.new wr r X⟩
      clear hx hIA HB
      go_upto_region 9 with fail
      clear z0 z1 z2 z3 z4
      revert hd
      generalize wr.alloc (.cells #[.bool r, .int .u64 (Cs.wd X 0), .int .u64 (Cs.wd X 1), .int .u64 (Cs.wd X 2), .int .u64 (Cs.wd X 3)] 69) = V
      generalize wr.heap.size = D
      intro hd
      have yb := Blk.cell hd.out.2.2 (i := 0) rfl
      have y0 := Blk.cell hd.out.2.2 (i := 1) rfl
      have y1 := Blk.cell hd.out.2.2 (i := 2) rfl
      have y2 := Blk.cell hd.out.2.2 (i := 3) rfl
      have y3 := Blk.cell hd.out.2.2 (i := 4) rfl
      have hk64 : k < 64 := by omega
      cases r with
      | true =>
        obtain ⟨rv, hrv⟩ : ∃ x : Int, ((Tb.mk (Tb.rf l) k).toNat : Int) = x := ⟨_, rfl⟩
        obtain ⟨v, hv⟩ : ∃ x : Int, ((Tb.mk (Tb.rf l) k ||| BitVec.twoPow 64 k).toNat : Int) = x := ⟨_, rfl⟩
        have a1 : bits BinOp.or IntKind.u64 rv (2 ^ k) = v := by rw [← hrv, ← hv, ← u_bit k hk64]; exact u_or _ _
        have s1 := shl_one k hk64
        have c1 := TB.c1 hd.out.1
        rw [hrv] at c1
        have cf := Blk.free hd.out.1 1
        have HN : Hid (TP (V.setCell ⟨p, 1, none⟩ (.int .u64 v)) p l n (k + 1) ∧ Below w.heap.size w (V.setCell ⟨p, 1, none⟩ (.int .u64 v))) := Lib.hid ⟨TP.run hd.out.1 HL.out hv, below_set hd.out.2.1 hpw _ _⟩
        clear hrv hv
        go_wp2_with fail
        go_region
        have HNd : Hid (TP (V.setCell ⟨p, 1, none⟩ (.int .u64 v)).drew p l n (k + 1) ∧ Below w.heap.size w (V.setCell ⟨p, 1, none⟩ (.int .u64 v)).drew) := Lib.hid ⟨Blk.drew HN.out.1, HN.out.2.drew⟩
        go_wp2
        refine ⟨?_, ?measure⟩
        case measure => simp [intOf]; omega
        first
          | exact ⟨k + 1, by go_num, by omega, HNd⟩
          | ((repeat apply Exists.intro); exact ⟨⟨k + 1, by go_num, by omega, HNd⟩, rfl⟩)
      | false =>
        go_wp2_with (go_at_call 38; rw [sv_def X]; refine (tb_note p n _ _ k hk64 X _ hd.out.1).mono ?_; rintro e W5 ⟨rfl, k5, b5⟩; have HN : Hid (TP W5 p l n (k + 1) ∧ Below w.heap.size w W5) := Lib.hid ⟨TP.set k5 HL.out, Chg.onto hd.out.2.1 b5 hd.out.2.1.size (by simpa using hpw)⟩; clear k5 b5)
        refine ⟨?_, ?measure⟩
        case measure => simp [intOf]; omega
        first
          | exact ⟨k + 1, by go_num, by omega, HN⟩
          | ((repeat apply Exists.intro); exact ⟨⟨k + 1, by go_num, by omega, HN⟩, rfl⟩)
    · obtain rfl : k = n := by omega
      go_wp2
      go_ret2
      exact ⟨p, rfl, HB.out.1, HB.out.2⟩
end Go.Proofs.Ytoniipmgkoogbaa
/- Tables: what no table tells; a pattern goes byte by byte. -/
namespace Go.Proofs.Ytoniipmgkoogbaa
open Go.ChangeShapes Go.WideShapes Go.ChangeAt Go.RowKit
set_option linter.unusedSimpArgs false
set_option linter.unusedVariables false

theorem TP.tb {w : World} {p n k : Nat} {l : List (Bool × BitVec 256)} (h : TP w p l n k) : TB w p n (Tb.mk (Tb.rf l) k) (fun b => Tb.mk (Tb.hf l b) k) := h
theorem u_or0 : bits BinOp.or IntKind.u64 0 0 = 0 := by decide +kernel
theorem lt1 : Tb.start 3 (Tb.mk (Tb.rf [(false, Cs.ofL [97]), (true, 0), (false, Cs.ofL [98])]) 3) = 1 := by decide +kernel
theorem lt2 : Tb.step 3 (Tb.mk (Tb.rf [(false, Cs.ofL [97]), (true, 0), (false, Cs.ofL [98])]) 3) (Tb.mk (Tb.hf [(false, Cs.ofL [97]), (true, 0), (false, Cs.ofL [98])] 97) 3) 1 = 6 := by decide +kernel
theorem lt3 : Tb.step 3 (Tb.mk (Tb.rf [(false, Cs.ofL [97]), (true, 0), (false, Cs.ofL [98])]) 3) (Tb.mk (Tb.hf [(false, Cs.ofL [97]), (true, 0), (false, Cs.ofL [98])] 98) 3) 6 = 14 := by decide +kernel
theorem lt4 : (Tb.whole 3 (Tb.mk (Tb.rf [(false, Cs.ofL [97]), (true, 0), (false, Cs.ofL [98])]) 3) 14).getLsbD 3 = true := by decide +kernel
theorem lt5 : (Tb.whole 3 (Tb.mk (Tb.rf [(false, Cs.ofL [97]), (true, 0), (false, Cs.ofL [98])]) 3) 6).getLsbD 3 = false := by decide +kernel
end Go.Proofs.Ytoniipmgkoogbaa
/- Tables: what a table's states mean. -/
namespace Go.Proofs.Ytoniipmgkoogbaa
open Go.ChangeShapes Go.WideShapes Go.ChangeAt Go.RowKit
set_option linter.unusedSimpArgs false
set_option linter.unusedVariables false

theorem rf_get (l : List (Bool × BitVec 256)) (n i : Nat) (hi : i < 64) : (Tb.mk (Tb.rf l) n).getLsbD i = (decide (i < n) && (lgL l i).1) := mk_get _ _ _ hi
theorem hf_get (l : List (Bool × BitVec 256)) (b n i : Nat) (hi : i < 64) : (Tb.mk (Tb.hf l b) n).getLsbD i = (decide (i < n) && (!(lgL l i).1 && (lgL l i).2.getLsbD b)) := mk_get _ _ _ hi
theorem cl_P (l : List (Bool × BitVec 256)) (n : Nat) (hn : n ≤ 62) (X : BitVec 64) (f : Nat → Bool) (hX : ∀ i, i ≤ n → X.getLsbD i = f i) : ∀ j, j ≤ n → Tb.cl (Tb.mk (Tb.rf l) n) (X &&& Tb.low (n + 1)) j = Lg.P (lgL l) f j
  | 0, hj => by
    rw [Tb.cl, Lg.P, BitVec.getLsbD_and, low_get _ _ (by omega), hX 0 hj, decide_eq_true (by omega)]; simp
  | j + 1, hj => by
    rw [Tb.cl, Lg.P, BitVec.getLsbD_and, low_get _ _ (by omega), hX (j + 1) hj, decide_eq_true (by omega), cl_P l n hn X f hX j (by omega), rf_get _ _ _ (by omega), decide_eq_true (by omega)]
    simp
theorem P_idem (L : LgL) (f : Nat → Bool) : ∀ j, Lg.P L (Lg.P L f) j = Lg.P L f j
  | 0 => rfl
  | j + 1 => by
    rw [Lg.P, P_idem L f j, Lg.P]
    cases f (j + 1) <;> cases Lg.P L f j <;> cases (L j).1 <;> simp
theorem S_idem (L : LgL) (n : Nat) (T : LgT) (an : Bool) (k j : Nat) : Lg.P L (Lg.S L n T an k) j = Lg.S L n T an k j := by
  cases k with
  | zero => rw [Lg.S]; exact P_idem L _ j
  | succ k => rw [Lg.S]; exact P_idem L _ j
/-- A state that says of each number what holds behind k bytes. -/
def Tb.at (l : List (Bool × BitVec 256)) (n : Nat) (T : LgT) (k : Nat) (X : BitVec 64) : Prop := ∀ j, j ≤ n → X.getLsbD j = Lg.S (lgL l) n T true k j
theorem whole_at {l : List (Bool × BitVec 256)} {n : Nat} (hn : n ≤ 62) {T : LgT} {k : Nat} {X : BitVec 64} (h : Tb.at l n T k X) : ∀ j, j ≤ n → (Tb.whole n (Tb.mk (Tb.rf l) n) X).getLsbD j = Lg.S (lgL l) n T true k j := by
  intro j hj
  rw [whole_get _ _ _ _ (by omega), cl_P l n hn X _ h j hj, S_idem]
theorem start_bits (l : List (Bool × BitVec 256)) (n : Nat) (hn : n ≤ 62) (j : Nat) (hj : j ≤ n) : (Tb.start n (Tb.mk (Tb.rf l) n)).getLsbD j = Lg.P (lgL l) (fun k => k == 0) j := by
  unfold Tb.start
  rw [whole_get _ _ _ _ (by omega), cl_P l n hn 1 (fun k => k == 0) (fun i hi => by
    cases i with
    | zero => decide
    | succ i => simp [BitVec.getLsbD_one]) j hj]
theorem start_at (l : List (Bool × BitVec 256)) (n : Nat) (hn : n ≤ 62) (T : LgT) : Tb.at l n T 0 (Tb.start n (Tb.mk (Tb.rf l) n)) := fun j hj => by
  rw [start_bits l n hn j hj]; rfl
theorem nx_new (L : LgL) (n : Nat) (g : Nat → Bool) (c : UInt8) (j : Nat) : Lg.nx L n g c true j = ((j == 0) || Lg.nx L n g c false j) := by
  cases j <;> simp [Lg.nx]
theorem nx_congr {L : LgL} {n : Nat} {g g' : Nat → Bool} {c : UInt8} (h : ∀ i, i ≤ n → g i = g' i) (an : Bool) (j : Nat) (hj : j ≤ n) : Lg.nx L n g c an j = Lg.nx L n g' c an j := by
  cases j with
  | zero => rw [Lg.nx, Lg.nx, h 0 hj]
  | succ j => rw [Lg.nx, Lg.nx, h (j + 1) hj, h j (by omega)]
theorem seek_at {l : List (Bool × BitVec 256)} {n : Nat} (hn : n ≤ 62) {T : LgT} {k : Nat} {X : BitVec 64} (h : Tb.at l n T k X) {b : Nat} (hb : (T k).toNat = b) : Tb.at l n T (k + 1) (Tb.seek n (Tb.mk (Tb.rf l) n) (Tb.mk (Tb.hf l b) n) X) := by
  intro j hj
  unfold Tb.seek
  rw [BitVec.getLsbD_or, start_bits l n hn j hj]
  unfold Tb.step
  rw [whole_get _ _ _ _ (by omega)]
  have hw := whole_at hn h
  rw [cl_P l n hn _ (Lg.nx (lgL l) n (Lg.S (lgL l) n T true k) (T k) false) (fun i hi => by
    rw [BitVec.getLsbD_or, BitVec.getLsbD_and, hw i hi, rf_get _ _ _ (by omega), BitVec.getLsbD_shiftLeft, BitVec.getLsbD_and]
    cases i with
    | zero =>
      rw [Lg.nx]
      cases Lg.S (lgL l) n T true k 0 <;> cases (lgL l 0).1 <;> simp
    | succ i =>
      rw [Lg.nx]
      have h1 : i + 1 < 64 := by omega
      have h2 : i < n := by omega
      have e : i + 1 - 1 = i := by omega
      rw [e, hw i (by omega), hf_get _ _ _ _ (by omega)]
      unfold Lg.fits
      rw [hb]
      simp only [h1, h2]
      cases Lg.S (lgL l) n T true k (i + 1) <;> cases Lg.S (lgL l) n T true k i <;> cases (lgL l (i + 1)).1 <;> cases (lgL l i).1 <;> cases (lgL l i).2.getLsbD b <;> simp) j hj]
  rw [Lg.S]
  have e : Lg.P (lgL l) (Lg.nx (lgL l) n (Lg.S (lgL l) n T true k) (T k) true) j = Lg.P (lgL l) (fun i => (i == 0) || Lg.nx (lgL l) n (Lg.S (lgL l) n T true k) (T k) false i) j := lgP_congr _ _ _ j fun i _ => nx_new _ _ _ _ i
  rw [e, lgP_or, Bool.or_comm]
/-- Whether the pattern occurs to there. -/
theorem done_at {l : List (Bool × BitVec 256)} {n : Nat} (hn : n ≤ 62) (hl : l.length = n) {t : List UInt8} {k : Nat} {X : BitVec 64} (h : Tb.at l n (lgT t) k X) : (Tb.whole n (Tb.mk (Tb.rf l) n) X).getLsbD n = Lg.occ l t k := by
  rw [whole_at hn h n (Nat.le_refl _), lgS_occ l t n k hl]
end Go.Proofs.Ytoniipmgkoogbaa
