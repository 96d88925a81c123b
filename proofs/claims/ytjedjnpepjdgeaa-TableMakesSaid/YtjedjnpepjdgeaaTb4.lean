/- Tables: an item noted. -/
import Derived.Test.YtjedjnpepjdgeaaTb2
import Derived.Test.YtjedjnpepjdgeaaCsParts
import Derived.Test.YtjedjnpepjdgeaaCs5
import Derived.Lib.ConvBytes
namespace Go.Proofs.Ytjedjnpepjdgeaa
open Go.ChangeShapes Go.WideShapes Go.ChangeAt Go.RowKit
set_option linter.unusedSimpArgs false
set_option linter.unusedVariables false

/-- Bytes laid as a row of their own. -/
theorem bytes_laid (w : World) (s : ByteArray) : ∃ V cap, (∀ src dst, Try.prog.underlying src = some .string → Try.prog.underlying dst = some (.slice 5) → (convert src dst (.string s)).run Try.prog w = .ok (.slice (some ⟨w.heap.size, 0, none⟩) s.size cap) V) ∧ Below w.heap.size w V ∧ w.heap.size < V.heap.size ∧ ∀ j (hj : j < s.size), V.cell? ⟨w.heap.size, j, none⟩ = some (.int .u8 s[j].toNat) := by
  refine ⟨Lib.bytesWorld w 5 s, grownCap w s.size 0 5, fun src dst h1 h2 => Lib.run_convert_string_bytes w src dst 5 s h1 h2 Try.underlying5, ?_, ?_, ?_⟩
  · refine ⟨rfl, rfl, rfl, ?_, fun j hj => Lib.bytesWorld_at_old w _ s j hj⟩
    have := (Array.getElem?_eq_some_iff.1 (Lib.bytesWorld_at_new w 5 s)).1
    omega
  · exact (Array.getElem?_eq_some_iff.1 (Lib.bytesWorld_at_new w 5 s)).1
  · intro j hj
    simp only [World.cell?, Lib.bytesWorld_at_new]
    simp [Lib.bytesCells, hj, Array.getElem?_append]
    rfl
/-- The sets of a table, with an item noted for the bytes of a list. -/
def Tb.nt (k : Nat) (M : List UInt8) (H : Nat → BitVec 64) (b : Nat) : BitVec 64 := if (M.any fun c => c.toNat == b) then H b ||| BitVec.twoPow 64 k else H b
theorem TB.put {w : World} {p n : Nat} {R : BitVec 64} {H H' : Nat → BitVec 64} (h : TB w p n R H) {b : Nat} (hb : b < 256) {V : BitVec 64} {v : Int} (hv : (V.toNat : Int) = v) (hH : ∀ j, j < 256 → H' j = if j = b then V else H j) : TB (w.setCell ⟨p, 2 + b, none⟩ (.int .u64 v)) p n R H' := by
  have k := Blk.set h (2 + b) (.int .u64 v)
  have e : (tbc n R H).set (2 + b) (.int .u64 v) = tbc n R H' := by
    unfold tbc
    rw [Nat.add_comm, List.set_cons_succ, List.set_cons_succ]
    congr 2
    apply List.ext_getElem?
    intro j
    rw [List.getElem?_set]
    by_cases hj : j < 256
    · by_cases e : b = j
      · subst e; simp [hj, hH b hj, uv, hv]
      · have e2 : ¬ j = b := fun x => e x.symm
        rw [if_neg e]; simp [hj, hH j hj, e2]
    · by_cases e : b = j
      · subst e; omega
      · rw [if_neg e]; simp [hj]
  rw [e] at k
  exact k
theorem TB.runs {w : World} {p n : Nat} {R : BitVec 64} {H : Nat → BitVec 64} (h : TB w p n R H) {V : BitVec 64} {v : Int} (hv : (V.toNat : Int) = v) : TB (w.setCell ⟨p, 1, none⟩ (.int .u64 v)) p n V H := by
  have k := Blk.set h 1 (.int .u64 v)
  have e : (tbc n R H).set 1 (.int .u64 v) = tbc n V H := by
    unfold tbc uv
    rw [hv]; rfl
  rw [e] at k
  exact k
theorem nt_step (k : Nat) (M : List UInt8) (c : UInt8) (H : Nat → BitVec 64) (j : Nat) : Tb.nt k (M ++ [c]) H j = if j = c.toNat then Tb.nt k M H j ||| BitVec.twoPow 64 k else Tb.nt k M H j := by
  unfold Tb.nt
  rw [List.any_append]
  by_cases e : j = c.toNat
  · subst e
    rw [if_pos rfl]
    have h1 : ([c].any fun d => d.toNat == c.toNat) = true := by simp
    rw [h1, Bool.or_true, if_pos rfl]
    cases (M.any fun d => d.toNat == c.toNat) with
    | true => rw [if_pos rfl, BitVec.or_assoc, BitVec.or_self]
    | false => rw [if_neg (by simp)]
  · rw [if_neg e]
    have h1 : ([c].any fun d => d.toNat == j) = false := by simp; omega
    rw [h1, Bool.or_false]
set_option maxRecDepth 20000 in
set_option maxHeartbeats 8000000 in
theorem tb_note (p n : Nat) (R : BitVec 64) (H : Nat → BitVec 64) (q : Nat) (hq : q < 64) (X : BitVec 256) (w : World) (h : TB w p n R H) :
    Calls Try.prog 67 #[.pointer (some ⟨p, 0, none⟩), .int .i64 q, Cs.sv X] w fun e w' => e = .returned (.tuple #[]) ∧ TB w' p n R (Tb.nt q (Cs.memT X 256) H) ∧ Chg [p] w w' := by
  obtain ⟨s, hs⟩ := text_mk (Cs.memT X 256)
  obtain ⟨t, ht⟩ : ∃ t, Cs.memT X 256 = t := ⟨_, rfl⟩
  obtain ⟨N, hN⟩ : ∃ N, s.size = N := ⟨_, rfl⟩
  have hN6 : N ≤ 256 := by
    have e : s.size = (Cs.memT X 256).length := size_of hs
    have := Cs.memT_le X
    omega
  have HS := Lib.hid (And.intro hs (show s.data.toList = t by rw [hs, ht]))
  have hplt := Blk.lt h
  have HI : Hid (SB (w.alloc (.cells #[.int .u64 (Cs.wd X 0), .int .u64 (Cs.wd X 1), .int .u64 (Cs.wd X 2), .int .u64 (Cs.wd X 3)] 39)) w.heap.size X ∧ TB (w.alloc (.cells #[.int .u64 (Cs.wd X 0), .int .u64 (Cs.wd X 1), .int .u64 (Cs.wd X 2), .int .u64 (Cs.wd X 3)] 39)) p n R H ∧ Chg [p] w (w.alloc (.cells #[.int .u64 (Cs.wd X 0), .int .u64 (Cs.wd X 1), .int .u64 (Cs.wd X 2), .int .u64 (Cs.wd X 3)] 39))) := Lib.hid ⟨SB.new w X, Blk.alloc h _, (Chg.refl _ _).alloc _⟩
  have s1 := shl_one q hq
  have q0 : (0 : Int) ≤ (q : Int) := by omega
  have us := Try.underlying9
  have ub := Try.underlying86
  have HU := Lib.hid (And.intro us ub)
  rw [ht]
  have HT := Lib.hid ht
  clear hs h ht us ub
  unfold Cs.sv
  go_enter Try.func67, Try.ntmps67
  go_upto_region 1 with fail
  revert HI
  generalize w.alloc (.cells #[.int .u64 (Cs.wd X 0), .int .u64 (Cs.wd X 1), .int .u64 (Cs.wd X 2), .int .u64 (Cs.wd X 3)] 39) = W0
  intro HI
  have x0 := HI.out.1.at (i := 0) (by decide)
  have x1 := HI.out.1.at (i := 1) (by decide)
  have x2 := HI.out.1.at (i := 2) (by decide)
  have x3 := HI.out.1.at (i := 3) (by decide)
  go_upto_region 2 with (go_at_call 79; rw [sv_def X]; refine (cs_bytes X s HS.out.1 _).mono ?_; rintro e W1 ⟨rfl, hb1⟩; obtain ⟨V, cap, hcv, kb, kl, kc⟩ := bytes_laid W1 s; have hcv2 := hcv _ _ HU.out.1 HU.out.2; rw [hN] at hcv2; obtain ⟨g, hg⟩ : ∃ g, W1.heap.size = g := ⟨_, rfl⟩; have HB : Hid ((TB V p n R (Tb.nt q (t.take 0) H) ∧ Chg [p] w V ∧ g < V.heap.size ∧ (∀ j (hj : j < s.size), V.cell? ⟨g, j, none⟩ = some (.int .u8 s[j].toNat))) ∧ p < g) := Lib.hid (by
    have h1 := TB.below HI.out.2.1 hb1
    have hp1 := Blk.lt h1
    refine ⟨⟨Blk.below h1 kb hp1, (HI.out.2.2.trans (Chg.of_fresh (l := []) hb1) (by simp)).trans (Chg.of_fresh (l := []) kb) (by simp), by rw [← hg]; exact kl, by rw [← hg]; exact kc⟩, by rw [← hg]; exact hp1⟩); rw [hg] at hcv2; clear hb1 kb kl kc hcv x0 x1 x2 x3)
  clear HI
  go_wp2_with fail
  go_loopw [12] (fun i wr => ∃ k : Nat, i = .int .i64 k ∧ k ≤ N ∧ Hid (TB wr p n R (Tb.nt q (t.take k) H) ∧ Chg [p] w wr ∧ g < wr.heap.size ∧ (∀ j (hj : j < s.size), wr.cell? ⟨g, j, none⟩ = some (.int .u8 s[j].toNat)))) (fun i _ => N - (intOf i).toNat)
  case atStart => exact ⟨0, rfl, by omega, Lib.hid HB.out.1⟩
  case round =>
    have hpg := HB.out.2
    clear HB hcv2
    obtain ⟨k, rfl, hk, HB⟩ := hrel
    have k0 : (0 : Int) ≤ (k : Int) := by omega
    by_cases hkN : k < N
    · have hks : k < s.size := by omega
      obtain ⟨c, hc⟩ : ∃ c, s[k] = c := ⟨_, rfl⟩
      have ce := HB.out.2.2.2 k hks
      rw [hc] at ce
      have HCt : Hid (t.take (k + 1) = t.take k ++ [c]) := Lib.hid (by
        have : t[k]? = some c := by rw [← HS.out.2, byte_at hks, hc]
        rw [List.take_add_one, this]; rfl)
      obtain ⟨b, hb⟩ : ∃ b, c.toNat = b := ⟨_, rfl⟩
      have hb2 : b < 256 := by rw [← hb]; exact c.toNat_lt
      obtain ⟨hv, hhv⟩ : ∃ x : Int, ((Tb.nt q (t.take k) H b).toNat : Int) = x := ⟨_, rfl⟩
      obtain ⟨v, hvv⟩ : ∃ x : Int, ((Tb.nt q (t.take k) H b ||| BitVec.twoPow 64 q).toNat : Int) = x := ⟨_, rfl⟩
      have a1 : bits BinOp.or IntKind.u64 hv (2 ^ q) = v := by rw [← hhv, ← hvv, ← u_bit q hq]; exact u_or _ _
      have ch := HB.out.1.ch hb2
      rw [hhv] at ch
      have cf := Blk.free HB.out.1 (2 + b)
      rw [hb] at ce
      have HN : Hid (TB (wr.setCell ⟨p, 2 + b, none⟩ (.int .u64 v)) p n R (Tb.nt q (t.take (k + 1)) H) ∧ Chg [p] w (wr.setCell ⟨p, 2 + b, none⟩ (.int .u64 v)) ∧ g < (wr.setCell ⟨p, 2 + b, none⟩ (.int .u64 v)).heap.size ∧ (∀ j (hj : j < s.size), (wr.setCell ⟨p, 2 + b, none⟩ (.int .u64 v)).cell? ⟨g, j, none⟩ = some (.int .u8 s[j].toNat))) := Lib.hid ⟨HB.out.1.put hb2 hvv (fun j _ => if e : j = b then by rw [HCt.out, nt_step, hb, if_pos e, if_pos e, e] else by rw [HCt.out, nt_step, hb, if_neg e, if_neg e]), HB.out.2.1.set (Or.inl (by simp)) _ _, by simpa using HB.out.2.2.1, fun j hj => by
        have e0 := HB.out.2.2.2 j hj
        rw [← e0]
        exact Chg.cell (l := [p]) ((Chg.refl [p] wr).set (Or.inl (by simp)) _ _) (p := ⟨g, j, none⟩) HB.out.2.2.1 (by simp; omega)⟩
      have b0 : (0 : Int) ≤ (b : Int) := by omega
      have b3 : (b : Int) < 256 := by omega
      clear hc hhv hvv hb
      go_wp2_with fail
      go_region
      have HNd : Hid (TB (wr.setCell ⟨p, 2 + b, none⟩ (.int .u64 v)).drew p n R (Tb.nt q (t.take (k + 1)) H) ∧ Chg [p] w (wr.setCell ⟨p, 2 + b, none⟩ (.int .u64 v)).drew ∧ g < (wr.setCell ⟨p, 2 + b, none⟩ (.int .u64 v)).drew.heap.size ∧ (∀ j (hj : j < s.size), (wr.setCell ⟨p, 2 + b, none⟩ (.int .u64 v)).drew.cell? ⟨g, j, none⟩ = some (.int .u8 s[j].toNat))) := Lib.hid ⟨Blk.drew HN.out.1, HN.out.2.1.drew, HN.out.2.2.1, HN.out.2.2.2⟩
      go_wp2
      refine ⟨?_, ?measure⟩
      case measure => simp [intOf]; omega
      first
        | exact ⟨k + 1, by go_num, by omega, HNd⟩
        | exact ⟨k + 1, by go_num, by omega, HN⟩
        | ((repeat apply Exists.intro); exact ⟨⟨k + 1, by go_num, by omega, HNd⟩, rfl⟩)
    · obtain rfl : k = N := by omega
      go_wp2
      go_end0
      exact ⟨rfl, by rw [show t = t.take k from (List.take_of_length_le (by rw [← HS.out.2]; simp; omega)).symm]; exact HB.out.1, HB.out.2.1⟩
end Go.Proofs.Ytjedjnpepjdgeaa
