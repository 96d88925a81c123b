/- Events: what is gathered of one: add, begin, done. -/
import Derived.Test.YtdchedkhlfmpeaaDoorEv6
import Derived.Lib.BufferRead
import Derived.Lib.SlBytesRow
import Derived.WalkKit
import Derived.ProofKit
import Derived.Handy
import Derived.WalkLawsBesides
import Derived.WalkSpells
import Derived.Lib.Hide
import Derived.Lib.SliceRun
import Derived.Deep.RegionLaw
import Derived.RegionTactic
import Derived.ChangeAlike
import Derived.WalkSmall
import Derived.Deep.QuietTactic
import Derived.BigQuiet
import Derived.OwnWalk
import Derived.Outline
import Derived.Deep.CutRange
import Derived.Deep.CutBlock
import Derived.LoopTactic
namespace Go.Proofs.YtdchedkhlfmpeaaDoor
open Go.ChangeShapes Go.WideShapes Go.ChangeAt Go.RowKit
set_option linter.unusedSimpArgs false
set_option linter.unusedVariables false

theorem bv_rd (T : List Ev) (x : Ev) : bv (Pj.rd (T ++ [x])) = if x.k = 4 then bv (Pj.rd T) ++ bv x.b else bv (Pj.rd T) := by
  rw [Pj.rd_snoc]; split
  · exact bv_append _ _
  · rfl
theorem bv_tk (T : List Ev) (x : Ev) : bv (Pj.tk (T ++ [x])) = if x.k = 6 then bv (Pj.tk T) ++ bv x.b else bv (Pj.tk T) := by
  rw [Pj.tk_snoc]; split
  · exact bv_append _ _
  · rfl
theorem TK.drained {w0 : World} {b0 : List Nat} {w : World} {B p : Nat} {id sc fr : Int} {T : List Ev} (h : TK w0 b0 w B p id sc fr T) {l : List Nat} {w' : World} (k : Chg [] w w') : TK w0 b0 w' B p id sc fr T := by
  obtain ⟨r1, c1, r2, c2, r3, c3, r4, c4, r5, c5, h⟩ := h
  exact ⟨r1, c1, r2, c2, r3, c3, r4, c4, r5, c5, h.same k⟩
theorem TK.chg0 {w0 : World} {b0 : List Nat} {w : World} {B p : Nat} {id sc fr : Int} {T : List Ev} (h : TK w0 b0 w B p id sc fr T) : Chg b0 w0 w := by
  obtain ⟨r1, c1, r2, c2, r3, c3, r4, c4, r5, c5, h⟩ := h
  exact h.ch
set_option maxRecDepth 20000 in
set_option maxHeartbeats 16000000 in
theorem pj_addno (k i n t : Int) (b : ByteArray) (e s0 s1 s2 s3 s4 s5 : Int) (hk : k ≠ 4 ∧ k ≠ 5 ∧ k ≠ 6 ∧ k ≠ 8) (w0 : World) (b0 : List Nat) (B p : Nat) (id sc fr : Int) (eo : Bool) (st : Int) (hst : k = 7 → st ≠ 0) (r1 : Option Addr) (n1 c1 : Nat) (L1 : List Value) (r2 : Option Addr) (n2 c2 : Nat) (L2 : List Value) (r3 : Option Addr) (n3 c3 : Nat) (L3 : List Value) (r4 : Option Addr) (n4 c4 : Nat) (L4 : List Value) (r5 : Option Addr) (n5 c5 : Nat) (L5 : List Value) (w : World) (H : TO w0 b0 w B p id sc fr eo st r1 n1 c1 L1 r2 n2 c2 L2 r3 n3 c3 L3 r4 n4 c4 L4 r5 n5 c5 L5) :
    Calls Tryd.prog 40 #[.pointer (some ⟨p, 0, none⟩), .agg #[.int .i64 k, .int .i64 i, .int .i64 n, .int .i64 t, .string b, .int .i64 e, .int .i64 s0, .int .i64 s1, .int .i64 s2, .int .i64 s3, .int .i64 s4, .int .i64 s5]] w fun r w' => r = .returned (.tuple #[]) ∧ TO w0 b0 w' B p id sc fr eo st r1 n1 c1 L1 r2 n2 c2 L2 r3 n3 c3 L3 r4 n4 c4 L4 r5 n5 c5 L5 := by
  have H1 : Hid (TA w0 b0 ((w.alloc (.cells #[.int .i64 k, .int .i64 i, .int .i64 n, .int .i64 t, .string b, .int .i64 e, .int .i64 s0, .int .i64 s1, .int .i64 s2, .int .i64 s3, .int .i64 s4, .int .i64 s5] 46)).alloc (.cells #[.int .i64 0, .string ⟨#[]⟩, .int .i64 0, .int .i64 0] 90)) B p id sc fr eo st r1 n1 c1 L1 r2 n2 c2 L2 r3 n3 c3 L3 r4 n4 c4 L4 r5 n5 c5 L5 w.heap.size ⟨k, i, n, t, b, e, s0, s1, s2, s3, s4, s5⟩ [.int .i64 0, .string ⟨#[]⟩, .int .i64 0, .int .i64 0]) := Lib.hid (by
    have hl := H.lt
    refine ⟨(H.alloc _).alloc _, (Blk.newA w #[.int .i64 k, .int .i64 i, .int .i64 n, .int .i64 t, .string b, .int .i64 e, .int .i64 s0, .int .i64 s1, .int .i64 s2, .int .i64 s3, .int .i64 s4, .int .i64 s5] 46).alloc _, ?_, H.ch.size, fun hh => absurd (hl _ hh) (by omega), fun hh => absurd (hl _ hh) (by omega)⟩
    have := Blk.newA (w.alloc (.cells #[.int .i64 k, .int .i64 i, .int .i64 n, .int .i64 t, .string b, .int .i64 e, .int .i64 s0, .int .i64 s1, .int .i64 s2, .int .i64 s3, .int .i64 s4, .int .i64 s5] 46)) #[.int .i64 0, .string ⟨#[]⟩, .int .i64 0, .int .i64 0] 90
    rw [World.size_alloc] at this
    exact this)
  clear H
  go_enter Tryd.func40, Tryd.ntmps40
  go_upto_region 2 with fail
  revert H1
  generalize ((w.alloc (.cells #[.int .i64 k, .int .i64 i, .int .i64 n, .int .i64 t, .string b, .int .i64 e, .int .i64 s0, .int .i64 s1, .int .i64 s2, .int .i64 s3, .int .i64 s4, .int .i64 s5] 46)).alloc (.cells #[.int .i64 0, .string ⟨#[]⟩, .int .i64 0, .int .i64 0] 90)) = W1
  generalize w.heap.size = X
  intro H1
  have d0 := H1.out.ev.cell (i := 0) rfl
  have k4 : (k == 4) = false := by simp [hk.1]
  have k5 : (k == 5) = false := by simp [hk.2.1]
  have k6 : (k == 6) = false := by simp [hk.2.2.1]
  have k8 : (k == 8) = false := by simp [hk.2.2.2]
  by_cases h7 : k = 7
  · have hs := hst h7
    subst h7
    have p8 := H1.out.o.blk.cell (i := 8) rfl
    have b8 : (st != 0) = true := by simp [hs]
    clear hk hst hs k4 k5 k6 k8
    go_wp2_with fail
    ((try simp only [Exit.inBlock, Exit.then]); refine bodyPost_ret (results_none rfl _ _ _) rfl ?_)
    exact ⟨rfl, H1.out.o⟩
  · have k7 : (k == 7) = false := by simp [h7]
    clear hk hst h7
    go_wp2_with fail
    ((try simp only [Exit.inBlock, Exit.then]); refine bodyPost_ret (results_none rfl _ _ _) rfl ?_)
    exact ⟨rfl, H1.out.o⟩
/-- An event more. -/
theorem pj_add (k i n t : Int) (b : ByteArray) (e s0 s1 s2 s3 s4 s5 : Int) (w0 : World) (b0 : List Nat) (B p : Nat) (id sc fr : Int) (T T2 : List Ev) (hT : Pj.one ⟨k, i, n, t, b, e, s0, s1, s2, s3, s4, s5⟩ T = T2) (hn : T.length ≤ 100000) (hr : (Pj.rd T).size + b.size ≤ 1000000) (ht : (Pj.tk T).size + b.size ≤ 1000000) (w : World) (H : TK w0 b0 w B p id sc fr T) :
    Calls Tryd.prog 40 #[.pointer (some ⟨p, 0, none⟩), .agg #[.int .i64 k, .int .i64 i, .int .i64 n, .int .i64 t, .string b, .int .i64 e, .int .i64 s0, .int .i64 s1, .int .i64 s2, .int .i64 s3, .int .i64 s4, .int .i64 s5]] w fun r w' => r = .returned (.tuple #[]) ∧ TK w0 b0 w' B p id sc fr T2 := by
  obtain ⟨r1, c1, r2, c2, r3, c3, r4, c4, r5, c5, H⟩ := H
  have hns := Pj.nst_le T
  by_cases h4 : k = 4
  · subst h4
    refine (pj_add4 i n t b e s0 s1 s2 s3 s4 s5 w0 b0 B p id sc fr _ _ r1 _ c1 _ r2 _ c2 _ r3 _ c3 _ r4 _ c4 _ r5 _ c5 _ hn hn hr w H).mono ?_
    rintro r w' ⟨gT, kT, gA, kA, gC, kC, rfl, hh⟩
    rw [Pj.one_yes (Or.inl rfl)] at hT
    subst hT
    refine ⟨rfl, some ⟨gA, 0, none⟩, kA, r2, c2, some ⟨gC, 0, none⟩, kC, gT, kT, r5, c5, ?_⟩
    rw [Pj.eof_snoc, Pj.ss_snoc, Pj.ins_snoc, Pj.nst_snoc, Pj.sts_snoc, evs_snoc, bv_rd, bv_tk, Pj.rd_snoc, Pj.tk_snoc, List.length_append]
    simpa [Pj.inC, Ev.c, ByteArray.size_append] using hh
  by_cases h5 : k = 5
  · subst h5
    refine (pj_add5 i n t b e s0 s1 s2 s3 s4 s5 w0 b0 B p id sc fr _ _ r1 _ c1 _ r2 _ c2 _ r3 _ c3 _ r4 _ c4 _ r5 _ c5 _ hn hn w H).mono ?_
    rintro r w' ⟨gA, kA, gC, kC, rfl, hh⟩
    rw [Pj.one_yes (Or.inr (Or.inl rfl))] at hT
    subst hT
    refine ⟨rfl, some ⟨gA, 0, none⟩, kA, r2, c2, some ⟨gC, 0, none⟩, kC, r4, c4, r5, c5, ?_⟩
    rw [Pj.eof_snoc, Pj.ss_snoc, Pj.ins_snoc, Pj.nst_snoc, Pj.sts_snoc, evs_snoc, bv_rd, bv_tk, Pj.rd_snoc, Pj.tk_snoc, List.length_append]
    simpa [Pj.inC, Ev.c, ByteArray.size_append] using hh
  by_cases h6 : k = 6
  · subst h6
    refine (pj_add6 i n t b e s0 s1 s2 s3 s4 s5 w0 b0 B p id sc fr _ _ r1 _ c1 _ r2 _ c2 _ r3 _ c3 _ r4 _ c4 _ r5 _ c5 _ hn hn ht w H).mono ?_
    rintro r w' ⟨gT, kT, gA, kA, gC, kC, rfl, hh⟩
    rw [Pj.one_yes (Or.inr (Or.inr (Or.inl rfl)))] at hT
    subst hT
    refine ⟨rfl, some ⟨gA, 0, none⟩, kA, r2, c2, some ⟨gC, 0, none⟩, kC, r4, c4, gT, kT, ?_⟩
    rw [Pj.eof_snoc, Pj.ss_snoc, Pj.ins_snoc, Pj.nst_snoc, Pj.sts_snoc, evs_snoc, bv_rd, bv_tk, Pj.rd_snoc, Pj.tk_snoc, List.length_append]
    simpa [Pj.inC, Ev.c, ByteArray.size_append] using hh
  by_cases h8 : k = 8
  · subst h8
    refine (pj_add8 i n t b e s0 s1 s2 s3 s4 s5 w0 b0 B p id sc fr _ _ r1 _ c1 _ r2 _ c2 _ r3 _ c3 _ r4 _ c4 _ r5 _ c5 _ hn hn (Nat.le_trans hns hn) w H).mono ?_
    rintro r w' ⟨gT, kT, gA, kA, gC, kC, rfl, hh⟩
    rw [Pj.one_yes (Or.inr (Or.inr (Or.inr rfl)))] at hT
    subst hT
    refine ⟨rfl, some ⟨gA, 0, none⟩, kA, some ⟨gT, 0, none⟩, kT, some ⟨gC, 0, none⟩, kC, r4, c4, r5, c5, ?_⟩
    rw [Pj.eof_snoc, Pj.ss_snoc, Pj.ins_snoc, Pj.nst_snoc, Pj.sts_snoc, evs_snoc, bv_rd, bv_tk, Pj.rd_snoc, Pj.tk_snoc, List.length_append]
    simpa [Pj.inC, Ev.c, Ev.st, ByteArray.size_append] using hh
  by_cases h7 : k = 7 ∧ Pj.ss T = 0
  · obtain ⟨h7, hs⟩ := h7
    subst h7
    refine (pj_add7 i n t b e s0 s1 s2 s3 s4 s5 w0 b0 B p id sc fr _ _ r1 _ c1 _ r2 _ c2 _ r3 _ c3 _ r4 _ c4 _ r5 _ c5 _ hn hn hs w H).mono ?_
    rintro r w' ⟨gA, kA, gC, kC, rfl, hh⟩
    have e1 : Pj.one ⟨7, i, n, t, b, e, s0, s1, s2, s3, s4, s5⟩ T = T ++ [⟨7, i, n, t, b, e, s0, s1, s2, s3, s4, s5⟩] := by unfold Pj.one; rw [if_pos (by simp [hs])]
    rw [e1] at hT
    subst hT
    refine ⟨rfl, some ⟨gA, 0, none⟩, kA, r2, c2, some ⟨gC, 0, none⟩, kC, r4, c4, r5, c5, ?_⟩
    rw [Pj.eof_snoc, Pj.ss_snoc, Pj.ins_snoc, Pj.nst_snoc, Pj.sts_snoc, evs_snoc, bv_rd, bv_tk, Pj.rd_snoc, Pj.tk_snoc, List.length_append]
    simpa [Pj.inC, Ev.c, ByteArray.size_append, hs] using hh
  · have e1 : Pj.one ⟨k, i, n, t, b, e, s0, s1, s2, s3, s4, s5⟩ T = T := by
      unfold Pj.one; rw [if_neg]
      simp only [h4, h5, h6, h8, false_or]
      exact h7
    rw [e1] at hT
    subst hT
    refine (pj_addno k i n t b e s0 s1 s2 s3 s4 s5 ⟨h4, h5, h6, h8⟩ w0 b0 B p id sc fr _ _ (fun e hs => h7 ⟨e, hs⟩) r1 _ c1 _ r2 _ c2 _ r3 _ c3 _ r4 _ c4 _ r5 _ c5 _ w H).mono ?_
    rintro r w' ⟨rfl, hh⟩
    exact ⟨rfl, r1, c1, r2, c2, r3, c3, r4, c4, r5, c5, hh⟩
set_option maxRecDepth 20000 in
set_option maxHeartbeats 16000000 in
theorem pj_begin (k i n t : Int) (b : ByteArray) (e s0 s1 s2 s3 s4 s5 now : Int) (w : World) :
    Calls Tryd.prog 38 #[.agg #[.int .i64 k, .int .i64 i, .int .i64 n, .int .i64 t, .string b, .int .i64 e, .int .i64 s0, .int .i64 s1, .int .i64 s2, .int .i64 s3, .int .i64 s4, .int .i64 s5], .int .i64 now] w fun r w' => ∃ p, r = .returned (.pointer (some ⟨p, 0, none⟩)) ∧ TK w [] w' w.heap.size p i n now [] := by
  have H0 : Hid (Blk (w.alloc (.cells #[.int .i64 k, .int .i64 i, .int .i64 n, .int .i64 t, .string b, .int .i64 e, .int .i64 s0, .int .i64 s1, .int .i64 s2, .int .i64 s3, .int .i64 s4, .int .i64 s5] 46)) w.heap.size [.int .i64 k, .int .i64 i, .int .i64 n, .int .i64 t, .string b, .int .i64 e, .int .i64 s0, .int .i64 s1, .int .i64 s2, .int .i64 s3, .int .i64 s4, .int .i64 s5] 46 ∧ Below w.heap.size w (w.alloc (.cells #[.int .i64 k, .int .i64 i, .int .i64 n, .int .i64 t, .string b, .int .i64 e, .int .i64 s0, .int .i64 s1, .int .i64 s2, .int .i64 s3, .int .i64 s4, .int .i64 s5] 46))) := Lib.hid ⟨Blk.newA _ _ _, (Below.refl _ _).alloc (Nat.le_refl _) _⟩
  go_enter Tryd.func38, Tryd.ntmps38
  go_upto_region 1 with fail
  revert H0
  generalize (w.alloc (.cells #[.int .i64 k, .int .i64 i, .int .i64 n, .int .i64 t, .string b, .int .i64 e, .int .i64 s0, .int .i64 s1, .int .i64 s2, .int .i64 s3, .int .i64 s4, .int .i64 s5] 46)) = W0
  intro H0
  have d1 := H0.out.1.cell (i := 1) rfl
  have d2 := H0.out.1.cell (i := 2) rfl
  have hs := H0.out.2.size
  go_wp2_with fail
  go_ret
  refine ⟨W0.heap.size, rfl, none, 0, none, 0, none, 0, none, 0, none, 0, ?_⟩
  have hb : Chg [] w (W0.alloc (.cells #[.int .i64 i, .int .i64 n, .int .i64 now, .slice none 0 0, .slice none 0 0, .string ⟨#[]⟩, .string ⟨#[]⟩, .bool false, .int .i64 0, .slice none 0 0, .slice none 0 0, .slice none 0 0] 112)) := Chg.of_fresh (H0.out.2.alloc hs _)
  have hz := hb.size
  exact ⟨Blk.newA _ _ _, RM.nil _ _ _ _ hz, RM.nil _ _ _ _ hz, RM.nil _ _ _ _ hz, RM.nil _ _ _ _ hz, RM.nil _ _ _ _ hz, by simp [rvB], hb, by simp [toB, rvB]; exact hs⟩
/-- A row of bytes, as a text. -/
theorem run_convert_rb {w : World} {B : Nat} {r : Option Addr} {n c : Nat} {S : ByteArray} (h : RM w B r n c 1 (bv S) 5) : (convert 62 9 (.slice r n c)).run Tryd.prog w = .ok (.string S) w := by
  obtain ⟨h0, _, ⟨h2, h3, h4⟩ | ⟨g, h2, _, rest, q1, q2, q3⟩⟩ := h
  · subst h2 h3
    rw [bv_length] at h0
    have hE : S = ⟨#[]⟩ := ByteArray.ext (Array.eq_empty_of_size_eq_zero (by rw [Nat.zero_mul] at h0; exact h0))
    rw [hE]
    exact Lib.run_convert_nil_bytes w 62 9 5 c Tryd.underlying62 Tryd.underlying5 Tryd.underlying9
  · subst h2
    rw [bv_length] at h0
    have hB : Lib.Bytes w g 0 S := by
      intro i hi
      rw [Nat.zero_add]
      exact q3.cell (by rw [List.getElem?_append_left (by rw [bv_length]; exact hi)]; exact bv_at S i hi)
    have hcv := Lib.run_convert_window (P := Tryd.prog) w 62 5 9 Tryd.underlying62 Tryd.underlying5 Tryd.underlying9 g 0 S hB 0 n c (by omega)
    have e : S.extract 0 (0 + n) = S := by rw [Nat.zero_add, show n = S.size by omega]; simp
    rw [e, Nat.add_zero] at hcv
    exact hcv
set_option maxRecDepth 20000 in
set_option maxHeartbeats 16000000 in
theorem pj_done (w0 : World) (b0 : List Nat) (B p : Nat) (hBp : B ≤ p) (id sc fr : Int) (T : List Ev) (w : World) (H : TK w0 b0 w B p id sc fr T) (eo : Bool) (he : Pj.eof T = eo) (st : Int) (hs : Pj.ss T = st) (rd tk : ByteArray) (hr : Pj.rd T = rd) (ht : Pj.tk T = tk) (nT nS : Nat) (hn : T.length = nT) (hN : (Pj.stE T).length = nS) (I S : List Value) (hI : Pj.ins T = I) (hS : Pj.sts T = S) :
    Calls Tryd.prog 41 #[.pointer (some ⟨p, 0, none⟩)] w fun r w' => ∃ r1 c1 r2 c2, r = .returned (.agg #[.int .i64 id, .int .i64 sc, .int .i64 fr, .slice r1 nT c1, .slice r2 nS c2, .string rd, .string tk, .bool eo, .int .i64 st]) ∧ RM w' B r1 nT c1 4 I 90 ∧ RM w' B r2 nS c2 6 S 44 ∧ Chg b0 w0 w' := by
  obtain ⟨r1, c1, r2, c2, r3, c3, r4, c4, r5, c5, H⟩ := H
  rw [he, hs, hr, ht, hn, hN, hI, hS] at H
  have hc4 := run_convert_rb H.m4
  have hc5 := run_convert_rb H.m5
  obtain ⟨m4, hm4⟩ : ∃ m, rd.size = m := ⟨_, rfl⟩
  obtain ⟨m5, hm5⟩ : ∃ m, tk.size = m := ⟨_, rfl⟩
  rw [hm4, hm5] at H
  rw [hm4] at hc4
  rw [hm5] at hc5
  have hb := H.blk
  have H0 : Hid (TO w0 b0 (w.alloc (.cells #[.int .i64 0, .int .i64 0, .int .i64 0, .slice none 0 0, .slice none 0 0, .string ⟨#[]⟩, .string ⟨#[]⟩, .bool false, .int .i64 0] 71)) B p id sc fr eo st r1 nT c1 I r2 nS c2 S r3 nT c3 (evs T) r4 m4 c4 (bv rd) r5 m5 c5 (bv tk) ∧ Blk (w.alloc (.cells #[.int .i64 0, .int .i64 0, .int .i64 0, .slice none 0 0, .slice none 0 0, .string ⟨#[]⟩, .string ⟨#[]⟩, .bool false, .int .i64 0] 71)) w.heap.size [.int .i64 0, .int .i64 0, .int .i64 0, .slice none 0 0, .slice none 0 0, .string ⟨#[]⟩, .string ⟨#[]⟩, .bool false, .int .i64 0] 71 ∧ p < w.heap.size ∧ w0.heap.size ≤ w.heap.size) := Lib.hid ⟨H.alloc _, Blk.newA _ _ _, H.blk.lt, H.ch.size⟩
  clear H hc4 hc5 hb he hs hr ht hn hN hI hS
  go_enter Tryd.func41, Tryd.ntmps41
  go_upto_region 1 with fail
  revert H0
  generalize (w.alloc (.cells #[.int .i64 0, .int .i64 0, .int .i64 0, .slice none 0 0, .slice none 0 0, .string ⟨#[]⟩, .string ⟨#[]⟩, .bool false, .int .i64 0] 71)) = W1
  generalize w.heap.size = X
  intro H0
  have hc4 : (convert 62 9 (.slice r4 m4 c4)).run Tryd.prog W1.drew = .ok (.string rd) W1.drew := by
    have := run_convert_rb H0.out.1.drew.m4; exact this
  have hc5 : (convert 62 9 (.slice r5 m5 c5)).run Tryd.prog W1.drew = .ok (.string tk) W1.drew := by
    have := run_convert_rb H0.out.1.drew.m5; exact this
  have p10 : W1.drew.cell? ⟨p, 10, none⟩ = some (.slice r4 m4 c4) := H0.out.1.blk.cell (i := 10) rfl
  have p11 : W1.drew.cell? ⟨p, 11, none⟩ = some (.slice r5 m5 c5) := H0.out.1.blk.cell (i := 11) rfl
  have p5 : W1.drew.cell? ⟨p, 5, none⟩ = some (.string ⟨#[]⟩) := H0.out.1.blk.cell (i := 5) rfl
  have p6 : W1.drew.cell? ⟨p, 6, none⟩ = some (.string ⟨#[]⟩) := H0.out.1.blk.cell (i := 6) rfl
  have f5 : W1.drew.frozen? ⟨p, 5, none⟩ = false := H0.out.1.blk.free 5
  have f6 : W1.drew.frozen? ⟨p, 6, none⟩ = false := H0.out.1.blk.free 6
  have p5b : W1.cell? ⟨p, 5, none⟩ = some (.string ⟨#[]⟩) := p5
  have p6b : W1.cell? ⟨p, 6, none⟩ = some (.string ⟨#[]⟩) := p6
  have f5b : W1.frozen? ⟨p, 5, none⟩ = false := f5
  have f6b : W1.frozen? ⟨p, 6, none⟩ = false := f6
  go_cut [] from 3 to 20 (fun wx => Hid ((Blk wx p [.int .i64 id, .int .i64 sc, .int .i64 fr, .slice r1 nT c1, .slice r2 nS c2, .string rd, .string tk, .bool eo, .int .i64 st, .slice r3 nT c3, .slice r4 m4 c4, .slice r5 m5 c5] 112 ∧ RM wx B r1 nT c1 4 I 90 ∧ RM wx B r2 nS c2 6 S 44 ∧ p ∉ rvB r1 ∧ p ∉ rvB r2) ∧ Chg b0 w0 wx ∧ Blk wx X [.int .i64 0, .int .i64 0, .int .i64 0, .slice none 0 0, .slice none 0 0, .string ⟨#[]⟩, .string ⟨#[]⟩, .bool false, .int .i64 0] 71 ∧ X ≠ p ∧ w0.heap.size ≤ X))
  case first =>
    go_region_law (fail)
    all_goals
      go_wp2_with fail
      go_meet
      have k2 : ∀ i v, Chg [p] W1.drew (W1.drew.setCell ⟨p, i, none⟩ v) := fun i v => (Chg.refl [p] W1.drew).set (Or.inl (by simp)) _ _
      have k1 : Chg [p] W1.drew ((W1.drew.setCell ⟨p, 5, none⟩ (.string rd)).setCell ⟨p, 6, none⟩ (.string tk)) := (k2 5 _).set (Or.inl (by simp)) _ _
      have go : ∀ {r : Option Addr}, p ∉ rvB r → ∀ g ∈ rvB r, g ∉ [p] := fun hp g hg h => by simp at h; subst h; exact hp hg
      obtain ⟨q1, q2, q3, q4, q5⟩ := H0.out.1.pB
      exact Lib.hid ⟨⟨(H0.out.1.drew.blk.set 5 _).set 6 _, H0.out.1.drew.m1.chg k1 (go q1), H0.out.1.drew.m2.chg k1 (go q2), q1, q2⟩, H0.out.1.drew.ch.trans k1 (by simp; exact H0.out.1.fr0 p (by simp [toB])), (H0.out.2.1.drew).chg k1 (by simp; have := H0.out.2.2.1; omega), by have := H0.out.2.2.1; omega, H0.out.2.2.2⟩
  case rest =>
    have H2 := hcut
    clear hcut
    have e0 := H2.out.1.1.cell (i := 0) rfl
    have e1 := H2.out.1.1.cell (i := 1) rfl
    have e2 := H2.out.1.1.cell (i := 2) rfl
    have e3 := H2.out.1.1.cell (i := 3) rfl
    have e4 := H2.out.1.1.cell (i := 4) rfl
    have e5 := H2.out.1.1.cell (i := 5) rfl
    have e6 := H2.out.1.1.cell (i := 6) rfl
    have e7 := H2.out.1.1.cell (i := 7) rfl
    have e8 := H2.out.1.1.cell (i := 8) rfl
    have z0 := H2.out.2.2.1.cell (i := 0) rfl
    have fz0 := H2.out.2.2.1.free 0
    have z1 := H2.out.2.2.1.cell (i := 1) rfl
    have fz1 := H2.out.2.2.1.free 1
    have z2 := H2.out.2.2.1.cell (i := 2) rfl
    have fz2 := H2.out.2.2.1.free 2
    have z3 := H2.out.2.2.1.cell (i := 3) rfl
    have fz3 := H2.out.2.2.1.free 3
    have z4 := H2.out.2.2.1.cell (i := 4) rfl
    have fz4 := H2.out.2.2.1.free 4
    have z5 := H2.out.2.2.1.cell (i := 5) rfl
    have fz5 := H2.out.2.2.1.free 5
    have z6 := H2.out.2.2.1.cell (i := 6) rfl
    have fz6 := H2.out.2.2.1.free 6
    have z7 := H2.out.2.2.1.cell (i := 7) rfl
    have fz7 := H2.out.2.2.1.free 7
    have z8 := H2.out.2.2.1.cell (i := 8) rfl
    have fz8 := H2.out.2.2.1.free 8
    go_wp2_with fail
    have k9 : Chg [X] wc (((((((((wc.setCell ⟨X, 0, none⟩ (.int .i64 id)).setCell ⟨X, 1, none⟩ (.int .i64 sc)).setCell ⟨X, 2, none⟩ (.int .i64 fr)).setCell ⟨X, 3, none⟩ (.slice r1 nT c1)).setCell ⟨X, 4, none⟩ (.slice r2 nS c2)).setCell ⟨X, 5, none⟩ (.string rd)).setCell ⟨X, 6, none⟩ (.string tk)).setCell ⟨X, 7, none⟩ (.bool eo)).setCell ⟨X, 8, none⟩ (.int .i64 st)) := ((((((((((Chg.refl [X] wc).set (Or.inl (by simp)) _ _).set (Or.inl (by simp)) _ _).set (Or.inl (by simp)) _ _).set (Or.inl (by simp)) _ _).set (Or.inl (by simp)) _ _).set (Or.inl (by simp)) _ _).set (Or.inl (by simp)) _ _).set (Or.inl (by simp)) _ _).set (Or.inl (by simp)) _ _)
    have HZ : Hid (Blk (((((((((wc.setCell ⟨X, 0, none⟩ (.int .i64 id)).setCell ⟨X, 1, none⟩ (.int .i64 sc)).setCell ⟨X, 2, none⟩ (.int .i64 fr)).setCell ⟨X, 3, none⟩ (.slice r1 nT c1)).setCell ⟨X, 4, none⟩ (.slice r2 nS c2)).setCell ⟨X, 5, none⟩ (.string rd)).setCell ⟨X, 6, none⟩ (.string tk)).setCell ⟨X, 7, none⟩ (.bool eo)).setCell ⟨X, 8, none⟩ (.int .i64 st)) X [.int .i64 id, .int .i64 sc, .int .i64 fr, .slice r1 nT c1, .slice r2 nS c2, .string rd, .string tk, .bool eo, .int .i64 st] 71 ∧ RM (((((((((wc.setCell ⟨X, 0, none⟩ (.int .i64 id)).setCell ⟨X, 1, none⟩ (.int .i64 sc)).setCell ⟨X, 2, none⟩ (.int .i64 fr)).setCell ⟨X, 3, none⟩ (.slice r1 nT c1)).setCell ⟨X, 4, none⟩ (.slice r2 nS c2)).setCell ⟨X, 5, none⟩ (.string rd)).setCell ⟨X, 6, none⟩ (.string tk)).setCell ⟨X, 7, none⟩ (.bool eo)).setCell ⟨X, 8, none⟩ (.int .i64 st)) B r1 nT c1 4 I 90 ∧ RM (((((((((wc.setCell ⟨X, 0, none⟩ (.int .i64 id)).setCell ⟨X, 1, none⟩ (.int .i64 sc)).setCell ⟨X, 2, none⟩ (.int .i64 fr)).setCell ⟨X, 3, none⟩ (.slice r1 nT c1)).setCell ⟨X, 4, none⟩ (.slice r2 nS c2)).setCell ⟨X, 5, none⟩ (.string rd)).setCell ⟨X, 6, none⟩ (.string tk)).setCell ⟨X, 7, none⟩ (.bool eo)).setCell ⟨X, 8, none⟩ (.int .i64 st)) B r2 nS c2 6 S 44 ∧ Chg b0 w0 (((((((((wc.setCell ⟨X, 0, none⟩ (.int .i64 id)).setCell ⟨X, 1, none⟩ (.int .i64 sc)).setCell ⟨X, 2, none⟩ (.int .i64 fr)).setCell ⟨X, 3, none⟩ (.slice r1 nT c1)).setCell ⟨X, 4, none⟩ (.slice r2 nS c2)).setCell ⟨X, 5, none⟩ (.string rd)).setCell ⟨X, 6, none⟩ (.string tk)).setCell ⟨X, 7, none⟩ (.bool eo)).setCell ⟨X, 8, none⟩ (.int .i64 st))) := Lib.hid (by
      have n1 := rm_ty H2.out.1.2.1 H2.out.2.2.1 (by decide)
      have n2 := rm_ty H2.out.1.2.2.1 H2.out.2.2.1 (by decide)
      exact ⟨(((((((((H2.out.2.2.1.set 0 _).set 1 _).set 2 _).set 3 _).set 4 _).set 5 _).set 6 _).set 7 _).set 8 _), H2.out.1.2.1.chg k9 (fun g hg h => by simp at h; subst h; exact n1 hg), H2.out.1.2.2.1.chg k9 (fun g hg h => by simp at h; subst h; exact n2 hg), H2.out.2.1.trans k9 (by simp; exact Or.inr H2.out.2.2.2.2)⟩)
    clear k9 z0 fz0 z1 fz1 z2 fz2 z3 fz3 z4 fz4 z5 fz5 z6 fz6 z7 fz7 z8 fz8
    revert HZ
    generalize (((((((((wc.setCell ⟨X, 0, none⟩ (.int .i64 id)).setCell ⟨X, 1, none⟩ (.int .i64 sc)).setCell ⟨X, 2, none⟩ (.int .i64 fr)).setCell ⟨X, 3, none⟩ (.slice r1 nT c1)).setCell ⟨X, 4, none⟩ (.slice r2 nS c2)).setCell ⟨X, 5, none⟩ (.string rd)).setCell ⟨X, 6, none⟩ (.string tk)).setCell ⟨X, 7, none⟩ (.bool eo)).setCell ⟨X, 8, none⟩ (.int .i64 st)) = W9
    intro HZ
    have r0 := HZ.out.1.cell (i := 0) rfl
    have r1' := HZ.out.1.cell (i := 1) rfl
    have r2' := HZ.out.1.cell (i := 2) rfl
    have r3' := HZ.out.1.cell (i := 3) rfl
    have r4' := HZ.out.1.cell (i := 4) rfl
    have r5' := HZ.out.1.cell (i := 5) rfl
    have r6 := HZ.out.1.cell (i := 6) rfl
    have r7 := HZ.out.1.cell (i := 7) rfl
    have r8 := HZ.out.1.cell (i := 8) rfl
    refine bodyPost_ret (v := .agg #[.int .i64 id, .int .i64 sc, .int .i64 fr, .slice r1 nT c1, .slice r2 nS c2, .string rd, .string tk, .bool eo, .int .i64 st]) (by simp [results, Tryd.results41, go_sem, r0, r1', r2', r3', r4', r5', r6, r7, r8]) rfl ?_
    exact ⟨r1, c1, r2, c2, rfl, HZ.out.2.1, HZ.out.2.2.1, HZ.out.2.2.2⟩
end Go.Proofs.YtdchedkhlfmpeaaDoor
