/- Events: the document on lives: one round (k6). -/
import Derived.Test.YtdchedkhlfmpeaaDoorEv13a
import Derived.WalkKit
import Derived.ProofKit
import Derived.Handy
import Derived.WalkLawsBesides
import Derived.WalkSpells
import Derived.Lib.Hide
import Derived.Lib.SliceRun
import Derived.Deep.RegionLaw
import Derived.RegionTactic
import Derived.ChangeAlike
import Derived.WalkSmall
import Derived.Deep.QuietTactic
import Derived.BigQuiet
import Derived.OwnWalk
import Derived.Outline
import Derived.Deep.CutRange
import Derived.Deep.CutBlock
import Derived.LoopTactic
namespace Go.Proofs.YtdchedkhlfmpeaaDoor
open Go.ChangeShapes Go.WideShapes Go.ChangeAt Go.RowKit
set_option linter.unusedSimpArgs false
set_option linter.unusedVariables false

set_option maxRecDepth 20000 in
set_option maxHeartbeats 16000000 in
theorem rf_k6 (a : Option Addr) (len cap : Nat) (L : List Ev) (hlm : len ≤ 100000) (a1 : Int) (R4 : Nat) (V wr : World) (F j : Nat) (ck : Int) (is : Bool) (u10 u12 u13 u14 u15 u16 u17 u18 u19 u20 u21 u22 u23 u24 u25 u26 u27 u28 u29 u30 u31 u32 u33 u34 u35 u36 u37 u38 u39 u40 u41 u42 u43 u44 u45 u46 u47 u48 u49 u50 u51 u52 u53 u54 u55 u56 u57 u58 u59 u60 u61 u62 u63 u64 u65 u66 u67 u68 u69 u70 u71 u72 u73 u74 u75 u76 u77 u78 u79 u80 u81 u82 u83 u84 u85 u86 u87 u88 u89 u90 u91 u92 u93 u94 u95 u96 u97 u98 u99 u100 u101 u102 u103 u104 u105 u106 u107 u108 u109 u110 u111 u112 u113 u114 u115 u116 u117 u118 u119 u120 u121 u122 u123 u124 u125 u126 u127 u128 u129 u130 u131 u132 u133 u134 u135 u136 u137 u138 u139 u140 u141 u142 u143 u144 u145 u146 u147 u148 u149 u150 u151 u152 u153 u154 u155 u156 u157 u158 u159 u160 u161 u162 u163 u164 u165 u166 : Value) (HL : Hid (L.length = len ∧ Ev.sum L ≤ 1000000)) (hjl : j < len) (k i n t : Int) (b : ByteArray) (e s0 s1 s2 s3 s4 s5 : Int) (es : L[j]? = some ⟨k, i, n, t, b, e, s0, s1, s2, s3, s4, s5⟩) (HE : EL wr a L) (HB : Hid (RS V wr F a1 (Pj.life a1 (L.take j)) is ∧ (is = false → ck = Ev.clock (L.take j)))) (HIS : is = true) (h7 : Hid (¬ k = 7)) (hi : Hid (i = a1)) (h4 : Hid (¬ k = 4)) (h5 : Hid (¬ k = 5)) (h6 : Hid (k = 6)) (Q0 : Exit → Act → World → Prop) (HEND : Hid (∀ (ck2 : Int) (is2 : Bool) (v10 v12 v13 v14 v15 v16 v17 v18 v19 v20 v21 v22 v23 v24 v25 v26 v27 v28 v29 v30 v31 v32 v33 v34 v35 v36 v37 v38 v39 v40 v41 v42 v43 v44 v45 v46 v47 v48 v49 v50 v51 v52 v53 v54 v55 v56 v57 v58 v59 v60 v61 v62 v63 v64 v65 v66 v67 v68 v69 v70 v71 v72 v73 v74 v75 v76 v77 v78 v79 v80 v81 v82 v83 v84 v85 v86 v87 v88 v89 v90 v91 v92 v93 v94 v95 v96 v97 v98 v99 v100 v101 v102 v103 v104 v105 v106 v107 v108 v109 v110 v111 v112 v113 v114 v115 v116 v117 v118 v119 v120 v121 v122 v123 v124 v125 v126 v127 v128 v129 v130 v131 v132 v133 v134 v135 v136 v137 v138 v139 v140 v141 v142 v143 v144 v145 v146 v147 v148 v149 v150 v151 v152 v153 v154 v155 v156 v157 v158 v159 v160 v161 v162 v163 v164 v165 v166 : Value) (w2 : World), Hid (RS V w2 F a1 (Pj.life a1 (L.take (j + 1))) is2 ∧ (is2 = false → ck2 = Ev.clock (L.take (j + 1)))) → Q0 .normal ⟨#[.slice a len cap, .int .i64 a1, undef, undef, .pointer (some ⟨R4, 0, none⟩), .bool false, .pointer (some ⟨F, 0, none⟩), .bool is2, .int .i64 ck2, .int .i64 ((j : Int) + 1), v10, .agg #[.int .i64 0, .int .i64 0, .int .i64 0, .slice none 0 0, .slice none 0 0, .slice none 0 0, .string ⟨#[]⟩, .string ⟨#[]⟩, .bool false, .int .i64 0], v12, v13, v14, v15, v16, v17, v18, v19, v20, v21, v22, v23, v24, v25, v26, v27, v28, v29, v30, v31, v32, v33, v34, v35, v36, v37, v38, v39, v40, v41, v42, v43, v44, v45, v46, v47, v48, v49, v50, v51, v52, v53, v54, v55, v56, v57, v58, v59, v60, v61, v62, v63, v64, v65, v66, v67, v68, v69, v70, v71, v72, v73, v74, v75, v76, v77, v78, v79, v80, v81, v82, v83, v84, v85, v86, v87, v88, v89, v90, v91, v92, v93, v94, v95, v96, v97, v98, v99, v100, v101, v102, v103, v104, v105, v106, v107, v108, v109, v110, v111, v112, v113, v114, v115, v116, v117, v118, v119, v120, v121, v122, v123, v124, v125, v126, v127, v128, v129, v130, v131, v132, v133, v134, v135, v136, v137, v138, v139, v140, v141, v142, v143, v144, v145, v146, v147, v148, v149, v150, v151, v152, v153, v154, v155, v156, v157, v158, v159, v160, v161, v162, v163, v164, v165, v166, undef, undef], []⟩ w2)) :
    Code.wp Tryd.prog body31 Q0 ⟨#[.slice a len cap, .int .i64 a1, undef, undef, .pointer (some ⟨R4, 0, none⟩), .bool false, .pointer (some ⟨F, 0, none⟩), .bool is, .int .i64 ck, .int .i64 (j : Int), u10, .agg #[.int .i64 0, .int .i64 0, .int .i64 0, .slice none 0 0, .slice none 0 0, .slice none 0 0, .string ⟨#[]⟩, .string ⟨#[]⟩, .bool false, .int .i64 0], u12, u13, u14, u15, u16, u17, u18, u19, u20, u21, u22, u23, u24, u25, u26, u27, u28, u29, u30, u31, u32, u33, u34, u35, u36, u37, u38, u39, u40, u41, u42, u43, u44, u45, u46, u47, u48, u49, u50, u51, u52, u53, u54, u55, u56, u57, u58, u59, u60, u61, u62, u63, u64, u65, u66, u67, u68, u69, u70, u71, u72, u73, u74, u75, u76, u77, u78, u79, u80, u81, u82, u83, u84, u85, u86, u87, u88, u89, u90, u91, u92, u93, u94, u95, u96, u97, u98, u99, u100, u101, u102, u103, u104, u105, u106, u107, u108, u109, u110, u111, u112, u113, u114, u115, u116, u117, u118, u119, u120, u121, u122, u123, u124, u125, u126, u127, u128, u129, u130, u131, u132, u133, u134, u135, u136, u137, u138, u139, u140, u141, u142, u143, u144, u145, u146, u147, u148, u149, u150, u151, u152, u153, u154, u155, u156, u157, u158, u159, u160, u161, u162, u163, u164, u165, u166, undef, undef], []⟩ wr := by
  have j0 : (0 : Int) ≤ (j : Int) := by omega
  have i1 : (j : Int) < (len : Int) := by omega
  have w1 : IntKind.i64.wrap ((j : Int) + 1) = (j : Int) + 1 := IntWalk.i64_in _ (by omega)
  obtain ⟨hb, ga, o, rfl, hgw, e0, e1, e2, e3, e4, e5, e6, e7, e8, e9, e10, e11⟩ := HE.get es
  conv => arg 2; whnf
  go_upto_region 6 with fail
  have H2 : Hid (RS V (wr.alloc (.cells #[.int .i64 k, .int .i64 i, .int .i64 n, .int .i64 t, .string b, .int .i64 e, .int .i64 s0, .int .i64 s1, .int .i64 s2, .int .i64 s3, .int .i64 s4, .int .i64 s5] 46)) F a1 (Pj.life a1 (L.take j)) is ∧ Blk (wr.alloc (.cells #[.int .i64 k, .int .i64 i, .int .i64 n, .int .i64 t, .string b, .int .i64 e, .int .i64 s0, .int .i64 s1, .int .i64 s2, .int .i64 s3, .int .i64 s4, .int .i64 s5] 46)) wr.heap.size [.int .i64 k, .int .i64 i, .int .i64 n, .int .i64 t, .string b, .int .i64 e, .int .i64 s0, .int .i64 s1, .int .i64 s2, .int .i64 s3, .int .i64 s4, .int .i64 s5] 46) := Lib.hid ⟨HB.out.1.alloc _, Blk.newA _ _ _⟩
  have hck := HB.out.2
  clear e0 e1 e2 e3 e4 e5 e6 e7 e8 e9 e10 e11 hgw HB HE
  revert H2
  generalize (wr.alloc (.cells #[.int .i64 k, .int .i64 i, .int .i64 n, .int .i64 t, .string b, .int .i64 e, .int .i64 s0, .int .i64 s1, .int .i64 s2, .int .i64 s3, .int .i64 s4, .int .i64 s5] 46)) = W1
  generalize wr.heap.size = X
  intro H2
  obtain ⟨lj, hlj⟩ : ∃ lj, Pj.life a1 (L.take j) = lj := ⟨_, rfl⟩
  have HX := Lib.hid (And.intro es hlj)
  have hRS := H2.out.1
  rw [hlj] at hRS
  clear es hlj
  cases lj with
  | none => exact absurd HIS (by rw [hRS.1]; decide)
  | some p =>
    clear hck
    obtain ⟨sc, fr, T⟩ := p
    obtain ⟨his, r1, c1, r2, c2, r3, c3, HR0⟩ := hRS
    subst his
    obtain ⟨rd, hrd⟩ : ∃ x, Pj.rd T = x := ⟨_, rfl⟩
    obtain ⟨tk, htk⟩ : ∃ x, Pj.tk T = x := ⟨_, rfl⟩
    obtain ⟨eo, heo⟩ : ∃ x, Pj.eof T = x := ⟨_, rfl⟩
    obtain ⟨st, hst⟩ : ∃ x, Pj.ss T = x := ⟨_, rfl⟩
    obtain ⟨n1, hn1⟩ : ∃ x, T.length = x := ⟨_, rfl⟩
    obtain ⟨L1, hL1⟩ : ∃ x, Pj.ins T = x := ⟨_, rfl⟩
    obtain ⟨L2, hL2⟩ : ∃ x, Pj.was T = x := ⟨_, rfl⟩
    obtain ⟨n3, hn3⟩ : ∃ x, (Pj.stE T).length = x := ⟨_, rfl⟩
    obtain ⟨L3, hL3⟩ : ∃ x, Pj.sts T = x := ⟨_, rfl⟩
    rw [hrd, htk, heo, hst, hn1, hL1, hL2, hn3, hL3] at HR0
    have HT : Hid (Pj.rd T = rd ∧ Pj.tk T = tk ∧ Pj.eof T = eo ∧ Pj.ss T = st ∧ T.length = n1 ∧ Pj.ins T = L1 ∧ Pj.was T = L2 ∧ (Pj.stE T).length = n3 ∧ Pj.sts T = L3 ∧ True) := Lib.hid ⟨hrd, htk, heo, hst, hn1, hL1, hL2, hn3, hL3, trivial⟩
    have hbnd : n1 ≤ 100000 ∧ n3 ≤ 100000 ∧ rd.size + b.size ≤ 1000000 ∧ tk.size + b.size ≤ 1000000 := by
      obtain ⟨q0, x0, _, q1, _, _, _, _, q2⟩ := Pj.life_some HX.out.2
      have q3 := Pj.told_le a1 ((L.take j).drop q0)
      rw [q2, hrd, htk, hn1] at q3
      have q4 := Ev.sum_drop (L.take j) q0
      have q5 := Ev.sum_snoc (L.take j) ⟨k, i, n, t, b, e, s0, s1, s2, s3, s4, s5⟩
      have q6 := Ev.sum_take L (j + 1)
      rw [take_snocE HX.out.1] at q6
      have q7 := Pj.nst_le T
      have q8 := HL.out.2
      have q9 := q3.1
      rw [List.length_drop, List.length_take] at q9
      dsimp only at q5
      omega
    obtain ⟨bn1, bn3, brd, btk⟩ := hbnd
    have HR : Hid (RO V W1 F F a1 sc fr rd tk eo st r1 n1 c1 L1 r2 n1 c2 L2 r3 n3 c3 L3 ∧ Blk W1 X (Ev.c ⟨k, i, n, t, b, e, s0, s1, s2, s3, s4, s5⟩) 46) := Lib.hid ⟨HR0, H2.out.2⟩
    clear HR0 H2 hrd htk heo hst hn1 hL1 hL2 hn3 hL3
    have f9 := HR.out.1.blk.cell (i := 9) rfl
    have d0 := HR.out.2.cell (i := 0) rfl
    have d1 := HR.out.2.cell (i := 1) rfl
    replace h7 := h7.out
    replace hi := hi.out
    replace h4 := h4.out
    replace h5 := h5.out
    replace h6 := h6.out
    have h7b : (k == 7) = false := by simp [h7]
    have hib : (i != a1) = false := by simp [hi]
    have h4b : (k == 4) = false := by simp [h4]
    have h5b : (k == 5) = false := by simp [h5]
    subst h6
    have HSN : Hid (Pj.life a1 (L.take (j + 1)) = some (sc, fr, T ++ [⟨6, i, n, t, b, e, s0, s1, s2, s3, s4, s5⟩])) := Lib.hid (by
      rw [take_snocE HX.out.1, Pj.life_snoc, HX.out.2]
      simp only [Option.some.injEq, Prod.mk.injEq, true_and]
      unfold Pj.step Pj.one
      rw [if_pos (Or.inr hi), if_pos (by simp)])
    go_upto_region 20 with fail
    go_cut [] from 12 to 129 (fun wx => ∃ g1 k1 g2 k2 : Nat, Hid (RO V wx F F a1 sc fr rd tk eo st (some ⟨g1, 0, none⟩) (n1 + 1) k1 (L1 ++ [.int .i64 3, .string ⟨#[]⟩, .int .i64 n, .int .i64 0]) (some ⟨g2, 0, none⟩) (n1 + 1) k2 (L2 ++ [.int .i64 0, .string b, .int .i64 0, .int .i64 0, .int .i64 0, .int .i64 0, .int .i64 0, .int .i64 0, .bool false]) r3 n3 c3 L3 ∧ Blk wx X (Ev.c ⟨6, i, n, t, b, e, s0, s1, s2, s3, s4, s5⟩) 46))
    case first =>
      clear f9 d0 d1
      refine rf_reg6 i n t b e s0 s1 s2 s3 s4 s5 V W1 F X a1 sc fr rd tk eo st r1 n1 c1 L1 r2 c2 L2 r3 n3 c3 L3 bn1 HR _ _ rfl rfl rfl (fun env w' g1 k1 g2 k2 hN => ?_)
      have HN := Lib.hid hN
      clear hN
      simp only [putsD, Act.put, List.setIfInBounds_toArray, List.set_cons_zero, List.set_cons_succ]
      go_wp2_with fail
      go_meet
      exact ⟨g1, k1, g2, k2, HN⟩
    case rest =>
      obtain ⟨g1, k1, g2, k2, HN⟩ := hcut
      clear f9 d0 d1 HR
      have d0 := HN.out.2.cell (i := 0) rfl
      have d1 := HN.out.2.cell (i := 1) rfl
      have d4 := HN.out.2.cell (i := 4) rfl
      have fr0 := HN.out.1.blk.cell (i := 7) rfl
      have ff0 := HN.out.1.blk.free 7
      have hcat : ¬ (9223372036854775807 < tk.size + b.size) := by omega
      have neX : ¬ F = X := fun e => by have h := HN.out.1.blk; rw [e] at h; exact absurd (blk_ty h HN.out.2) (by decide)
      have neX2 : ¬ X = F := fun e => neX e.symm
      go_wp2_with fail
      exact HEND.out _ _ _ _ _ _ _ _ _ _ _ _ _ _ _ _ _ _ _ _ _ _ _ _ _ _ _ _ _ _ _ _ _ _ _ _ _ _ _ _ _ _ _ _ _ _ _ _ _ _ _ _ _ _ _ _ _ _ _ _ _ _ _ _ _ _ _ _ _ _ _ _ _ _ _ _ _ _ _ _ _ _ _ _ _ _ _ _ _ _ _ _ _ _ _ _ _ _ _ _ _ _ _ _ _ _ _ _ _ _ _ _ _ _ _ _ _ _ _ _ _ _ _ _ _ _ _ _ _ _ _ _ _ _ _ _ _ _ _ _ _ _ _ _ _ _ _ _ _ _ _ _ _ _ _ _ _ _ _ (Lib.hid ⟨by
          rw [HSN.out]
          exact ⟨rfl, some ⟨g1, 0, none⟩, k1, some ⟨g2, 0, none⟩, k2, r3, c3, by
          have hh := (HN.out.1.tk_set (tk ++ b))
          obtain ⟨rfl, rfl, rfl, rfl, rfl, rfl, rfl, rfl, rfl, -⟩ := HT.out
          rw [Pj.eof_snoc, Pj.ss_snoc, Pj.ins_snoc, Pj.was_snoc, Pj.nst_snoc, Pj.sts_snoc, Pj.rd_snoc, Pj.tk_snoc, List.length_append]
          simpa [Pj.inC, Pj.waC, Ev.st] using hh⟩, fun h => by cases h⟩)
end Go.Proofs.YtdchedkhlfmpeaaDoor
