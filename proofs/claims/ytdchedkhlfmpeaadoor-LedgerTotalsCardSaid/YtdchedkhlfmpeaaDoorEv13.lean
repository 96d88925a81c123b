/- Events: the document on lives. -/
import Derived.Test.YtdchedkhlfmpeaaDoorEv13k7
import Derived.Test.YtdchedkhlfmpeaaDoorEv13k4
import Derived.Test.YtdchedkhlfmpeaaDoorEv13k5
import Derived.Test.YtdchedkhlfmpeaaDoorEv13k6
import Derived.Test.YtdchedkhlfmpeaaDoorEv13k8
import Derived.Test.YtdchedkhlfmpeaaDoorEv13kE
import Derived.Test.YtdchedkhlfmpeaaDoorEv13kI
import Derived.Test.YtdchedkhlfmpeaaDoorEv13kN
import Derived.WalkKit
import Derived.ProofKit
import Derived.Handy
import Derived.WalkLawsBesides
import Derived.WalkSpells
import Derived.Lib.Hide
import Derived.Lib.SliceRun
import Derived.Deep.RegionLaw
import Derived.RegionTactic
import Derived.ChangeAlike
import Derived.WalkSmall
import Derived.Deep.QuietTactic
import Derived.BigQuiet
import Derived.OwnWalk
import Derived.Outline
import Derived.Deep.CutRange
import Derived.Deep.CutBlock
import Derived.LoopTactic
namespace Go.Proofs.YtdchedkhlfmpeaaDoor
open Go.ChangeShapes Go.WideShapes Go.ChangeAt Go.RowKit
set_option linter.unusedSimpArgs false
set_option linter.unusedVariables false

set_option maxRecDepth 20000 in
set_option maxHeartbeats 16000000 in
theorem rf_round (a : Option Addr) (len cap : Nat) (L : List Ev) (hlm : len ≤ 100000) (a1 : Int) (R4 : Nat) (V wr : World) (F j : Nat) (ck : Int) (is : Bool) (u10 u12 u13 u14 u15 u16 u17 u18 u19 u20 u21 u22 u23 u24 u25 u26 u27 u28 u29 u30 u31 u32 u33 u34 u35 u36 u37 u38 u39 u40 u41 u42 u43 u44 u45 u46 u47 u48 u49 u50 u51 u52 u53 u54 u55 u56 u57 u58 u59 u60 u61 u62 u63 u64 u65 u66 u67 u68 u69 u70 u71 u72 u73 u74 u75 u76 u77 u78 u79 u80 u81 u82 u83 u84 u85 u86 u87 u88 u89 u90 u91 u92 u93 u94 u95 u96 u97 u98 u99 u100 u101 u102 u103 u104 u105 u106 u107 u108 u109 u110 u111 u112 u113 u114 u115 u116 u117 u118 u119 u120 u121 u122 u123 u124 u125 u126 u127 u128 u129 u130 u131 u132 u133 u134 u135 u136 u137 u138 u139 u140 u141 u142 u143 u144 u145 u146 u147 u148 u149 u150 u151 u152 u153 u154 u155 u156 u157 u158 u159 u160 u161 u162 u163 u164 u165 u166 : Value) (HL : Hid (L.length = len ∧ Ev.sum L ≤ 1000000)) (hjl : j < len) (k i n t : Int) (b : ByteArray) (e s0 s1 s2 s3 s4 s5 : Int) (es : L[j]? = some ⟨k, i, n, t, b, e, s0, s1, s2, s3, s4, s5⟩) (HE : EL wr a L) (HB : Hid (RS V wr F a1 (Pj.life a1 (L.take j)) is ∧ (is = false → ck = Ev.clock (L.take j)))) (Q0 : Exit → Act → World → Prop) (HEND : Hid (∀ (ck2 : Int) (is2 : Bool) (v10 v12 v13 v14 v15 v16 v17 v18 v19 v20 v21 v22 v23 v24 v25 v26 v27 v28 v29 v30 v31 v32 v33 v34 v35 v36 v37 v38 v39 v40 v41 v42 v43 v44 v45 v46 v47 v48 v49 v50 v51 v52 v53 v54 v55 v56 v57 v58 v59 v60 v61 v62 v63 v64 v65 v66 v67 v68 v69 v70 v71 v72 v73 v74 v75 v76 v77 v78 v79 v80 v81 v82 v83 v84 v85 v86 v87 v88 v89 v90 v91 v92 v93 v94 v95 v96 v97 v98 v99 v100 v101 v102 v103 v104 v105 v106 v107 v108 v109 v110 v111 v112 v113 v114 v115 v116 v117 v118 v119 v120 v121 v122 v123 v124 v125 v126 v127 v128 v129 v130 v131 v132 v133 v134 v135 v136 v137 v138 v139 v140 v141 v142 v143 v144 v145 v146 v147 v148 v149 v150 v151 v152 v153 v154 v155 v156 v157 v158 v159 v160 v161 v162 v163 v164 v165 v166 : Value) (w2 : World), Hid (RS V w2 F a1 (Pj.life a1 (L.take (j + 1))) is2 ∧ (is2 = false → ck2 = Ev.clock (L.take (j + 1)))) → Q0 .normal ⟨#[.slice a len cap, .int .i64 a1, undef, undef, .pointer (some ⟨R4, 0, none⟩), .bool false, .pointer (some ⟨F, 0, none⟩), .bool is2, .int .i64 ck2, .int .i64 ((j : Int) + 1), v10, .agg #[.int .i64 0, .int .i64 0, .int .i64 0, .slice none 0 0, .slice none 0 0, .slice none 0 0, .string ⟨#[]⟩, .string ⟨#[]⟩, .bool false, .int .i64 0], v12, v13, v14, v15, v16, v17, v18, v19, v20, v21, v22, v23, v24, v25, v26, v27, v28, v29, v30, v31, v32, v33, v34, v35, v36, v37, v38, v39, v40, v41, v42, v43, v44, v45, v46, v47, v48, v49, v50, v51, v52, v53, v54, v55, v56, v57, v58, v59, v60, v61, v62, v63, v64, v65, v66, v67, v68, v69, v70, v71, v72, v73, v74, v75, v76, v77, v78, v79, v80, v81, v82, v83, v84, v85, v86, v87, v88, v89, v90, v91, v92, v93, v94, v95, v96, v97, v98, v99, v100, v101, v102, v103, v104, v105, v106, v107, v108, v109, v110, v111, v112, v113, v114, v115, v116, v117, v118, v119, v120, v121, v122, v123, v124, v125, v126, v127, v128, v129, v130, v131, v132, v133, v134, v135, v136, v137, v138, v139, v140, v141, v142, v143, v144, v145, v146, v147, v148, v149, v150, v151, v152, v153, v154, v155, v156, v157, v158, v159, v160, v161, v162, v163, v164, v165, v166, undef, undef], []⟩ w2)) :
    Code.wp Tryd.prog body31 Q0 ⟨#[.slice a len cap, .int .i64 a1, undef, undef, .pointer (some ⟨R4, 0, none⟩), .bool false, .pointer (some ⟨F, 0, none⟩), .bool is, .int .i64 ck, .int .i64 (j : Int), u10, .agg #[.int .i64 0, .int .i64 0, .int .i64 0, .slice none 0 0, .slice none 0 0, .slice none 0 0, .string ⟨#[]⟩, .string ⟨#[]⟩, .bool false, .int .i64 0], u12, u13, u14, u15, u16, u17, u18, u19, u20, u21, u22, u23, u24, u25, u26, u27, u28, u29, u30, u31, u32, u33, u34, u35, u36, u37, u38, u39, u40, u41, u42, u43, u44, u45, u46, u47, u48, u49, u50, u51, u52, u53, u54, u55, u56, u57, u58, u59, u60, u61, u62, u63, u64, u65, u66, u67, u68, u69, u70, u71, u72, u73, u74, u75, u76, u77, u78, u79, u80, u81, u82, u83, u84, u85, u86, u87, u88, u89, u90, u91, u92, u93, u94, u95, u96, u97, u98, u99, u100, u101, u102, u103, u104, u105, u106, u107, u108, u109, u110, u111, u112, u113, u114, u115, u116, u117, u118, u119, u120, u121, u122, u123, u124, u125, u126, u127, u128, u129, u130, u131, u132, u133, u134, u135, u136, u137, u138, u139, u140, u141, u142, u143, u144, u145, u146, u147, u148, u149, u150, u151, u152, u153, u154, u155, u156, u157, u158, u159, u160, u161, u162, u163, u164, u165, u166, undef, undef], []⟩ wr := by
  cases is with
  | false => exact rf_kN a len cap L hlm a1 R4 V wr F j ck false u10 u12 u13 u14 u15 u16 u17 u18 u19 u20 u21 u22 u23 u24 u25 u26 u27 u28 u29 u30 u31 u32 u33 u34 u35 u36 u37 u38 u39 u40 u41 u42 u43 u44 u45 u46 u47 u48 u49 u50 u51 u52 u53 u54 u55 u56 u57 u58 u59 u60 u61 u62 u63 u64 u65 u66 u67 u68 u69 u70 u71 u72 u73 u74 u75 u76 u77 u78 u79 u80 u81 u82 u83 u84 u85 u86 u87 u88 u89 u90 u91 u92 u93 u94 u95 u96 u97 u98 u99 u100 u101 u102 u103 u104 u105 u106 u107 u108 u109 u110 u111 u112 u113 u114 u115 u116 u117 u118 u119 u120 u121 u122 u123 u124 u125 u126 u127 u128 u129 u130 u131 u132 u133 u134 u135 u136 u137 u138 u139 u140 u141 u142 u143 u144 u145 u146 u147 u148 u149 u150 u151 u152 u153 u154 u155 u156 u157 u158 u159 u160 u161 u162 u163 u164 u165 u166 HL hjl k i n t b e s0 s1 s2 s3 s4 s5 es HE HB rfl Q0 HEND
  | true =>
    by_cases h7 : k = 7
    · exact rf_k7 a len cap L hlm a1 R4 V wr F j ck true u10 u12 u13 u14 u15 u16 u17 u18 u19 u20 u21 u22 u23 u24 u25 u26 u27 u28 u29 u30 u31 u32 u33 u34 u35 u36 u37 u38 u39 u40 u41 u42 u43 u44 u45 u46 u47 u48 u49 u50 u51 u52 u53 u54 u55 u56 u57 u58 u59 u60 u61 u62 u63 u64 u65 u66 u67 u68 u69 u70 u71 u72 u73 u74 u75 u76 u77 u78 u79 u80 u81 u82 u83 u84 u85 u86 u87 u88 u89 u90 u91 u92 u93 u94 u95 u96 u97 u98 u99 u100 u101 u102 u103 u104 u105 u106 u107 u108 u109 u110 u111 u112 u113 u114 u115 u116 u117 u118 u119 u120 u121 u122 u123 u124 u125 u126 u127 u128 u129 u130 u131 u132 u133 u134 u135 u136 u137 u138 u139 u140 u141 u142 u143 u144 u145 u146 u147 u148 u149 u150 u151 u152 u153 u154 u155 u156 u157 u158 u159 u160 u161 u162 u163 u164 u165 u166 HL hjl k i n t b e s0 s1 s2 s3 s4 s5 es HE HB rfl (Lib.hid h7) Q0 HEND
    · by_cases hi : i = a1
      · by_cases h4 : k = 4
        · exact rf_k4 a len cap L hlm a1 R4 V wr F j ck true u10 u12 u13 u14 u15 u16 u17 u18 u19 u20 u21 u22 u23 u24 u25 u26 u27 u28 u29 u30 u31 u32 u33 u34 u35 u36 u37 u38 u39 u40 u41 u42 u43 u44 u45 u46 u47 u48 u49 u50 u51 u52 u53 u54 u55 u56 u57 u58 u59 u60 u61 u62 u63 u64 u65 u66 u67 u68 u69 u70 u71 u72 u73 u74 u75 u76 u77 u78 u79 u80 u81 u82 u83 u84 u85 u86 u87 u88 u89 u90 u91 u92 u93 u94 u95 u96 u97 u98 u99 u100 u101 u102 u103 u104 u105 u106 u107 u108 u109 u110 u111 u112 u113 u114 u115 u116 u117 u118 u119 u120 u121 u122 u123 u124 u125 u126 u127 u128 u129 u130 u131 u132 u133 u134 u135 u136 u137 u138 u139 u140 u141 u142 u143 u144 u145 u146 u147 u148 u149 u150 u151 u152 u153 u154 u155 u156 u157 u158 u159 u160 u161 u162 u163 u164 u165 u166 HL hjl k i n t b e s0 s1 s2 s3 s4 s5 es HE HB rfl (Lib.hid h7) (Lib.hid hi) (Lib.hid h4) Q0 HEND
        · by_cases h5 : k = 5
          · exact rf_k5 a len cap L hlm a1 R4 V wr F j ck true u10 u12 u13 u14 u15 u16 u17 u18 u19 u20 u21 u22 u23 u24 u25 u26 u27 u28 u29 u30 u31 u32 u33 u34 u35 u36 u37 u38 u39 u40 u41 u42 u43 u44 u45 u46 u47 u48 u49 u50 u51 u52 u53 u54 u55 u56 u57 u58 u59 u60 u61 u62 u63 u64 u65 u66 u67 u68 u69 u70 u71 u72 u73 u74 u75 u76 u77 u78 u79 u80 u81 u82 u83 u84 u85 u86 u87 u88 u89 u90 u91 u92 u93 u94 u95 u96 u97 u98 u99 u100 u101 u102 u103 u104 u105 u106 u107 u108 u109 u110 u111 u112 u113 u114 u115 u116 u117 u118 u119 u120 u121 u122 u123 u124 u125 u126 u127 u128 u129 u130 u131 u132 u133 u134 u135 u136 u137 u138 u139 u140 u141 u142 u143 u144 u145 u146 u147 u148 u149 u150 u151 u152 u153 u154 u155 u156 u157 u158 u159 u160 u161 u162 u163 u164 u165 u166 HL hjl k i n t b e s0 s1 s2 s3 s4 s5 es HE HB rfl (Lib.hid h7) (Lib.hid hi) (Lib.hid h4) (Lib.hid h5) Q0 HEND
          · by_cases h6 : k = 6
            · exact rf_k6 a len cap L hlm a1 R4 V wr F j ck true u10 u12 u13 u14 u15 u16 u17 u18 u19 u20 u21 u22 u23 u24 u25 u26 u27 u28 u29 u30 u31 u32 u33 u34 u35 u36 u37 u38 u39 u40 u41 u42 u43 u44 u45 u46 u47 u48 u49 u50 u51 u52 u53 u54 u55 u56 u57 u58 u59 u60 u61 u62 u63 u64 u65 u66 u67 u68 u69 u70 u71 u72 u73 u74 u75 u76 u77 u78 u79 u80 u81 u82 u83 u84 u85 u86 u87 u88 u89 u90 u91 u92 u93 u94 u95 u96 u97 u98 u99 u100 u101 u102 u103 u104 u105 u106 u107 u108 u109 u110 u111 u112 u113 u114 u115 u116 u117 u118 u119 u120 u121 u122 u123 u124 u125 u126 u127 u128 u129 u130 u131 u132 u133 u134 u135 u136 u137 u138 u139 u140 u141 u142 u143 u144 u145 u146 u147 u148 u149 u150 u151 u152 u153 u154 u155 u156 u157 u158 u159 u160 u161 u162 u163 u164 u165 u166 HL hjl k i n t b e s0 s1 s2 s3 s4 s5 es HE HB rfl (Lib.hid h7) (Lib.hid hi) (Lib.hid h4) (Lib.hid h5) (Lib.hid h6) Q0 HEND
            · by_cases h8 : k = 8
              · exact Code.wp_mono (by intro e a w h; cases e <;> first | exact h | exact h.elim) (rf_k8 a len cap L hlm a1 R4 V wr F j ck true u10 u12 u13 u14 u15 u16 u17 u18 u19 u20 u21 u22 u23 u24 u25 u26 u27 u28 u29 u30 u31 u32 u33 u34 u35 u36 u37 u38 u39 u40 u41 u42 u43 u44 u45 u46 u47 u48 u49 u50 u51 u52 u53 u54 u55 u56 u57 u58 u59 u60 u61 u62 u63 u64 u65 u66 u67 u68 u69 u70 u71 u72 u73 u74 u75 u76 u77 u78 u79 u80 u81 u82 u83 u84 u85 u86 u87 u88 u89 u90 u91 u92 u93 u94 u95 u96 u97 u98 u99 u100 u101 u102 u103 u104 u105 u106 u107 u108 u109 u110 u111 u112 u113 u114 u115 u116 u117 u118 u119 u120 u121 u122 u123 u124 u125 u126 u127 u128 u129 u130 u131 u132 u133 u134 u135 u136 u137 u138 u139 u140 u141 u142 u143 u144 u145 u146 u147 u148 u149 u150 u151 u152 u153 u154 u155 u156 u157 u158 u159 u160 u161 u162 u163 u164 u165 u166 HL hjl k i n t b e s0 s1 s2 s3 s4 s5 es HE HB rfl (Lib.hid h7) (Lib.hid hi) (Lib.hid h4) (Lib.hid h5) (Lib.hid h6) (Lib.hid h8) (fun a w => Q0 .normal a w) HEND)
              · exact rf_kE a len cap L hlm a1 R4 V wr F j ck true u10 u12 u13 u14 u15 u16 u17 u18 u19 u20 u21 u22 u23 u24 u25 u26 u27 u28 u29 u30 u31 u32 u33 u34 u35 u36 u37 u38 u39 u40 u41 u42 u43 u44 u45 u46 u47 u48 u49 u50 u51 u52 u53 u54 u55 u56 u57 u58 u59 u60 u61 u62 u63 u64 u65 u66 u67 u68 u69 u70 u71 u72 u73 u74 u75 u76 u77 u78 u79 u80 u81 u82 u83 u84 u85 u86 u87 u88 u89 u90 u91 u92 u93 u94 u95 u96 u97 u98 u99 u100 u101 u102 u103 u104 u105 u106 u107 u108 u109 u110 u111 u112 u113 u114 u115 u116 u117 u118 u119 u120 u121 u122 u123 u124 u125 u126 u127 u128 u129 u130 u131 u132 u133 u134 u135 u136 u137 u138 u139 u140 u141 u142 u143 u144 u145 u146 u147 u148 u149 u150 u151 u152 u153 u154 u155 u156 u157 u158 u159 u160 u161 u162 u163 u164 u165 u166 HL hjl k i n t b e s0 s1 s2 s3 s4 s5 es HE HB rfl (Lib.hid h7) (Lib.hid hi) (Lib.hid h4) (Lib.hid h5) (Lib.hid h6) (Lib.hid h8) Q0 HEND
      · exact rf_kI a len cap L hlm a1 R4 V wr F j ck true u10 u12 u13 u14 u15 u16 u17 u18 u19 u20 u21 u22 u23 u24 u25 u26 u27 u28 u29 u30 u31 u32 u33 u34 u35 u36 u37 u38 u39 u40 u41 u42 u43 u44 u45 u46 u47 u48 u49 u50 u51 u52 u53 u54 u55 u56 u57 u58 u59 u60 u61 u62 u63 u64 u65 u66 u67 u68 u69 u70 u71 u72 u73 u74 u75 u76 u77 u78 u79 u80 u81 u82 u83 u84 u85 u86 u87 u88 u89 u90 u91 u92 u93 u94 u95 u96 u97 u98 u99 u100 u101 u102 u103 u104 u105 u106 u107 u108 u109 u110 u111 u112 u113 u114 u115 u116 u117 u118 u119 u120 u121 u122 u123 u124 u125 u126 u127 u128 u129 u130 u131 u132 u133 u134 u135 u136 u137 u138 u139 u140 u141 u142 u143 u144 u145 u146 u147 u148 u149 u150 u151 u152 u153 u154 u155 u156 u157 u158 u159 u160 u161 u162 u163 u164 u165 u166 HL hjl k i n t b e s0 s1 s2 s3 s4 s5 es HE HB rfl (Lib.hid h7) (Lib.hid hi) Q0 HEND
set_option maxRecDepth 20000 in
set_option maxHeartbeats 16000000 in
theorem rf_of (a : Option Addr) (len cap : Nat) (L : List Ev) (hl : L.length = len) (hlm : len ≤ 100000) (hsum : Ev.sum L ≤ 1000000) (a1 : Int) (lf : Option (Int × Int × List Ev)) (hlf : Pj.life a1 L = lf) (w : World) (HE : EL w a L) :
    Calls Tryd.prog 20 #[.slice a len cap, .int .i64 a1] w fun r w' => RFP w w' a1 lf r := by
  have H1 : Hid (Blk ((w.alloc (.cells #[.int .i64 0, .int .i64 0, .int .i64 0, .slice none 0 0, .slice none 0 0, .slice none 0 0, .string ⟨#[]⟩, .string ⟨#[]⟩, .bool false, .int .i64 0] 58)).alloc (.cells #[.int .i64 0, .int .i64 0, .int .i64 0, .slice none 0 0, .slice none 0 0, .slice none 0 0, .string ⟨#[]⟩, .string ⟨#[]⟩, .bool false, .int .i64 0] 58)) w.heap.size [.int .i64 0, .int .i64 0, .int .i64 0, .slice none 0 0, .slice none 0 0, .slice none 0 0, .string ⟨#[]⟩, .string ⟨#[]⟩, .bool false, .int .i64 0] 58 ∧ Blk ((w.alloc (.cells #[.int .i64 0, .int .i64 0, .int .i64 0, .slice none 0 0, .slice none 0 0, .slice none 0 0, .string ⟨#[]⟩, .string ⟨#[]⟩, .bool false, .int .i64 0] 58)).alloc (.cells #[.int .i64 0, .int .i64 0, .int .i64 0, .slice none 0 0, .slice none 0 0, .slice none 0 0, .string ⟨#[]⟩, .string ⟨#[]⟩, .bool false, .int .i64 0] 58)) (w.heap.size + 1) [.int .i64 0, .int .i64 0, .int .i64 0, .slice none 0 0, .slice none 0 0, .slice none 0 0, .string ⟨#[]⟩, .string ⟨#[]⟩, .bool false, .int .i64 0] 58 ∧ Below w.heap.size w ((w.alloc (.cells #[.int .i64 0, .int .i64 0, .int .i64 0, .slice none 0 0, .slice none 0 0, .slice none 0 0, .string ⟨#[]⟩, .string ⟨#[]⟩, .bool false, .int .i64 0] 58)).alloc (.cells #[.int .i64 0, .int .i64 0, .int .i64 0, .slice none 0 0, .slice none 0 0, .slice none 0 0, .string ⟨#[]⟩, .string ⟨#[]⟩, .bool false, .int .i64 0] 58)) ∧ w.heap.size + 1 < ((w.alloc (.cells #[.int .i64 0, .int .i64 0, .int .i64 0, .slice none 0 0, .slice none 0 0, .slice none 0 0, .string ⟨#[]⟩, .string ⟨#[]⟩, .bool false, .int .i64 0] 58)).alloc (.cells #[.int .i64 0, .int .i64 0, .int .i64 0, .slice none 0 0, .slice none 0 0, .slice none 0 0, .string ⟨#[]⟩, .string ⟨#[]⟩, .bool false, .int .i64 0] 58)).heap.size) := Lib.hid (by
    have b1 := (Blk.newA w #[.int .i64 0, .int .i64 0, .int .i64 0, .slice none 0 0, .slice none 0 0, .slice none 0 0, .string ⟨#[]⟩, .string ⟨#[]⟩, .bool false, .int .i64 0] 58).alloc (.cells #[.int .i64 0, .int .i64 0, .int .i64 0, .slice none 0 0, .slice none 0 0, .slice none 0 0, .string ⟨#[]⟩, .string ⟨#[]⟩, .bool false, .int .i64 0] 58)
    have b2 := Blk.newA (w.alloc (.cells #[.int .i64 0, .int .i64 0, .int .i64 0, .slice none 0 0, .slice none 0 0, .slice none 0 0, .string ⟨#[]⟩, .string ⟨#[]⟩, .bool false, .int .i64 0] 58)) #[.int .i64 0, .int .i64 0, .int .i64 0, .slice none 0 0, .slice none 0 0, .slice none 0 0, .string ⟨#[]⟩, .string ⟨#[]⟩, .bool false, .int .i64 0] 58
    rw [World.size_alloc] at b2
    exact ⟨b1, b2, ((Below.refl _ _).alloc (Nat.le_refl _) _).alloc (by simp) _, by simp⟩)
  have HL := Lib.hid (And.intro hl (And.intro HE hsum))
  have HLF := Lib.hid hlf
  clear hl HE hsum hlf
  go_enter Tryd.func20, Tryd.ntmps20
  go_upto_region 2 with fail
  revert H1
  generalize ((w.alloc (.cells #[.int .i64 0, .int .i64 0, .int .i64 0, .slice none 0 0, .slice none 0 0, .slice none 0 0, .string ⟨#[]⟩, .string ⟨#[]⟩, .bool false, .int .i64 0] 58)).alloc (.cells #[.int .i64 0, .int .i64 0, .int .i64 0, .slice none 0 0, .slice none 0 0, .slice none 0 0, .string ⟨#[]⟩, .string ⟨#[]⟩, .bool false, .int .i64 0] 58)) = V
  intro H1
  obtain ⟨F, hF⟩ : ∃ F, w.heap.size + 1 = F := ⟨_, rfl⟩
  have HF := Lib.hid hF
  rw [hF] at H1 ⊢
  clear hF
  have H0 : Hid (RS V V F a1 (Pj.life a1 (L.take 0)) false ∧ (false = false → 0 = Ev.clock (L.take 0))) := Lib.hid ⟨by rw [List.take_zero, Pj.life_nil]; exact ⟨rfl, H1.out.2.1, Below.refl _ _, by have := H1.out.2.2.2; omega⟩, fun _ => by rw [List.take_zero]; rfl⟩
  go_wp2_with fail
  go_loopw [7, 8, 9] (fun s7 s8 s9 wr => ∃ (j : Nat) (ck : Int) (is : Bool), s7 = .bool is ∧ s8 = .int .i64 ck ∧ s9 = .int .i64 j ∧ j ≤ len ∧ Hid (RS V wr F a1 (Pj.life a1 (L.take j)) is ∧ (is = false → ck = Ev.clock (L.take j)))) (fun _ _ z _ => len - (intOf z).toNat)
  case atStart => exact ⟨0, 0, false, rfl, rfl, rfl, by omega, Lib.hid ⟨H0.out.1, fun _ => H0.out.2 trivial⟩⟩
  case round =>
    clear H0
    obtain ⟨j, ck, is, rfl, rfl, rfl, hj, HB⟩ := hrel
    have j0 : (0 : Int) ≤ (j : Int) := by omega
    by_cases hjl : j < len
    · have i1 : (j : Int) < (len : Int) := by omega
      have w1 : IntKind.i64.wrap ((j : Int) + 1) = (j : Int) + 1 := IntWalk.i64_in _ (by omega)
      obtain ⟨k, i, n, t, b, e, s0, s1, s2, s3, s4, s5, es⟩ : ∃ k i n t b e s0 s1 s2 s3 s4 s5, L[j]? = some ⟨k, i, n, t, b, e, s0, s1, s2, s3, s4, s5⟩ := ⟨_, _, _, _, _, _, _, _, _, _, _, _, List.getElem?_eq_getElem (by rw [HL.out.1]; exact hjl)⟩
      have hbel : Below w.heap.size w wr := H1.out.2.2.1.trans (HB.out.1.bel.1.mono (by have := HF.out; omega))
      refine rf_round a len cap L hlm a1 w.heap.size V wr F j ck is _ _ _ _ _ _ _ _ _ _ _ _ _ _ _ _ _ _ _ _ _ _ _ _ _ _ _ _ _ _ _ _ _ _ _ _ _ _ _ _ _ _ _ _ _ _ _ _ _ _ _ _ _ _ _ _ _ _ _ _ _ _ _ _ _ _ _ _ _ _ _ _ _ _ _ _ _ _ _ _ _ _ _ _ _ _ _ _ _ _ _ _ _ _ _ _ _ _ _ _ _ _ _ _ _ _ _ _ _ _ _ _ _ _ _ _ _ _ _ _ _ _ _ _ _ _ _ _ _ _ _ _ _ _ _ _ _ _ _ _ _ _ _ _ _ _ _ _ _ _ _ _ _ _ _ _ (Lib.hid ⟨HL.out.1, HL.out.2.2⟩) hjl k i n t b e s0 s1 s2 s3 s4 s5 es (HL.out.2.1.below hbel) HB _ (Lib.hid ?_)
      intros
      rename_i ck2 is2 v10 v12 v13 v14 v15 v16 v17 v18 v19 v20 v21 v22 v23 v24 v25 v26 v27 v28 v29 v30 v31 v32 v33 v34 v35 v36 v37 v38 v39 v40 v41 v42 v43 v44 v45 v46 v47 v48 v49 v50 v51 v52 v53 v54 v55 v56 v57 v58 v59 v60 v61 v62 v63 v64 v65 v66 v67 v68 v69 v70 v71 v72 v73 v74 v75 v76 v77 v78 v79 v80 v81 v82 v83 v84 v85 v86 v87 v88 v89 v90 v91 v92 v93 v94 v95 v96 v97 v98 v99 v100 v101 v102 v103 v104 v105 v106 v107 v108 v109 v110 v111 v112 v113 v114 v115 v116 v117 v118 v119 v120 v121 v122 v123 v124 v125 v126 v127 v128 v129 v130 v131 v132 v133 v134 v135 v136 v137 v138 v139 v140 v141 v142 v143 v144 v145 v146 v147 v148 v149 v150 v151 v152 v153 v154 v155 v156 v157 v158 v159 v160 v161 v162 v163 v164 v165 v166 w2 HH
      go_roundw
      case rel =>
        first
          | exact ⟨j + 1, ck2, is2, rfl, rfl, by go_num, by omega, HH⟩
          | ((repeat apply Exists.intro); exact ⟨⟨j + 1, ck2, is2, rfl, rfl, by go_num, by omega, HH⟩, rfl⟩)
      case measure => simp [intOf]; omega
    · obtain rfl : j = len := by omega
      have i1 : ¬ (j : Int) < (j : Int) := by omega
      have hRS := HB.out.1
      rw [List.take_of_length_le (by rw [HL.out.1]; exact Nat.le_refl _), HLF.out] at hRS
      have hR0 : Blk wr w.heap.size [.int .i64 0, .int .i64 0, .int .i64 0, .slice none 0 0, .slice none 0 0, .slice none 0 0, .string ⟨#[]⟩, .string ⟨#[]⟩, .bool false, .int .i64 0] 58 := H1.out.1.below hRS.bel.1 (by have := HF.out; omega)
      have hbel : Below w.heap.size w wr := H1.out.2.2.1.trans (hRS.bel.1.mono (by have := HF.out; omega))
      cases lf with
      | none =>
        obtain ⟨his, hF, hB, hle⟩ := hRS
        subst his
        have z0 := hR0.cell (i := 0) rfl
        have fz0 := hR0.free 0
        have z1 := hR0.cell (i := 1) rfl
        have fz1 := hR0.free 1
        have z2 := hR0.cell (i := 2) rfl
        have fz2 := hR0.free 2
        have z3 := hR0.cell (i := 3) rfl
        have fz3 := hR0.free 3
        have z4 := hR0.cell (i := 4) rfl
        have fz4 := hR0.free 4
        have z5 := hR0.cell (i := 5) rfl
        have fz5 := hR0.free 5
        have z6 := hR0.cell (i := 6) rfl
        have fz6 := hR0.free 6
        have z7 := hR0.cell (i := 7) rfl
        have fz7 := hR0.free 7
        have z8 := hR0.cell (i := 8) rfl
        have fz8 := hR0.free 8
        have z9 := hR0.cell (i := 9) rfl
        have fz9 := hR0.free 9
        have y0 := hF.cell (i := 0) rfl
        have y1 := hF.cell (i := 1) rfl
        have y2 := hF.cell (i := 2) rfl
        have y3 := hF.cell (i := 3) rfl
        have y4 := hF.cell (i := 4) rfl
        have y5 := hF.cell (i := 5) rfl
        have y6 := hF.cell (i := 6) rfl
        have y7 := hF.cell (i := 7) rfl
        have y8 := hF.cell (i := 8) rfl
        have y9 := hF.cell (i := 9) rfl
        have ne1 : ¬ F = w.heap.size := by have := HF.out; omega
        have ne2 : ¬ w.heap.size = F := fun e => ne1 e.symm
        have kc : Chg [w.heap.size] wr ((((((((((wr.setCell ⟨w.heap.size, 0, none⟩ (.int .i64 0)).setCell ⟨w.heap.size, 1, none⟩ (.int .i64 0)).setCell ⟨w.heap.size, 2, none⟩ (.int .i64 0)).setCell ⟨w.heap.size, 3, none⟩ (.slice none 0 0)).setCell ⟨w.heap.size, 4, none⟩ (.slice none 0 0)).setCell ⟨w.heap.size, 5, none⟩ (.slice none 0 0)).setCell ⟨w.heap.size, 6, none⟩ (.string ⟨#[]⟩)).setCell ⟨w.heap.size, 7, none⟩ (.string ⟨#[]⟩)).setCell ⟨w.heap.size, 8, none⟩ (.bool false)).setCell ⟨w.heap.size, 9, none⟩ (.int .i64 0)) := (((((((((((Chg.refl [w.heap.size] wr).set (Or.inl (by simp)) _ _).set (Or.inl (by simp)) _ _).set (Or.inl (by simp)) _ _).set (Or.inl (by simp)) _ _).set (Or.inl (by simp)) _ _).set (Or.inl (by simp)) _ _).set (Or.inl (by simp)) _ _).set (Or.inl (by simp)) _ _).set (Or.inl (by simp)) _ _).set (Or.inl (by simp)) _ _)
        have HZ : Hid (Blk ((((((((((wr.setCell ⟨w.heap.size, 0, none⟩ (.int .i64 0)).setCell ⟨w.heap.size, 1, none⟩ (.int .i64 0)).setCell ⟨w.heap.size, 2, none⟩ (.int .i64 0)).setCell ⟨w.heap.size, 3, none⟩ (.slice none 0 0)).setCell ⟨w.heap.size, 4, none⟩ (.slice none 0 0)).setCell ⟨w.heap.size, 5, none⟩ (.slice none 0 0)).setCell ⟨w.heap.size, 6, none⟩ (.string ⟨#[]⟩)).setCell ⟨w.heap.size, 7, none⟩ (.string ⟨#[]⟩)).setCell ⟨w.heap.size, 8, none⟩ (.bool false)).setCell ⟨w.heap.size, 9, none⟩ (.int .i64 0)) w.heap.size [.int .i64 0, .int .i64 0, .int .i64 0, .slice none 0 0, .slice none 0 0, .slice none 0 0, .string ⟨#[]⟩, .string ⟨#[]⟩, .bool false, .int .i64 0] 58 ∧ Below w.heap.size w ((((((((((wr.setCell ⟨w.heap.size, 0, none⟩ (.int .i64 0)).setCell ⟨w.heap.size, 1, none⟩ (.int .i64 0)).setCell ⟨w.heap.size, 2, none⟩ (.int .i64 0)).setCell ⟨w.heap.size, 3, none⟩ (.slice none 0 0)).setCell ⟨w.heap.size, 4, none⟩ (.slice none 0 0)).setCell ⟨w.heap.size, 5, none⟩ (.slice none 0 0)).setCell ⟨w.heap.size, 6, none⟩ (.string ⟨#[]⟩)).setCell ⟨w.heap.size, 7, none⟩ (.string ⟨#[]⟩)).setCell ⟨w.heap.size, 8, none⟩ (.bool false)).setCell ⟨w.heap.size, 9, none⟩ (.int .i64 0))) := Lib.hid ⟨((((((((((hR0.set 0 _).set 1 _).set 2 _).set 3 _).set 4 _).set 5 _).set 6 _).set 7 _).set 8 _).set 9 _), kc.onto hbel hbel.size (by simp)⟩
        clear kc
        go_wp2_with fail
        clear z0 fz0 y0 z1 fz1 y1 z2 fz2 y2 z3 fz3 y3 z4 fz4 y4 z5 fz5 y5 z6 fz6 y6 z7 fz7 y7 z8 fz8 y8 z9 fz9 y9
        revert HZ
        generalize ((((((((((wr.setCell ⟨w.heap.size, 0, none⟩ (.int .i64 0)).setCell ⟨w.heap.size, 1, none⟩ (.int .i64 0)).setCell ⟨w.heap.size, 2, none⟩ (.int .i64 0)).setCell ⟨w.heap.size, 3, none⟩ (.slice none 0 0)).setCell ⟨w.heap.size, 4, none⟩ (.slice none 0 0)).setCell ⟨w.heap.size, 5, none⟩ (.slice none 0 0)).setCell ⟨w.heap.size, 6, none⟩ (.string ⟨#[]⟩)).setCell ⟨w.heap.size, 7, none⟩ (.string ⟨#[]⟩)).setCell ⟨w.heap.size, 8, none⟩ (.bool false)).setCell ⟨w.heap.size, 9, none⟩ (.int .i64 0)) = W9
        intro HZ
        have x0 := HZ.out.1.cell (i := 0) rfl
        have x1 := HZ.out.1.cell (i := 1) rfl
        have x2 := HZ.out.1.cell (i := 2) rfl
        have x3 := HZ.out.1.cell (i := 3) rfl
        have x4 := HZ.out.1.cell (i := 4) rfl
        have x5 := HZ.out.1.cell (i := 5) rfl
        have x6 := HZ.out.1.cell (i := 6) rfl
        have x7 := HZ.out.1.cell (i := 7) rfl
        have x8 := HZ.out.1.cell (i := 8) rfl
        have x9 := HZ.out.1.cell (i := 9) rfl
        refine bodyPost_ret (v := .tuple #[.agg #[.int .i64 0, .int .i64 0, .int .i64 0, .slice none 0 0, .slice none 0 0, .slice none 0 0, .string ⟨#[]⟩, .string ⟨#[]⟩, .bool false, .int .i64 0], .bool false]) (by simp [results, Tryd.results20, go_sem, x0, x1, x2, x3, x4, x5, x6, x7, x8, x9]) rfl ?_
        exact ⟨rfl, HZ.out.2⟩
      | some p =>
        obtain ⟨sc, fr, T⟩ := p
        obtain ⟨his, r1, c1, r2, c2, r3, c3, HR0⟩ := hRS
        subst his
        obtain ⟨rd, hrd⟩ : ∃ x, Pj.rd T = x := ⟨_, rfl⟩
        obtain ⟨tk, htk⟩ : ∃ x, Pj.tk T = x := ⟨_, rfl⟩
        obtain ⟨eo, heo⟩ : ∃ x, Pj.eof T = x := ⟨_, rfl⟩
        obtain ⟨st, hst⟩ : ∃ x, Pj.ss T = x := ⟨_, rfl⟩
        obtain ⟨n1, hn1⟩ : ∃ x, T.length = x := ⟨_, rfl⟩
        obtain ⟨n3, hn3⟩ : ∃ x, (Pj.stE T).length = x := ⟨_, rfl⟩
        rw [hrd, htk, heo, hst, hn1, hn3] at HR0
        have HT : Hid (Pj.rd T = rd ∧ Pj.tk T = tk ∧ Pj.eof T = eo ∧ Pj.ss T = st ∧ T.length = n1 ∧ (Pj.stE T).length = n3) := Lib.hid ⟨hrd, htk, heo, hst, hn1, hn3⟩
        clear hrd htk heo hst hn1 hn3
        have l1 : w.heap.size ∉ rvB r1 := fun h => by have h2 := (HR0.m1.lt _ h).1; have := HF.out; omega
        have l3 : w.heap.size ∉ rvB r3 := fun h => by have h2 := (HR0.m3.lt _ h).1; have := HF.out; omega
        have z0 := hR0.cell (i := 0) rfl
        have fz0 := hR0.free 0
        have z1 := hR0.cell (i := 1) rfl
        have fz1 := hR0.free 1
        have z2 := hR0.cell (i := 2) rfl
        have fz2 := hR0.free 2
        have z3 := hR0.cell (i := 3) rfl
        have fz3 := hR0.free 3
        have z4 := hR0.cell (i := 4) rfl
        have fz4 := hR0.free 4
        have z5 := hR0.cell (i := 5) rfl
        have fz5 := hR0.free 5
        have z6 := hR0.cell (i := 6) rfl
        have fz6 := hR0.free 6
        have z7 := hR0.cell (i := 7) rfl
        have fz7 := hR0.free 7
        have z8 := hR0.cell (i := 8) rfl
        have fz8 := hR0.free 8
        have z9 := hR0.cell (i := 9) rfl
        have fz9 := hR0.free 9
        have y0 := HR0.blk.cell (i := 0) rfl
        have y1 := HR0.blk.cell (i := 1) rfl
        have y2 := HR0.blk.cell (i := 2) rfl
        have y3 := HR0.blk.cell (i := 3) rfl
        have y4 := HR0.blk.cell (i := 4) rfl
        have y5 := HR0.blk.cell (i := 5) rfl
        have y6 := HR0.blk.cell (i := 6) rfl
        have y7 := HR0.blk.cell (i := 7) rfl
        have y8 := HR0.blk.cell (i := 8) rfl
        have y9 := HR0.blk.cell (i := 9) rfl
        have ne1 : ¬ F = w.heap.size := by have := HF.out; omega
        have ne2 : ¬ w.heap.size = F := fun e => ne1 e.symm
        have kc : Chg [w.heap.size] wr ((((((((((wr.setCell ⟨w.heap.size, 0, none⟩ (.int .i64 a1)).setCell ⟨w.heap.size, 1, none⟩ (.int .i64 sc)).setCell ⟨w.heap.size, 2, none⟩ (.int .i64 fr)).setCell ⟨w.heap.size, 3, none⟩ (.slice r1 n1 c1)).setCell ⟨w.heap.size, 4, none⟩ (.slice r2 n1 c2)).setCell ⟨w.heap.size, 5, none⟩ (.slice r3 n3 c3)).setCell ⟨w.heap.size, 6, none⟩ (.string rd)).setCell ⟨w.heap.size, 7, none⟩ (.string tk)).setCell ⟨w.heap.size, 8, none⟩ (.bool eo)).setCell ⟨w.heap.size, 9, none⟩ (.int .i64 st)) := (((((((((((Chg.refl [w.heap.size] wr).set (Or.inl (by simp)) _ _).set (Or.inl (by simp)) _ _).set (Or.inl (by simp)) _ _).set (Or.inl (by simp)) _ _).set (Or.inl (by simp)) _ _).set (Or.inl (by simp)) _ _).set (Or.inl (by simp)) _ _).set (Or.inl (by simp)) _ _).set (Or.inl (by simp)) _ _).set (Or.inl (by simp)) _ _)
        have HZ : Hid (Blk ((((((((((wr.setCell ⟨w.heap.size, 0, none⟩ (.int .i64 a1)).setCell ⟨w.heap.size, 1, none⟩ (.int .i64 sc)).setCell ⟨w.heap.size, 2, none⟩ (.int .i64 fr)).setCell ⟨w.heap.size, 3, none⟩ (.slice r1 n1 c1)).setCell ⟨w.heap.size, 4, none⟩ (.slice r2 n1 c2)).setCell ⟨w.heap.size, 5, none⟩ (.slice r3 n3 c3)).setCell ⟨w.heap.size, 6, none⟩ (.string rd)).setCell ⟨w.heap.size, 7, none⟩ (.string tk)).setCell ⟨w.heap.size, 8, none⟩ (.bool eo)).setCell ⟨w.heap.size, 9, none⟩ (.int .i64 st)) w.heap.size [.int .i64 a1, .int .i64 sc, .int .i64 fr, .slice r1 n1 c1, .slice r2 n1 c2, .slice r3 n3 c3, .string rd, .string tk, .bool eo, .int .i64 st] 58 ∧ Below w.heap.size w ((((((((((wr.setCell ⟨w.heap.size, 0, none⟩ (.int .i64 a1)).setCell ⟨w.heap.size, 1, none⟩ (.int .i64 sc)).setCell ⟨w.heap.size, 2, none⟩ (.int .i64 fr)).setCell ⟨w.heap.size, 3, none⟩ (.slice r1 n1 c1)).setCell ⟨w.heap.size, 4, none⟩ (.slice r2 n1 c2)).setCell ⟨w.heap.size, 5, none⟩ (.slice r3 n3 c3)).setCell ⟨w.heap.size, 6, none⟩ (.string rd)).setCell ⟨w.heap.size, 7, none⟩ (.string tk)).setCell ⟨w.heap.size, 8, none⟩ (.bool eo)).setCell ⟨w.heap.size, 9, none⟩ (.int .i64 st)) ∧ RM ((((((((((wr.setCell ⟨w.heap.size, 0, none⟩ (.int .i64 a1)).setCell ⟨w.heap.size, 1, none⟩ (.int .i64 sc)).setCell ⟨w.heap.size, 2, none⟩ (.int .i64 fr)).setCell ⟨w.heap.size, 3, none⟩ (.slice r1 n1 c1)).setCell ⟨w.heap.size, 4, none⟩ (.slice r2 n1 c2)).setCell ⟨w.heap.size, 5, none⟩ (.slice r3 n3 c3)).setCell ⟨w.heap.size, 6, none⟩ (.string rd)).setCell ⟨w.heap.size, 7, none⟩ (.string tk)).setCell ⟨w.heap.size, 8, none⟩ (.bool eo)).setCell ⟨w.heap.size, 9, none⟩ (.int .i64 st)) w.heap.size r1 n1 c1 4 (Pj.ins T) 90 ∧ RM ((((((((((wr.setCell ⟨w.heap.size, 0, none⟩ (.int .i64 a1)).setCell ⟨w.heap.size, 1, none⟩ (.int .i64 sc)).setCell ⟨w.heap.size, 2, none⟩ (.int .i64 fr)).setCell ⟨w.heap.size, 3, none⟩ (.slice r1 n1 c1)).setCell ⟨w.heap.size, 4, none⟩ (.slice r2 n1 c2)).setCell ⟨w.heap.size, 5, none⟩ (.slice r3 n3 c3)).setCell ⟨w.heap.size, 6, none⟩ (.string rd)).setCell ⟨w.heap.size, 7, none⟩ (.string tk)).setCell ⟨w.heap.size, 8, none⟩ (.bool eo)).setCell ⟨w.heap.size, 9, none⟩ (.int .i64 st)) w.heap.size r3 n3 c3 6 (Pj.sts T) 44) := Lib.hid ⟨((((((((((hR0.set 0 _).set 1 _).set 2 _).set 3 _).set 4 _).set 5 _).set 6 _).set 7 _).set 8 _).set 9 _), kc.onto hbel hbel.size (by simp), (HR0.m1.chg kc (fun g hg h => by simp at h; subst h; exact l1 hg)).base_le (by have := HF.out; omega), (HR0.m3.chg kc (fun g hg h => by simp at h; subst h; exact l3 hg)).base_le (by have := HF.out; omega)⟩
        clear kc
        go_wp2_with fail
        clear z0 fz0 y0 z1 fz1 y1 z2 fz2 y2 z3 fz3 y3 z4 fz4 y4 z5 fz5 y5 z6 fz6 y6 z7 fz7 y7 z8 fz8 y8 z9 fz9 y9
        revert HZ
        generalize ((((((((((wr.setCell ⟨w.heap.size, 0, none⟩ (.int .i64 a1)).setCell ⟨w.heap.size, 1, none⟩ (.int .i64 sc)).setCell ⟨w.heap.size, 2, none⟩ (.int .i64 fr)).setCell ⟨w.heap.size, 3, none⟩ (.slice r1 n1 c1)).setCell ⟨w.heap.size, 4, none⟩ (.slice r2 n1 c2)).setCell ⟨w.heap.size, 5, none⟩ (.slice r3 n3 c3)).setCell ⟨w.heap.size, 6, none⟩ (.string rd)).setCell ⟨w.heap.size, 7, none⟩ (.string tk)).setCell ⟨w.heap.size, 8, none⟩ (.bool eo)).setCell ⟨w.heap.size, 9, none⟩ (.int .i64 st)) = W9
        intro HZ
        have x0 := HZ.out.1.cell (i := 0) rfl
        have x1 := HZ.out.1.cell (i := 1) rfl
        have x2 := HZ.out.1.cell (i := 2) rfl
        have x3 := HZ.out.1.cell (i := 3) rfl
        have x4 := HZ.out.1.cell (i := 4) rfl
        have x5 := HZ.out.1.cell (i := 5) rfl
        have x6 := HZ.out.1.cell (i := 6) rfl
        have x7 := HZ.out.1.cell (i := 7) rfl
        have x8 := HZ.out.1.cell (i := 8) rfl
        have x9 := HZ.out.1.cell (i := 9) rfl
        refine bodyPost_ret (v := .tuple #[.agg #[.int .i64 a1, .int .i64 sc, .int .i64 fr, .slice r1 n1 c1, .slice r2 n1 c2, .slice r3 n3 c3, .string rd, .string tk, .bool eo, .int .i64 st], .bool true]) (by simp [results, Tryd.results20, go_sem, x0, x1, x2, x3, x4, x5, x6, x7, x8, x9]) rfl ?_
        obtain ⟨rfl, rfl, rfl, rfl, rfl, rfl⟩ := HT.out
        exact ⟨r1, c1, r2, c2, r3, c3, rfl, HZ.out.2.2.1, HZ.out.2.2.2, HZ.out.2.1⟩
end Go.Proofs.YtdchedkhlfmpeaaDoor
