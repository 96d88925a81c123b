/- Contracts of sets of bytes: the parts of its text. -/
import Derived.Test.YtkihlnomchhiiaaCs5
import Derived.Test.YtkihlnomchhiiaaClass
namespace Go.Proofs.Ytkihlnomchhiiaa
open Go.ChangeShapes Go.WideShapes Go.ChangeAt Go.RowKit
set_option linter.unusedSimpArgs false
set_option linter.unusedVariables false

theorem nat_of_eq {a b : UInt8} (h : a.toNat = b.toNat + 1) : IntKind.u8.wrap ((b.toNat : Int) + 1) = (a.toNat : Int) := by
  have := a.toNat_lt
  simp [IntKind.wrap, IntKind.signed, IntKind.bits]; omega
theorem nat_of_ne {a b : UInt8} (h : b.toNat < a.toNat) (hn : ¬ a.toNat = b.toNat + 1) : ((a.toNat : Int) == IntKind.u8.wrap ((b.toNat : Int) + 1)) = false := by
  have := a.toNat_lt
  rw [beq_eq_false_iff_ne]
  simp [IntKind.wrap, IntKind.signed, IntKind.bits]; omega
theorem byte_at {s : ByteArray} {i : Nat} (h : i < s.size) : s.data.toList[i]? = some s[i] := by
  rw [List.getElem?_eq_getElem (by simpa using h)]; rfl
theorem step_append_own {P : Program} {ops : Array Oper} {o : Oper} {a : Act} {w : World} {K : Act → World → Prop} {Q : Exit → Act → World → Prop} {E : Prop} (hg : o.guard = none) (s x : Operand) (t : TypeId)
    (ho : o.op = .call { callee := .builtin .append, args := #[s, x], argTypes := #[t, t] })
    (base : Nat) (e : TypeId) (i : TypeInfo) (z : Value) (size bytes : Nat) (ht : P.underlying t = some (.slice e)) (hi : P.info? e = some i) (hz : i.zero = some z)
    (hsize : i.size = size) (hby : i.bytes = bytes) (hzs : z.cells.size = size) (hsz : 0 < size)
    (v : Value) (n : Nat) (xs : List Value) (hs : a.eval s = v) (hown : w.ownsRow base e size v n xs)
    (ad : Addr) (m c : Nat) (news : List Value) (hx : a.eval x = .slice (some ad) m c) (hl : news.length = m * size) (hnews : ∀ j u, news[j]? = some u → w.cell? (ad.add j) = some u) (h1 : ∀ u ∈ news, u.oneCell' = true)
    (h63 : n + m ≤ maxLen) (hbytes : (n + m) * bytes ≤ 140737488355328) (hbase : base ≤ w.heap.size)
    (h : ∀ v' w', w'.ownsRow base e size v' (n + m) (xs ++ news) → w.grownBy w' v.ownBlock → K (a.put o.dst v') w') :
    if Region.wanted o (yielded ops a.tmps) = true then Oper.wp P o a w K Q else E := by
  have hw : Region.wanted o (yielded ops a.tmps) = true := by simp [Region.wanted, hg]
  rw [if_pos hw]
  exact wp_append_own w s x t ho base e i z size bytes ht hi hz hsize hby hzs hsz v n xs hs hown ad m c news hx hl hnews h1 h63 hbytes hbase fun v' w' h2 h3 _ => h v' w' h2 h3
set_option maxRecDepth 20000 in
set_option maxHeartbeats 2000000 in
theorem cs_parts (X : BitVec 256) (t : ByteArray) (ht : t.data.toList = Cs.txt (Cs.prP 257 (Cs.memT X 256))) (w : World) :
    Calls Try.prog 47 #[Cs.sv X] w fun e w' => e = .returned (.string t) ∧ Below w.heap.size w w' := by
  obtain ⟨s, hs⟩ := text_mk (Cs.memT X 256)
  obtain ⟨n, hn⟩ : ∃ n, s.size = n := ⟨_, rfl⟩
  have n256 : n ≤ 256 := by rw [← hn, size_of hs]; exact Cs.memT_le X
  have HS : Hid (s.data.toList = Cs.memT X 256 ∧ (s.data.toList).Pairwise fun a b => a.toNat < b.toNat) := Lib.hid ⟨hs, by rw [hs]; exact Cs.memT_rise X⟩
  have HT : Hid (t.data.toList = Cs.txt (Cs.prP 257 (s.data.toList))) := Lib.hid (by rw [hs]; exact ht)
  have HN := Lib.hid hn
  clear hs ht
  obtain ⟨i0, hi, hz0, hz1, hz2⟩ := info_parts info5
  have HI := Lib.hid hi
  have HI0 := Lib.hid hz0
  have HI1 := Lib.hid hz1
  have HI2 := Lib.hid hz2
  clear hi hz0 hz1 hz2
  have hc : Hid (SB (w.alloc (.cells #[.int .u64 (Cs.wd X 0), .int .u64 (Cs.wd X 1), .int .u64 (Cs.wd X 2), .int .u64 (Cs.wd X 3)] 38)) w.heap.size X ∧ Below w.heap.size w (w.alloc (.cells #[.int .u64 (Cs.wd X 0), .int .u64 (Cs.wd X 1), .int .u64 (Cs.wd X 2), .int .u64 (Cs.wd X 3)] 38))) := Lib.hid ⟨SB.new w X, (Below.refl _ _).alloc (Nat.le_refl _) _⟩
  unfold Cs.sv
  go_enter Try.func47, Try.ntmps47
  go_upto_region 1 with fail
  revert hc
  generalize w.alloc (.cells #[.int .u64 (Cs.wd X 0), .int .u64 (Cs.wd X 1), .int .u64 (Cs.wd X 2), .int .u64 (Cs.wd X 3)] 38) = W
  intro hc
  have x0 := hc.out.1.at (i := 0) (by decide)
  have x1 := hc.out.1.at (i := 1) (by decide)
  have x2 := hc.out.1.at (i := 2) (by decide)
  have x3 := hc.out.1.at (i := 3) (by decide)
  go_wp2_with (go_at_call 38; rw [sv_def X]; refine (cs_bytes X s HS.out.1 _).mono ?_; rintro e W1 ⟨rfl, hb1⟩; have HB0 : Hid (SB W1 w.heap.size X ∧ Below w.heap.size w W1) := Lib.hid ⟨hc.out.1.below hb1, hc.out.2.trans (hb1.mono hc.out.2.size)⟩; clear hb1 x0 x1 x2 x3 hc)
  go_loopw [4, 5] (fun v i wr => ∃ (k m : Nat) (out : List UInt8), i = .int .i64 k ∧ k ≤ n ∧ m ≤ 5 * k ∧ Hid (∃ f, out ++ Cs.txt (Cs.prP f (s.data.toList.drop k)) = t.data.toList ∧ n - k < f) ∧ Hid (wr.ownsRow (w.heap.size + 1) 5 1 v m (cu out) ∧ Below w.heap.size w wr ∧ w.heap.size + 1 ≤ wr.heap.size)) (fun _ i _ => n - (intOf i).toNat)
  case atStart => exact ⟨0, 0, [], rfl, by omega, by omega, Lib.hid ⟨257, by rw [List.drop_zero, List.nil_append, HT.out], by omega⟩, Lib.hid ⟨World.ownsRow_nil _ _ _ _, HB0.out.2, by have := HB0.out.1.lt; omega⟩⟩
  case round =>
    clear HB0
    obtain ⟨k, m, out, rfl, hk, hm, HF, HO⟩ := hrel
    have j0 : (0 : Int) ≤ (k : Int) := by omega
    by_cases hkl : k < n
    · have hks : k < s.size := by rw [HN.out]; exact hkl
      obtain ⟨c, hcc⟩ : ∃ c, s[k] = c := ⟨_, rfl⟩
      obtain ⟨r, hr⟩ : ∃ r, s.data.toList.drop (k + 1) = r := ⟨_, rfl⟩
      have HD : Hid (s.data.toList.drop k = c :: r ∧ s.data.toList.drop (k + 1) = r ∧ s[k] = c) := Lib.hid ⟨by rw [drop_cons s k hks, hcc, hr], hr, hcc⟩
      have HAT : Hid (∀ j, (c :: r)[j]? = s.data.toList[k + j]?) := Lib.hid (fun j => by rw [← HD.out.1, List.getElem?_drop])
      have w1 : IntKind.i64.wrap ((k : Int) + 1) = (k : Int) + 1 := IntWalk.i64_in _ (by omega)
      clear hcc hr
      go_wp2
      go_loopw [6] (fun i wr' => ∃ p : Nat, i = .int .i64 p ∧ k + 1 ≤ p ∧ p ≤ n ∧ Hid (wr'.ownsRow (w.heap.size + 1) 5 1 u4 m (cu out) ∧ Below w.heap.size w wr' ∧ w.heap.size + 1 ≤ wr'.heap.size) ∧ Hid (∃ j, p = k + 1 + j ∧ j ≤ Cs.run1 c r)) (fun i _ => n - (intOf i).toNat)
      case atStart => exact ⟨k + 1, by go_num, by omega, by omega, HO, Lib.hid ⟨0, rfl, Nat.zero_le _⟩⟩
      case round =>
        clear HO
        obtain ⟨p, rfl, hp0, hp, HO, HJ⟩ := hrel
        have j1 : (0 : Int) ≤ (p : Int) := by omega
        by_cases hpl : p < n
        · have hps : p < s.size := by rw [HN.out]; exact hpl
          obtain ⟨q, hq⟩ : ∃ q, p = q + 1 := ⟨p - 1, by omega⟩
          have hqs : q < s.size := by omega
          have hqn : q < n := by omega
          have w2 : IntKind.i64.wrap ((p : Int) - 1) = (q : Int) := by rw [hq]; rw [show (((q + 1 : Nat) : Int) - 1) = (q : Int) by omega]; exact IntWalk.i64_in _ (by omega)
          have hlt : s[q].toNat < s[p].toNat := by
            have h1 := byte_at hqs
            have h2 := byte_at hps
            exact Cs.rise_at HS.out.2 (i := q) h1 (by rw [← hq]; exact h2)
          have HXY : Hid (∀ j, p = k + 1 + j → (c :: r)[j]? = some s[q] ∧ (c :: r)[j + 1]? = some s[p]) := Lib.hid (by
            intro j hj
            rw [HAT.out j, HAT.out (j + 1)]
            constructor
            · rw [show k + j = q by omega]; exact byte_at hqs
            · rw [show k + (j + 1) = p by omega]; exact byte_at hps)
          have HQ := Lib.hid hq
          clear hq
          obtain ⟨x, hx⟩ : ∃ x, s[p] = x := ⟨_, rfl⟩
          obtain ⟨y, hy⟩ : ∃ y, s[q] = y := ⟨_, rfl⟩
          rw [hx, hy] at hlt
          rw [hx, hy] at HXY
          by_cases hxy : x.toNat = y.toNat + 1
          · have wb := nat_of_eq hxy
            have HJ2 : Hid (∃ j, p + 1 = k + 1 + j ∧ j ≤ Cs.run1 c r) := Lib.hid (by
              obtain ⟨j, e1, e2⟩ := HJ.out
              obtain ⟨y1, y2⟩ := HXY.out j e1
              exact ⟨j + 1, by omega, Cs.run_go e2 y1 y2 hxy⟩)
            go_wp2_with fail
            refine wp_region_class (fun w' => w'.ownsRow (w.heap.size + 1) 5 1 u4 m (cu out) ∧ Below w.heap.size w w' ∧ w.heap.size + 1 ≤ w'.heap.size) (by kernel_rfl) (by kernel_rfl) ⟨HO.out.1.drew, HO.out.2.1.drew, HO.out.2.2⟩ ?_
            repeat (first
                | go_big_quiet_skip
                | (go_big_quiet_want
                   unfold Oper.quiet
                   apply Exists.intro
                   refine ⟨fun wq hwq => ?_, ?_⟩
                   · (unfold Oper.quietAt
                      go_simp
                      first
                        | exact ⟨rfl, hwq⟩
                        | exact rfl)
                   simp only [Act.put, List.setIfInBounds_toArray, List.set_cons_zero, List.set_cons_succ]
                   go_big_quiet_on))
            refine wpQuiet_nil ?_
            intro w4 hw4
            have HO4 := Lib.hid hw4
            clear hw4
            go_wp2
            refine ⟨?_, ?measure⟩
            case measure => simp [intOf]; omega
            first
              | exact ⟨p + 1, by go_num, by omega, by omega, HO4, HJ2⟩
              | ((repeat apply Exists.intro); exact ⟨⟨p + 1, by go_num, by omega, by omega, HO4, HJ2⟩, rfl⟩)
          · have wb := nat_of_ne hlt hxy
            have HM1 : Hid (p = k + 1 + Cs.run1 c r) := Lib.hid (by
              obtain ⟨j, e1, e2⟩ := HJ.out
              obtain ⟨y1, y2⟩ := HXY.out j e1
              rw [← Cs.run_end e2 y1 y2 hxy]; exact e1)
            have wb2 : IntKind.u8.wrap ((y.toNat : Int) + 1) = (y.toNat : Int) + 1 := by
              have := x.toNat_lt
              simp [IntKind.wrap, IntKind.signed, IntKind.bits]; omega
            have wb3 : ((x.toNat : Int) == (y.toNat : Int) + 1) = false := by rw [beq_eq_false_iff_ne]; omega
            go_wp2_with fail
            refine wp_region_class (fun w' => w'.ownsRow (w.heap.size + 1) 5 1 u4 m (cu out) ∧ Below w.heap.size w w' ∧ w.heap.size + 1 ≤ w'.heap.size) (by kernel_rfl) (by kernel_rfl) ⟨HO.out.1.drew, HO.out.2.1.drew, HO.out.2.2⟩ ?_
            repeat (first
                | go_big_quiet_skip
                | (go_big_quiet_want
                   unfold Oper.quiet
                   apply Exists.intro
                   refine ⟨fun wq hwq => ?_, ?_⟩
                   · (unfold Oper.quietAt
                      go_simp
                      first
                        | exact ⟨rfl, hwq⟩
                        | exact rfl)
                   simp only [Act.put, List.setIfInBounds_toArray, List.set_cons_zero, List.set_cons_succ]
                   go_big_quiet_on))
            refine wpQuiet_nil ?_
            intro w4 hw4
            have HO4 := Lib.hid hw4
            clear hw4
            clear wb wb2 wb3 hlt hxy hx hy w2
            obtain ⟨m1, hm1⟩ : ∃ m1, Cs.run1 c r = m1 := ⟨_, rfl⟩
            have HM2 := Lib.hid hm1
            have hpm : p = k + 1 + m1 := by rw [HM1.out, hm1]
            have w3 : IntKind.i64.wrap ((p : Int) - k) = (m1 : Int) + 1 := by rw [hpm]; rw [show (((k + 1 + m1 : Nat) : Int) - k) = (m1 : Int) + 1 by omega]; exact IntWalk.i64_in _ (by omega)
            have HPM := Lib.hid hpm
            clear hm1 hpm
            by_cases hshort : m1 + 1 < 3
            · have hsi : (m1 : Int) + 1 < 3 := by omega
              have w4 : IntKind.i64.wrap ((k : Int) + 1 - k) = 1 := by rw [show (k : Int) + 1 - k = 1 by omega]; rfl
              have HF2 : Hid (∃ f, (out ++ Cs.sgn c) ++ Cs.txt (Cs.prP f (s.data.toList.drop (k + 1))) = t.data.toList ∧ n - (k + 1) < f) := Lib.hid (by
                obtain ⟨f, hf, hlt⟩ := HF.out
                obtain ⟨f, rfl⟩ : ∃ g, f = g + 1 := ⟨f - 1, by omega⟩
                rw [HD.out.1, Cs.prP_short (by rw [HM2.out]; exact hshort), ← List.append_assoc] at hf
                exact ⟨f, by rw [HD.out.2.1]; exact hf, by omega⟩)
              have sl := Cs.sgn_len c
              go_wp2_with (go_at_call 51; refine (cs_sign_any (w.heap.size + 1) _ m out s[k] _ (by omega) HO4.out.2.2 HO4.out.1).mono ?_; rintro e w2 ⟨v2, rfl, q1, q2⟩; rw [HD.out.2.2] at q1; have HO1 : Hid (w2.ownsRow (w.heap.size + 1) 5 1 v2 (m + (Cs.sgn c).length) (cu (out ++ Cs.sgn c)) ∧ Below w.heap.size w w2 ∧ w.heap.size + 1 ≤ w2.heap.size) := Lib.hid ⟨q1, HO4.out.2.1.trans (q2.mono (by omega)), by have := q2.size; have := HO4.out.2.2; omega⟩; clear q1 q2)
              refine ⟨?_, ?measure⟩
              case measure => simp [intOf]; omega
              first
                | exact ⟨k + 1, m + (Cs.sgn c).length, out ++ Cs.sgn c, by go_num, by omega, by omega, HF2, HO1⟩
                | ((repeat apply Exists.intro); exact ⟨⟨k + 1, m + (Cs.sgn c).length, out ++ Cs.sgn c, by go_num, by omega, by omega, HF2, HO1⟩, rfl⟩)
            · have hsi : ¬ ((m1 : Int) + 1 < 3) := by omega
              have hsi2 : 1 < (m1 : Int) + 1 := by omega
              obtain ⟨q2, hq2⟩ : ∃ q2, k + m1 = q2 := ⟨_, rfl⟩
              have hpq : p = q2 + 1 := by rw [HPM.out]; omega
              have w5 : IntKind.i64.wrap ((p : Int) - 1) = (q2 : Int) := by rw [hpq]; rw [show (((q2 + 1 : Nat) : Int) - 1) = (q2 : Int) by omega]; exact IntWalk.i64_in _ (by omega)
              have hq2n : q2 < n := by omega
              have hq2s : q2 < s.size := by rw [HN.out]; exact hq2n
              obtain ⟨d, hd⟩ : ∃ d, s[q2] = d := ⟨_, rfl⟩
              have HDD : Hid (UInt8.ofNat (c.toNat + Cs.run1 c r) = d) := Lib.hid (by
                obtain ⟨x2, g1, g2⟩ := Cs.run1_at c r (Cs.run1 c r) (Nat.le_refl _)
                rw [HAT.out, HM2.out, hq2, byte_at hq2s, hd] at g1
                injection g1 with g1
                rw [← g2, ← g1]; simp)
              have HF2 : Hid (∃ f, (out ++ Cs.sgn c ++ [45] ++ Cs.sgn d) ++ Cs.txt (Cs.prP f (s.data.toList.drop p)) = t.data.toList ∧ n - p < f) := Lib.hid (by
                obtain ⟨f, hf, hlt⟩ := HF.out
                obtain ⟨f, rfl⟩ : ∃ g, f = g + 1 := ⟨f - 1, by omega⟩
                rw [HD.out.1, Cs.prP_long (by rw [HM2.out]; exact hshort), HDD.out] at hf
                refine ⟨f, ?_, by omega⟩
                have e9 : s.data.toList.drop p = r.drop (Cs.run1 c r) := by rw [HM1.out, ← List.drop_drop, HD.out.2.1]
                rw [e9, ← hf]; simp)
              have HPQ := Lib.hid (And.intro hq2 hpq)
              have sl := Cs.sgn_len c
              have sd := Cs.sgn_len d
              have hd2 : (s[q2].toNat : Int) = d.toNat := by rw [hd]
              clear hq2 hpq
              obtain ⟨m2, hm2⟩ : ∃ m2, m + (Cs.sgn c).length = m2 := ⟨_, rfl⟩
              obtain ⟨out2, ho2⟩ : ∃ o2, out ++ Cs.sgn c = o2 := ⟨_, rfl⟩
              have hm2b : m2 ≤ m + 2 := by omega
              rw [ho2] at HF2
              go_upto_region 12 with (go_at_call 51; refine (cs_sign_any (w.heap.size + 1) _ m out s[k] _ (by omega) HO4.out.2.2 HO4.out.1).mono ?_; rintro e w2 ⟨v2, rfl, q1, q2⟩; rw [HD.out.2.2, hm2, ho2] at q1; have HO1 : Hid (w2.drew.ownsRow (w.heap.size + 1) 5 1 v2 m2 (cu out2) ∧ Below w.heap.size w w2.drew ∧ w.heap.size + 1 ≤ w2.heap.size) := Lib.hid ⟨q1.drew, (HO4.out.2.1.trans (q2.mono (by omega))).drew, by have := q2.size; have := HO4.out.2.2; omega⟩; clear q1 q2)
              go_region_law (first
                | (refine step_append_own rfl _ _ 47 rfl (w.heap.size + 1) 5 i0 (.int .u8 0) 1 1 Try.underlying47 HI.out HI0.out HI1.out HI2.out rfl (by decide) _ _ _ rfl (HO1.out.1.alloc _) ⟨w2.heap.size, 0, none⟩ 1 1 [.int .u8 45] rfl rfl (one_new _ _ _) (one_u8 _) (by unfold maxLen; omega) (by omega) (by have := HO1.out.2.2; simp; omega) ?_; intro v3 w3 h1 h2; have HO2 : Hid (w3.ownsRow (w.heap.size + 1) 5 1 v3 (m2 + 1) (cu (out2 ++ [45])) ∧ Below w.heap.size w w3 ∧ w.heap.size + 1 ≤ w3.heap.size) := Lib.hid ⟨by rw [cu_append]; exact h1, HO1.out.2.1.trans (((Below.refl _ _).alloc (by have := HO1.out.2.2; simp; omega) _).grown h2 (by have := HO1.out.2.2; simp; omega) (fun q hq => by have := (HO1.out.1.lt q hq).1; omega)), by have q := h2.size; simp at q; have := HO1.out.2.2; omega⟩; clear h1 h2)
                | (rw [if_pos (by simp [Region.wanted])]; unfold Oper.wp; go_simp; go_at_call 51; refine (cs_sign_any (w.heap.size + 1) _ (m2 + 1) (out2 ++ [45]) d _ (by omega) HO2.out.2.2 HO2.out.1).mono ?_; rintro e w4 ⟨v4, rfl, q1, q2⟩; have HO3 : Hid (w4.ownsRow (w.heap.size + 1) 5 1 v4 (m2 + 1 + (Cs.sgn d).length) (cu (out2 ++ [45] ++ Cs.sgn d)) ∧ Below w.heap.size w w4 ∧ w.heap.size + 1 ≤ w4.heap.size) := Lib.hid ⟨q1, HO2.out.2.1.trans (q2.mono (by omega)), by have := q2.size; have := HO2.out.2.2; omega⟩; clear q1 q2))
              all_goals
                go_wp2
                refine ⟨?_, ?measure⟩
                case measure => simp [intOf]; omega
                first
                  | exact ⟨p, m2 + 1 + (Cs.sgn d).length, out2 ++ [45] ++ Cs.sgn d, by go_num, by omega, by omega, HF2, HO3⟩
                  | exact ⟨p, m2 + 1 + (Cs.sgn d).length, out2 ++ [45] ++ Cs.sgn d, rfl, by omega, by omega, HF2, HO3⟩
                  | ((repeat apply Exists.intro); exact ⟨⟨p, m2 + 1 + (Cs.sgn d).length, out2 ++ [45] ++ Cs.sgn d, by go_num, by omega, by omega, HF2, HO3⟩, rfl⟩)
        · have HM1 : Hid (p = k + 1 + Cs.run1 c r) := Lib.hid (by
            obtain ⟨j, e1, e2⟩ := HJ.out
            have hl : (c :: r).length ≤ j + 1 := by
              rw [← HD.out.1, List.length_drop, Array.length_toList]
              have : s.data.size = s.size := rfl
              rw [this, HN.out]; omega
            rw [← Cs.run_last e2 hl]; exact e1)
          go_wp2_with fail
          refine wp_region_class (fun w' => w'.ownsRow (w.heap.size + 1) 5 1 u4 m (cu out) ∧ Below w.heap.size w w' ∧ w.heap.size + 1 ≤ w'.heap.size) (by kernel_rfl) (by kernel_rfl) ⟨HO.out.1.drew, HO.out.2.1.drew, HO.out.2.2⟩ ?_
          repeat (first
              | go_big_quiet_skip
              | (go_big_quiet_want
                 unfold Oper.quiet
                 apply Exists.intro
                 refine ⟨fun wq hwq => ?_, ?_⟩
                 · (unfold Oper.quietAt
                    go_simp
                    first
                      | exact ⟨rfl, hwq⟩
                      | exact rfl)
                 simp only [Act.put, List.setIfInBounds_toArray, List.set_cons_zero, List.set_cons_succ]
                 go_big_quiet_on))
          refine wpQuiet_nil ?_
          intro w4 hw4
          have HO4 := Lib.hid hw4
          clear hw4
          obtain ⟨m1, hm1⟩ : ∃ m1, Cs.run1 c r = m1 := ⟨_, rfl⟩
          have HM2 := Lib.hid hm1
          have hpm : p = k + 1 + m1 := by rw [HM1.out, hm1]
          have w3 : IntKind.i64.wrap ((p : Int) - k) = (m1 : Int) + 1 := by rw [hpm]; rw [show (((k + 1 + m1 : Nat) : Int) - k) = (m1 : Int) + 1 by omega]; exact IntWalk.i64_in _ (by omega)
          have HPM := Lib.hid hpm
          clear hm1 hpm
          by_cases hshort : m1 + 1 < 3
          · have hsi : (m1 : Int) + 1 < 3 := by omega
            have w4 : IntKind.i64.wrap ((k : Int) + 1 - k) = 1 := by rw [show (k : Int) + 1 - k = 1 by omega]; rfl
            have HF2 : Hid (∃ f, (out ++ Cs.sgn c) ++ Cs.txt (Cs.prP f (s.data.toList.drop (k + 1))) = t.data.toList ∧ n - (k + 1) < f) := Lib.hid (by
              obtain ⟨f, hf, hlt⟩ := HF.out
              obtain ⟨f, rfl⟩ : ∃ g, f = g + 1 := ⟨f - 1, by omega⟩
              rw [HD.out.1, Cs.prP_short (by rw [HM2.out]; exact hshort), ← List.append_assoc] at hf
              exact ⟨f, by rw [HD.out.2.1]; exact hf, by omega⟩)
            have sl := Cs.sgn_len c
            go_wp2_with (go_at_call 51; refine (cs_sign_any (w.heap.size + 1) _ m out s[k] _ (by omega) HO4.out.2.2 HO4.out.1).mono ?_; rintro e w2 ⟨v2, rfl, q1, q2⟩; rw [HD.out.2.2] at q1; have HO1 : Hid (w2.ownsRow (w.heap.size + 1) 5 1 v2 (m + (Cs.sgn c).length) (cu (out ++ Cs.sgn c)) ∧ Below w.heap.size w w2 ∧ w.heap.size + 1 ≤ w2.heap.size) := Lib.hid ⟨q1, HO4.out.2.1.trans (q2.mono (by omega)), by have := q2.size; have := HO4.out.2.2; omega⟩; clear q1 q2)
            refine ⟨?_, ?measure⟩
            case measure => simp [intOf]; omega
            first
              | exact ⟨k + 1, m + (Cs.sgn c).length, out ++ Cs.sgn c, by go_num, by omega, by omega, HF2, HO1⟩
              | ((repeat apply Exists.intro); exact ⟨⟨k + 1, m + (Cs.sgn c).length, out ++ Cs.sgn c, by go_num, by omega, by omega, HF2, HO1⟩, rfl⟩)
          · have hsi : ¬ ((m1 : Int) + 1 < 3) := by omega
            have hsi2 : 1 < (m1 : Int) + 1 := by omega
            obtain ⟨q2, hq2⟩ : ∃ q2, k + m1 = q2 := ⟨_, rfl⟩
            have hpq : p = q2 + 1 := by rw [HPM.out]; omega
            have w5 : IntKind.i64.wrap ((p : Int) - 1) = (q2 : Int) := by rw [hpq]; rw [show (((q2 + 1 : Nat) : Int) - 1) = (q2 : Int) by omega]; exact IntWalk.i64_in _ (by omega)
            have hq2n : q2 < n := by omega
            have hq2s : q2 < s.size := by rw [HN.out]; exact hq2n
            obtain ⟨d, hd⟩ : ∃ d, s[q2] = d := ⟨_, rfl⟩
            have HDD : Hid (UInt8.ofNat (c.toNat + Cs.run1 c r) = d) := Lib.hid (by
              obtain ⟨x2, g1, g2⟩ := Cs.run1_at c r (Cs.run1 c r) (Nat.le_refl _)
              rw [HAT.out, HM2.out, hq2, byte_at hq2s, hd] at g1
              injection g1 with g1
              rw [← g2, ← g1]; simp)
            have HF2 : Hid (∃ f, (out ++ Cs.sgn c ++ [45] ++ Cs.sgn d) ++ Cs.txt (Cs.prP f (s.data.toList.drop p)) = t.data.toList ∧ n - p < f) := Lib.hid (by
              obtain ⟨f, hf, hlt⟩ := HF.out
              obtain ⟨f, rfl⟩ : ∃ g, f = g + 1 := ⟨f - 1, by omega⟩
              rw [HD.out.1, Cs.prP_long (by rw [HM2.out]; exact hshort), HDD.out] at hf
              refine ⟨f, ?_, by omega⟩
              have e9 : s.data.toList.drop p = r.drop (Cs.run1 c r) := by rw [HM1.out, ← List.drop_drop, HD.out.2.1]
              rw [e9, ← hf]; simp)
            have HPQ := Lib.hid (And.intro hq2 hpq)
            have sl := Cs.sgn_len c
            have sd := Cs.sgn_len d
            have hd2 : (s[q2].toNat : Int) = d.toNat := by rw [hd]
            clear hq2 hpq
            obtain ⟨m2, hm2⟩ : ∃ m2, m + (Cs.sgn c).length = m2 := ⟨_, rfl⟩
            obtain ⟨out2, ho2⟩ : ∃ o2, out ++ Cs.sgn c = o2 := ⟨_, rfl⟩
            have hm2b : m2 ≤ m + 2 := by omega
            rw [ho2] at HF2
            go_upto_region 12 with (go_at_call 51; refine (cs_sign_any (w.heap.size + 1) _ m out s[k] _ (by omega) HO4.out.2.2 HO4.out.1).mono ?_; rintro e w2 ⟨v2, rfl, q1, q2⟩; rw [HD.out.2.2, hm2, ho2] at q1; have HO1 : Hid (w2.drew.ownsRow (w.heap.size + 1) 5 1 v2 m2 (cu out2) ∧ Below w.heap.size w w2.drew ∧ w.heap.size + 1 ≤ w2.heap.size) := Lib.hid ⟨q1.drew, (HO4.out.2.1.trans (q2.mono (by omega))).drew, by have := q2.size; have := HO4.out.2.2; omega⟩; clear q1 q2)
            go_region_law (first
              | (refine step_append_own rfl _ _ 47 rfl (w.heap.size + 1) 5 i0 (.int .u8 0) 1 1 Try.underlying47 HI.out HI0.out HI1.out HI2.out rfl (by decide) _ _ _ rfl (HO1.out.1.alloc _) ⟨w2.heap.size, 0, none⟩ 1 1 [.int .u8 45] rfl rfl (one_new _ _ _) (one_u8 _) (by unfold maxLen; omega) (by omega) (by have := HO1.out.2.2; simp; omega) ?_; intro v3 w3 h1 h2; have HO2 : Hid (w3.ownsRow (w.heap.size + 1) 5 1 v3 (m2 + 1) (cu (out2 ++ [45])) ∧ Below w.heap.size w w3 ∧ w.heap.size + 1 ≤ w3.heap.size) := Lib.hid ⟨by rw [cu_append]; exact h1, HO1.out.2.1.trans (((Below.refl _ _).alloc (by have := HO1.out.2.2; simp; omega) _).grown h2 (by have := HO1.out.2.2; simp; omega) (fun q hq => by have := (HO1.out.1.lt q hq).1; omega)), by have q := h2.size; simp at q; have := HO1.out.2.2; omega⟩; clear h1 h2)
              | (rw [if_pos (by simp [Region.wanted])]; unfold Oper.wp; go_simp; go_at_call 51; refine (cs_sign_any (w.heap.size + 1) _ (m2 + 1) (out2 ++ [45]) d _ (by omega) HO2.out.2.2 HO2.out.1).mono ?_; rintro e w4 ⟨v4, rfl, q1, q2⟩; have HO3 : Hid (w4.ownsRow (w.heap.size + 1) 5 1 v4 (m2 + 1 + (Cs.sgn d).length) (cu (out2 ++ [45] ++ Cs.sgn d)) ∧ Below w.heap.size w w4 ∧ w.heap.size + 1 ≤ w4.heap.size) := Lib.hid ⟨q1, HO2.out.2.1.trans (q2.mono (by omega)), by have := q2.size; have := HO2.out.2.2; omega⟩; clear q1 q2))
            all_goals
              go_wp2
              refine ⟨?_, ?measure⟩
              case measure => simp [intOf]; omega
              first
                | exact ⟨p, m2 + 1 + (Cs.sgn d).length, out2 ++ [45] ++ Cs.sgn d, by go_num, by omega, by omega, HF2, HO3⟩
                | exact ⟨p, m2 + 1 + (Cs.sgn d).length, out2 ++ [45] ++ Cs.sgn d, rfl, by omega, by omega, HF2, HO3⟩
                | ((repeat apply Exists.intro); exact ⟨⟨p, m2 + 1 + (Cs.sgn d).length, out2 ++ [45] ++ Cs.sgn d, by go_num, by omega, by omega, HF2, HO3⟩, rfl⟩)
    · obtain rfl : k = n := by omega
      have he : Hid (out = t.data.toList) := Lib.hid (by
        obtain ⟨f, hf, hlt⟩ := HF.out
        have : s.data.toList.drop k = [] := List.drop_eq_nil_of_le (by rw [← HN.out]; simp)
        rw [this] at hf
        cases f with
        | zero => simpa [Cs.prP, Cs.txt] using hf
        | succ f => simpa [Cs.prP, Cs.txt] using hf)
      have hcv := conv_own (t := t) (by rw [← he.out]; exact HO.out.1)
      go_wp2
      go_ret
      exact ⟨rfl, HO.out.2.1⟩
end Go.Proofs.Ytkihlnomchhiiaa
