/- Patterns: the document's Matches. -/
import Derived.Test.YtbdjcppkfihonaaLgB
import Derived.Test.YtbdjcppkfihonaaClass
import Derived.Test.YtbdjcppkfihonaaCs5
import Derived.Test.YtbdjcppkfihonaaCsRA
import Derived.Test.YtbdjcppkfihonaaQtA
namespace Go.Proofs.Ytbdjcppkfihonaa
open Go.ChangeShapes Go.WideShapes Go.ChangeAt Go.RowKit
set_option linter.unusedSimpArgs false
set_option linter.unusedVariables false

/-- A row of bools, somewhere. -/
def BV (w : World) (g n : Nat) (f : Nat → Bool) : Prop := g < w.heap.size ∧ ∀ j, j < n → w.cell? ⟨g, j, none⟩ = some (.bool (f j))
theorem BV.below {w w' : World} {g n : Nat} {f : Nat → Bool} {B : Nat} (h : BV w g n f) (k : Below B w w') (hg : g < B) : BV w' g n f :=
  ⟨Nat.lt_of_lt_of_le h.1 k.size, fun j hj => by rw [k.cell (p := ⟨g, j, none⟩) hg]; exact h.2 j hj⟩
theorem BV.own {w : World} {base n : Nat} {e : TypeId} {v : Value} {f : Nat → Bool} (h : w.ownsRow base e 1 v n (bl f n)) (hn : 0 < n) : ∃ g c, v = .slice (some ⟨g, 0, none⟩) n c ∧ BV w g n f := by
  rcases h.2 with ⟨h1, h2⟩ | ⟨g, cap, cur, h1, h2, h3, h4, h5, h6, h7⟩
  · omega
  · refine ⟨g, cap, h1, (Array.getElem?_eq_some_iff.1 h3).1, fun j hj => ?_⟩
    have hb : Blk w g cur.toList e := by unfold Blk; exact h3
    refine hb.cell ?_
    have e1 := bl_at f hj
    rw [← h7, List.getElem?_take, if_pos (by omega)] at e1
    exact e1
theorem IA.at {w : World} {g o : Nat} {l : List (Bool × BitVec 256)} (h : IA w (some ⟨g, o, none⟩) l) {j : Nat} {x : Bool × BitVec 256} (hx : l[j]? = some x) : w.cell? ⟨g, o + j * 5, none⟩ = some (.bool x.1) ∧ w.cell? ⟨g, o + j * 5 + 1, none⟩ = some (.int .u64 (Cs.wd x.2 0)) ∧ w.cell? ⟨g, o + j * 5 + 2, none⟩ = some (.int .u64 (Cs.wd x.2 1)) ∧ w.cell? ⟨g, o + j * 5 + 3, none⟩ = some (.int .u64 (Cs.wd x.2 2)) ∧ w.cell? ⟨g, o + j * 5 + 4, none⟩ = some (.int .u64 (Cs.wd x.2 3)) := by
  obtain ⟨g', o', e, _, z⟩ := h.cell hx
  have e1 := Option.some.inj e
  injection e1 with e1 e2 e3
  rw [e1, e2]
  exact z
theorem app_b {w0 w w3 : World} {B m : Nat} {v v9 : Value} {old nw xs : List Value} {e : TypeId} (k : Below w0.heap.size w0 w) (ho : w.ownsRow B e 1 v m old) (hb : B ≤ w.heap.size) (o : Obj) (hgrow : (w.alloc o).grownBy w3 v.ownBlock) (h0 : w0.heap.size ≤ B) {m9 : Nat} (hown : w3.ownsRow B e 1 v9 m9 (old ++ nw)) (hxs : xs = old ++ nw) : Below w0.heap.size w0 w3 ∧ w3.ownsRow B e 1 v9 m9 xs ∧ B ≤ w3.heap.size ∧ Below B w w3 := by
  have hb2 : Below B (w.alloc o) w3 := by
    have r : Below B (w.alloc o) (w.alloc o) := Below.refl _ _
    exact r.grown hgrow (by first | (simp; done) | (simp; omega)) (fun q hq => ((ho.alloc o).lt q hq).1)
  have hb3 : Below B w w3 := ((Below.refl _ _).alloc hb o).trans hb2
  exact ⟨k.trans (hb3.mono h0), by rw [hxs]; exact hown, by have := hb2.size; simp at this; omega, hb3⟩
theorem lgD_any {L : LgL} {k : Nat} (h : (L k).1 = true) (T : LgT) (n : Nat) : Lg.D L T 0 (k + 1) n = (List.range (n + 1)).any (Lg.D L T 0 k) := lgD_run h T 0 n
theorem range_any_next (f : Nat → Bool) (j : Nat) : (List.range (j + 1)).any f = ((List.range j).any f || f j) := by rw [List.range_succ, List.any_append]; simp
set_option maxRecDepth 20000 in
set_option maxHeartbeats 16000000 in
theorem rg_matches (l : List (Bool × BitVec 256)) (s : ByteArray) (t : List UInt8) (hs : s.size ≤ 1000) (ht : s.data.toList = t) (b : Bool) (hb : Lg.m l t = b) (n : Nat) (a : Option Addr) (c : Nat) (hn : l.length = n) (hn6 : n ≤ 1000) (w : World) (hI : IA w a l) :
    Calls Try.prog 89 #[.slice a n c, .string s] w fun e w' => e = .returned (.bool b) ∧ Below w.heap.size w w' := by
  obtain ⟨N, hN⟩ : ∃ N, s.size = N := ⟨_, rfl⟩
  have htl : t.length = N := by rw [← ht]; simpa using hN
  obtain ⟨i0, hi, hz0, hz1, hz2⟩ := info_split infob
  have HIN := Lib.hid (And.intro hi (And.intro hz0 (And.intro hz1 hz2)))
  have HG := Lib.hid (And.intro hI (And.intro hn (And.intro ht (show Lg.D (lgL l) (lgT t) 0 n N = b by rw [← hb, ← hn, ← htl]; rfl))))
  have hN6 : N ≤ 1000 := by omega
  have HS0 : Hid (Below w.heap.size w (w.alloc (.cells #[.bool true] 4)) ∧ (w.alloc (.cells #[.bool true] 4)).ownsRow w.heap.size 4 1 (.slice (some ⟨w.heap.size, 0, none⟩) 1 1) 1 (bl (Lg.D (lgL l) (lgT t) 0 0) 1) ∧ w.heap.size ≤ (w.alloc (.cells #[.bool true] 4)).heap.size) := Lib.hid ⟨(Below.refl _ _).alloc (Nat.le_refl _) _, World.ownsRow_lit w #[.bool true] 1 (Nat.le_refl _) (by decide) rfl, by simp⟩
  clear hI hn hb htl ht hi hz0 hz1 hz2
  go_enter Try.func89, Try.ntmps89
  go_upto_region 2 with fail
  revert HS0
  generalize w.alloc (.cells #[.bool true] 4) = W0
  intro HS0
  go_wp2_with fail
  go_loopw [5, 6] (fun v i wr => ∃ k : Nat, i = .int .i64 k ∧ k ≤ N ∧ Hid (Below w.heap.size w wr ∧ wr.ownsRow w.heap.size 4 1 v (k + 1) (bl (Lg.D (lgL l) (lgT t) 0 0) (k + 1)) ∧ w.heap.size ≤ wr.heap.size)) (fun _ i _ => N - (intOf i).toNat)
  case atStart => exact ⟨0, rfl, by omega, HS0⟩
  case round =>
    clear HS0
    obtain ⟨k, rfl, hk, HB⟩ := hrel
    have j0 : (0 : Int) ≤ (k : Int) := by omega
    obtain ⟨rn, cn, hv⟩ := own_slice HB.out.2.1
    subst hv
    by_cases hkN : k < N
    · go_wp2_with (at_builtin; refine wpList_append_own _ rfl _ _ 161 rfl w.heap.size 4 i0 (.bool false) 1 1 Try.underlying161 HIN.out.1 HIN.out.2.1 HIN.out.2.2.1 HIN.out.2.2.2 rfl (by decide) _ _ _ rfl (HB.out.2.1.alloc _) ⟨wr.heap.size, 0, none⟩ 1 1 [.bool false] rfl rfl (one_new _ _ _) (one_b _) (by unfold maxLen; omega) (by omega) (by have := HB.out.2.2; simp; omega) ?_; intro v9 w3 hown hgrow _; have HN : Hid (Below w.heap.size w w3 ∧ w3.ownsRow w.heap.size 4 1 v9 (k + 1 + 1) (bl (Lg.D (lgL l) (lgT t) 0 0) (k + 1 + 1)) ∧ w.heap.size ≤ w3.heap.size) := Lib.hid (by
        obtain ⟨q1, q2, q3, q4⟩ := app_b HB.out.1 HB.out.2.1 HB.out.2.2 _ hgrow (Nat.le_refl _) hown (show bl (Lg.D (lgL l) (lgT t) 0 0) (k + 1 + 1) = bl (Lg.D (lgL l) (lgT t) 0 0) (k + 1) ++ [.bool false] by rw [bl_snoc, lgD_zero]; simp)
        exact ⟨q1, q2, q3⟩); clear hown hgrow)
      refine ⟨?_, ?measure⟩
      case measure => simp [intOf]; omega
      first
        | exact ⟨k + 1, by go_num, by omega, HN⟩
        | ((repeat apply Exists.intro); exact ⟨⟨k + 1, by go_num, by omega, HN⟩, rfl⟩)
    · obtain ⟨g0, c0, hv1, hBV⟩ := BV.own HB.out.2.1 (by omega)
      have hkN2 : k = N := by omega
      injection hv1 with hv1 hv2 hv3
      subst hv1
      have HS1 : Hid (Below w.heap.size w wr ∧ BV wr g0 (N + 1) (Lg.D (lgL l) (lgT t) 0 0)) := Lib.hid ⟨HB.out.1, by rw [← hkN2]; exact hBV⟩
      have kN1 : ((k + 1 : Nat)) = N + 1 := by omega
      clear HB hv2 hv3 hBV hkN
      go_wp2_with fail
      rw [kN1]
      clear kN1 hkN2
      go_wp2_with fail
      go_loopw [5, 7] (fun v i wr => ∃ (k g1 c1 : Nat), i = .int .i64 k ∧ v = .slice (some ⟨g1, 0, none⟩) (N + 1) c1 ∧ k ≤ n ∧ Hid (Below w.heap.size w wr ∧ BV wr g1 (N + 1) (Lg.D (lgL l) (lgT t) 0 k))) (fun _ i _ => n - (intOf i).toNat)
      case atStart => exact ⟨0, g0, cn, rfl, rfl, by omega, HS1⟩
      case round =>
        clear HS1
        obtain ⟨k, g1, c1, rfl, rfl, hk, HB⟩ := hrel
        have j0 : (0 : Int) ≤ (k : Int) := by omega
        by_cases hkn : k < n
        · obtain ⟨x, hx⟩ : ∃ x, l[k]? = some x := ⟨_, List.getElem?_eq_getElem (by rw [HG.out.2.1]; exact hkn)⟩
          obtain ⟨r, X⟩ := x
          have hLk : lgL l k = (r, X) := by unfold lgL; rw [hx]; rfl
          have HX := Lib.hid hx
          have HLk := Lib.hid hLk
          clear hLk
          have hIA : IA wr a l := HG.out.1.below HB.out.1
          obtain ⟨gi, o, ha, hgi, z0, z1, z2, z3, z4⟩ := hIA.cell hx
          subst ha
          clear hIA hx hgi z0 z1 z2 z3 z4
          have HB2' : Hid (w.heap.size ≤ wr.heap.size ∧ g1 < wr.heap.size) := Lib.hid ⟨HB.out.1.size, HB.out.2.1⟩
          have HE : Hid (Below w.heap.size w (wr.alloc (.cells #[] 4)) ∧ BV (wr.alloc (.cells #[] 4)) g1 (N + 1) (Lg.D (lgL l) (lgT t) 0 k) ∧ (wr.alloc (.cells #[] 4)).ownsRow wr.heap.size 4 1 (.slice (some ⟨wr.heap.size, 0, none⟩) 0 0) (0) (bl (Lg.D (lgL l) (lgT t) 0 (k + 1)) (0)) ∧ wr.heap.size ≤ (wr.alloc (.cells #[] 4)).heap.size) := Lib.hid ⟨HB.out.1.alloc HB.out.1.size _, HB.out.2.below ((Below.refl _ _).alloc (Nat.le_refl _) _) HB.out.2.1, World.ownsRow_lit wr #[] 0 (Nat.le_refl _) (by decide) rfl, by simp⟩
          clear HB
          go_upto_region 10 with fail
          revert HE HB2'
          generalize wr.alloc (.cells #[] 4) = W1
          generalize wr.heap.size = B2
          intro HB2 HE
          go_wp2_with fail
          go_loopw [8, 9] (fun v i wr => ∃ p : Nat, i = .int .i64 p ∧ p ≤ N + 1 ∧ Hid (Below w.heap.size w wr ∧ BV wr g1 (N + 1) (Lg.D (lgL l) (lgT t) 0 k) ∧ wr.ownsRow B2 4 1 v (p) (bl (Lg.D (lgL l) (lgT t) 0 (k + 1)) (p)) ∧ B2 ≤ wr.heap.size)) (fun _ i _ => N + 1 - (intOf i).toNat)
          case atStart => exact ⟨0, rfl, by omega, HE⟩
          case round =>
            clear HE
            obtain ⟨p, rfl, hp, HB⟩ := hrel
            have p0 : (0 : Int) ≤ (p : Int) := by omega
            by_cases hpN : p ≤ N
            · have hpI : (p : Int) ≤ (N : Int) := by omega
              obtain ⟨rn, cn, hv⟩ := own_slice HB.out.2.2.1
              subst hv
              cases r with
              | false =>
                by_cases hp1 : p = 0
                · subst hp1
                  have HV : Hid (Lg.D (lgL l) (lgT t) 0 (k + 1) 0 = false) := Lib.hid (lgD_one0 (by rw [HLk.out]) _ _)
                  obtain ⟨z0, z1, z2, z3, z4⟩ := (HG.out.1.below HB.out.1).at HX.out
                  dsimp only at z0 z1 z2 z3 z4
                  go_upto_region 15 with fail
                  clear z0 z1 z2 z3 z4
                  refine wp_region_class (fun w' => Below w.heap.size w w' ∧ BV w' g1 (N + 1) (Lg.D (lgL l) (lgT t) 0 k) ∧ w'.ownsRow B2 4 1 (.slice rn 0 cn) (0) (bl (Lg.D (lgL l) (lgT t) 0 (k + 1)) (0)) ∧ B2 ≤ w'.heap.size) (by kernel_rfl) (by kernel_rfl) ⟨HB.out.1.drew, HB.out.2.1, HB.out.2.2.1, HB.out.2.2.2⟩ ?_
                  repeat (first
                      | go_big_quiet_skip
                      | (go_big_quiet_want
                         unfold Oper.quiet
                         apply Exists.intro
                         refine ⟨fun wq hwq => ?_, ?_⟩
                         · first
                            | (unfold Oper.quietAt
                               go_simp
                               first
                                 | exact ⟨rfl, hwq⟩
                                 | exact rfl)
                            | (obtain ⟨hq1, hq2, hq3, hq4⟩ := hwq
                               obtain ⟨z0, z1, z2, z3, z4⟩ := (HG.out.1.below hq1).at HX.out
                               dsimp only at z0 z1 z2 z3 z4
                               unfold Oper.quietAt
                               go_simp
                               first
                                 | exact ⟨rfl, hq1, hq2, hq3, hq4⟩
                                 | exact rfl)
                         simp only [Act.put, List.setIfInBounds_toArray, List.set_cons_zero, List.set_cons_succ]
                         go_big_quiet_on))
                  refine wpQuiet_nil ?_
                  intro w4 hw4
                  have HB4 : Hid (Below w.heap.size w w4 ∧ BV w4 g1 (N + 1) (Lg.D (lgL l) (lgT t) 0 k) ∧ w4.ownsRow B2 4 1 (.slice rn 0 cn) (0) (bl (Lg.D (lgL l) (lgT t) 0 (k + 1)) (0)) ∧ B2 ≤ w4.heap.size) := Lib.hid hw4
                  clear hw4 HB
                  go_wp2_with fail
                  go_loopw [10, 11] (fun mv i wr => i = .int .i64 0 ∧ mv = .bool false ∧ Hid (Below w.heap.size w wr ∧ BV wr g1 (N + 1) (Lg.D (lgL l) (lgT t) 0 k) ∧ wr.ownsRow B2 4 1 (.slice rn 0 cn) (0) (bl (Lg.D (lgL l) (lgT t) 0 (k + 1)) (0)) ∧ B2 ≤ wr.heap.size)) (fun _ _ _ => 0)
                  case atStart => exact ⟨rfl, rfl, HB4⟩
                  case round =>
                    clear HB4
                    obtain ⟨rfl, rfl, HB⟩ := hrel
                    obtain ⟨z0, z1, z2, z3, z4⟩ := (HG.out.1.below HB.out.1).at HX.out
                    dsimp only at z0 z1 z2 z3 z4
                    go_wp2_with (at_builtin; refine wpList_append_own _ rfl _ _ 161 rfl B2 4 i0 (.bool false) 1 1 Try.underlying161 HIN.out.1 HIN.out.2.1 HIN.out.2.2.1 HIN.out.2.2.2 rfl (by decide) _ _ _ rfl (HB.out.2.2.1.alloc _) ⟨wr.heap.size, 0, none⟩ 1 1 [.bool false] rfl rfl (one_new _ _ _) (one_b _) (by unfold maxLen; omega) (by omega) (by have := HB.out.2.2.2; simp; omega) ?_; intro v9 w3 hown hgrow _; have HN : Hid (Below w.heap.size w w3 ∧ BV w3 g1 (N + 1) (Lg.D (lgL l) (lgT t) 0 k) ∧ w3.ownsRow B2 4 1 v9 (0 + 1) (bl (Lg.D (lgL l) (lgT t) 0 (k + 1)) (0 + 1)) ∧ B2 ≤ w3.heap.size) := Lib.hid (by
                      obtain ⟨q1, q2, q3, q4⟩ := app_b HB.out.1 HB.out.2.2.1 HB.out.2.2.2 _ hgrow HB2.out.1 hown (show bl (Lg.D (lgL l) (lgT t) 0 (k + 1)) (0 + 1) = bl (Lg.D (lgL l) (lgT t) 0 (k + 1)) 0 ++ [.bool false] by rw [bl_snoc, HV.out])
                      exact ⟨q1, HB.out.2.1.below q4 HB2.out.2, q2, q3⟩); clear hown hgrow)
                    refine ⟨?_, ?measure⟩
                    case measure => first | (simp [intOf]; done) | (simp [intOf]; omega)
                    first
                      | exact ⟨0 + 1, by go_num, by omega, HN⟩
                      | ((repeat apply Exists.intro); exact ⟨⟨0 + 1, by go_num, by omega, HN⟩, rfl⟩)
                · obtain ⟨p1, hpa, hpb⟩ : ∃ p1, p ≤ p1 + 1 ∧ p1 + 1 ≤ p := ⟨p - 1, by omega, by omega⟩
                  have pI : (0 : Int) < (p : Int) := by omega
                  have pN : 0 < p := by omega
                  have p10 : (0 : Int) ≤ (p1 : Int) := by omega
                  have p11 : (p1 : Int) < (N : Int) + 1 := by omega
                  have p12 : p1 < N + 1 := by omega
                  have p13 : (p1 : Int) < (N : Int) := by omega
                  have p14 : p1 < N := by omega
                  have w2 : IntKind.i64.wrap ((p : Int) - 1) = (p1 : Int) := by rw [IntWalk.i64_in _ (by omega)]; omega
                  have hpp : Hid (p = p1 + 1) := Lib.hid (by omega)
                  obtain ⟨b2, hb2⟩ : ∃ b2, Lg.D (lgL l) (lgT t) 0 k p1 = b2 := ⟨_, rfl⟩
                  have HIS := Lib.hid hb2
                  clear hb2 hp1
                  obtain ⟨z0, z1, z2, z3, z4⟩ := (HG.out.1.below HB.out.1).at HX.out
                  dsimp only at z0 z1 z2 z3 z4
                  go_upto_region 15 with fail
                  clear z0 z1 z2 z3 z4
                  cases b2 with
                  | false =>
                    have HV : Hid (Lg.D (lgL l) (lgT t) 0 (k + 1) p = false) := Lib.hid (by rw [hpp.out, lgD_one (by rw [HLk.out]), HIS.out]; rfl)
                    refine wp_region_class (fun w' => Below w.heap.size w w' ∧ BV w' g1 (N + 1) (Lg.D (lgL l) (lgT t) 0 k) ∧ w'.ownsRow B2 4 1 (.slice rn p cn) (p) (bl (Lg.D (lgL l) (lgT t) 0 (k + 1)) (p)) ∧ B2 ≤ w'.heap.size) (by kernel_rfl) (by kernel_rfl) ⟨HB.out.1.drew, HB.out.2.1, HB.out.2.2.1, HB.out.2.2.2⟩ ?_
                    repeat (first
                        | go_big_quiet_skip
                        | (go_big_quiet_want
                           unfold Oper.quiet
                           apply Exists.intro
                           refine ⟨fun wq hwq => ?_, ?_⟩
                           · first
                              | (unfold Oper.quietAt
                                 go_simp
                                 first
                                   | exact ⟨rfl, hwq⟩
                                   | exact rfl)
                              | (obtain ⟨hq1, hq2, hq3, hq4⟩ := hwq
                                 obtain ⟨z0, z1, z2, z3, z4⟩ := (HG.out.1.below hq1).at HX.out
                                 dsimp only at z0 z1 z2 z3 z4
                                 have ci := hq2.2 p1 (by omega)
                                 rw [HIS.out] at ci
                                 unfold Oper.quietAt
                                 go_simp
                                 first
                                   | exact ⟨rfl, hq1, hq2, hq3, hq4⟩
                                   | exact rfl)
                           simp only [Act.put, List.setIfInBounds_toArray, List.set_cons_zero, List.set_cons_succ]
                           go_big_quiet_on))
                    refine wpQuiet_nil ?_
                    intro w4 hw4
                    have HB4 : Hid (Below w.heap.size w w4 ∧ BV w4 g1 (N + 1) (Lg.D (lgL l) (lgT t) 0 k) ∧ w4.ownsRow B2 4 1 (.slice rn p cn) (p) (bl (Lg.D (lgL l) (lgT t) 0 (k + 1)) (p)) ∧ B2 ≤ w4.heap.size) := Lib.hid hw4
                    clear hw4 HB
                    go_wp2_with fail
                    go_loopw [10, 11] (fun mv i wr => i = .int .i64 0 ∧ mv = .bool false ∧ Hid (Below w.heap.size w wr ∧ BV wr g1 (N + 1) (Lg.D (lgL l) (lgT t) 0 k) ∧ wr.ownsRow B2 4 1 (.slice rn p cn) (p) (bl (Lg.D (lgL l) (lgT t) 0 (k + 1)) (p)) ∧ B2 ≤ wr.heap.size)) (fun _ _ _ => 0)
                    case atStart => exact ⟨rfl, rfl, HB4⟩
                    case round =>
                      clear HB4
                      obtain ⟨rfl, rfl, HB⟩ := hrel
                      obtain ⟨z0, z1, z2, z3, z4⟩ := (HG.out.1.below HB.out.1).at HX.out
                      dsimp only at z0 z1 z2 z3 z4
                      go_wp2_with (at_builtin; refine wpList_append_own _ rfl _ _ 161 rfl B2 4 i0 (.bool false) 1 1 Try.underlying161 HIN.out.1 HIN.out.2.1 HIN.out.2.2.1 HIN.out.2.2.2 rfl (by decide) _ _ _ rfl (HB.out.2.2.1.alloc _) ⟨wr.heap.size, 0, none⟩ 1 1 [.bool false] rfl rfl (one_new _ _ _) (one_b _) (by unfold maxLen; omega) (by omega) (by have := HB.out.2.2.2; simp; omega) ?_; intro v9 w3 hown hgrow _; have HN : Hid (Below w.heap.size w w3 ∧ BV w3 g1 (N + 1) (Lg.D (lgL l) (lgT t) 0 k) ∧ w3.ownsRow B2 4 1 v9 (p + 1) (bl (Lg.D (lgL l) (lgT t) 0 (k + 1)) (p + 1)) ∧ B2 ≤ w3.heap.size) := Lib.hid (by
                        obtain ⟨q1, q2, q3, q4⟩ := app_b HB.out.1 HB.out.2.2.1 HB.out.2.2.2 _ hgrow HB2.out.1 hown (show bl (Lg.D (lgL l) (lgT t) 0 (k + 1)) (p + 1) = bl (Lg.D (lgL l) (lgT t) 0 (k + 1)) p ++ [.bool false] by rw [bl_snoc, HV.out])
                        exact ⟨q1, HB.out.2.1.below q4 HB2.out.2, q2, q3⟩); clear hown hgrow)
                      refine ⟨?_, ?measure⟩
                      case measure => first | (simp [intOf]; done) | (simp [intOf]; omega)
                      first
                        | exact ⟨p + 1, by go_num, by omega, HN⟩
                        | ((repeat apply Exists.intro); exact ⟨⟨p + 1, by go_num, by omega, HN⟩, rfl⟩)
                  | true =>
                    obtain ⟨bb, hbb⟩ : ∃ bb, lgT t p1 = bb := ⟨_, rfl⟩
                    obtain ⟨fb, hfb⟩ : ∃ fb, X.getLsbD bb.toNat = fb := ⟨_, rfl⟩
                    have HFB := Lib.hid hfb
                    have hps : p1 < s.size := by omega
                    have cb : (s[p1].toNat : Int) = bb.toNat := by rw [lgT_at HG.out.2.2.1 hps, hbb]
                    have wb : IntKind.i64.wrap (bb.toNat : Int) = (bb.toNat : Int) := IntWalk.i64_in _ (by have := bb.toNat_lt; omega)
                    have HV : Hid (Lg.D (lgL l) (lgT t) 0 (k + 1) p = fb) := Lib.hid (by
                      rw [hpp.out, lgD_one (by rw [HLk.out]), HIS.out, HLk.out, hbb]
                      show (true && X.getLsbD bb.toNat) = fb
                      rw [hfb]; rfl)
                    clear hfb hbb
                    refine wp_region_class (fun w' => Below w.heap.size w w' ∧ BV w' g1 (N + 1) (Lg.D (lgL l) (lgT t) 0 k) ∧ w'.ownsRow B2 4 1 (.slice rn p cn) (p) (bl (Lg.D (lgL l) (lgT t) 0 (k + 1)) (p)) ∧ B2 ≤ w'.heap.size) (by kernel_rfl) (by kernel_rfl) ⟨HB.out.1.drew, HB.out.2.1, HB.out.2.2.1, HB.out.2.2.2⟩ ?_
                    repeat (first
                        | go_big_quiet_skip
                        | (go_big_quiet_want
                           unfold Oper.quiet
                           apply Exists.intro
                           refine ⟨fun wq hwq => ?_, ?_⟩
                           · first
                              | (unfold Oper.quietAt
                                 go_simp
                                 first
                                   | exact ⟨rfl, hwq⟩
                                   | exact rfl)
                              | (obtain ⟨hq1, hq2, hq3, hq4⟩ := hwq
                                 obtain ⟨z0, z1, z2, z3, z4⟩ := (HG.out.1.below hq1).at HX.out
                                 dsimp only at z0 z1 z2 z3 z4
                                 have ci := hq2.2 p1 (by omega)
                                 rw [HIS.out] at ci
                                 unfold Oper.quietAt
                                 go_simp
                                 first
                                   | exact ⟨rfl, hq1, hq2, hq3, hq4⟩
                                   | exact rfl
                                   | (go_at_call 97; rw [sv_def X]; refine (rf_has X bb.toNat bb.toNat_lt fb HFB.out _).mono ?_; rintro e w5 ⟨rfl, hb5⟩; exact ⟨rfl, hq1.trans (hb5.mono hq1.size), hq2.below hb5 (by have := hq2.1; omega), own_below hq3 hb5, by have := hb5.size; omega⟩))
                           simp only [Act.put, List.setIfInBounds_toArray, List.set_cons_zero, List.set_cons_succ]
                           go_big_quiet_on))
                    refine wpQuiet_nil ?_
                    intro w4 hw4
                    have HB4 : Hid (Below w.heap.size w w4 ∧ BV w4 g1 (N + 1) (Lg.D (lgL l) (lgT t) 0 k) ∧ w4.ownsRow B2 4 1 (.slice rn p cn) (p) (bl (Lg.D (lgL l) (lgT t) 0 (k + 1)) (p)) ∧ B2 ≤ w4.heap.size) := Lib.hid hw4
                    clear hw4 HB
                    go_wp2_with fail
                    go_loopw [10, 11] (fun mv i wr => i = .int .i64 0 ∧ mv = .bool fb ∧ Hid (Below w.heap.size w wr ∧ BV wr g1 (N + 1) (Lg.D (lgL l) (lgT t) 0 k) ∧ wr.ownsRow B2 4 1 (.slice rn p cn) (p) (bl (Lg.D (lgL l) (lgT t) 0 (k + 1)) (p)) ∧ B2 ≤ wr.heap.size)) (fun _ _ _ => 0)
                    case atStart => exact ⟨rfl, rfl, HB4⟩
                    case round =>
                      clear HB4
                      obtain ⟨rfl, rfl, HB⟩ := hrel
                      obtain ⟨z0, z1, z2, z3, z4⟩ := (HG.out.1.below HB.out.1).at HX.out
                      dsimp only at z0 z1 z2 z3 z4
                      go_wp2_with (at_builtin; refine wpList_append_own _ rfl _ _ 161 rfl B2 4 i0 (.bool false) 1 1 Try.underlying161 HIN.out.1 HIN.out.2.1 HIN.out.2.2.1 HIN.out.2.2.2 rfl (by decide) _ _ _ rfl (HB.out.2.2.1.alloc _) ⟨wr.heap.size, 0, none⟩ 1 1 [.bool fb] rfl rfl (one_new _ _ _) (one_b _) (by unfold maxLen; omega) (by omega) (by have := HB.out.2.2.2; simp; omega) ?_; intro v9 w3 hown hgrow _; have HN : Hid (Below w.heap.size w w3 ∧ BV w3 g1 (N + 1) (Lg.D (lgL l) (lgT t) 0 k) ∧ w3.ownsRow B2 4 1 v9 (p + 1) (bl (Lg.D (lgL l) (lgT t) 0 (k + 1)) (p + 1)) ∧ B2 ≤ w3.heap.size) := Lib.hid (by
                        obtain ⟨q1, q2, q3, q4⟩ := app_b HB.out.1 HB.out.2.2.1 HB.out.2.2.2 _ hgrow HB2.out.1 hown (show bl (Lg.D (lgL l) (lgT t) 0 (k + 1)) (p + 1) = bl (Lg.D (lgL l) (lgT t) 0 (k + 1)) p ++ [.bool fb] by rw [bl_snoc, HV.out])
                        exact ⟨q1, HB.out.2.1.below q4 HB2.out.2, q2, q3⟩); clear hown hgrow)
                      refine ⟨?_, ?measure⟩
                      case measure => first | (simp [intOf]; done) | (simp [intOf]; omega)
                      first
                        | exact ⟨p + 1, by go_num, by omega, HN⟩
                        | ((repeat apply Exists.intro); exact ⟨⟨p + 1, by go_num, by omega, HN⟩, rfl⟩)
              | true =>
                obtain ⟨z0, z1, z2, z3, z4⟩ := (HG.out.1.below HB.out.1).at HX.out
                dsimp only at z0 z1 z2 z3 z4
                go_wp2_with fail
                clear z0 z1 z2 z3 z4
                go_loopw [10, 11] (fun mv i wr => ∃ j : Nat, i = .int .i64 j ∧ j ≤ p + 1 ∧ mv = .bool ((List.range j).any (Lg.D (lgL l) (lgT t) 0 k)) ∧ Hid (Below w.heap.size w wr ∧ BV wr g1 (N + 1) (Lg.D (lgL l) (lgT t) 0 k) ∧ wr.ownsRow B2 4 1 (.slice rn p cn) (p) (bl (Lg.D (lgL l) (lgT t) 0 (k + 1)) (p)) ∧ B2 ≤ wr.heap.size)) (fun _ i _ => p + 1 - (intOf i).toNat)
                case atStart => exact ⟨0, rfl, by omega, rfl, HB⟩
                case round =>
                  clear HB
                  obtain ⟨j, rfl, hj, rfl, HB⟩ := hrel
                  have q0 : (0 : Int) ≤ (j : Int) := by omega
                  obtain ⟨b1, hb1⟩ : ∃ b1, (List.range j).any (Lg.D (lgL l) (lgT t) 0 k) = b1 := ⟨_, rfl⟩
                  have HB1 := Lib.hid hb1
                  rw [hb1]
                  clear hb1
                  obtain ⟨z0, z1, z2, z3, z4⟩ := (HG.out.1.below HB.out.1).at HX.out
                  dsimp only at z0 z1 z2 z3 z4
                  by_cases hjp : j ≤ p
                  · have hjI : (j : Int) ≤ (p : Int) := by omega
                    have ci := HB.out.2.1.2 j (by omega)
                    obtain ⟨b2, hb2⟩ : ∃ b2, Lg.D (lgL l) (lgT t) 0 k j = b2 := ⟨_, rfl⟩
                    rw [hb2] at ci
                    have HB2c : Hid ((List.range (j + 1)).any (Lg.D (lgL l) (lgT t) 0 k) = (b1 || b2)) := Lib.hid (by rw [range_any_next, HB1.out, hb2])
                    clear hb2
                    cases b1 with
                    | true =>
                      go_wp2
                      refine ⟨?_, ?measure⟩
                      case measure => simp [intOf]; omega
                      first
                        | exact ⟨j + 1, by go_num, by omega, by rw [HB2c.out]; rfl, HB⟩
                        | ((repeat apply Exists.intro); exact ⟨⟨j + 1, by go_num, by omega, by rw [HB2c.out]; rfl, HB⟩, rfl⟩)
                    | false =>
                      go_wp2
                      refine ⟨?_, ?measure⟩
                      case measure => simp [intOf]; omega
                      first
                        | exact ⟨j + 1, by go_num, by omega, by rw [HB2c.out]; rfl, HB⟩
                        | ((repeat apply Exists.intro); exact ⟨⟨j + 1, by go_num, by omega, by rw [HB2c.out]; rfl, HB⟩, rfl⟩)
                  · have hjI : ¬ (j : Int) ≤ (p : Int) := by omega
                    have HV : Hid (Lg.D (lgL l) (lgT t) 0 (k + 1) p = b1) := Lib.hid (by rw [lgD_run (by rw [HLk.out]), ← HB1.out, show j = p + 1 by omega])
                    go_wp2_with (at_builtin; refine wpList_append_own _ rfl _ _ 161 rfl B2 4 i0 (.bool false) 1 1 Try.underlying161 HIN.out.1 HIN.out.2.1 HIN.out.2.2.1 HIN.out.2.2.2 rfl (by decide) _ _ _ rfl (HB.out.2.2.1.alloc _) ⟨wr.heap.size, 0, none⟩ 1 1 [.bool b1] rfl rfl (one_new _ _ _) (one_b _) (by unfold maxLen; omega) (by omega) (by have := HB.out.2.2.2; simp; omega) ?_; intro v9 w3 hown hgrow _; have HN : Hid (Below w.heap.size w w3 ∧ BV w3 g1 (N + 1) (Lg.D (lgL l) (lgT t) 0 k) ∧ w3.ownsRow B2 4 1 v9 (p + 1) (bl (Lg.D (lgL l) (lgT t) 0 (k + 1)) (p + 1)) ∧ B2 ≤ w3.heap.size) := Lib.hid (by
    obtain ⟨q1, q2, q3, q4⟩ := app_b HB.out.1 HB.out.2.2.1 HB.out.2.2.2 _ hgrow HB2.out.1 hown (show bl (Lg.D (lgL l) (lgT t) 0 (k + 1)) (p + 1) = bl (Lg.D (lgL l) (lgT t) 0 (k + 1)) p ++ [.bool b1] by rw [bl_snoc, HV.out])
    exact ⟨q1, HB.out.2.1.below q4 HB2.out.2, q2, q3⟩); clear hown hgrow)
                    refine ⟨?_, ?measure⟩
                    case measure => first | (simp [intOf]; done) | (simp [intOf]; omega)
                    first
                      | exact ⟨p + 1, by go_num, by omega, HN⟩
                      | ((repeat apply Exists.intro); exact ⟨⟨p + 1, by go_num, by omega, HN⟩, rfl⟩)
            · have hpI : ¬ (p : Int) ≤ (N : Int) := by omega
              obtain ⟨g2, c2, hv1, hBV⟩ := BV.own HB.out.2.2.1 (by omega)
              subst hv1
              have hpe : p = N + 1 := by omega
              have HN : Hid (Below w.heap.size w wr ∧ BV wr g2 (N + 1) (Lg.D (lgL l) (lgT t) 0 (k + 1))) := Lib.hid ⟨HB.out.1, by rw [← hpe]; exact hBV⟩
              clear hBV HB
              subst hpe
              go_wp2
              refine ⟨?_, ?measure⟩
              case measure => simp [intOf]; omega
              first
                | exact ⟨k + 1, g2, c2, by go_num, rfl, by omega, HN⟩
                | ((repeat apply Exists.intro); exact ⟨⟨k + 1, g2, c2, by go_num, rfl, by omega, HN⟩, rfl⟩)
        · obtain rfl : k = n := by omega
          have ci := HB.out.2.2 N (by omega)
          rw [HG.out.2.2.2] at ci
          go_wp2
          go_ret
          exact ⟨rfl, HB.out.1⟩
end Go.Proofs.Ytbdjcppkfihonaa
