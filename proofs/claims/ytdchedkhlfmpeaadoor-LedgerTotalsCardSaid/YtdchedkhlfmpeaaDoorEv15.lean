/- Events: the document: who were opened. -/
import Derived.Test.YtdchedkhlfmpeaaDoorEv14
import Derived.WalkKit
import Derived.ProofKit
import Derived.Handy
import Derived.WalkLawsBesides
import Derived.WalkSpells
import Derived.Lib.Hide
import Derived.Lib.SliceRun
import Derived.Deep.RegionLaw
import Derived.RegionTactic
import Derived.ChangeAlike
import Derived.WalkSmall
import Derived.Deep.QuietTactic
import Derived.BigQuiet
import Derived.OwnWalk
import Derived.Outline
import Derived.Deep.CutRange
import Derived.Deep.CutBlock
import Derived.LoopTactic
namespace Go.Proofs.YtdchedkhlfmpeaaDoor
open Go.ChangeShapes Go.WideShapes Go.ChangeAt Go.RowKit
set_option linter.unusedSimpArgs false
set_option linter.unusedVariables false

/-- append onto a row of one's own, also of nothing. -/
theorem wp_append_rz {P : Program} (w : World) {o : Oper} {a : Act} {K : Act → World → Prop} {Q : Exit → Act → World → Prop}
    (s x : Operand) (t tx : TypeId) (hop : o.op = Op.call { callee := Callee.builtin Builtin.append, args := #[s, x], argTypes := #[t, tx] })
    (e : TypeId) (z : Value) (sz by_ : Nat) (ht : P.underlying t = some (.slice e)) (hinfo : (P.info? e).map (fun i => (i.zero, i.size, i.bytes)) = some (some z, sz, by_)) (hz1 : z.cells.size = sz) (hz0 : 0 < sz)
    (base : Nat) (g m cap : Nat) (L : List Value) (hs : a.eval s = .slice (some ⟨g, 0, none⟩) m cap) (hown : RM w base (some ⟨g, 0, none⟩) m cap sz L e) (hmc : m ≤ cap) (xv : Value) (hx : a.eval x = xv) (n : Nat) (news : List Value) (hsrc : Src P sz tx xv n news w)
    (h63 : m + n ≤ 1000000) (hby : by_ ≤ 1000)
    (hK : ∀ g' cap' w', RM w' base (some ⟨g', 0, none⟩) (m + n) cap' sz (L ++ news) e → m + n ≤ cap' → (g' = g ∨ w.heap.size ≤ g') → Chg [g] w w' → K (a.put o.dst (.slice (some ⟨g', 0, none⟩) (m + n) cap')) w') :
    Oper.wp P o a w K Q := by
  by_cases h0 : n = 0
  · subst h0
    have hnw : news = [] := List.length_eq_zero_iff.1 (by have := hsrc.newsLen; rw [Nat.zero_mul] at this; exact this)
    subst hnw
    obtain ⟨i, hi, hzz⟩ := Option.map_eq_some_iff.1 hinfo
    simp only [Prod.mk.injEq] at hzz
    obtain ⟨hz, hs1, hb1⟩ := hzz
    have hrun := run_append_nothing (P := P) w t tx o.type e i ht hi (some ⟨g, 0, none⟩) m cap hmc xv (by rw [hs1]; exact hsrc)
    unfold Oper.wp
    simp [execOp, hop, resolve, invoke, builtin, hs, hx, hrun, Result.andThen]
    have hk := hK g cap w (by rw [List.append_nil]; exact hown) (by omega) (Or.inl rfl) (Chg.refl _ _)
    exact hk
  · refine wp_append_rm w s x t tx hop e z sz by_ ht hinfo hz1 base (some ⟨g, 0, none⟩) m cap L hs hown xv hx n (by omega) news hsrc h63 hby fun g' cap' w' h1 h2 h3 => hK g' cap' w' h1 ?_ ?_ h3
    · obtain ⟨q1, q2, ⟨q3, _⟩ | ⟨gg, q3, _, q5⟩⟩ := h1
      · cases q3
      · have q6 := q5.len
        rw [q1] at q6
        exact Nat.le_of_mul_le_mul_right q6 hz0
    · rw [rvB_some] at h2; simpa using h2
theorem step_append_rz {P : Program} {ops : Array Oper} {o : Oper} {a : Act} {w : World} {K : Act → World → Prop} {Q : Exit → Act → World → Prop} {E : Prop} (hgd : o.guard = none)
    (s x : Operand) (t tx : TypeId) (hop : o.op = Op.call { callee := Callee.builtin Builtin.append, args := #[s, x], argTypes := #[t, tx] })
    (e : TypeId) (z : Value) (sz by_ : Nat) (ht : P.underlying t = some (.slice e)) (hinfo : (P.info? e).map (fun i => (i.zero, i.size, i.bytes)) = some (some z, sz, by_)) (hz1 : z.cells.size = sz) (hz0 : 0 < sz)
    (base : Nat) (g m cap : Nat) (L : List Value) (hs : a.eval s = .slice (some ⟨g, 0, none⟩) m cap) (hown : RM w base (some ⟨g, 0, none⟩) m cap sz L e) (hmc : m ≤ cap) (xv : Value) (hx : a.eval x = xv) (n : Nat) (news : List Value) (hsrc : Src P sz tx xv n news w)
    (h63 : m + n ≤ 1000000) (hby : by_ ≤ 1000)
    (hK : ∀ g' cap' w', RM w' base (some ⟨g', 0, none⟩) (m + n) cap' sz (L ++ news) e → m + n ≤ cap' → (g' = g ∨ w.heap.size ≤ g') → Chg [g] w w' → K (a.put o.dst (.slice (some ⟨g', 0, none⟩) (m + n) cap')) w') :
    if Region.wanted o (yielded ops a.tmps) = true then Oper.wp P o a w K Q else E := by
  have hw : Region.wanted o (yielded ops a.tmps) = true := by simp [Region.wanted, hgd]
  rw [if_pos hw]
  exact wp_append_rz w s x t tx hop e z sz by_ ht hinfo hz1 hz0 base g m cap L hs hown hmc xv hx n news hsrc h63 hby hK
theorem insD_at {x : Int} {D : List Int} {p : Nat} (h0 : ∀ q v, q < p → D[q]? = some v → v < x) (h1 : p = D.length ∨ ∃ v, D[p]? = some v ∧ ¬ v < x) : D.takeWhile (fun y => decide (y < x)) = D.take p ∧ D.dropWhile (fun y => decide (y < x)) = D.drop p := by
  induction D generalizing p with
  | nil => simp
  | cons d D ih =>
    cases p with
    | zero =>
      rcases h1 with h1 | ⟨v, h1, h2⟩
      · simp at h1
      · simp at h1; subst h1
        rw [List.takeWhile_cons, List.dropWhile_cons]
        simp [h2]
    | succ p =>
      have hd : d < x := h0 0 d (by omega) rfl
      obtain ⟨i1, i2⟩ := ih (p := p) (fun q v hq hv => h0 (q + 1) v (by omega) (by simpa using hv)) (by
        rcases h1 with h1 | ⟨v, h1, h2⟩
        · left; simp at h1; omega
        · exact Or.inr ⟨v, by simpa using h1, h2⟩)
      rw [List.takeWhile_cons, List.dropWhile_cons]
      simp [hd, i1, i2]
/-- Since w all is as it was; the row grows behind it. -/
def KR (w W : World) (g m c : Nat) (L : List Value) : Prop := Below w.heap.size w W ∧ RM W w.heap.size (some ⟨g, 0, none⟩) m c 1 L 3 ∧ m ≤ c
theorem KR.alloc {w W : World} {g m c : Nat} {L : List Value} (h : KR w W g m c L) (o : Obj) : KR w (W.alloc o) g m c L := ⟨h.1.alloc h.1.size o, h.2.1.chg (l := []) ((Chg.refl [] _).alloc _) (by simp), h.2.2⟩
theorem KR.drew {w W : World} {g m c : Nat} {L : List Value} (h : KR w W g m c L) : KR w W.drew g m c L := ⟨h.1.drew, h.2.1.chg (l := []) (Chg.refl [] _).drew (by simp), h.2.2⟩
theorem KR.new (w W : World) (k : Below w.heap.size w W) : KR w (W.alloc (.cells #[] 3)) W.heap.size 0 0 [] := ⟨k.alloc k.size _, ⟨by simp, by have := k.size; rw [World.size_alloc]; omega, Or.inr ⟨W.heap.size, rfl, k.size, by simpa using Rn.empty W 1 3⟩⟩, by omega⟩
theorem KR.new2 (w : World) (o : Obj) : KR w ((w.alloc o).alloc (.cells #[] 3)) (w.heap.size + 1) 0 0 [] := by
  have h := KR.new w (w.alloc o) ((Below.refl _ _).alloc (Nat.le_refl _) _)
  rw [World.size_alloc] at h
  exact h
theorem KR.grow {w W W' : World} {g m c g' m' c' : Nat} {L L' : List Value} (h : KR w W g m c L) (h1 : RM W' w.heap.size (some ⟨g', 0, none⟩) m' c' 1 L' 3) (h2 : m' ≤ c') (k : Chg [g] W W') : KR w W' g' m' c' L' :=
  ⟨k.onto h.1 h.1.size (by simp; exact (h.2.1.lt g (by rw [rvB_some]; simp)).1), h1, h2⟩
theorem int_one (l : List Int) : ∀ v ∈ l.map (Value.int .i64), v.oneCell' = true := by
  intro v hv
  obtain ⟨x, _, rfl⟩ := List.mem_map.1 hv
  rfl
/-- Numbers lie at an address, in whatever world that leaves the old as it was. -/
theorem ints_at {w W : World} {B : Nat} {g c n : Nat} {D : List Int} (h : RM w B (some ⟨g, 0, none⟩) n c 1 (D.map (Value.int .i64)) 3) (k : Below w.heap.size w W) (p : Nat) : ∀ j u, ((D.drop p).map (Value.int .i64))[j]? = some u → W.cell? ((⟨g, p, none⟩ : Addr).add j) = some u := fun j u hj => by
  rw [Addr.add_lit]
  obtain ⟨_, _, ⟨h1, _⟩ | ⟨g2, h1, _, hr⟩⟩ := h
  · cases h1
  · injection h1 with h1
    injection h1 with e1
    subst e1
    rw [List.getElem?_map, List.getElem?_drop] at hj
    have hc := hr.cell (j := p + j) (v := u) (by rw [List.getElem?_map]; exact hj)
    rw [← hc]
    exact Chg.cell (l := []) (Chg.of_fresh k) hr.lt (by simp)
theorem ints_at0 {w W : World} {B : Nat} {g c n : Nat} {D : List Int} (h : RM w B (some ⟨g, 0, none⟩) n c 1 (D.map (Value.int .i64)) 3) (k : Below w.heap.size w W) (p : Nat) : ∀ j u, ((D.take p).map (Value.int .i64))[j]? = some u → W.cell? ((⟨g, 0, none⟩ : Addr).add j) = some u := fun j u hj => by
  have h1 := ints_at h k 0 j u (by
    rw [List.drop_zero, List.getElem?_map]
    rw [List.getElem?_map, List.getElem?_take] at hj
    split at hj
    · exact hj
    · cases hj)
  exact h1
theorem one_at {w : World} {g : Nat} {v : Value} (h : w.cell? ⟨g, 0, none⟩ = some v) : ∀ j u, [v][j]? = some u → w.cell? ((⟨g, 0, none⟩ : Addr).add j) = some u := fun j u hj => by
  cases j with
  | zero => simp at hj; subst hj; rw [Addr.add_lit]; exact h
  | succ j => simp at hj
set_option maxRecDepth 20000 in
set_option maxHeartbeats 16000000 in
theorem rf_ids (a : Option Addr) (len cap : Nat) (L : List Ev) (hl : L.length = len) (hlm : len ≤ 100000) (D0 : List Int) (hD : Ev.ids L = D0) (n0 : Nat) (hn : D0.length = n0) (w : World) (HE : EL w a L) :
    Calls Tryd.prog 19 #[.slice a len cap] w fun e w' => ∃ r c, e = .returned (.slice r n0 c) ∧ RI w' r D0 ∧ Below w.heap.size w w' := by
  have HL := Lib.hid (And.intro hl (And.intro HE (And.intro hD hn)))
  clear hl HE hD hn
  have H0 : Hid (RM (w.alloc (.cells #[] 3)) w.heap.size (some ⟨w.heap.size, 0, none⟩) 0 0 1 ((Ev.ids (L.take 0)).map (Value.int .i64)) 3 ∧ Below w.heap.size w (w.alloc (.cells #[] 3))) := Lib.hid (by
    have h := KR.new w w (Below.refl _ _)
    rw [List.take_zero]
    exact ⟨h.2.1, h.1⟩)
  go_enter Tryd.func19, Tryd.ntmps19
  go_upto_region 2 with fail
  revert H0
  generalize (w.alloc (.cells #[] 3)) = V
  intro H0
  go_wp2_with fail
  go_loopw [3, 4] (fun o z wr => ∃ (j nd c go : Nat), o = .slice (some ⟨go, 0, none⟩) nd c ∧ z = .int .i64 j ∧ j ≤ len ∧ nd ≤ j ∧ nd ≤ c ∧ Hid (RM wr w.heap.size (some ⟨go, 0, none⟩) nd c 1 ((Ev.ids (L.take j)).map (Value.int .i64)) 3 ∧ Below w.heap.size w wr)) (fun _ z _ => len - (intOf z).toNat)
  case atStart => exact ⟨0, 0, 0, _, rfl, rfl, by omega, by omega, by omega, H0⟩
  case round =>
    clear H0
    obtain ⟨j, nd, c, go, rfl, rfl, hj, hnj, hnc, HB⟩ := hrel
    have j0 : (0 : Int) ≤ (j : Int) := by omega
    by_cases hjl : j < len
    · have i1 : (j : Int) < (len : Int) := by omega
      have w1 : IntKind.i64.wrap ((j : Int) + 1) = (j : Int) + 1 := IntWalk.i64_in _ (by omega)
      obtain ⟨k, i, n, t, b, e, s0, s1, s2, s3, s4, s5, es⟩ : ∃ k i n t b e s0 s1 s2 s3 s4 s5, L[j]? = some ⟨k, i, n, t, b, e, s0, s1, s2, s3, s4, s5⟩ := ⟨_, _, _, _, _, _, _, _, _, _, _, _, List.getElem?_eq_getElem (by rw [HL.out.1]; exact hjl)⟩
      obtain ⟨hb, ga, o, rfl, hgw, e0, e1, e2, e3, e4, e5, e6, e7, e8, e9, e10, e11⟩ := (HL.out.2.1.below HB.out.2).get es
      obtain ⟨D, hDD⟩ : ∃ D, Ev.ids (L.take j) = D := ⟨_, rfl⟩
      have HS : Hid (Ev.ids (L.take (j + 1)) = if k = 2 then insD i D else D) := Lib.hid (by rw [take_snocE es, Ev.ids_snoc, ← hDD])
      rw [hDD] at HB
      have hDn : Hid (D.length = nd) := Lib.hid (by have := HB.out.1.1; rw [List.length_map] at this; omega)
      clear es hDD hb e2 e3 e4 e5 e6 e7 e8 e9 e10 e11
      by_cases h2 : k = 2
      · subst h2
        have HS2 : Hid (Ev.ids (L.take (j + 1)) = insD i D) := Lib.hid (by simpa using HS.out)
        go_upto_region 6 with fail
        have HE1 : Hid (wr.cell? ⟨ga, o + j * 12 + 1, none⟩ = some (.int .i64 i)) := Lib.hid e1
        clear e0 e1
        go_wp2_with fail
        obtain ⟨WO, rfl⟩ : ∃ WO, WO = wr := ⟨_, rfl⟩
        go_loopw [5] (fun z wr => ∃ p : Nat, z = .int .i64 p ∧ p ≤ nd ∧ Hid (Below WO.heap.size WO wr) ∧ Hid (∀ q v, q < p → D[q]? = some v → v < i)) (fun z _ => nd - (intOf z).toNat)
        case atStart => exact ⟨0, rfl, by omega, Lib.hid (Below.refl _ _), Lib.hid (fun q v h => by omega)⟩
        case round =>
          obtain ⟨p, rfl, hp, HY, HK⟩ := hrel
          have p0 : (0 : Int) ≤ (p : Int) := by omega
          have w2 : IntKind.i64.wrap ((p : Int) + 1) = (p : Int) + 1 := IntWalk.i64_in _ (by omega)
          have HC : Hid (∀ W, Below wr.heap.size wr W → W.cell? ⟨ga, o + j * 12 + 1, none⟩ = some (.int .i64 i) ∧ ∀ v, D[p]? = some v → W.cell? ⟨go, p, none⟩ = some (.int .i64 v)) := Lib.hid (fun W hW => by
            have hB2 : Below WO.heap.size WO W := HY.out.trans (hW.mono HY.out.size)
            refine ⟨(hB2.cell (World.block_lt_of_cell? _ _ HE1.out)).trans HE1.out, fun v hv => ?_⟩
            have h := ints_at HB.out.1 hB2 p 0 (.int .i64 v) (by rw [List.getElem?_map, List.getElem?_drop, Nat.add_zero, hv]; rfl)
            rw [Addr.add_lit, Nat.add_zero] at h
            exact h)
          by_cases hpn : p < nd
          · have pi : (p : Int) < (nd : Int) := by omega
            obtain ⟨v, hv⟩ : ∃ v, D[p]? = some v := ⟨_, List.getElem?_eq_getElem (by rw [hDn.out]; exact hpn)⟩
            have HV := Lib.hid hv
            clear hv
            by_cases hvi : v < i
            · have hvb : decide (v < i) = true := by simp [hvi]
              go_upto_region 7 with fail
              refine wp_region_class (fun w' => Below wr.heap.size wr w') (by kernel_rfl) (by kernel_rfl) (Below.refl _ _).drew ?_
              repeat (first
                | go_big_quiet_skip
                | (go_big_quiet_want
                   unfold Oper.quiet
                   apply Exists.intro
                   refine ⟨fun wq hwq => ?_, ?_⟩
                   · (
                      obtain ⟨ce, cv0⟩ := HC.out _ hwq
                      have cv := cv0 v HV.out
                      unfold Oper.quietAt
                      go_simp
                      first
                        | exact ⟨rfl, hwq⟩
                        | exact rfl
                      )
                   simp only [Act.put, List.setIfInBounds_toArray, List.set_cons_zero, List.set_cons_succ]
                   go_big_quiet_on))
              refine wpQuiet_nil ?_
              intro w4 hw4
              have HY2 := Lib.hid (HY.out.trans (hw4.mono HY.out.size))
              clear hw4
              go_wp2_with fail
              go_roundw
              case rel => exact ⟨p + 1, by go_num, by omega, HY2, Lib.hid (fun q u hq hu => by
                by_cases e : q = p
                · rw [e, HV.out] at hu; rw [← Option.some.inj hu]; exact hvi
                · exact HK.out q u (by omega) hu)⟩
              case measure => simp [intOf]; omega
            · have hvb : decide (v < i) = false := by simp; omega
              have HI := Lib.hid (insD_at HK.out (Or.inr ⟨v, HV.out, hvi⟩))
              go_upto_region 7 with fail
              refine wp_region_class (fun w' => Below wr.heap.size wr w') (by kernel_rfl) (by kernel_rfl) (Below.refl _ _).drew ?_
              repeat (first
                | go_big_quiet_skip
                | (go_big_quiet_want
                   unfold Oper.quiet
                   apply Exists.intro
                   refine ⟨fun wq hwq => ?_, ?_⟩
                   · (
                      obtain ⟨ce, cv0⟩ := HC.out _ hwq
                      have cv := cv0 v HV.out
                      unfold Oper.quietAt
                      go_simp
                      first
                        | exact ⟨rfl, hwq⟩
                        | exact rfl
                      )
                   simp only [Act.put, List.setIfInBounds_toArray, List.set_cons_zero, List.set_cons_succ]
                   go_big_quiet_on))
              refine wpQuiet_nil ?_
              intro w4 hw4
              have HY2 := Lib.hid (HY.out.trans (hw4.mono HY.out.size))
              have HC2 : Hid (∀ W, Below w4.heap.size w4 W → W.cell? ⟨ga, o + j * 12 + 1, none⟩ = some (.int .i64 i) ∧ W.cell? ⟨go, p, none⟩ = some (.int .i64 v)) := Lib.hid (fun W hW => by
                have h := HC.out W (hw4.trans (hW.mono hw4.size))
                exact ⟨h.1, h.2 v HV.out⟩)
              clear hw4
              have pne : ((p : Int) == (nd : Int)) = false := by simp; omega
              have pne2 : ¬ p = nd := by omega
              go_upto_region 9 with fail
              by_cases hve : v = i
              · have hveb : (v != i) = false := by simp [hve]
                refine wp_region_class (fun w' => Below w4.heap.size w4 w') (by kernel_rfl) (by kernel_rfl) (Below.refl _ _).drew ?_
                repeat (first
                  | go_big_quiet_skip
                  | (go_big_quiet_want
                     unfold Oper.quiet
                     apply Exists.intro
                     refine ⟨fun wq hwq => ?_, ?_⟩
                     · (
                        obtain ⟨ce, cv⟩ := HC2.out _ hwq
                        unfold Oper.quietAt
                        go_simp
                        first
                          | exact ⟨rfl, hwq⟩
                          | exact rfl
                        )
                     simp only [Act.put, List.setIfInBounds_toArray, List.set_cons_zero, List.set_cons_succ]
                     go_big_quiet_on))
                refine wpQuiet_nil ?_
                intro w5 hw5
                have HY3 := Lib.hid (HY2.out.trans (hw5.mono HY2.out.size))
                clear hw5
                go_wp2_with fail
                go_roundw
                case rel => exact ⟨j + 1, nd, c, go, rfl, by go_num, by omega, by omega, hnc, Lib.hid ⟨by
                  rw [HS2.out]
                  unfold insD
                  rw [HI.out.1, HI.out.2, List.head?_drop, HV.out, hve, if_pos rfl, List.nil_append, List.take_append_drop]
                  exact HB.out.1.chg (Chg.of_fresh (l := []) HY3.out) (by simp), HB.out.2.trans (HY3.out.mono HB.out.2.size)⟩⟩
                case measure => simp [intOf]; omega
              · have hveb : (v != i) = true := by simp [hve]
                refine wp_region_class (fun w' => Below w4.heap.size w4 w') (by kernel_rfl) (by kernel_rfl) (Below.refl _ _).drew ?_
                repeat (first
                  | go_big_quiet_skip
                  | (go_big_quiet_want
                     unfold Oper.quiet
                     apply Exists.intro
                     refine ⟨fun wq hwq => ?_, ?_⟩
                     · (
                        obtain ⟨ce, cv⟩ := HC2.out _ hwq
                        unfold Oper.quietAt
                        go_simp
                        first
                          | exact ⟨rfl, hwq⟩
                          | exact rfl
                        )
                     simp only [Act.put, List.setIfInBounds_toArray, List.set_cons_zero, List.set_cons_succ]
                     go_big_quiet_on))
                refine wpQuiet_nil ?_
                intro w5 hw5
                have HY3 := Lib.hid (HY2.out.trans (hw5.mono HY2.out.size))
                have ce := (HC2.out _ hw5).1
                have HIN : Hid (insD i D = D.take p ++ ([i] ++ D.drop p)) := Lib.hid (by
                  unfold insD
                  rw [HI.out.1, HI.out.2, List.head?_drop]
                  rw [HV.out, if_neg (by intro h; exact hve (Option.some.inj h))])
                have HA : Hid (((D.take p).map (Value.int .i64)).length = p * 1 ∧ RM w5 w.heap.size (some ⟨go, 0, none⟩) nd c 1 (D.map (Value.int .i64)) 3 ∧ ((D.drop p).map (Value.int .i64)).length = (nd - p) * 1) := Lib.hid ⟨by have := hDn.out; rw [List.length_map, List.length_take]; omega, HB.out.1.chg (Chg.of_fresh (l := []) HY3.out) (by simp), by have := hDn.out; rw [List.length_map, List.length_drop]; omega⟩
                have HB5 := Lib.hid (HB.out.2.trans (HY3.out.mono HB.out.2.size))
                clear hw5
                go_upto_region 10 with fail
                have fa1 : (p : Int) ≤ (c : Int) := by omega
                have fa2 : p ≤ c := by omega
                have fa3 : ¬ c = p := by omega
                have fa4 : (p : Int) ≤ (nd : Int) := by omega
                have fa5 : p ≤ nd := by omega
                have ced : w5.drew.cell? ⟨ga, o + j * 12 + 1, none⟩ = some (.int .i64 i) := ce
                have gal : ga < w5.heap.size := World.block_lt_of_cell? _ _ ce
                have ga1 : ¬ ga = w5.heap.size := by omega
                have ga2 : ¬ w5.heap.size = ga := by omega
                go_region_law (first
                  | ((refine step_append_rz rfl (.tmp 53) (.tmp 56) 50 50 rfl 3 (.int .i64 0) 1 8 Tryd.underlying50 infoInt rfl (by omega) w5.heap.size _ 0 0 [] rfl ((KR.new w5 w5 (Below.refl _ _)).drew).2.1 (Nat.le_refl _) _ rfl p ((D.take p).map (Value.int .i64)) (Src.ofSlice _ Tryd.underlying50 ⟨go, 0, none⟩ p _ ((D.take p).map (Value.int .i64)) HA.out.1 (ints_at0 HA.out.2.1 ((KR.new w5 w5 (Below.refl _ _)).drew).1 p) (int_one _)) (by omega) (by omega) ?_); intro g5 c5 wA q1 q0 q2 q3; rw [Nat.zero_add] at q1 q0; have HS := Lib.hid (((KR.new w5 w5 (Below.refl _ _)).drew).grow q1 q0 q3); have ceA := (HS.out.1.cell gal).trans ce; have gA : ga < wA.heap.size := Nat.lt_of_lt_of_le gal HS.out.1.size; have gA1 : ¬ ga = wA.heap.size := (by omega); have gA2 : ¬ wA.heap.size = ga := (by omega); clear q0 q1 q2 q3)
                  | ((refine step_append_rz rfl (.tmp 53) (.tmp 56) 50 50 rfl 3 (.int .i64 0) 1 8 Tryd.underlying50 infoInt rfl (by omega) w5.heap.size _ 0 0 [] rfl (((KR.new w5 w5 (Below.refl _ _)).alloc (.cells #[.int .i64 i] 3)).drew).2.1 (Nat.le_refl _) _ rfl p ((D.take p).map (Value.int .i64)) (Src.ofSlice _ Tryd.underlying50 ⟨go, 0, none⟩ p _ ((D.take p).map (Value.int .i64)) HA.out.1 (ints_at0 HA.out.2.1 (((KR.new w5 w5 (Below.refl _ _)).alloc (.cells #[.int .i64 i] 3)).drew).1 p) (int_one _)) (by omega) (by omega) ?_); intro g5 c5 wA q1 q0 q2 q3; rw [Nat.zero_add] at q1 q0; have HS := Lib.hid ((((KR.new w5 w5 (Below.refl _ _)).alloc (.cells #[.int .i64 i] 3)).drew).grow q1 q0 q3); have ceA := (HS.out.1.cell gal).trans ce; have gA : ga < wA.heap.size := Nat.lt_of_lt_of_le gal HS.out.1.size; have gA1 : ¬ ga = wA.heap.size := (by omega); have gA2 : ¬ wA.heap.size = ga := (by omega); have bI := Blk.newA (w5.alloc (.cells #[] 3)) #[.int .i64 i] 3; have hI := (bI.drew.chg q3 (by simp)).cell (i := 0) rfl; clear bI; rw [World.size_alloc] at hI; clear q0 q1 q2 q3)
                  | ((refine step_append_rz rfl (.tmp 53) (.tmp 56) 50 50 rfl 3 (.int .i64 0) 1 8 Tryd.underlying50 infoInt rfl (by omega) w5.heap.size _ 0 0 [] rfl ((KR.new2 w5 (.cells #[.int .i64 i] 3)).drew).2.1 (Nat.le_refl _) _ rfl p ((D.take p).map (Value.int .i64)) (Src.ofSlice _ Tryd.underlying50 ⟨go, 0, none⟩ p _ ((D.take p).map (Value.int .i64)) HA.out.1 (ints_at0 HA.out.2.1 ((KR.new2 w5 (.cells #[.int .i64 i] 3)).drew).1 p) (int_one _)) (by omega) (by omega) ?_); intro g5 c5 wA q1 q0 q2 q3; rw [Nat.zero_add] at q1 q0; have HS := Lib.hid (((KR.new2 w5 (.cells #[.int .i64 i] 3)).drew).grow q1 q0 q3); have ceA := (HS.out.1.cell gal).trans ce; have gA : ga < wA.heap.size := Nat.lt_of_lt_of_le gal HS.out.1.size; have gA1 : ¬ ga = wA.heap.size := (by omega); have gA2 : ¬ wA.heap.size = ga := (by omega); have bI := (Blk.newA w5 #[.int .i64 i] 3).alloc (.cells #[] 3); have hI := (bI.drew.chg q3 (by simp)).cell (i := 0) rfl; clear bI; clear q0 q1 q2 q3)
                  | (refine step_append_rz rfl (.tmp 57) (.tmp 63) 50 50 rfl 3 (.int .i64 0) 1 8 Tryd.underlying50 infoInt rfl (by omega) w5.heap.size g5 p c5 _ rfl (HS.out.alloc (.cells #[.int .i64 i] 3)).2.1 HS.out.2.2 _ rfl 1 [.int .i64 i] (Src.ofSlice _ Tryd.underlying50 ⟨_, 0, none⟩ 1 1 [.int .i64 i] rfl (new_atE _ _ _) (int_one [i])) (by omega) (by omega) ?_; intro g6 c6 wB q1 q0 q2 q3; have HT := Lib.hid ((HS.out.alloc (.cells #[.int .i64 i] 3)).grow q1 q0 q3); clear q0 q1 q2 q3)
                  | (refine step_append_rz rfl (.tmp 57) (.tmp 63) 50 50 rfl 3 (.int .i64 0) 1 8 Tryd.underlying50 infoInt rfl (by omega) w5.heap.size g5 p c5 _ rfl (HS.out).2.1 HS.out.2.2 _ rfl 1 [.int .i64 i] (Src.ofSlice _ Tryd.underlying50 ⟨_, 0, none⟩ 1 1 [.int .i64 i] rfl (one_at hI) (int_one [i])) (by omega) (by omega) ?_; intro g6 c6 wB q1 q0 q2 q3; have HT := Lib.hid ((HS.out).grow q1 q0 q3); clear q0 q1 q2 q3)
                  | (refine step_append_rz rfl (.tmp 64) (.tmp 67) 50 50 rfl 3 (.int .i64 0) 1 8 Tryd.underlying50 infoInt rfl (by omega) w5.heap.size g6 (p + 1) c6 _ rfl HT.out.2.1 HT.out.2.2 _ rfl (nd - p) ((D.drop p).map (Value.int .i64)) (Src.ofSlice _ Tryd.underlying50 ⟨go, p, none⟩ (nd - p) _ ((D.drop p).map (Value.int .i64)) HA.out.2.2 (ints_at HA.out.2.1 HT.out.1 p) (int_one _)) (by omega) (by omega) ?_; intro g7 c7 wC q1 q0 q2 q3; have HN := Lib.hid (HT.out.grow q1 q0 q3); clear q0 q1 q2 q3)
                )
                all_goals
                  go_wp2_with fail
                  go_roundw
                  case rel => exact ⟨j + 1, p + 1 + (nd - p), c7, g7, by go_num, by go_num, by omega, by omega, HN.out.2.2, Lib.hid ⟨by
                    rw [HS2.out, HIN.out]
                    have h := HN.out.2.1.base_le (B' := w.heap.size) HB5.out.size
                    simpa using h, HB5.out.trans (HN.out.1.mono HB5.out.size)⟩⟩
                  case measure => simp [intOf]; omega
          · obtain rfl : p = nd := by omega
            have pi : ¬ (p : Int) < (p : Int) := by omega
            have HI := Lib.hid (insD_at HK.out (Or.inl hDn.out.symm))
            go_upto_region 7 with fail
            refine wp_region_class (fun w' => Below wr.heap.size wr w') (by kernel_rfl) (by kernel_rfl) (Below.refl _ _).drew ?_
            repeat (first
              | go_big_quiet_skip
              | (go_big_quiet_want
                 unfold Oper.quiet
                 apply Exists.intro
                 refine ⟨fun wq hwq => ?_, ?_⟩
                 · (
                    obtain ⟨ce, cv0⟩ := HC.out _ hwq
                    clear cv0
                    unfold Oper.quietAt
                    go_simp
                    first
                      | exact ⟨rfl, hwq⟩
                      | exact rfl
                    )
                 simp only [Act.put, List.setIfInBounds_toArray, List.set_cons_zero, List.set_cons_succ]
                 go_big_quiet_on))
            refine wpQuiet_nil ?_
            intro w4 hw4
            have HY2 := Lib.hid (HY.out.trans (hw4.mono HY.out.size))
            have HC2 : Hid (∀ W, Below w4.heap.size w4 W → W.cell? ⟨ga, o + j * 12 + 1, none⟩ = some (.int .i64 i)) := Lib.hid (fun W hW => (HC.out W (hw4.trans (hW.mono hw4.size))).1)
            clear hw4
            go_upto_region 9 with fail
            refine wp_region_class (fun w' => Below w4.heap.size w4 w') (by kernel_rfl) (by kernel_rfl) (Below.refl _ _).drew ?_
            repeat (first
              | go_big_quiet_skip
              | (go_big_quiet_want
                 unfold Oper.quiet
                 apply Exists.intro
                 refine ⟨fun wq hwq => ?_, ?_⟩
                 · (
                    have ce := HC2.out _ hwq
                    unfold Oper.quietAt
                    go_simp
                    first
                      | exact ⟨rfl, hwq⟩
                      | exact rfl
                    )
                 simp only [Act.put, List.setIfInBounds_toArray, List.set_cons_zero, List.set_cons_succ]
                 go_big_quiet_on))
            refine wpQuiet_nil ?_
            intro w5 hw5
            by_cases hcp : p = c
            · have hcb : True := trivial
              subst hcp
              have HY3 := Lib.hid (HY2.out.trans (hw5.mono HY2.out.size))
              have ce := HC2.out _ hw5
              have HIN : Hid (insD i D = D.take p ++ ([i] ++ [])) := Lib.hid (by
                unfold insD
                rw [HI.out.1, HI.out.2, List.head?_drop]
                rw [List.getElem?_eq_none (by rw [hDn.out]; exact Nat.le_refl _), if_neg (by simp), List.drop_of_length_le (by rw [hDn.out]; exact Nat.le_refl _)])
              have HA : Hid (((D.take p).map (Value.int .i64)).length = p * 1 ∧ RM w5 w.heap.size (some ⟨go, 0, none⟩) p p 1 (D.map (Value.int .i64)) 3 ∧ ((D.drop p).map (Value.int .i64)).length = (p - p) * 1) := Lib.hid ⟨by have := hDn.out; rw [List.length_map, List.length_take]; omega, HB.out.1.chg (Chg.of_fresh (l := []) HY3.out) (by simp), by have := hDn.out; rw [List.length_map, List.length_drop]; omega⟩
              have HB5 := Lib.hid (HB.out.2.trans (HY3.out.mono HB.out.2.size))
              clear hw5
              go_upto_region 10 with fail
              have fa1 : (p : Int) ≤ (p : Int) := by omega
              have fa2 : p ≤ p := by omega
              have ced : w5.drew.cell? ⟨ga, o + j * 12 + 1, none⟩ = some (.int .i64 i) := ce
              have gal : ga < w5.heap.size := World.block_lt_of_cell? _ _ ce
              have ga1 : ¬ ga = w5.heap.size := by omega
              have ga2 : ¬ w5.heap.size = ga := by omega
              go_region_law (first
                | ((refine step_append_rz rfl (.tmp 53) (.tmp 56) 50 50 rfl 3 (.int .i64 0) 1 8 Tryd.underlying50 infoInt rfl (by omega) w5.heap.size _ 0 0 [] rfl ((KR.new w5 w5 (Below.refl _ _)).drew).2.1 (Nat.le_refl _) _ rfl p ((D.take p).map (Value.int .i64)) (Src.ofSlice _ Tryd.underlying50 ⟨go, 0, none⟩ p _ ((D.take p).map (Value.int .i64)) HA.out.1 (ints_at0 HA.out.2.1 ((KR.new w5 w5 (Below.refl _ _)).drew).1 p) (int_one _)) (by omega) (by omega) ?_); intro g5 c5 wA q1 q0 q2 q3; rw [Nat.zero_add] at q1 q0; have HS := Lib.hid (((KR.new w5 w5 (Below.refl _ _)).drew).grow q1 q0 q3); have ceA := (HS.out.1.cell gal).trans ce; have gA : ga < wA.heap.size := Nat.lt_of_lt_of_le gal HS.out.1.size; have gA1 : ¬ ga = wA.heap.size := (by omega); have gA2 : ¬ wA.heap.size = ga := (by omega); clear q0 q1 q2 q3)
                | ((refine step_append_rz rfl (.tmp 53) (.tmp 56) 50 50 rfl 3 (.int .i64 0) 1 8 Tryd.underlying50 infoInt rfl (by omega) w5.heap.size _ 0 0 [] rfl (((KR.new w5 w5 (Below.refl _ _)).alloc (.cells #[.int .i64 i] 3)).drew).2.1 (Nat.le_refl _) _ rfl p ((D.take p).map (Value.int .i64)) (Src.ofSlice _ Tryd.underlying50 ⟨go, 0, none⟩ p _ ((D.take p).map (Value.int .i64)) HA.out.1 (ints_at0 HA.out.2.1 (((KR.new w5 w5 (Below.refl _ _)).alloc (.cells #[.int .i64 i] 3)).drew).1 p) (int_one _)) (by omega) (by omega) ?_); intro g5 c5 wA q1 q0 q2 q3; rw [Nat.zero_add] at q1 q0; have HS := Lib.hid ((((KR.new w5 w5 (Below.refl _ _)).alloc (.cells #[.int .i64 i] 3)).drew).grow q1 q0 q3); have ceA := (HS.out.1.cell gal).trans ce; have gA : ga < wA.heap.size := Nat.lt_of_lt_of_le gal HS.out.1.size; have gA1 : ¬ ga = wA.heap.size := (by omega); have gA2 : ¬ wA.heap.size = ga := (by omega); have bI := Blk.newA (w5.alloc (.cells #[] 3)) #[.int .i64 i] 3; have hI := (bI.drew.chg q3 (by simp)).cell (i := 0) rfl; clear bI; rw [World.size_alloc] at hI; clear q0 q1 q2 q3)
                | ((refine step_append_rz rfl (.tmp 53) (.tmp 56) 50 50 rfl 3 (.int .i64 0) 1 8 Tryd.underlying50 infoInt rfl (by omega) w5.heap.size _ 0 0 [] rfl ((KR.new2 w5 (.cells #[.int .i64 i] 3)).drew).2.1 (Nat.le_refl _) _ rfl p ((D.take p).map (Value.int .i64)) (Src.ofSlice _ Tryd.underlying50 ⟨go, 0, none⟩ p _ ((D.take p).map (Value.int .i64)) HA.out.1 (ints_at0 HA.out.2.1 ((KR.new2 w5 (.cells #[.int .i64 i] 3)).drew).1 p) (int_one _)) (by omega) (by omega) ?_); intro g5 c5 wA q1 q0 q2 q3; rw [Nat.zero_add] at q1 q0; have HS := Lib.hid (((KR.new2 w5 (.cells #[.int .i64 i] 3)).drew).grow q1 q0 q3); have ceA := (HS.out.1.cell gal).trans ce; have gA : ga < wA.heap.size := Nat.lt_of_lt_of_le gal HS.out.1.size; have gA1 : ¬ ga = wA.heap.size := (by omega); have gA2 : ¬ wA.heap.size = ga := (by omega); have bI := (Blk.newA w5 #[.int .i64 i] 3).alloc (.cells #[] 3); have hI := (bI.drew.chg q3 (by simp)).cell (i := 0) rfl; clear bI; clear q0 q1 q2 q3)
                | (refine step_append_rz rfl (.tmp 57) (.tmp 63) 50 50 rfl 3 (.int .i64 0) 1 8 Tryd.underlying50 infoInt rfl (by omega) w5.heap.size g5 p c5 _ rfl (HS.out.alloc (.cells #[.int .i64 i] 3)).2.1 HS.out.2.2 _ rfl 1 [.int .i64 i] (Src.ofSlice _ Tryd.underlying50 ⟨_, 0, none⟩ 1 1 [.int .i64 i] rfl (new_atE _ _ _) (int_one [i])) (by omega) (by omega) ?_; intro g6 c6 wB q1 q0 q2 q3; have HT := Lib.hid ((HS.out.alloc (.cells #[.int .i64 i] 3)).grow q1 q0 q3); clear q0 q1 q2 q3)
                | (refine step_append_rz rfl (.tmp 57) (.tmp 63) 50 50 rfl 3 (.int .i64 0) 1 8 Tryd.underlying50 infoInt rfl (by omega) w5.heap.size g5 p c5 _ rfl (HS.out).2.1 HS.out.2.2 _ rfl 1 [.int .i64 i] (Src.ofSlice _ Tryd.underlying50 ⟨_, 0, none⟩ 1 1 [.int .i64 i] rfl (one_at hI) (int_one [i])) (by omega) (by omega) ?_; intro g6 c6 wB q1 q0 q2 q3; have HT := Lib.hid ((HS.out).grow q1 q0 q3); clear q0 q1 q2 q3)
                | (refine step_append_rz rfl (.tmp 64) (.tmp 67) 50 50 rfl 3 (.int .i64 0) 1 8 Tryd.underlying50 infoInt rfl (by omega) w5.heap.size g6 (p + 1) c6 _ rfl HT.out.2.1 HT.out.2.2 _ rfl 0 [] (Src.ofSlice _ Tryd.underlying50 ⟨go, _, none⟩ 0 _ [] rfl (fun j u h => by simp at h) (fun v h => by simp at h)) (by omega) (by omega) ?_; intro g7 c7 wC q1 q0 q2 q3; have HN := Lib.hid (HT.out.grow q1 q0 q3); clear q0 q1 q2 q3)
              )
              all_goals
                go_wp2_with fail
                go_roundw
                case rel => exact ⟨j + 1, p + 1 + 0, c7, g7, by go_num, by go_num, by omega, by omega, HN.out.2.2, Lib.hid ⟨by
                  rw [HS2.out, HIN.out]
                  have h := HN.out.2.1.base_le (B' := w.heap.size) HB5.out.size
                  simpa using h, HB5.out.trans (HN.out.1.mono HB5.out.size)⟩⟩
                case measure => simp [intOf]; omega
            · have hc1 : p < c := by omega
              have HY3 := Lib.hid (HY2.out.trans (hw5.mono HY2.out.size))
              have ce := HC2.out _ hw5
              have HIN : Hid (insD i D = D.take p ++ ([i] ++ [])) := Lib.hid (by
                unfold insD
                rw [HI.out.1, HI.out.2, List.head?_drop]
                rw [List.getElem?_eq_none (by rw [hDn.out]; exact Nat.le_refl _), if_neg (by simp), List.drop_of_length_le (by rw [hDn.out]; exact Nat.le_refl _)])
              have HA : Hid (((D.take p).map (Value.int .i64)).length = p * 1 ∧ RM w5 w.heap.size (some ⟨go, 0, none⟩) p c 1 (D.map (Value.int .i64)) 3 ∧ ((D.drop p).map (Value.int .i64)).length = (p - p) * 1) := Lib.hid ⟨by have := hDn.out; rw [List.length_map, List.length_take]; omega, HB.out.1.chg (Chg.of_fresh (l := []) HY3.out) (by simp), by have := hDn.out; rw [List.length_map, List.length_drop]; omega⟩
              have HB5 := Lib.hid (HB.out.2.trans (HY3.out.mono HB.out.2.size))
              clear hw5
              go_upto_region 10 with fail
              have fa1 : (p : Int) ≤ (c : Int) := by omega
              have fa2 : p ≤ c := by omega
              have fa3 : ¬ c = p := by omega
              have ced : w5.drew.cell? ⟨ga, o + j * 12 + 1, none⟩ = some (.int .i64 i) := ce
              have gal : ga < w5.heap.size := World.block_lt_of_cell? _ _ ce
              have ga1 : ¬ ga = w5.heap.size := by omega
              have ga2 : ¬ w5.heap.size = ga := by omega
              go_region_law (first
                | ((refine step_append_rz rfl (.tmp 53) (.tmp 56) 50 50 rfl 3 (.int .i64 0) 1 8 Tryd.underlying50 infoInt rfl (by omega) w5.heap.size _ 0 0 [] rfl ((KR.new w5 w5 (Below.refl _ _)).drew).2.1 (Nat.le_refl _) _ rfl p ((D.take p).map (Value.int .i64)) (Src.ofSlice _ Tryd.underlying50 ⟨go, 0, none⟩ p _ ((D.take p).map (Value.int .i64)) HA.out.1 (ints_at0 HA.out.2.1 ((KR.new w5 w5 (Below.refl _ _)).drew).1 p) (int_one _)) (by omega) (by omega) ?_); intro g5 c5 wA q1 q0 q2 q3; rw [Nat.zero_add] at q1 q0; have HS := Lib.hid (((KR.new w5 w5 (Below.refl _ _)).drew).grow q1 q0 q3); have ceA := (HS.out.1.cell gal).trans ce; have gA : ga < wA.heap.size := Nat.lt_of_lt_of_le gal HS.out.1.size; have gA1 : ¬ ga = wA.heap.size := (by omega); have gA2 : ¬ wA.heap.size = ga := (by omega); clear q0 q1 q2 q3)
                | ((refine step_append_rz rfl (.tmp 53) (.tmp 56) 50 50 rfl 3 (.int .i64 0) 1 8 Tryd.underlying50 infoInt rfl (by omega) w5.heap.size _ 0 0 [] rfl (((KR.new w5 w5 (Below.refl _ _)).alloc (.cells #[.int .i64 i] 3)).drew).2.1 (Nat.le_refl _) _ rfl p ((D.take p).map (Value.int .i64)) (Src.ofSlice _ Tryd.underlying50 ⟨go, 0, none⟩ p _ ((D.take p).map (Value.int .i64)) HA.out.1 (ints_at0 HA.out.2.1 (((KR.new w5 w5 (Below.refl _ _)).alloc (.cells #[.int .i64 i] 3)).drew).1 p) (int_one _)) (by omega) (by omega) ?_); intro g5 c5 wA q1 q0 q2 q3; rw [Nat.zero_add] at q1 q0; have HS := Lib.hid ((((KR.new w5 w5 (Below.refl _ _)).alloc (.cells #[.int .i64 i] 3)).drew).grow q1 q0 q3); have ceA := (HS.out.1.cell gal).trans ce; have gA : ga < wA.heap.size := Nat.lt_of_lt_of_le gal HS.out.1.size; have gA1 : ¬ ga = wA.heap.size := (by omega); have gA2 : ¬ wA.heap.size = ga := (by omega); have bI := Blk.newA (w5.alloc (.cells #[] 3)) #[.int .i64 i] 3; have hI := (bI.drew.chg q3 (by simp)).cell (i := 0) rfl; clear bI; rw [World.size_alloc] at hI; clear q0 q1 q2 q3)
                | ((refine step_append_rz rfl (.tmp 53) (.tmp 56) 50 50 rfl 3 (.int .i64 0) 1 8 Tryd.underlying50 infoInt rfl (by omega) w5.heap.size _ 0 0 [] rfl ((KR.new2 w5 (.cells #[.int .i64 i] 3)).drew).2.1 (Nat.le_refl _) _ rfl p ((D.take p).map (Value.int .i64)) (Src.ofSlice _ Tryd.underlying50 ⟨go, 0, none⟩ p _ ((D.take p).map (Value.int .i64)) HA.out.1 (ints_at0 HA.out.2.1 ((KR.new2 w5 (.cells #[.int .i64 i] 3)).drew).1 p) (int_one _)) (by omega) (by omega) ?_); intro g5 c5 wA q1 q0 q2 q3; rw [Nat.zero_add] at q1 q0; have HS := Lib.hid (((KR.new2 w5 (.cells #[.int .i64 i] 3)).drew).grow q1 q0 q3); have ceA := (HS.out.1.cell gal).trans ce; have gA : ga < wA.heap.size := Nat.lt_of_lt_of_le gal HS.out.1.size; have gA1 : ¬ ga = wA.heap.size := (by omega); have gA2 : ¬ wA.heap.size = ga := (by omega); have bI := (Blk.newA w5 #[.int .i64 i] 3).alloc (.cells #[] 3); have hI := (bI.drew.chg q3 (by simp)).cell (i := 0) rfl; clear bI; clear q0 q1 q2 q3)
                | (refine step_append_rz rfl (.tmp 57) (.tmp 63) 50 50 rfl 3 (.int .i64 0) 1 8 Tryd.underlying50 infoInt rfl (by omega) w5.heap.size g5 p c5 _ rfl (HS.out.alloc (.cells #[.int .i64 i] 3)).2.1 HS.out.2.2 _ rfl 1 [.int .i64 i] (Src.ofSlice _ Tryd.underlying50 ⟨_, 0, none⟩ 1 1 [.int .i64 i] rfl (new_atE _ _ _) (int_one [i])) (by omega) (by omega) ?_; intro g6 c6 wB q1 q0 q2 q3; have HT := Lib.hid ((HS.out.alloc (.cells #[.int .i64 i] 3)).grow q1 q0 q3); clear q0 q1 q2 q3)
                | (refine step_append_rz rfl (.tmp 57) (.tmp 63) 50 50 rfl 3 (.int .i64 0) 1 8 Tryd.underlying50 infoInt rfl (by omega) w5.heap.size g5 p c5 _ rfl (HS.out).2.1 HS.out.2.2 _ rfl 1 [.int .i64 i] (Src.ofSlice _ Tryd.underlying50 ⟨_, 0, none⟩ 1 1 [.int .i64 i] rfl (one_at hI) (int_one [i])) (by omega) (by omega) ?_; intro g6 c6 wB q1 q0 q2 q3; have HT := Lib.hid ((HS.out).grow q1 q0 q3); clear q0 q1 q2 q3)
                | (refine step_append_rz rfl (.tmp 64) (.tmp 67) 50 50 rfl 3 (.int .i64 0) 1 8 Tryd.underlying50 infoInt rfl (by omega) w5.heap.size g6 (p + 1) c6 _ rfl HT.out.2.1 HT.out.2.2 _ rfl 0 [] (Src.ofSlice _ Tryd.underlying50 ⟨go, _, none⟩ 0 _ [] rfl (fun j u h => by simp at h) (fun v h => by simp at h)) (by omega) (by omega) ?_; intro g7 c7 wC q1 q0 q2 q3; have HN := Lib.hid (HT.out.grow q1 q0 q3); clear q0 q1 q2 q3)
              )
              all_goals
                go_wp2_with fail
                go_roundw
                case rel => exact ⟨j + 1, p + 1 + 0, c7, g7, by go_num, by go_num, by omega, by omega, HN.out.2.2, Lib.hid ⟨by
                  rw [HS2.out, HIN.out]
                  have h := HN.out.2.1.base_le (B' := w.heap.size) HB5.out.size
                  simpa using h, HB5.out.trans (HN.out.1.mono HB5.out.size)⟩⟩
                case measure => simp [intOf]; omega
      · have h2b : (k != 2) = true := by simp [h2]
        go_wp2_with fail
        go_roundw
        case rel => exact ⟨j + 1, nd, c, go, rfl, by go_num, by omega, by omega, hnc, Lib.hid ⟨by rw [HS.out, if_neg h2]; exact HB.out.1, HB.out.2⟩⟩
        case measure => simp [intOf]; omega
    · obtain rfl : j = len := by omega
      have i1 : ¬ (j : Int) < (j : Int) := by omega
      have HZ : Hid (RI wr (some ⟨go, 0, none⟩) D0 ∧ nd = n0) := Lib.hid (by
        have h := HB.out.1
        rw [List.take_of_length_le (by rw [HL.out.1]; exact Nat.le_refl _), HL.out.2.2.1] at h
        have h3 : D0.length = nd := by have := h.1; rw [List.length_map] at this; omega
        exact ⟨RI.of_rm h h3, by rw [← h3]; exact HL.out.2.2.2⟩)
      obtain rfl : nd = n0 := HZ.out.2
      go_wp2_with fail
      go_ret
      first
        | exact ⟨_, c, rfl, HZ.out.1, HB.out.2⟩
        | exact ⟨_, ⟨c, rfl⟩, HZ.out.1, HB.out.2⟩
end Go.Proofs.YtdchedkhlfmpeaaDoor
