/- Several texts in one. -/
import Derived.Test.YtoniipmgkoogbaaPgA
import Derived.Test.YtoniipmgkoogbaaRnStep
import Derived.Deep.RegionHeld3
import Derived.Lib.SliceRun
import Derived.Deep.RegionLaw
import Derived.WalkKit
import Derived.ProofKit
import Derived.Handy
import Derived.WalkLawsBesides
import Derived.WalkSpells
import Derived.Lib.Hide
import Derived.RegionTactic
import Derived.ChangeAlike
import Derived.WalkSmall
import Derived.Deep.QuietTactic
import Derived.BigQuiet
import Derived.OwnWalk
import Derived.Outline
import Derived.Deep.CutRange
import Derived.Deep.CutBlock
import Derived.LoopTactic
import Derived.Test.YtoniipmgkoogbaaRd
/- Scripts: an op in memory of its own. -/
namespace Go.Proofs.Ytoniipmgkoogbaa
open Go.ChangeShapes Go.WideShapes Go.ChangeAt Go.RowKit
set_option linter.unusedSimpArgs false
set_option linter.unusedVariables false


/-- The cells of arms. -/
def acs : List (ByteArray × Int) → List Value
  | [] => []
  | p :: l => [.string p.1, .int .i64 p.2] ++ acs l
theorem acs_snoc (l : List (ByteArray × Int)) (p : ByteArray × Int) : acs (l ++ [p]) = acs l ++ [.string p.1, .int .i64 p.2] := by
  induction l with
  | nil => simp [acs]
  | cons a l ih => simp only [List.cons_append, acs, ih, List.append_assoc]
theorem acs_len : ∀ l : List (ByteArray × Int), (acs l).length = l.length * 2
  | [] => rfl
  | t :: l => by simp only [acs, List.length_append, acs_len l, List.length_cons]; simp; omega
theorem acs_at : ∀ (l : List (ByteArray × Int)) (i j : Nat) (p : ByteArray × Int), l[i]? = some p → j < 2 → (acs l)[i * 2 + j]? = ([.string p.1, .int .i64 p.2] : List Value)[j]?
  | [], i, j, t, h, _ => by simp at h
  | a :: l, 0, j, t, h, hj => by
    simp at h
    subst h
    simp only [acs]
    rw [List.getElem?_append_left (by simp; omega)]
    simp
  | a :: l, i + 1, j, t, h, hj => by
    simp only [acs]
    rw [List.getElem?_append_right (by simp; omega)]
    have e : (i + 1) * 2 + j - ([.string a.1, .int .i64 a.2] : List Value).length = i * 2 + j := by simp; omega
    rw [e]
    exact acs_at l i j t (by simpa using h) hj
theorem al_of {w : World} {g cap : Nat} {l : List (ByteArray × Int)} (h : Rn w g cap 2 (acs l) 38) (hs : ∀ p ∈ l, p.1.size ≤ maxLen) : AL w (some ⟨g, 0, none⟩) l := by
  intro i s t hi
  refine ⟨hs _ (List.mem_of_getElem? hi), g, 0, rfl, h.lt, ?_, ?_⟩
  · rw [Nat.zero_add]; exact h.cell (acs_at l i 0 _ hi (by decide))
  · rw [Nat.zero_add]; exact h.cell (acs_at l i 1 _ hi (by decide))
/-- Arms, somewhat cut. -/
def Pg.cutA (l : List (ByteArray × Int)) : List (ByteArray × Int) := (l.take 10).map fun p => (cutT p.1 70, p.2)
theorem cutA_at {l : List (ByteArray × Int)} {i : Nat} {s : ByteArray} {t : Int} (h : l[i]? = some (s, t)) (hi : i < 10) : (Pg.cutA l)[i]? = some (cutT s 70, t) := by
  unfold Pg.cutA; rw [List.getElem?_map, List.getElem?_take, if_pos hi, h]; rfl
theorem cutA_len (l : List (ByteArray × Int)) : (Pg.cutA l).length = min 10 l.length := by unfold Pg.cutA; rw [List.length_map, List.length_take]
theorem take_snoc2 {α : Type} {l : List α} {k : Nat} {x : α} (h : l[k]? = some x) : l.take (k + 1) = l.take k ++ [x] := by
  rw [List.take_add_one, h]; rfl
theorem arm_one (u : ByteArray) (t : Int) : ∀ x ∈ ([.string u, .int .i64 t] : List Value), x.oneCell' = true := by
  intro x hx
  simp at hx
  rcases hx with h | h <;> subst h <;> rfl
theorem cut_s (s t : ByteArray) (m : Nat) (hm : m ≤ 1000) (hs : s.size ≤ maxLen) (ht : cutT s m = t) (mi : Int) (hmi : mi = m) (w : World) :
    Calls Try.prog 20 #[.string s, .int .i64 mi] w fun e w' => e = .returned (.string t) ∧ w = w' := by
  subst hmi
  exact cut_any s t m hm hs ht w
theorem OB.setP {w0 w : World} {cs rs : List Value} (h : OB w0 w cs rs) (i : Nat) (v : Value) : OB w0 (w.setCell ⟨w0.heap.size, i, none⟩ v) (cs.set i v) rs :=
  ⟨h.1.set i v, h.2.1.other (by omega) i v, h.2.2.trans (((Chg.refl [w0.heap.size] w).set (Or.inl (by simp)) i v).below h.2.2.size (by simp))⟩
theorem OB.drew {w0 w : World} {cs rs : List Value} (h : OB w0 w cs rs) : OB w0 w.drew cs rs := ⟨h.1, h.2.1, h.2.2.drew⟩
theorem OB.alloc {w0 w : World} {cs rs : List Value} (h : OB w0 w cs rs) (o : Obj) : OB w0 (w.alloc o) cs rs := ⟨h.1.alloc o, h.2.1.alloc o, h.2.2.alloc h.2.2.size o⟩
theorem OB.chg {w0 w w' : World} {cs rs : List Value} (h : OB w0 w cs rs) {l : List Nat} (k : Chg l w w') (hl : ∀ y ∈ l, w0.heap.size + 2 ≤ y) : OB w0 w' cs rs :=
  ⟨h.1.chg k (fun e => by have := hl _ e; omega), h.2.1.chg k (fun e => by have := hl _ e; omega), k.onto h.2.2 h.2.2.size (fun y hy => by have := hl y hy; omega)⟩
set_option maxRecDepth 20000 in
set_option maxHeartbeats 16000000 in
theorem op13 (k : Int) (tx : ByteArray) (n to1 : Int) (aa : Option Addr) (al ac : Nat) (ot oe : Int) (ar : List (ByteArray × Int)) (hl : ar.length = al) (hal : al ≤ maxLen) (htx : tx.size ≤ maxLen) (tx2 : ByteArray) (ht2 : cutT tx 300 = tx2) (ar2 : List (ByteArray × Int)) (h2 : Pg.cutA ar = ar2) (m : Nat) (hm : ar2.length = m) (w : World) (HA : AL w aa ar) :
    Calls Try.prog 14 #[.agg #[.int .i64 k, .string tx, .int .i64 n, .int .i64 to1, .slice aa al ac, .int .i64 ot, .int .i64 oe]] w fun r w' => ∃ g c, r = .returned (.agg #[.int .i64 k, .string tx2, .int .i64 n, .int .i64 to1, .slice (some ⟨g, 0, none⟩) m c, .int .i64 ot, .int .i64 oe]) ∧ Rn w' g c 2 (acs ar2) 38 ∧ w.heap.size ≤ g ∧ Below w.heap.size w w' := by
  have hm1 : m = min 10 al := by rw [← hm, ← h2, cutA_len, hl]
  have hm3 : m ≤ 10 := by omega
  have hm4 : m ≤ al := by omega
  have hm5 : 10 ≤ m ∨ al ≤ m := by omega
  clear hm1
  have hm2 : maxLen ≤ 9223372036854775807 := by unfold maxLen; omega
  have HL := Lib.hid (And.intro hl (And.intro HA (And.intro ht2 (And.intro h2 hm))))
  have H0 := Lib.hid (OB.new w #[.int .i64 k, .string tx, .int .i64 n, .int .i64 to1, .slice aa al ac, .int .i64 ot, .int .i64 oe] #[.int .i64 0, .string ⟨#[]⟩, .int .i64 0, .int .i64 0, .slice none 0 0, .int .i64 0, .int .i64 0])
  clear hl HA ht2 h2 hm
  go_enter Try.func14, Try.ntmps14
  go_upto_region 1 with fail
  revert H0
  generalize ((w.alloc (.cells #[.int .i64 k, .string tx, .int .i64 n, .int .i64 to1, .slice aa al ac, .int .i64 ot, .int .i64 oe] 27)).alloc (.cells #[.int .i64 0, .string ⟨#[]⟩, .int .i64 0, .int .i64 0, .slice none 0 0, .int .i64 0, .int .i64 0] 27)) = W0
  intro H0
  have c1 := H0.out.1.cell (i := 1) rfl
  have c4 := H0.out.1.cell (i := 4) rfl
  have f1 := H0.out.1.free 1
  have f4 := H0.out.1.free 4
  have lt := H0.out.1.lt
  have ne1 : ¬ w.heap.size = W0.heap.size := by omega
  have ne2 : ¬ W0.heap.size = w.heap.size := by omega
  go_upto_region 3 with (first
    | (go_at_call 20; refine (cut_s tx tx2 300 (by omega) htx HL.out.2.2.1 300 rfl _).mono ?_; rintro e W1 ⟨rfl, rfl⟩)
    | fail)
  have H1 : Hid (OB w (((W0.setCell ⟨w.heap.size, 4, none⟩ (.slice (some ⟨W0.heap.size, 0, none⟩) 0 0)).setCell ⟨w.heap.size, 1, none⟩ (.string tx2)).alloc (.cells #[] 38)) [.int .i64 k, .string tx2, .int .i64 n, .int .i64 to1, .slice (some ⟨W0.heap.size, 0, none⟩) 0 0, .int .i64 ot, .int .i64 oe] [.int .i64 0, .string ⟨#[]⟩, .int .i64 0, .int .i64 0, .slice none 0 0, .int .i64 0, .int .i64 0] ∧ Rn (((W0.setCell ⟨w.heap.size, 4, none⟩ (.slice (some ⟨W0.heap.size, 0, none⟩) 0 0)).setCell ⟨w.heap.size, 1, none⟩ (.string tx2)).alloc (.cells #[] 38)) W0.heap.size 0 2 (acs (ar2.take 0)) 38 ∧ w.heap.size + 2 ≤ W0.heap.size) := Lib.hid ⟨((H0.out.setP 4 _).setP 1 _).alloc _, by simpa [acs] using Rn.empty ((W0.setCell ⟨w.heap.size, 4, none⟩ (.slice (some ⟨W0.heap.size, 0, none⟩) 0 0)).setCell ⟨w.heap.size, 1, none⟩ (.string tx2)) 2 38, by have := H0.out.2.1.lt; omega⟩
  clear c1 c4 f1 f4 lt ne1 ne2 H0
  revert H1
  generalize (((W0.setCell ⟨w.heap.size, 4, none⟩ (.slice (some ⟨W0.heap.size, 0, none⟩) 0 0)).setCell ⟨w.heap.size, 1, none⟩ (.string tx2)).alloc (.cells #[] 38)) = W1
  generalize W0.heap.size = g0
  intro H1
  go_wp2_with fail
  go_loopw [4] (fun i wr => ∃ (j g c : Nat), i = .int .i64 j ∧ j ≤ m ∧ Hid (OB w wr [.int .i64 k, .string tx2, .int .i64 n, .int .i64 to1, .slice (some ⟨g, 0, none⟩) j c, .int .i64 ot, .int .i64 oe] [.int .i64 0, .string ⟨#[]⟩, .int .i64 0, .int .i64 0, .slice none 0 0, .int .i64 0, .int .i64 0] ∧ Rn wr g c 2 (acs (ar2.take j)) 38 ∧ w.heap.size + 2 ≤ g)) (fun i _ => m - (intOf i).toNat)
  case atStart => exact ⟨0, g0, 0, rfl, by omega, H1⟩
  case round =>
    clear H1
    obtain ⟨j, g, c, rfl, hj, HB⟩ := hrel
    have j0 : (0 : Int) ≤ (j : Int) := by omega
    by_cases hjm : j < m
    · have i1 : (j : Int) < (al : Int) := by omega
      have i2 : (j : Int) < 10 := by omega
      have w1 : IntKind.i64.wrap ((j : Int) + 1) = (j : Int) + 1 := IntWalk.i64_in _ (by omega)
      obtain ⟨s, t, es⟩ : ∃ s t, ar[j]? = some (s, t) := ⟨_, _, List.getElem?_eq_getElem (by rw [HL.out.1]; omega)⟩
      obtain ⟨hs, gi, o, haa, hgw, e1, e2⟩ := HL.out.2.1 j s t es
      obtain ⟨u, hu⟩ : ∃ u, cutT s 70 = u := ⟨_, rfl⟩
      have hrk : ar2[j]? = some (u, t) := by rw [← HL.out.2.2.2.1, ← hu]; exact cutA_at es (by omega)
      have HU : Hid (cutT s 70 = u ∧ acs (ar2.take (j + 1)) = acs (ar2.take j) ++ [.string u, .int .i64 t] ∧ (acs (ar2.take j)).length = j * 2) := Lib.hid ⟨hu, by rw [take_snoc2 hrk, acs_snoc], by rw [acs_len, List.length_take, HL.out.2.2.2.2]; congr 1; omega⟩
      have HC := Lib.hid (And.intro e1 e2)
      subst haa
      have p4 := HB.out.1.1.cell (i := 4) rfl
      have p4d : wr.drew.cell? ⟨w.heap.size, 4, none⟩ = some (.slice (some ⟨g, 0, none⟩) j c) := p4
      have s0 : wr.drew.cell? ⟨gi, o + j * 2, none⟩ = some (.string s) ∧ wr.drew.cell? ⟨gi, o + j * 2 + 1, none⟩ = some (.int .i64 t) := ⟨by rw [HB.out.1.drew.2.2.cell hgw]; exact HC.out.1, by rw [HB.out.1.drew.2.2.cell hgw]; exact HC.out.2⟩
      have s1 := And.intro (((HB.out.1.alloc (.cells #[.string u, .int .i64 t] 38)).drew.2.2.cell (p := ⟨gi, o + j * 2, none⟩) hgw).trans HC.out.1) (((HB.out.1.alloc (.cells #[.string u, .int .i64 t] 38)).drew.2.2.cell (p := ⟨gi, o + j * 2 + 1, none⟩) hgw).trans HC.out.2)
      have hlt := HB.out.1.1.lt
      have n1 : ¬ w.heap.size = wr.heap.size := by omega
      have n2 : ¬ wr.heap.size = w.heap.size := by omega
      have n3 : ¬ gi = w.heap.size := by omega
      have n4 : ¬ w.heap.size = gi := by omega
      have n5 : ¬ gi = wr.heap.size := by omega
      have n6 : ¬ wr.heap.size = gi := by omega
      clear es hu hrk e1 e2
      go_upto_region 6 with fail
      obtain ⟨s0a, s0b⟩ := s0
      clear s1
      go_region_law (first
        | (rw [if_pos (by simp [Region.wanted])]; unfold Oper.wp; go_simp; go_at_call 20; refine (cut_s s u 70 (by omega) hs HU.out.1 70 rfl _).mono ?_; rintro e W2 ⟨rfl, rfl⟩)
        | (refine step_append_rn rfl (.tmp 24) (.tmp 37) 25 25 rfl 38 (.agg #[.string ByteArray.empty, .int .i64 0]) 2 24 Try.underlying25 infoArm rfl g j c (acs (ar2.take j)) rfl HU.out.2.2 (HB.out.2.1.chg (l := []) (((Chg.refl [] wr).alloc _).drew) (by simp)) _ rfl 1 [.string u, .int .i64 t] (Src.ofSlice _ Try.underlying25 ⟨_, 0, none⟩ 1 1 [.string u, .int .i64 t] rfl (new_at _ _ _) (arm_one u t)) (by omega) (by omega) ?_; intro g4 c4 w4 r1 r2 r3; have HN : Hid (OB w w4 [.int .i64 k, .string tx2, .int .i64 n, .int .i64 to1, .slice (some ⟨g, 0, none⟩) j c, .int .i64 ot, .int .i64 oe] [.int .i64 0, .string ⟨#[]⟩, .int .i64 0, .int .i64 0, .slice none 0 0, .int .i64 0, .int .i64 0] ∧ Rn w4 g4 c4 2 (acs (ar2.take (j + 1))) 38 ∧ w.heap.size + 2 ≤ g4) := Lib.hid ⟨(HB.out.1.alloc _).drew.chg r3 (fun y hy => by simp at hy; have := HB.out.2.2; omega), by rw [HU.out.2.1]; exact r1, by have h1 := HB.out.2.2; have h2 := HB.out.1.2.1.lt; have h3 : (wr.alloc (.cells #[.string u, .int .i64 t] 38)).drew.heap.size = wr.heap.size + 1 := (by simp); omega⟩; clear r1 r2 r3; have p4n := HN.out.1.1.cell (i := 4) rfl; have f4n := HN.out.1.1.free 4))
      all_goals
        go_wp2_with fail
        go_roundw
        case rel => exact ⟨j + 1, g4, c4, by go_num, by omega, Lib.hid ⟨HN.out.1.setP 4 _, HN.out.2.1.chg ((Chg.refl [w.heap.size] _).set (Or.inl (by simp)) _ _) (by have := HN.out.2.2; simp; omega), HN.out.2.2⟩⟩
        case measure => simp [intOf]; omega
    · obtain rfl : j = m := by omega
      by_cases hja : j < al
      · have i1 : (j : Int) < (al : Int) := by omega
        have i2 : ¬ (j : Int) < 10 := by omega
        have c0 := HB.out.1.1.cell (i := 0) rfl
        have z0 := HB.out.1.2.1.cell (i := 0) rfl
        have f0 := HB.out.1.2.1.free 0
        have c1 := HB.out.1.1.cell (i := 1) rfl
        have z1 := HB.out.1.2.1.cell (i := 1) rfl
        have f1 := HB.out.1.2.1.free 1
        have c2 := HB.out.1.1.cell (i := 2) rfl
        have z2 := HB.out.1.2.1.cell (i := 2) rfl
        have f2 := HB.out.1.2.1.free 2
        have c3 := HB.out.1.1.cell (i := 3) rfl
        have z3 := HB.out.1.2.1.cell (i := 3) rfl
        have f3 := HB.out.1.2.1.free 3
        have c4 := HB.out.1.1.cell (i := 4) rfl
        have z4 := HB.out.1.2.1.cell (i := 4) rfl
        have f4 := HB.out.1.2.1.free 4
        have c5 := HB.out.1.1.cell (i := 5) rfl
        have z5 := HB.out.1.2.1.cell (i := 5) rfl
        have f5 := HB.out.1.2.1.free 5
        have c6 := HB.out.1.1.cell (i := 6) rfl
        have z6 := HB.out.1.2.1.cell (i := 6) rfl
        have f6 := HB.out.1.2.1.free 6
        go_wp2_with fail
        have HZ := Lib.hid (((((((HB.out.1.set 0 (.int .i64 k)).set 1 (.string tx2)).set 2 (.int .i64 n)).set 3 (.int .i64 to1)).set 4 (.slice (some ⟨g, 0, none⟩) j c)).set 5 (.int .i64 ot)).set 6 (.int .i64 oe))
        have HR : Hid (Rn (((((((wr.setCell ⟨w.heap.size + 1, 0, none⟩ (.int .i64 k)).setCell ⟨w.heap.size + 1, 1, none⟩ (.string tx2)).setCell ⟨w.heap.size + 1, 2, none⟩ (.int .i64 n)).setCell ⟨w.heap.size + 1, 3, none⟩ (.int .i64 to1)).setCell ⟨w.heap.size + 1, 4, none⟩ (.slice (some ⟨g, 0, none⟩) j c)).setCell ⟨w.heap.size + 1, 5, none⟩ (.int .i64 ot)).setCell ⟨w.heap.size + 1, 6, none⟩ (.int .i64 oe)) g c 2 (acs (ar2.take j)) 38) := Lib.hid (HB.out.2.1.chg (((((((((Chg.refl [w.heap.size + 1] wr).set (Or.inl (by simp)) 0 _).set (Or.inl (by simp)) 1 _).set (Or.inl (by simp)) 2 _).set (Or.inl (by simp)) 3 _).set (Or.inl (by simp)) 4 _).set (Or.inl (by simp)) 5 _).set (Or.inl (by simp)) 6 _)) (by have := HB.out.2.2; simp; omega))
        clear c0 z0 f0 c1 z1 f1 c2 z2 f2 c3 z3 f3 c4 z4 f4 c5 z5 f5 c6 z6 f6
        revert HZ HR
        generalize (((((((wr.setCell ⟨w.heap.size + 1, 0, none⟩ (.int .i64 k)).setCell ⟨w.heap.size + 1, 1, none⟩ (.string tx2)).setCell ⟨w.heap.size + 1, 2, none⟩ (.int .i64 n)).setCell ⟨w.heap.size + 1, 3, none⟩ (.int .i64 to1)).setCell ⟨w.heap.size + 1, 4, none⟩ (.slice (some ⟨g, 0, none⟩) j c)).setCell ⟨w.heap.size + 1, 5, none⟩ (.int .i64 ot)).setCell ⟨w.heap.size + 1, 6, none⟩ (.int .i64 oe)) = W9
        intro HZ HR
        have r0 := HZ.out.2.1.cell (i := 0) rfl
        have r1 := HZ.out.2.1.cell (i := 1) rfl
        have r2 := HZ.out.2.1.cell (i := 2) rfl
        have r3 := HZ.out.2.1.cell (i := 3) rfl
        have r4 := HZ.out.2.1.cell (i := 4) rfl
        have r5 := HZ.out.2.1.cell (i := 5) rfl
        have r6 := HZ.out.2.1.cell (i := 6) rfl
        refine bodyPost_ret (v := .agg #[.int .i64 k, .string tx2, .int .i64 n, .int .i64 to1, .slice (some ⟨g, 0, none⟩) j c, .int .i64 ot, .int .i64 oe]) (by simp [results, Try.results14, go_sem, r0, r1, r2, r3, r4, r5, r6]) rfl ?_
        exact ⟨g, c, rfl, by rw [List.take_of_length_le (by rw [HL.out.2.2.2.2]; exact Nat.le_refl _)] at HR; exact HR.out, by have := HB.out.2.2; omega, HZ.out.2.2⟩
      · have i1 : ¬ (j : Int) < (al : Int) := by omega
        have c0 := HB.out.1.1.cell (i := 0) rfl
        have z0 := HB.out.1.2.1.cell (i := 0) rfl
        have f0 := HB.out.1.2.1.free 0
        have c1 := HB.out.1.1.cell (i := 1) rfl
        have z1 := HB.out.1.2.1.cell (i := 1) rfl
        have f1 := HB.out.1.2.1.free 1
        have c2 := HB.out.1.1.cell (i := 2) rfl
        have z2 := HB.out.1.2.1.cell (i := 2) rfl
        have f2 := HB.out.1.2.1.free 2
        have c3 := HB.out.1.1.cell (i := 3) rfl
        have z3 := HB.out.1.2.1.cell (i := 3) rfl
        have f3 := HB.out.1.2.1.free 3
        have c4 := HB.out.1.1.cell (i := 4) rfl
        have z4 := HB.out.1.2.1.cell (i := 4) rfl
        have f4 := HB.out.1.2.1.free 4
        have c5 := HB.out.1.1.cell (i := 5) rfl
        have z5 := HB.out.1.2.1.cell (i := 5) rfl
        have f5 := HB.out.1.2.1.free 5
        have c6 := HB.out.1.1.cell (i := 6) rfl
        have z6 := HB.out.1.2.1.cell (i := 6) rfl
        have f6 := HB.out.1.2.1.free 6
        go_wp2_with fail
        have HZ := Lib.hid (((((((HB.out.1.set 0 (.int .i64 k)).set 1 (.string tx2)).set 2 (.int .i64 n)).set 3 (.int .i64 to1)).set 4 (.slice (some ⟨g, 0, none⟩) j c)).set 5 (.int .i64 ot)).set 6 (.int .i64 oe))
        have HR : Hid (Rn (((((((wr.setCell ⟨w.heap.size + 1, 0, none⟩ (.int .i64 k)).setCell ⟨w.heap.size + 1, 1, none⟩ (.string tx2)).setCell ⟨w.heap.size + 1, 2, none⟩ (.int .i64 n)).setCell ⟨w.heap.size + 1, 3, none⟩ (.int .i64 to1)).setCell ⟨w.heap.size + 1, 4, none⟩ (.slice (some ⟨g, 0, none⟩) j c)).setCell ⟨w.heap.size + 1, 5, none⟩ (.int .i64 ot)).setCell ⟨w.heap.size + 1, 6, none⟩ (.int .i64 oe)) g c 2 (acs (ar2.take j)) 38) := Lib.hid (HB.out.2.1.chg (((((((((Chg.refl [w.heap.size + 1] wr).set (Or.inl (by simp)) 0 _).set (Or.inl (by simp)) 1 _).set (Or.inl (by simp)) 2 _).set (Or.inl (by simp)) 3 _).set (Or.inl (by simp)) 4 _).set (Or.inl (by simp)) 5 _).set (Or.inl (by simp)) 6 _)) (by have := HB.out.2.2; simp; omega))
        clear c0 z0 f0 c1 z1 f1 c2 z2 f2 c3 z3 f3 c4 z4 f4 c5 z5 f5 c6 z6 f6
        revert HZ HR
        generalize (((((((wr.setCell ⟨w.heap.size + 1, 0, none⟩ (.int .i64 k)).setCell ⟨w.heap.size + 1, 1, none⟩ (.string tx2)).setCell ⟨w.heap.size + 1, 2, none⟩ (.int .i64 n)).setCell ⟨w.heap.size + 1, 3, none⟩ (.int .i64 to1)).setCell ⟨w.heap.size + 1, 4, none⟩ (.slice (some ⟨g, 0, none⟩) j c)).setCell ⟨w.heap.size + 1, 5, none⟩ (.int .i64 ot)).setCell ⟨w.heap.size + 1, 6, none⟩ (.int .i64 oe)) = W9
        intro HZ HR
        have r0 := HZ.out.2.1.cell (i := 0) rfl
        have r1 := HZ.out.2.1.cell (i := 1) rfl
        have r2 := HZ.out.2.1.cell (i := 2) rfl
        have r3 := HZ.out.2.1.cell (i := 3) rfl
        have r4 := HZ.out.2.1.cell (i := 4) rfl
        have r5 := HZ.out.2.1.cell (i := 5) rfl
        have r6 := HZ.out.2.1.cell (i := 6) rfl
        refine bodyPost_ret (v := .agg #[.int .i64 k, .string tx2, .int .i64 n, .int .i64 to1, .slice (some ⟨g, 0, none⟩) j c, .int .i64 ot, .int .i64 oe]) (by simp [results, Try.results14, go_sem, r0, r1, r2, r3, r4, r5, r6]) rfl ?_
        exact ⟨g, c, rfl, by rw [List.take_of_length_le (by rw [HL.out.2.2.2.2]; exact Nat.le_refl _)] at HR; exact HR.out, by have := HB.out.2.2; omega, HZ.out.2.2⟩
end Go.Proofs.Ytoniipmgkoogbaa
/- Scripts: a script in memory of its own. -/
namespace Go.Proofs.Ytoniipmgkoogbaa
open Go.ChangeShapes Go.WideShapes Go.ChangeAt Go.RowKit
set_option linter.unusedSimpArgs false
set_option linter.unusedVariables false


theorem blk_tp {w : World} {b : Nat} {cs cs2 : List Value} {U T : TypeId} (h : Blk w b cs U) (h2 : Blk w b cs2 T) : U = T := by
  unfold Blk at h h2
  rw [h] at h2
  have := Option.some.inj h2
  injection this with a b
/-- A row of ops of one's own, at the head of block g, its arms in blocks of their own, none below B. -/
def PR (w : World) (B g c : Nat) (T : List (Pg.Op × Option Addr × Nat)) : Prop := Rn w g c 7 (pcs T) 27 ∧ B ≤ g ∧ ∀ t ∈ T, ∃ b, t.2.1 = some ⟨b, 0, none⟩ ∧ B ≤ b ∧ Rn w b t.2.2 2 (acs t.1.ar) 38
theorem PR.below {w w' : World} {B g c : Nat} {T : List (Pg.Op × Option Addr × Nat)} (h : PR w B g c T) (k : Below w.heap.size w w') : PR w' B g c T :=
  ⟨h.1.chg (Chg.of_fresh (l := []) k) (by simp), h.2.1, fun t ht => by
    obtain ⟨b, h1, h2, h3⟩ := h.2.2 t ht
    exact ⟨b, h1, h2, h3.chg (Chg.of_fresh (l := []) k) (by simp)⟩⟩
theorem PR.lo {w w' : World} {B g c : Nat} {T : List (Pg.Op × Option Addr × Nat)} (h : PR w B g c T) {l : List Nat} (k : Chg l w w') (hl : ∀ y ∈ l, y < B) : PR w' B g c T :=
  ⟨h.1.chg k (fun e => by have := hl _ e; have := h.2.1; omega), h.2.1, fun t ht => by
    obtain ⟨b, h1, h2, h3⟩ := h.2.2 t ht
    exact ⟨b, h1, h2, h3.chg k (fun e => by have := hl _ e; omega)⟩⟩
theorem PR.ol {w : World} {B g c : Nat} {T : List (Pg.Op × Option Addr × Nat)} (h : PR w B g c T) (hs : ∀ t ∈ T, t.1.tx.size ≤ maxLen ∧ t.1.ar.length ≤ maxLen ∧ ∀ p ∈ t.1.ar, p.1.size ≤ maxLen) : OL w (some ⟨g, 0, none⟩) (T.map (·.1)) :=
  ol_of h.1 (fun t ht => by
    obtain ⟨b, h1, h2, h3⟩ := h.2.2 t ht
    obtain ⟨s1, s2, s3⟩ := hs t ht
    rw [h1]
    exact ⟨s1, s2, al_of h3 s3⟩)
/-- One op more. -/
theorem PR.app {w w' : World} {B g c g' c' : Nat} {T : List (Pg.Op × Option Addr × Nat)} (h : PR w B g c T) (k : Chg [g] w w') {o : Pg.Op} {b kc : Nat} (hr : Rn w' g' c' 7 (pcs T ++ Pg.oc (o, some ⟨b, 0, none⟩, kc)) 27) (hg : B ≤ g') (hb : B ≤ b) (ha : Rn w b kc 2 (acs o.ar) 38) : PR w' B g' c' (T ++ [(o, some ⟨b, 0, none⟩, kc)]) := by
  have ne : ∀ b2 c2 L2, Rn w b2 c2 2 L2 38 → b2 ∉ ([g] : List Nat) := fun b2 c2 L2 h2 e => by
    simp at e
    subst e
    obtain ⟨_, _, _, q1⟩ := h2
    obtain ⟨_, _, _, q2⟩ := h.1
    exact absurd (blk_tp q1 q2) (by decide)
  refine ⟨by rw [pcs_snoc]; exact hr, hg, fun t ht => ?_⟩
  rw [List.mem_append] at ht
  rcases ht with ht | ht
  · obtain ⟨b2, h1, h2, h3⟩ := h.2.2 t ht
    exact ⟨b2, h1, h2, h3.chg k (ne _ _ _ h3)⟩
  · simp at ht
    subst ht
    exact ⟨b, rfl, hb, ha.chg k (ne _ _ _ ha)⟩
/-- An op, somewhat cut; a script's ops. -/
def Pg.cutO (o : Pg.Op) : Pg.Op := ⟨o.k, cutT o.tx 300, o.n, o.to1, Pg.cutA o.ar, o.ot, o.oe⟩
def Pg.cutP (most : Nat) (L : List Pg.Op) : List Pg.Op := (L.take most).map Pg.cutO
theorem cutP_at {most : Nat} {L : List Pg.Op} {i : Nat} {o : Pg.Op} (h : L[i]? = some o) (hi : i < most) : (Pg.cutP most L)[i]? = some (Pg.cutO o) := by
  unfold Pg.cutP; rw [List.getElem?_map, List.getElem?_take, if_pos hi, h]; rfl
theorem cutP_len (most : Nat) (L : List Pg.Op) : (Pg.cutP most L).length = min most L.length := by unfold Pg.cutP; rw [List.length_map, List.length_take]
/-- A script's box, the result's, and its ops. -/
def FS (w0 w : World) (cs rs : List Value) (g c : Nat) (T : List (Pg.Op × Option Addr × Nat)) : Prop := Blk w w0.heap.size cs 24 ∧ Blk w (w0.heap.size + 1) rs 24 ∧ Below w0.heap.size w0 w ∧ PR w (w0.heap.size + 2) g c T
theorem FS.below {w0 w w' : World} {cs rs : List Value} {g c : Nat} {T : List (Pg.Op × Option Addr × Nat)} (h : FS w0 w cs rs g c T) (k : Below w.heap.size w w') : FS w0 w' cs rs g c T := ⟨h.1.below k h.1.lt, h.2.1.below k h.2.1.lt, h.2.2.1.trans (k.mono h.2.2.1.size), h.2.2.2.below k⟩
theorem FS.setP {w0 w : World} {cs rs : List Value} {g c : Nat} {T : List (Pg.Op × Option Addr × Nat)} (h : FS w0 w cs rs g c T) (i : Nat) (v : Value) : FS w0 (w.setCell ⟨w0.heap.size, i, none⟩ v) (cs.set i v) rs g c T := by
  have k : Chg [w0.heap.size] w (w.setCell ⟨w0.heap.size, i, none⟩ v) := (Chg.refl [w0.heap.size] w).set (Or.inl (by simp)) i v
  exact ⟨h.1.set i v, h.2.1.other (by omega) i v, k.onto h.2.2.1 h.2.2.1.size (by simp), h.2.2.2.lo k (fun y hy => by simp at hy; omega)⟩
theorem FS.setR {w0 w : World} {cs rs : List Value} {g c : Nat} {T : List (Pg.Op × Option Addr × Nat)} (h : FS w0 w cs rs g c T) (i : Nat) (v : Value) : FS w0 (w.setCell ⟨w0.heap.size + 1, i, none⟩ v) cs (rs.set i v) g c T := by
  have k : Chg [w0.heap.size + 1] w (w.setCell ⟨w0.heap.size + 1, i, none⟩ v) := (Chg.refl [w0.heap.size + 1] w).set (Or.inl (by simp)) i v
  exact ⟨h.1.other (by omega) i v, h.2.1.set i v, k.onto h.2.2.1 h.2.2.1.size (by simp), h.2.2.2.lo k (fun y hy => by simp at hy; omega)⟩
theorem FS.app {w0 w w' : World} {cs rs : List Value} {g c : Nat} {T : List (Pg.Op × Option Addr × Nat)} (h : FS w0 w cs rs g c T) (k : Chg [g] w w') {g' c' : Nat} {o : Pg.Op} {b kc : Nat} (hr : Rn w' g' c' 7 (pcs T ++ Pg.oc (o, some ⟨b, 0, none⟩, kc)) 27) (hg : g' = g ∨ w.heap.size ≤ g') (hb : w0.heap.size + 2 ≤ b) (ha : Rn w b kc 2 (acs o.ar) 38) : FS w0 w' cs rs g' c' (T ++ [(o, some ⟨b, 0, none⟩, kc)]) := by
  have hg2 := h.2.2.2.2.1
  have hlt := h.2.1.lt
  exact ⟨h.1.chg k (by simp; omega), h.2.1.chg k (by simp; omega), k.onto h.2.2.1 h.2.2.1.size (by simp; omega), h.2.2.2.app k hr (by rcases hg with e | e <;> omega) hb ha⟩
theorem FS.new {w : World} (cs rs : Array Value) : Blk ((w.alloc (.cells cs 24)).alloc (.cells rs 24)) w.heap.size cs.toList 24 ∧ Blk ((w.alloc (.cells cs 24)).alloc (.cells rs 24)) (w.heap.size + 1) rs.toList 24 ∧ Below w.heap.size w ((w.alloc (.cells cs 24)).alloc (.cells rs 24)) := by
  have b := Blk.newA (w.alloc (.cells cs 24)) rs 24
  have e : (w.alloc (.cells cs 24)).heap.size = w.heap.size + 1 := by simp
  rw [e] at b
  exact ⟨(Blk.newA w cs 24).alloc _, b, bel2 w _ _⟩
set_option maxRecDepth 20000 in
set_option maxHeartbeats 16000000 in
theorem few13 (nm : ByteArray) (dl jp : Int) (oa : Option Addr) (n c0 : Nat) (L : List Pg.Op) (hl : L.length = n) (hn : n ≤ maxLen) (hnm : nm.size ≤ maxLen) (most : Nat) (hmost : most ≤ 1000) (nm2 : ByteArray) (hnm2 : cutT nm 20 = nm2) (L2 : List Pg.Op) (h2 : Pg.cutP most L = L2) (m : Nat) (hm : L2.length = m) (mi : Int) (hmi : mi = most) (w : World) (HO : OL w oa L) :
    Calls Try.prog 8 #[.agg #[.string nm, .int .i64 dl, .int .i64 jp, .slice oa n c0], .int .i64 mi] w fun r w' => ∃ g c T, r = .returned (.agg #[.string nm2, .int .i64 dl, .int .i64 jp, .slice (some ⟨g, 0, none⟩) m c]) ∧ T.map (·.1) = L2 ∧ PR w' w.heap.size g c T ∧ Below w.heap.size w w' := by
  subst hmi
  have hm1 : m = min most n := by rw [← hm, ← h2, cutP_len, hl]
  have hm2 : maxLen ≤ 9223372036854775807 := by unfold maxLen; omega
  have hm3 : m ≤ most := by omega
  have hm4 : m ≤ n := by omega
  have hm5 : most ≤ m ∨ n ≤ m := by omega
  clear hm1
  have HL := Lib.hid (And.intro hl (And.intro HO (And.intro hnm2 (And.intro h2 hm))))
  have H0 := Lib.hid (FS.new (w := w) #[.string nm, .int .i64 dl, .int .i64 jp, .slice oa n c0] #[.string ⟨#[]⟩, .int .i64 0, .int .i64 0, .slice none 0 0])
  clear hl HO hnm2 h2 hm
  go_enter Try.func8, Try.ntmps8
  go_upto_region 1 with fail
  revert H0
  generalize ((w.alloc (.cells #[.string nm, .int .i64 dl, .int .i64 jp, .slice oa n c0] 24)).alloc (.cells #[.string ⟨#[]⟩, .int .i64 0, .int .i64 0, .slice none 0 0] 24)) = W0
  intro H0
  have c0 := H0.out.1.cell (i := 0) rfl
  have c3 := H0.out.1.cell (i := 3) rfl
  have f0 := H0.out.1.free 0
  have f3 := H0.out.1.free 3
  have lt := H0.out.1.lt
  have ne1 : ¬ w.heap.size = W0.heap.size := by omega
  have ne2 : ¬ W0.heap.size = w.heap.size := by omega
  go_upto_region 3 with (first
    | (go_at_call 20; refine (cut_s nm nm2 20 (by omega) hnm HL.out.2.2.1 20 rfl _).mono ?_; rintro e W1 ⟨rfl, rfl⟩)
    | fail)
  have H1 : Hid (([] : List (Pg.Op × Option Addr × Nat)).map (·.1) = L2.take 0 ∧ FS w (((W0.setCell ⟨w.heap.size, 3, none⟩ (.slice (some ⟨W0.heap.size, 0, none⟩) 0 0)).setCell ⟨w.heap.size, 0, none⟩ (.string nm2)).alloc (.cells #[] 27)) [.string nm2, .int .i64 dl, .int .i64 jp, .slice (some ⟨W0.heap.size, 0, none⟩) 0 0] [.string ⟨#[]⟩, .int .i64 0, .int .i64 0, .slice none 0 0] W0.heap.size 0 []) := Lib.hid ⟨by simp, by
    have hlt := H0.out.2.1.lt
    have k : Chg [w.heap.size] W0 ((W0.setCell ⟨w.heap.size, 3, none⟩ (.slice (some ⟨W0.heap.size, 0, none⟩) 0 0)).setCell ⟨w.heap.size, 0, none⟩ (.string nm2)) := ((Chg.refl [w.heap.size] W0).set (Or.inl (by simp)) _ _).set (Or.inl (by simp)) _ _
    refine ⟨((H0.out.1.set 3 _).set 0 _).alloc _, (H0.out.2.1.chg k (by simp)).alloc _, (k.onto H0.out.2.2 H0.out.2.2.size (by simp)).alloc (by simp; omega) _, ?_, by omega, by simp⟩
    simpa [pcs] using Rn.empty ((W0.setCell ⟨w.heap.size, 3, none⟩ (.slice (some ⟨W0.heap.size, 0, none⟩) 0 0)).setCell ⟨w.heap.size, 0, none⟩ (.string nm2)) 7 27⟩
  clear c0 c3 f0 f3 lt ne1 ne2 H0
  revert H1
  generalize (((W0.setCell ⟨w.heap.size, 3, none⟩ (.slice (some ⟨W0.heap.size, 0, none⟩) 0 0)).setCell ⟨w.heap.size, 0, none⟩ (.string nm2)).alloc (.cells #[] 27)) = W1
  generalize W0.heap.size = g0
  intro H1
  go_wp2_with fail
  go_loopw [6] (fun i wr => ∃ (j g c : Nat) (T : List (Pg.Op × Option Addr × Nat)), i = .int .i64 j ∧ j ≤ m ∧ Hid (T.map (·.1) = L2.take j ∧ FS w wr [.string nm2, .int .i64 dl, .int .i64 jp, .slice (some ⟨g, 0, none⟩) j c] [.string ⟨#[]⟩, .int .i64 0, .int .i64 0, .slice none 0 0] g c T)) (fun i _ => m - (intOf i).toNat)
  case atStart => exact ⟨0, g0, 0, [], rfl, by omega, H1⟩
  case round =>
    clear H1
    obtain ⟨j, g, c, T, rfl, hj, HB⟩ := hrel
    have j0 : (0 : Int) ≤ (j : Int) := by omega
    by_cases hjm : j < m
    · have i1 : (j : Int) < (n : Int) := by omega
      have i2 : (j : Int) < (most : Int) := by omega
      have w1 : IntKind.i64.wrap ((j : Int) + 1) = (j : Int) + 1 := IntWalk.i64_in _ (by omega)
      obtain ⟨k, tx, n1, to1, ar, ot, oe, es⟩ : ∃ k tx n1 to1 ar ot oe, L[j]? = some ⟨k, tx, n1, to1, ar, ot, oe⟩ := ⟨_, _, _, _, _, _, _, List.getElem?_eq_getElem (by rw [HL.out.1]; omega)⟩
      obtain ⟨htx, hal, gi, o, aa, ac, rfl, hgw, e0, e1, e2, e3, e4, e5, e6, hA⟩ := (HL.out.2.1.below HB.out.2.2.2.1) j k tx n1 to1 ar ot oe es
      obtain ⟨al, hal2⟩ : ∃ al, ar.length = al := ⟨_, rfl⟩
      rw [hal2] at hal e4
      obtain ⟨tx2, ht2⟩ : ∃ t, cutT tx 300 = t := ⟨_, rfl⟩
      obtain ⟨ar2, ha2⟩ : ∃ t, Pg.cutA ar = t := ⟨_, rfl⟩
      obtain ⟨m2, hm6⟩ : ∃ t, ar2.length = t := ⟨_, rfl⟩
      have hrk : L2[j]? = some ⟨k, tx2, n1, to1, ar2, ot, oe⟩ := by rw [← HL.out.2.2.2.1, ← ht2, ← ha2]; exact cutP_at es (by omega)
      have hTl : T.length = j := by
        have := congrArg List.length HB.out.1
        rw [List.length_map, List.length_take, HL.out.2.2.2.2] at this
        omega
      have HU : Hid (cutT tx 300 = tx2 ∧ Pg.cutA ar = ar2 ∧ ar2.length = m2 ∧ L2.take (j + 1) = L2.take j ++ [⟨k, tx2, n1, to1, ar2, ot, oe⟩] ∧ (pcs T).length = j * 7 ∧ AL wr.drew aa ar ∧ ar.length = al) := Lib.hid ⟨ht2, ha2, hm6, take_snoc2 hrk, by rw [pcs_len, hTl], hA.below (Below.refl _ _).drew, hal2⟩
      have hj1000 : j ≤ 1000 := by omega
      have p3 := HB.out.2.1.cell (i := 3) rfl
      have p3d : wr.drew.cell? ⟨w.heap.size, 3, none⟩ = some (.slice (some ⟨g, 0, none⟩) j c) := p3
      clear es hA hal2 ht2 ha2 hm6 hrk hTl
      go_upto_region 6 with fail
      have e0d : wr.drew.cell? ⟨gi, o + j * 7, none⟩ = some (.int .i64 k) := e0
      have e1d : wr.drew.cell? ⟨gi, o + j * 7 + 1, none⟩ = some (.string tx) := e1
      have e2d : wr.drew.cell? ⟨gi, o + j * 7 + 2, none⟩ = some (.int .i64 n1) := e2
      have e3d : wr.drew.cell? ⟨gi, o + j * 7 + 3, none⟩ = some (.int .i64 to1) := e3
      have e4d : wr.drew.cell? ⟨gi, o + j * 7 + 4, none⟩ = some (.slice aa al ac) := e4
      have e5d : wr.drew.cell? ⟨gi, o + j * 7 + 5, none⟩ = some (.int .i64 ot) := e5
      have e6d : wr.drew.cell? ⟨gi, o + j * 7 + 6, none⟩ = some (.int .i64 oe) := e6
      go_region_law (first
        | (rw [if_pos (by simp [Region.wanted])]; unfold Oper.wp; go_simp; go_at_call 14; refine (op13 k tx n1 to1 aa al ac ot oe ar HU.out.2.2.2.2.2.2 hal htx tx2 HU.out.1 ar2 HU.out.2.1 m2 HU.out.2.2.1 _ HU.out.2.2.2.2.2.1).mono ?_; rintro e W2 ⟨g5, c5, rfl, q1, q2, q3⟩; have HF := Lib.hid (And.intro ((HB.out.2.below (Below.refl _ _).drew).below q3) (And.intro q1 (Nat.le_trans (show w.heap.size + 2 ≤ wr.drew.heap.size from HB.out.2.2.1.lt) q2))); clear q1 q2 q3; have p3n := HF.out.1.1.cell (i := 3) rfl; have hlt := HF.out.1.1.lt; have n1' : ¬ w.heap.size = W2.heap.size := (by omega); have n2' : ¬ W2.heap.size = w.heap.size := (by omega))
        | (refine step_append_rn rfl (.tmp 27) (.tmp 33) 22 22 rfl 27 (.agg #[.int .i64 0, .string ByteArray.empty, .int .i64 0, .int .i64 0, .slice none 0 0, .int .i64 0, .int .i64 0]) 7 80 Try.underlying22 infoOp rfl g j c (pcs T) rfl HU.out.2.2.2.2.1 (HF.out.1.2.2.2.1.chg (l := []) ((Chg.refl [] W2).alloc _) (by simp)) _ rfl 1 [.int .i64 k, .string tx2, .int .i64 n1, .int .i64 to1, .slice (some ⟨g5, 0, none⟩) m2 c5, .int .i64 ot, .int .i64 oe] (Src.ofSlice _ Try.underlying22 ⟨_, 0, none⟩ 1 1 [.int .i64 k, .string tx2, .int .i64 n1, .int .i64 to1, .slice (some ⟨g5, 0, none⟩) m2 c5, .int .i64 ot, .int .i64 oe] rfl (new_at _ _ _) (oc_one (⟨k, tx2, n1, to1, ar2, ot, oe⟩, some ⟨g5, 0, none⟩, c5) |> fun h => by rw [← HU.out.2.2.1]; exact h)) (by omega) (by omega) ?_; intro g4 c4 w4 r1 r2 r3; have HN : Hid (FS w w4 [.string nm2, .int .i64 dl, .int .i64 jp, .slice (some ⟨g, 0, none⟩) j c] [.string ⟨#[]⟩, .int .i64 0, .int .i64 0, .slice none 0 0] g4 c4 (T ++ [(⟨k, tx2, n1, to1, ar2, ot, oe⟩, some ⟨g5, 0, none⟩, c5)])) := Lib.hid ((HF.out.1.below ((Below.refl _ _).alloc (Nat.le_refl _) _)).app r3 (by rw [← HU.out.2.2.1] at r1; exact r1) r2 HF.out.2.2 (HF.out.2.1.chg (l := []) ((Chg.refl [] W2).alloc _) (by simp))); clear r1 r2 r3; have p3m := HN.out.1.cell (i := 3) rfl; have f3m := HN.out.1.free 3))
      all_goals
        go_wp2_with fail
        go_roundw
        case rel => exact ⟨j + 1, g4, c4, T ++ [(⟨k, tx2, n1, to1, ar2, ot, oe⟩, some ⟨g5, 0, none⟩, c5)], by go_num, by omega, Lib.hid ⟨by rw [List.map_append, HB.out.1, HU.out.2.2.2.1]; rfl, HN.out.setP 3 _⟩⟩
        case measure => simp [intOf]; omega
    · obtain rfl : j = m := by omega
      by_cases hja : j < n
      · have i1 : (j : Int) < (n : Int) := by omega
        have i2 : ¬ (j : Int) < (most : Int) := by omega
        have c0 := HB.out.2.1.cell (i := 0) rfl
        have z0 := HB.out.2.2.1.cell (i := 0) rfl
        have f0 := HB.out.2.2.1.free 0
        have c1 := HB.out.2.1.cell (i := 1) rfl
        have z1 := HB.out.2.2.1.cell (i := 1) rfl
        have f1 := HB.out.2.2.1.free 1
        have c2 := HB.out.2.1.cell (i := 2) rfl
        have z2 := HB.out.2.2.1.cell (i := 2) rfl
        have f2 := HB.out.2.2.1.free 2
        have c3 := HB.out.2.1.cell (i := 3) rfl
        have z3 := HB.out.2.2.1.cell (i := 3) rfl
        have f3 := HB.out.2.2.1.free 3
        go_wp2_with fail
        have HZ := Lib.hid ((((HB.out.2.setR 0 (.string nm2)).setR 1 (.int .i64 dl)).setR 2 (.int .i64 jp)).setR 3 (.slice (some ⟨g, 0, none⟩) j c))
        clear c0 z0 f0 c1 z1 f1 c2 z2 f2 c3 z3 f3
        revert HZ
        generalize ((((wr.setCell ⟨w.heap.size + 1, 0, none⟩ (.string nm2)).setCell ⟨w.heap.size + 1, 1, none⟩ (.int .i64 dl)).setCell ⟨w.heap.size + 1, 2, none⟩ (.int .i64 jp)).setCell ⟨w.heap.size + 1, 3, none⟩ (.slice (some ⟨g, 0, none⟩) j c)) = W9
        intro HZ
        have r0 := HZ.out.2.1.cell (i := 0) rfl
        have r1 := HZ.out.2.1.cell (i := 1) rfl
        have r2 := HZ.out.2.1.cell (i := 2) rfl
        have r3 := HZ.out.2.1.cell (i := 3) rfl
        refine bodyPost_ret (v := .agg #[.string nm2, .int .i64 dl, .int .i64 jp, .slice (some ⟨g, 0, none⟩) j c]) (by simp [results, Try.results8, go_sem, r0, r1, r2, r3]) rfl ?_
        exact ⟨g, c, rfl, T, by rw [HB.out.1, List.take_of_length_le (by rw [HL.out.2.2.2.2]; exact Nat.le_refl _)], ⟨HZ.out.2.2.2.1, by have := HZ.out.2.2.2.2.1; omega, fun t ht => by obtain ⟨b, h1, h2, h3⟩ := HZ.out.2.2.2.2.2 t ht; exact ⟨b, h1, by omega, h3⟩⟩, HZ.out.2.2.1⟩
      · have i1 : ¬ (j : Int) < (n : Int) := by omega
        have c0 := HB.out.2.1.cell (i := 0) rfl
        have z0 := HB.out.2.2.1.cell (i := 0) rfl
        have f0 := HB.out.2.2.1.free 0
        have c1 := HB.out.2.1.cell (i := 1) rfl
        have z1 := HB.out.2.2.1.cell (i := 1) rfl
        have f1 := HB.out.2.2.1.free 1
        have c2 := HB.out.2.1.cell (i := 2) rfl
        have z2 := HB.out.2.2.1.cell (i := 2) rfl
        have f2 := HB.out.2.2.1.free 2
        have c3 := HB.out.2.1.cell (i := 3) rfl
        have z3 := HB.out.2.2.1.cell (i := 3) rfl
        have f3 := HB.out.2.2.1.free 3
        go_wp2_with fail
        have HZ := Lib.hid ((((HB.out.2.setR 0 (.string nm2)).setR 1 (.int .i64 dl)).setR 2 (.int .i64 jp)).setR 3 (.slice (some ⟨g, 0, none⟩) j c))
        clear c0 z0 f0 c1 z1 f1 c2 z2 f2 c3 z3 f3
        revert HZ
        generalize ((((wr.setCell ⟨w.heap.size + 1, 0, none⟩ (.string nm2)).setCell ⟨w.heap.size + 1, 1, none⟩ (.int .i64 dl)).setCell ⟨w.heap.size + 1, 2, none⟩ (.int .i64 jp)).setCell ⟨w.heap.size + 1, 3, none⟩ (.slice (some ⟨g, 0, none⟩) j c)) = W9
        intro HZ
        have r0 := HZ.out.2.1.cell (i := 0) rfl
        have r1 := HZ.out.2.1.cell (i := 1) rfl
        have r2 := HZ.out.2.1.cell (i := 2) rfl
        have r3 := HZ.out.2.1.cell (i := 3) rfl
        refine bodyPost_ret (v := .agg #[.string nm2, .int .i64 dl, .int .i64 jp, .slice (some ⟨g, 0, none⟩) j c]) (by simp [results, Try.results8, go_sem, r0, r1, r2, r3]) rfl ?_
        exact ⟨g, c, rfl, T, by rw [HB.out.1, List.take_of_length_le (by rw [HL.out.2.2.2.2]; exact Nat.le_refl _)], ⟨HZ.out.2.2.2.1, by have := HZ.out.2.2.2.2.1; omega, fun t ht => by obtain ⟨b, h1, h2, h3⟩ := HZ.out.2.2.2.2.2 t ht; exact ⟨b, h1, by omega, h3⟩⟩, HZ.out.2.2.1⟩
end Go.Proofs.Ytoniipmgkoogbaa
/- Scripts: how scripts come in; what stands behind what is wrong. -/
namespace Go.Proofs.Ytoniipmgkoogbaa
open Go.Joins Go.Deep Go.ChangeShapes Go.WideShapes Go.ChangeAt Go.RowKit
set_option linter.unusedSimpArgs false
set_option linter.unusedVariables false


theorem ex_list {α : Type} {R : Nat → α → Prop} : ∀ n, (∀ i, i < n → ∃ x, R i x) → ∃ l : List α, l.length = n ∧ ∀ (i : Nat) x, l[i]? = some x → R i x
  | 0, _ => ⟨[], rfl, fun i x h => by simp at h⟩
  | n + 1, h => by
    obtain ⟨l, hl, h1⟩ := ex_list n (fun i hi => h i (by omega))
    obtain ⟨x, hx⟩ := h n (by omega)
    refine ⟨l ++ [x], by simp [hl], fun i y hy => ?_⟩
    rcases Nat.lt_or_ge i n with hlt | hge
    · rw [List.getElem?_append_left (by omega)] at hy
      exact h1 i y hy
    · rw [List.getElem?_append_right (by omega), hl] at hy
      by_cases e : i = n
      · subst e
        simp at hy
        subst hy
        exact hx
      · rw [List.getElem?_eq_none (by simp; omega)] at hy
        cases hy
theorem ar_pairs {w : World} {a : Option Addr} {n : Nat} (h : ∀ i, i < n → ∃ p : ByteArray × Int, p.1.size ≤ maxLen ∧ ∃ g o, a = some ⟨g, o, none⟩ ∧ g < w.heap.size ∧ w.cell? ⟨g, o + i * 2, none⟩ = some (.string p.1) ∧ w.cell? ⟨g, o + i * 2 + 1, none⟩ = some (.int .i64 p.2)) : ∃ ar : List (ByteArray × Int), ar.length = n ∧ AL w a ar := by
  obtain ⟨l, hl, h1⟩ := ex_list n h
  exact ⟨l, hl, fun i s t hi => h1 i (s, t) hi⟩
theorem al_in {w : World} {a : Option Addr} {n c : Nat} (h : IsAny Try.prog [9, 3] w a n c) : ∃ ar : List (ByteArray × Int), ar.length = n ∧ AL w a ar := by
  obtain ⟨_, _, _, h4⟩ := h
  refine ar_pairs fun i hi => ?_
  obtain ⟨b, off, ha, hb, hc⟩ := h4 (by omega)
  obtain ⟨v0, e0, d0⟩ := hc i hi 0 _ rfl
  obtain ⟨v1, e1, d1⟩ := hc i hi 1 _ rfl
  obtain ⟨s, rfl, hs⟩ := rd_string Try.underlying9 d0
  obtain ⟨t, rfl, _⟩ := rd_int Try.underlying3 d1
  exact ⟨(s, t), hs, b, off, ha, hb, e0, by rw [Nat.add_assoc]; exact e1⟩
theorem al_mix {w : World} {a : Option Addr} {n c : Nat} (h : IsMix Try.prog [9, 3] w a n c) : ∃ ar : List (ByteArray × Int), ar.length = n ∧ AL w a ar := by
  obtain ⟨_, _, _, h4⟩ := h
  refine ar_pairs fun i hi => ?_
  obtain ⟨b, off, ha, hb, hc⟩ := h4 (by omega)
  obtain ⟨v0, e0, d0⟩ := hc i hi 0 _ rfl
  obtain ⟨v1, e1, d1⟩ := hc i hi 1 _ rfl
  obtain ⟨s, rfl, hs⟩ := isK_string Try.underlying9 d0
  obtain ⟨t, rfl, _⟩ := isK_int Try.underlying3 d1
  exact ⟨(s, t), hs, b, off, ha, hb, e0, by rw [Nat.add_assoc]; exact e1⟩
theorem ol_in {w : World} {a : Option Addr} {n c : Nat} (h : IsAny Try.prog [3, 9, 2, 3, 25, 3, 3] w a n c) : ∃ L : List Pg.Op, L.length = n ∧ OL w a L := by
  obtain ⟨_, _, _, h4⟩ := h
  obtain ⟨l, hl, h1⟩ := ex_list (R := fun i (x : Pg.Op) => x.tx.size ≤ maxLen ∧ x.ar.length ≤ maxLen ∧ ∃ g o aa ac, a = some ⟨g, o, none⟩ ∧ g < w.heap.size ∧ w.cell? ⟨g, o + i * 7, none⟩ = some (.int .i64 x.k) ∧ w.cell? ⟨g, o + i * 7 + 1, none⟩ = some (.string x.tx) ∧ w.cell? ⟨g, o + i * 7 + 2, none⟩ = some (.int .i64 x.n) ∧ w.cell? ⟨g, o + i * 7 + 3, none⟩ = some (.int .i64 x.to1) ∧ w.cell? ⟨g, o + i * 7 + 4, none⟩ = some (.slice aa x.ar.length ac) ∧ w.cell? ⟨g, o + i * 7 + 5, none⟩ = some (.int .i64 x.ot) ∧ w.cell? ⟨g, o + i * 7 + 6, none⟩ = some (.int .i64 x.oe) ∧ AL w aa x.ar) n (fun i hi => by
    obtain ⟨b, off, ha, hb, hc⟩ := h4 (by omega)
    obtain ⟨v0, e0, d0⟩ := hc i hi 0 _ rfl
    obtain ⟨v1, e1, d1⟩ := hc i hi 1 _ rfl
    obtain ⟨v2, e2, d2⟩ := hc i hi 2 _ rfl
    obtain ⟨v3, e3, d3⟩ := hc i hi 3 _ rfl
    obtain ⟨v4, e4, d4⟩ := hc i hi 4 _ rfl
    obtain ⟨v5, e5, d5⟩ := hc i hi 5 _ rfl
    obtain ⟨v6, e6, d6⟩ := hc i hi 6 _ rfl
    obtain ⟨k, rfl, _⟩ := rd_int Try.underlying3 d0
    obtain ⟨tx, rfl, hs⟩ := rd_string Try.underlying9 d1
    obtain ⟨n1, rfl, _⟩ := rd_int Try.underlying2 d2
    obtain ⟨to1, rfl, _⟩ := rd_int Try.underlying3 d3
    obtain ⟨aa, al, ac, rfl, hm⟩ := rd_any [9, 3] Try.underlying25 Try.underlying38 (by kernel_rfl) (by kernel_rfl) rfl (by decide) d4
    obtain ⟨ot, rfl, _⟩ := rd_int Try.underlying3 d5
    obtain ⟨oe, rfl, _⟩ := rd_int Try.underlying3 d6
    obtain ⟨ar, har, hA⟩ := al_in hm
    subst har
    exact ⟨⟨k, tx, n1, to1, ar, ot, oe⟩, hs, Nat.le_trans hm.1 hm.2.1, b, off, aa, ac, ha, hb, e0, by rw [Nat.add_assoc]; exact e1, by rw [Nat.add_assoc]; exact e2, by rw [Nat.add_assoc]; exact e3, by rw [Nat.add_assoc]; exact e4, by rw [Nat.add_assoc]; exact e5, by rw [Nat.add_assoc]; exact e6, hA⟩)
  exact ⟨l, hl, fun i k tx n1 to1 ar ot oe hi => h1 i _ hi⟩
theorem cutA_self (l : List (ByteArray × Int)) : Pg.cutA (Pg.cutA l) = Pg.cutA l := by
  refine List.ext_getElem? fun i => ?_
  by_cases hi : i < (Pg.cutA l).length
  · obtain ⟨s, t, h⟩ : ∃ s t, (Pg.cutA l)[i]? = some (s, t) := ⟨_, _, List.getElem?_eq_getElem hi⟩
    have h10 : i < 10 := by rw [cutA_len] at hi; omega
    rw [cutA_at h h10, h]
    unfold Pg.cutA at h
    rw [List.getElem?_map] at h
    obtain ⟨⟨s0, t0⟩, _, h2⟩ := Option.map_eq_some_iff.1 h
    simp only [Prod.mk.injEq] at h2
    rw [cutT_id s 70 (by rw [← h2.1]; exact cutT_le _ _)]
  · rw [List.getElem?_eq_none (by rw [cutA_len]; omega), List.getElem?_eq_none (by omega)]
theorem cutO_self (o : Pg.Op) : Pg.cutO (Pg.cutO o) = Pg.cutO o := by
  unfold Pg.cutO
  dsimp only
  rw [cutA_self, cutT_id (cutT o.tx 300) 300 (cutT_le _ _)]
theorem cutP_self (most : Nat) (L : List Pg.Op) : Pg.cutP most (Pg.cutP most L) = Pg.cutP most L := by
  refine List.ext_getElem? fun i => ?_
  by_cases hi : i < (Pg.cutP most L).length
  · obtain ⟨o, h⟩ : ∃ o, (Pg.cutP most L)[i]? = some o := ⟨_, List.getElem?_eq_getElem hi⟩
    have h10 : i < most := by rw [cutP_len] at hi; omega
    rw [cutP_at h h10, h]
    unfold Pg.cutP at h
    rw [List.getElem?_map] at h
    obtain ⟨o0, _, h2⟩ := Option.map_eq_some_iff.1 h
    rw [← h2, cutO_self]
  · rw [List.getElem?_eq_none (by rw [cutP_len]; omega), List.getElem?_eq_none (by omega)]
def Pg.okO (o : Pg.Op) : Prop := o.tx.size ≤ maxLen ∧ o.ar.length ≤ maxLen ∧ ∀ p ∈ o.ar, p.1.size ≤ maxLen
theorem cutO_ok (o : Pg.Op) : Pg.okO (Pg.cutO o) := by
  have h1 : (cutT o.tx 300).size ≤ 300 := cutT_le _ _
  have h2 : (Pg.cutA o.ar).length ≤ 10 := by rw [cutA_len]; omega
  refine ⟨by unfold maxLen; exact Nat.le_trans h1 (by decide), by unfold maxLen; exact Nat.le_trans h2 (by decide), fun p hp => ?_⟩
  unfold Pg.cutO Pg.cutA at hp
  dsimp only at hp
  obtain ⟨q, _, h⟩ := List.mem_map.1 hp
  rw [← h]
  have h3 : (cutT q.1 70).size ≤ 70 := cutT_le _ _
  unfold maxLen
  exact Nat.le_trans h3 (by decide)
theorem cutP_ok {most : Nat} {L : List Pg.Op} : ∀ o ∈ Pg.cutP most L, Pg.okO o := fun o ho => by
  unfold Pg.cutP at ho
  obtain ⟨q, _, h⟩ := List.mem_map.1 ho
  rw [← h]
  exact cutO_ok q
theorem PR.ol2 {w : World} {B g c : Nat} {T : List (Pg.Op × Option Addr × Nat)} {L : List Pg.Op} (h : PR w B g c T) (hT : T.map (·.1) = L) (hs : ∀ o ∈ L, Pg.okO o) : OL w (some ⟨g, 0, none⟩) L := by
  have := h.ol (fun t ht => hs t.1 (by rw [← hT]; exact List.mem_map_of_mem ht))
  rwa [hT] at this
theorem wOps_ge (N : Nat) : ∀ (l : List Pg.Op) (i k e : Nat), Pg.wOps N i l = (k, e) → e ≠ 0 → i ≤ k
  | [], i, k, e, h, he => by
    unfold Pg.wOps at h
    simp only [Prod.mk.injEq] at h
    exact absurd h.2.symm he
  | a :: l, i, k, e, h, he => by
    unfold Pg.wOps at h
    split at h
    · simp only [Prod.mk.injEq] at h; omega
    · have := wOps_ge N l (i + 1) k e h he; omega
theorem wOps_set (N : Nat) (o' : Pg.Op) : ∀ (l : List Pg.Op) (i q e : Nat), Pg.wOps N i l = (i + q, e) → e ≠ 0 → Pg.wOps N i (l.set (q + 1) o') = (i + q, e)
  | [], i, q, e, h, he => by simpa using h
  | a :: l, i, q, e, h, he => by
    rw [List.set_cons_succ]
    unfold Pg.wOps at h ⊢
    by_cases ha : Pg.wOp N a ≠ 0
    · rw [if_pos ha] at h ⊢; exact h
    · rw [if_neg ha] at h ⊢
      cases q with
      | zero =>
        have := wOps_ge N l (i + 1) (i + 0) e h he
        omega
      | succ q =>
        have h2 : Pg.wOps N (i + 1) l = (i + 1 + q, e) := by rw [h]; congr 1; omega
        rw [wOps_set N o' l (i + 1) q e h2 he]
        congr 1
        omega
/-- What is wrong, if it is an op, and what stands behind it. -/
theorem wrong_op {nm : ByteArray} {dl jp : Int} {L : List Pg.Op} {q e : Nat} (h : Pg.wrong nm dl jp L = ((q : Int), e)) (he : e ≠ 0) : Pg.wOps L.length 0 L = (q, e) ∧ ∀ L' : List Pg.Op, L'.length = L.length → Pg.wrong nm dl jp L' = (((Pg.wOps L.length 0 L').1 : Int), (Pg.wOps L.length 0 L').2) := by
  unfold Pg.wrong at h
  split at h
  · simp only [Prod.mk.injEq] at h; omega
  · rename_i c1
    split at h
    · simp only [Prod.mk.injEq] at h; omega
    · rename_i c2
      split at h
      · simp only [Prod.mk.injEq] at h; omega
      · rename_i c3
        split at h
        · simp only [Prod.mk.injEq] at h; omega
        · rename_i c4
          simp only [Prod.mk.injEq] at h
          refine ⟨Prod.ext (by omega) h.2, fun L' hl => ?_⟩
          unfold Pg.wrong
          rw [if_neg c1, if_neg c2, if_neg c3, if_neg (by rw [hl]; exact c4), hl]
theorem wrong_set {nm : ByteArray} {dl jp : Int} {L : List Pg.Op} {q e : Nat} (h : Pg.wrong nm dl jp L = ((q : Int), e)) (he : e ≠ 0) (o' : Pg.Op) : Pg.wrong nm dl jp (L.set (q + 1) o') = ((q : Int), e) := by
  obtain ⟨h1, h2⟩ := wrong_op h he
  rw [h2 _ (by simp)]
  have h3 := wOps_set L.length o' L 0 q e (by rw [Nat.zero_add]; exact h1) he
  rw [h3, Nat.zero_add]
theorem Rn.put {w : World} {g cap sz : Nat} {L : List Value} {T : TypeId} (h : Rn w g cap sz L T) {i : Nat} (hi : i < L.length) (v : Value) : Rn (w.setCell ⟨g, i, none⟩ v) g cap sz (L.set i v) T := by
  obtain ⟨r, h1, h2, h3⟩ := h
  exact ⟨r, by simpa using h1, h2, by rw [← List.set_append_left _ _ hi]; exact h3.set i v⟩
theorem pcs_set (t : Pg.Op × Option Addr × Nat) : ∀ (T : List (Pg.Op × Option Addr × Nat)) (Q : Nat), Q < T.length → (((((((pcs T).set (Q * 7) (.int .i64 t.1.k)).set (Q * 7 + 1) (.string t.1.tx)).set (Q * 7 + 2) (.int .i64 t.1.n)).set (Q * 7 + 3) (.int .i64 t.1.to1)).set (Q * 7 + 4) (.slice t.2.1 t.1.ar.length t.2.2)).set (Q * 7 + 5) (.int .i64 t.1.ot)).set (Q * 7 + 6) (.int .i64 t.1.oe) = pcs (T.set Q t)
  | [], Q, h => by simp at h
  | a :: T, 0, _ => by simp [pcs, Pg.oc]
  | a :: T, Q + 1, h => by
    have e : ∀ j v (l : List Value), (Pg.oc a ++ l).set ((Q + 1) * 7 + j) v = Pg.oc a ++ l.set (Q * 7 + j) v := fun j v l => by
      rw [List.set_append_right _ _ (by simp [Pg.oc]; omega)]
      congr 2
      simp [Pg.oc]; omega
    have e0 := fun v l => e 0 v l
    simp only [Nat.add_zero] at e0
    simp only [pcs, List.set_cons_succ]
    rw [e0, e, e, e, e, e, e, pcs_set t T Q (by simpa using h)]
end Go.Proofs.Ytoniipmgkoogbaa
/- Scripts: an op stored into a row of one's own. -/
namespace Go.Proofs.Ytoniipmgkoogbaa
open Go.ChangeShapes Go.WideShapes Go.ChangeAt Go.RowKit
set_option linter.unusedSimpArgs false
set_option linter.unusedVariables false


theorem PR.mono {w : World} {B B' g c : Nat} {T : List (Pg.Op × Option Addr × Nat)} (h : PR w B g c T) (k : B' ≤ B) : PR w B' g c T := ⟨h.1, Nat.le_trans k h.2.1, fun t ht => by
  obtain ⟨b, h1, h2, h3⟩ := h.2.2 t ht
  exact ⟨b, h1, Nat.le_trans k h2, h3⟩⟩
theorem Rn.free {w : World} {g cap sz : Nat} {L : List Value} {T : TypeId} (h : Rn w g cap sz L T) (i : Nat) : w.frozen? ⟨g, i, none⟩ = false := by
  obtain ⟨_, _, _, q⟩ := h
  exact q.free i
theorem PR.store {w : World} {B g c : Nat} {T : List (Pg.Op × Option Addr × Nat)} (h : PR w B g c T) (Q : Nat) (hQ : Q < T.length) (o : Pg.Op) (b kc : Nat) (hb : B ≤ b) (ha : Rn w b kc 2 (acs o.ar) 38) : PR (((((((w.setCell ⟨g, Q * 7, none⟩ (.int .i64 o.k)).setCell ⟨g, Q * 7 + 1, none⟩ (.string o.tx)).setCell ⟨g, Q * 7 + 2, none⟩ (.int .i64 o.n)).setCell ⟨g, Q * 7 + 3, none⟩ (.int .i64 o.to1)).setCell ⟨g, Q * 7 + 4, none⟩ (.slice (some ⟨b, 0, none⟩) o.ar.length kc)).setCell ⟨g, Q * 7 + 5, none⟩ (.int .i64 o.ot)).setCell ⟨g, Q * 7 + 6, none⟩ (.int .i64 o.oe)) B g c (T.set Q (o, some ⟨b, 0, none⟩, kc)) ∧ Chg [g] w (((((((w.setCell ⟨g, Q * 7, none⟩ (.int .i64 o.k)).setCell ⟨g, Q * 7 + 1, none⟩ (.string o.tx)).setCell ⟨g, Q * 7 + 2, none⟩ (.int .i64 o.n)).setCell ⟨g, Q * 7 + 3, none⟩ (.int .i64 o.to1)).setCell ⟨g, Q * 7 + 4, none⟩ (.slice (some ⟨b, 0, none⟩) o.ar.length kc)).setCell ⟨g, Q * 7 + 5, none⟩ (.int .i64 o.ot)).setCell ⟨g, Q * 7 + 6, none⟩ (.int .i64 o.oe)) := by
  have k : Chg [g] w (((((((w.setCell ⟨g, Q * 7, none⟩ (.int .i64 o.k)).setCell ⟨g, Q * 7 + 1, none⟩ (.string o.tx)).setCell ⟨g, Q * 7 + 2, none⟩ (.int .i64 o.n)).setCell ⟨g, Q * 7 + 3, none⟩ (.int .i64 o.to1)).setCell ⟨g, Q * 7 + 4, none⟩ (.slice (some ⟨b, 0, none⟩) o.ar.length kc)).setCell ⟨g, Q * 7 + 5, none⟩ (.int .i64 o.ot)).setCell ⟨g, Q * 7 + 6, none⟩ (.int .i64 o.oe)) := (((((((Chg.refl [g] w).set (Or.inl (by simp)) _ _).set (Or.inl (by simp)) _ _).set (Or.inl (by simp)) _ _).set (Or.inl (by simp)) _ _).set (Or.inl (by simp)) _ _).set (Or.inl (by simp)) _ _).set (Or.inl (by simp)) _ _
  have ne : ∀ b2 c2 L2, Rn w b2 c2 2 L2 38 → b2 ∉ ([g] : List Nat) := fun b2 c2 L2 h2 e => by
    simp at e
    subst e
    obtain ⟨_, _, _, q1⟩ := h2
    obtain ⟨_, _, _, q2⟩ := h.1
    exact absurd (blk_tp q1 q2) (by decide)
  refine ⟨⟨?_, h.2.1, fun t ht => ?_⟩, k⟩
  · rw [← pcs_set (o, some ⟨b, 0, none⟩, kc) T Q hQ]
    exact (Rn.put (Rn.put (Rn.put (Rn.put (Rn.put (Rn.put (Rn.put h.1 (by simp [pcs_len]; omega) (.int .i64 o.k)) (by simp [pcs_len]; omega) (.string o.tx)) (by simp [pcs_len]; omega) (.int .i64 o.n)) (by simp [pcs_len]; omega) (.int .i64 o.to1)) (by simp [pcs_len]; omega) (.slice (some ⟨b, 0, none⟩) o.ar.length kc)) (by simp [pcs_len]; omega) (.int .i64 o.ot)) (by simp [pcs_len]; omega) (.int .i64 o.oe))
  · rcases List.mem_or_eq_of_mem_set ht with ht | ht
    · obtain ⟨b2, h1, h2, h3⟩ := h.2.2 t ht
      exact ⟨b2, h1, h2, h3.chg k (ne _ _ _ h3)⟩
    · subst ht
      exact ⟨b, rfl, hb, ha.chg k (ne _ _ _ ha)⟩
theorem wOps_lt (N : Nat) : ∀ (l : List Pg.Op) (i k e : Nat), Pg.wOps N i l = (k, e) → e ≠ 0 → k < i + l.length
  | [], i, k, e, h, he => by
    unfold Pg.wOps at h
    simp only [Prod.mk.injEq] at h
    exact absurd h.2.symm he
  | a :: l, i, k, e, h, he => by
    unfold Pg.wOps at h
    rw [List.length_cons]
    split at h
    · simp only [Prod.mk.injEq] at h; omega
    · have := wOps_lt N l (i + 1) k e h he; omega
theorem map_set1 (T : List (Pg.Op × Option Addr × Nat)) (Q : Nat) (t : Pg.Op × Option Addr × Nat) : (T.set Q t).map (·.1) = (T.map (·.1)).set Q t.1 := by rw [List.map_set]
/-- A script's box, an op's box, and a row of ops. -/
def QS (w0 w : World) (cs os : List Value) (g c : Nat) (T : List (Pg.Op × Option Addr × Nat)) : Prop := Blk w w0.heap.size cs 24 ∧ Blk w (w0.heap.size + 1) os 27 ∧ Below w0.heap.size w0 w ∧ PR w (w0.heap.size + 2) g c T
theorem QS.below {w0 w w' : World} {cs rs : List Value} {g c : Nat} {T : List (Pg.Op × Option Addr × Nat)} (h : QS w0 w cs rs g c T) (k : Below w.heap.size w w') : QS w0 w' cs rs g c T := ⟨h.1.below k h.1.lt, h.2.1.below k h.2.1.lt, h.2.2.1.trans (k.mono h.2.2.1.size), h.2.2.2.below k⟩
theorem QS.setP {w0 w : World} {cs rs : List Value} {g c : Nat} {T : List (Pg.Op × Option Addr × Nat)} (h : QS w0 w cs rs g c T) (i : Nat) (v : Value) : QS w0 (w.setCell ⟨w0.heap.size, i, none⟩ v) (cs.set i v) rs g c T := by
  have k : Chg [w0.heap.size] w (w.setCell ⟨w0.heap.size, i, none⟩ v) := (Chg.refl [w0.heap.size] w).set (Or.inl (by simp)) i v
  exact ⟨h.1.set i v, h.2.1.other (by omega) i v, k.onto h.2.2.1 h.2.2.1.size (by simp), h.2.2.2.lo k (fun y hy => by simp at hy; omega)⟩
theorem QS.new {w : World} (cs os : Array Value) : Blk ((w.alloc (.cells cs 24)).alloc (.cells os 27)) w.heap.size cs.toList 24 ∧ Blk ((w.alloc (.cells cs 24)).alloc (.cells os 27)) (w.heap.size + 1) os.toList 27 ∧ Below w.heap.size w ((w.alloc (.cells cs 24)).alloc (.cells os 27)) := by
  have b := Blk.newA (w.alloc (.cells cs 24)) os 27
  have e : (w.alloc (.cells cs 24)).heap.size = w.heap.size + 1 := by simp
  rw [e] at b
  exact ⟨(Blk.newA w cs 24).alloc _, b, bel2 w _ _⟩
end Go.Proofs.Ytoniipmgkoogbaa
