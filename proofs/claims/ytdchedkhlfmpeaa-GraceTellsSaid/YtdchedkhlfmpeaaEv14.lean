/- Events: who were opened. -/
import Derived.Test.YtdchedkhlfmpeaaEv10
import Derived.Test.YtdchedkhlfmpeaaShelf
import Derived.Lib.OwnBridge
import Derived.Shelf.Slices.CompactI
import Derived.Lib.RowBridge
import Derived.WalkKit
import Derived.ProofKit
import Derived.Handy
import Derived.WalkLawsBesides
import Derived.WalkSpells
import Derived.Lib.Hide
import Derived.Lib.SliceRun
import Derived.Deep.RegionLaw
import Derived.RegionTactic
import Derived.ChangeAlike
import Derived.WalkSmall
import Derived.Deep.QuietTactic
import Derived.BigQuiet
import Derived.OwnWalk
import Derived.Outline
import Derived.Deep.CutRange
import Derived.Deep.CutBlock
import Derived.LoopTactic
namespace Go.Proofs.Ytdchedkhlfmpeaa
open Go.ChangeShapes Go.WideShapes Go.ChangeAt Go.RowKit
set_option linter.unusedSimpArgs false
set_option linter.unusedVariables false

/-- Who were opened, as they came. -/
def Ev.ops (L : List Ev) : List Int := (L.filter (fun x => x.k == 2)).map Ev.i
theorem Ev.ops_snoc (L : List Ev) (x : Ev) : Ev.ops (L ++ [x]) = if x.k = 2 then Ev.ops L ++ [x.i] else Ev.ops L := by
  unfold Ev.ops; rw [List.filter_append]
  by_cases h : x.k = 2
  · simp [h]
  · simp [h]
/-- A number put into its place, once. -/
def insD (x : Int) (o : List Int) : List Int := o.takeWhile (fun y => decide (y < x)) ++ ((if (o.dropWhile (fun y => decide (y < x))).head? = some x then [] else [x]) ++ o.dropWhile (fun y => decide (y < x)))
/-- Who were opened, rising. -/
def Ev.ids (L : List Ev) : List Int := L.foldl (fun o x => if x.k = 2 then insD x.i o else o) []
theorem Ev.ids_snoc (L : List Ev) (x : Ev) : Ev.ids (L ++ [x]) = if x.k = 2 then insD x.i (Ev.ids L) else Ev.ids L := by unfold Ev.ids; rw [List.foldl_append]; rfl
theorem lt_ext : ∀ (a b : List Int), a.Pairwise (· < ·) → b.Pairwise (· < ·) → (∀ x, x ∈ a ↔ x ∈ b) → a = b
  | [], [], _, _, _ => rfl
  | [], y :: b, _, _, h => by have := (h y).2 (by simp); cases this
  | x :: a, [], _, _, h => by have := (h x).1 (by simp); cases this
  | x :: a, y :: b, ha, hb, h => by
    obtain ⟨ha1, ha2⟩ := List.pairwise_cons.1 ha
    obtain ⟨hb1, hb2⟩ := List.pairwise_cons.1 hb
    have e : x = y := by
      have h1 := (h x).1 (by simp)
      have h2 := (h y).2 (by simp)
      rw [List.mem_cons] at h1 h2
      rcases h1 with h1 | h1
      · exact h1
      · rcases h2 with h2 | h2
        · exact h2.symm
        · have := ha1 y h2; have := hb1 x h1; omega
    subst e
    congr 1
    refine lt_ext a b ha2 hb2 fun z => ⟨fun hz => ?_, fun hz => ?_⟩
    · have h1 := (h z).1 (by simp [hz])
      rw [List.mem_cons] at h1
      rcases h1 with h1 | h1
      · have := ha1 z hz; omega
      · exact h1
    · have h1 := (h z).2 (by simp [hz])
      rw [List.mem_cons] at h1
      rcases h1 with h1 | h1
      · have := hb1 z hz; omega
      · exact h1
theorem takeWhile_lt (x : Int) : ∀ (o : List Int), o.Pairwise (· < ·) → ∀ y ∈ o.dropWhile (fun y => decide (y < x)), x ≤ y
  | [], _, y, hy => by simp at hy
  | z :: o, h, y, hy => by
    obtain ⟨h1, h2⟩ := List.pairwise_cons.1 h
    rw [List.dropWhile_cons] at hy
    by_cases hz : z < x
    · simp only [hz, decide_true, if_true] at hy
      exact takeWhile_lt x o h2 y hy
    · simp only [hz, decide_false, Bool.false_eq_true, if_false, List.mem_cons] at hy
      rcases hy with rfl | hy
      · omega
      · have := h1 y hy; omega
theorem takeWhile_all (x : Int) (o : List Int) : ∀ y ∈ o.takeWhile (fun y => decide (y < x)), y < x := fun y hy => by
  have h : o.takeWhile (fun y => decide (y < x)) ++ o.dropWhile (fun y => decide (y < x)) = o := List.takeWhile_append_dropWhile
  have := List.all_takeWhile (l := o) (p := fun y => decide (y < x))
  rw [List.all_eq_true] at this
  simpa using this y hy
theorem insD_srt {x : Int} {o : List Int} (h : o.Pairwise (· < ·)) : (insD x o).Pairwise (· < ·) ∧ ∀ y, y ∈ insD x o ↔ y = x ∨ y ∈ o := by
  have e : o.takeWhile (fun y => decide (y < x)) ++ o.dropWhile (fun y => decide (y < x)) = o := List.takeWhile_append_dropWhile
  have h2 := h
  rw [← e, List.pairwise_append] at h2
  have hd := takeWhile_lt x o h
  have ht := takeWhile_all x o
  obtain ⟨A, hA⟩ : ∃ A, o.takeWhile (fun y => decide (y < x)) = A := ⟨_, rfl⟩
  obtain ⟨D, hD⟩ : ∃ D, o.dropWhile (fun y => decide (y < x)) = D := ⟨_, rfl⟩
  unfold insD
  rw [hA] at e h2 ht ⊢
  rw [hD] at e h2 hd ⊢
  have mo : ∀ y, y ∈ o ↔ y ∈ A ∨ y ∈ D := fun y => by rw [← e, List.mem_append]
  cases D with
  | nil =>
    simp only [List.head?_nil, reduceCtorEq, if_false, List.append_nil]
    refine ⟨List.pairwise_append.2 ⟨h2.1, by simp, fun a ha b hb => by simp at hb; subst hb; exact ht a ha⟩, fun y => ?_⟩
    rw [mo]; simp [or_comm]
  | cons z D =>
    by_cases hz : z = x
    · subst hz
      simp only [List.head?_cons, if_true, List.nil_append]
      refine ⟨List.pairwise_append.2 h2, fun y => ?_⟩
      rw [mo, List.mem_append]
      exact ⟨Or.inr, fun h => h.elim (fun e => Or.inr (by simp [e])) id⟩
    · simp only [List.head?_cons, Option.some.injEq, hz, if_false]
      refine ⟨List.pairwise_append.2 ⟨h2.1, List.pairwise_cons.2 ⟨fun b hb => ?_, h2.2.1⟩, fun a ha b hb => ?_⟩, fun y => ?_⟩
      · rcases List.mem_cons.1 hb with rfl | hb
        · have := hd b (by simp); omega
        · have := (List.pairwise_cons.1 h2.2.1).1 b hb; have := hd z (by simp); omega
      · rw [List.singleton_append] at hb
        rcases List.mem_cons.1 hb with rfl | hb
        · exact ht a ha
        · exact h2.2.2 a ha b hb
      · rw [mo]; simp
        constructor
        · rintro (h | h | h)
          · exact Or.inr (Or.inl h)
          · exact Or.inl h
          · exact Or.inr (Or.inr h)
        · rintro (h | h | h)
          · exact Or.inr (Or.inl h)
          · exact Or.inl h
          · exact Or.inr (Or.inr h)
theorem Ev.ids_srt (L : List Ev) : (Ev.ids L).Pairwise (· < ·) ∧ ∀ y, y ∈ Ev.ids L ↔ y ∈ Ev.ops L := by
  have key : ∀ m, (Ev.ids (L.take m)).Pairwise (· < ·) ∧ ∀ y, y ∈ Ev.ids (L.take m) ↔ y ∈ Ev.ops (L.take m) := by
    intro m
    induction m with
    | zero => rw [List.take_zero]; exact ⟨List.Pairwise.nil, fun y => by simp [Ev.ids, Ev.ops]⟩
    | succ m ih =>
      by_cases hl : m < L.length
      · rw [List.take_succ_eq_append_getElem hl, Ev.ids_snoc, Ev.ops_snoc]
        split
        · obtain ⟨h1, h2⟩ := insD_srt (x := L[m].i) ih.1
          refine ⟨h1, fun y => ?_⟩
          rw [h2, ih.2, List.mem_append]; simp [or_comm]
        · exact ih
      · rw [List.take_of_length_le (by omega)] at ih ⊢
        exact ih
  have := key L.length
  rwa [List.take_length] at this
theorem keeps_at (d : Array Int) (m : Nat) : Lib.keeps d m = true ↔ m = 0 ∨ d[m]! ≠ d[m - 1]! := by
  by_cases h0 : m = 0
  · subst h0; simp [Lib.keeps]
  · by_cases h : d[m]! = d[m - 1]!
    · rw [Lib.keeps_neg (by omega) h]; simp [h0, h]
    · rw [Lib.keeps_pos h]; simp [h]
/-- What is compacted of a rising list rises, and holds the same. -/
theorem compact_srt (zs : List Int) (h : zs.Pairwise (· ≤ ·)) : (Lib.compact zs).Pairwise (· < ·) ∧ ∀ y, y ∈ Lib.compact zs ↔ y ∈ zs := by
  have at' : ∀ j, j < zs.length → zs.toArray[j]! = zs[j]! := fun j hj => by simp [hj]
  have key : ∀ m, m ≤ zs.length → (Lib.compactUpTo zs.toArray m).Pairwise (· < ·) ∧ (∀ y, y ∈ Lib.compactUpTo zs.toArray m ↔ y ∈ zs.take m) := by
    intro m
    induction m with
    | zero => intro _; rw [List.take_zero]; exact ⟨by simp [Lib.compactUpTo], fun y => by simp [Lib.compactUpTo]⟩
    | succ m ih =>
      intro hm
      obtain ⟨i1, i2⟩ := ih (by omega)
      have hml : m < zs.length := by omega
      rw [Lib.compactUpTo_succ, List.take_succ_eq_append_getElem hml]
      have hg : zs.toArray[m]! = zs[m] := by simp [hml]
      have hle : ∀ y ∈ zs.take m, y ≤ zs[m] := fun y hy => by
        obtain ⟨q, hq, rfl⟩ := List.mem_iff_getElem.1 hy
        rw [List.length_take] at hq
        rw [List.getElem_take]
        exact (List.pairwise_iff_getElem.1 h) q m (by omega) hml (by omega)
      by_cases hk : Lib.keeps zs.toArray m = true
      · rw [if_pos hk, hg]
        have hlt : ∀ y ∈ zs.take m, y < zs[m] := fun y hy => by
          obtain ⟨q, hq, rfl⟩ := List.mem_iff_getElem.1 hy
          rw [List.length_take] at hq
          rw [List.getElem_take]
          rcases (keeps_at _ _).1 hk with e | e
          · omega
          · rw [hg] at e
            have hg2 : zs.toArray[m - 1]! = zs[m - 1]'(by omega) := by
              rw [getElem!_pos _ _ (by simp; omega)]; simp
            rw [hg2] at e
            have a1 : zs[m - 1]'(by omega) ≤ zs[m] := (List.pairwise_iff_getElem.1 h) (m - 1) m (by omega) hml (by omega)
            have a2 : zs[q]'(by omega) ≤ zs[m - 1]'(by omega) := by
              by_cases e2 : q = m - 1
              · subst e2; exact Int.le_refl _
              · exact (List.pairwise_iff_getElem.1 h) q (m - 1) (by omega) (by omega) (by omega)
            omega
        refine ⟨List.pairwise_append.2 ⟨i1, by simp, fun a ha b hb => by simp at hb; subst hb; exact hlt a ((i2 a).1 ha)⟩, fun y => ?_⟩
        rw [List.mem_append, List.mem_append, i2]
      · rw [if_neg hk, List.append_nil]
        refine ⟨i1, fun y => ?_⟩
        rw [List.mem_append, i2]
        constructor
        · exact Or.inl
        · rintro (hy | hy)
          · exact hy
          · simp at hy
            subst hy
            have hk2 : ¬ (m = 0 ∨ zs.toArray[m]! ≠ zs.toArray[m - 1]!) := fun e => hk ((keeps_at _ _).2 e)
            have hm0 : m ≠ 0 := fun e => hk2 (Or.inl e)
            have he : zs.toArray[m]! = zs.toArray[m - 1]! := Classical.byContradiction fun e => hk2 (Or.inr e)
            rw [hg, getElem!_pos _ _ (by simp; omega)] at he
            rw [he]
            simp only [List.getElem_toArray]
            exact List.mem_iff_getElem.2 ⟨m - 1, by rw [List.length_take]; omega, by rw [List.getElem_take]⟩
  have := key zs.length (Nat.le_refl _)
  rw [List.take_length] at this
  exact this
/-- The program's way to it. -/
theorem ids_eq (L : List Ev) : Lib.compact ((Ev.ops L).mergeSort fun x y => decide (x ≤ y)) = Ev.ids L := by
  have hs : ((Ev.ops L).mergeSort fun x y => decide (x ≤ y)).Pairwise (· ≤ ·) := by
    have := List.pairwise_mergeSort (le := fun (x y : Int) => decide (x ≤ y)) (fun a b c h1 h2 => by simp at *; omega) (fun a b => by simp; omega) (Ev.ops L)
    exact this.imp (fun h => by simpa using h)
  obtain ⟨h1, h2⟩ := compact_srt _ hs
  refine lt_ext _ _ h1 (Ev.ids_srt L).1 fun y => ?_
  rw [h2, (Ev.ids_srt L).2]
  exact (List.mergeSort_perm _ _).mem_iff
/-- A slice (at r) of numbers: the first L.length of them are L. -/
def RI (w : World) (r : Option Addr) (L : List Int) : Prop := ∀ (j : Nat) (v : Int), L[j]? = some v → ∃ g o, r = some ⟨g, o, none⟩ ∧ g < w.heap.size ∧ w.cell? ⟨g, o + j, none⟩ = some (.int .i64 v)
theorem RI.nil (w : World) (r : Option Addr) : RI w r [] := fun j v h => by simp at h
theorem RI.below {w w' : World} {r : Option Addr} {L : List Int} (h : RI w r L) (k : Below w.heap.size w w') : RI w' r L := fun j v hj => by
  obtain ⟨g, o, h2, h3, hc⟩ := h j v hj
  exact ⟨g, o, h2, Nat.lt_of_lt_of_le h3 k.size, by rw [← hc]; exact Chg.cell (l := []) (Chg.of_fresh k) h3 (by simp)⟩
theorem RI.of_rm {w : World} {B : Nat} {r : Option Addr} {n c : Nat} {L : List Int} {T : TypeId} (h : RM w B r n c 1 (L.map (Value.int .i64)) T) (hn : L.length = n) : RI w r L := fun j v hj => by
  have hj2 := (List.getElem?_eq_some_iff.1 hj).1
  obtain ⟨g, rfl, _, hr⟩ := h.row (by omega)
  exact ⟨g, 0, rfl, hr.lt, by rw [Nat.zero_add]; exact hr.cell (by rw [List.getElem?_map, hj]; rfl)⟩
theorem infoInt : (Try.prog.info? 3).map (fun i => (i.zero, i.size, i.bytes)) = some (some (.int .i64 0), 1, 8) := by kernel_rfl
theorem below_grow {B : Nat} {w0 w : World} (h : Below B w0 w) (hB : B ≤ w.heap.size) (os : Array Obj) : Below B w0 (Go.Sort.grow w os) :=
  ⟨h.os, h.tape, h.output, by have := h.size; simp [Go.Sort.grow]; omega, fun k hk => by rw [← h.block k hk]; exact Go.Sort.heap_grow_old w os (by omega)⟩
theorem compact_len (zs : List Int) : (Lib.compact zs).length ≤ zs.length := Lib.compact_length_le zs
set_option maxRecDepth 20000 in
set_option maxHeartbeats 16000000 in
theorem pj_ids (a : Option Addr) (len cap : Nat) (L : List Ev) (hl : L.length = len) (hlm : len ≤ 100000) (D : List Int) (hD : Ev.ids L = D) (n : Nat) (hn : D.length = n) (w : World) (HE : EL w a L) :
    Calls Try.prog 13 #[.slice a len cap] w fun e w' => ∃ r c, e = .returned (.slice r n c) ∧ n ≤ c ∧ RI w' r D ∧ (∀ g ∈ rvB r, w.heap.size ≤ g) ∧ Below w.heap.size w w' := by
  have HL := Lib.hid (And.intro hl (And.intro HE (And.intro hD hn)))
  clear hl HE hD hn
  have H0 : Hid (RM w w.heap.size none 0 0 1 ((Ev.ops (L.take 0)).map (Value.int .i64)) 3 ∧ Below w.heap.size w w) := Lib.hid ⟨RM.nil _ _ _ _ (Nat.le_refl _), Below.refl _ _⟩
  go_enter Try.func13, Try.ntmps13
  go_wp2_with fail
  go_loopw [3, 8] (fun o z wr => ∃ (j q c : Nat) (r : Option Addr), o = .slice r q c ∧ z = .int .i64 j ∧ j ≤ len ∧ q ≤ j ∧ Hid (RM wr w.heap.size r q c 1 ((Ev.ops (L.take j)).map (Value.int .i64)) 3 ∧ Below w.heap.size w wr)) (fun _ z _ => len - (intOf z).toNat)
  case atStart => exact ⟨0, 0, 0, none, rfl, rfl, by omega, by omega, H0⟩
  case round =>
    clear H0
    obtain ⟨j, q, c, r, rfl, rfl, hj, hq, HB⟩ := hrel
    have j0 : (0 : Int) ≤ (j : Int) := by omega
    by_cases hjl : j < len
    · have i1 : (j : Int) < (len : Int) := by omega
      have w1 : IntKind.i64.wrap ((j : Int) + 1) = (j : Int) + 1 := IntWalk.i64_in _ (by omega)
      obtain ⟨k, i, n, t, b, e, s0, s1, s2, s3, s4, s5, es⟩ : ∃ k i n t b e s0 s1 s2 s3 s4 s5, L[j]? = some ⟨k, i, n, t, b, e, s0, s1, s2, s3, s4, s5⟩ := ⟨_, _, _, _, _, _, _, _, _, _, _, _, List.getElem?_eq_getElem (by rw [HL.out.1]; exact hjl)⟩
      obtain ⟨hb, ga, o, rfl, hgw, e0, e1, e2, e3, e4, e5, e6, e7, e8, e9, e10, e11⟩ := (HL.out.2.1.below HB.out.2).get es
      obtain ⟨O, hO⟩ : ∃ O, (Ev.ops (L.take j)).map (Value.int .i64) = O := ⟨_, rfl⟩
      have HS : Hid ((Ev.ops (L.take (j + 1))).map (Value.int .i64) = if k = 2 then O ++ [.int .i64 i] else O) := Lib.hid (by
        rw [take_snocE es, Ev.ops_snoc, ← hO]
        dsimp only
        split <;> simp)
      rw [hO] at HB
      clear es hO hb
      go_upto_region 5 with fail
      have H2 : Hid (RM (wr.alloc (.cells #[.int .i64 k, .int .i64 i, .int .i64 n, .int .i64 t, .string b, .int .i64 e, .int .i64 s0, .int .i64 s1, .int .i64 s2, .int .i64 s3, .int .i64 s4, .int .i64 s5] 47)) w.heap.size r q c 1 O 3 ∧ Below w.heap.size w (wr.alloc (.cells #[.int .i64 k, .int .i64 i, .int .i64 n, .int .i64 t, .string b, .int .i64 e, .int .i64 s0, .int .i64 s1, .int .i64 s2, .int .i64 s3, .int .i64 s4, .int .i64 s5] 47)) ∧ Blk (wr.alloc (.cells #[.int .i64 k, .int .i64 i, .int .i64 n, .int .i64 t, .string b, .int .i64 e, .int .i64 s0, .int .i64 s1, .int .i64 s2, .int .i64 s3, .int .i64 s4, .int .i64 s5] 47)) wr.heap.size [.int .i64 k, .int .i64 i, .int .i64 n, .int .i64 t, .string b, .int .i64 e, .int .i64 s0, .int .i64 s1, .int .i64 s2, .int .i64 s3, .int .i64 s4, .int .i64 s5] 47) := Lib.hid ⟨HB.out.1.chg (l := []) ((Chg.refl [] _).alloc _) (by simp), HB.out.2.alloc HB.out.2.size _, Blk.newA _ _ _⟩
      clear e0 e1 e2 e3 e4 e5 e6 e7 e8 e9 e10 e11 hgw HB
      revert H2
      generalize (wr.alloc (.cells #[.int .i64 k, .int .i64 i, .int .i64 n, .int .i64 t, .string b, .int .i64 e, .int .i64 s0, .int .i64 s1, .int .i64 s2, .int .i64 s3, .int .i64 s4, .int .i64 s5] 47)) = W1
      generalize wr.heap.size = X
      intro H2
      have d0 := H2.out.2.2.cell (i := 0) rfl
      have d1 := H2.out.2.2.cell (i := 1) rfl
      by_cases h2 : k = 2
      · subst h2
        go_wp2_with (at_builtin; refine wpList_append_rm _ rfl (.tmp 15) (.tmp 18) 37 37 rfl 3 (.int .i64 0) 1 8 Try.underlying37 infoInt rfl w.heap.size r q c O rfl (H2.out.1.chg (l := []) ((Chg.refl [] W1).alloc _) (by simp)) _ rfl 1 (by omega) [.int .i64 i] (Src.ofSlice _ Try.underlying37 ⟨_, 0, none⟩ 1 1 [.int .i64 i] rfl (new_atE _ _ _) (by intro v hv; simp at hv; subst hv; rfl)) (by omega) (by omega) ?_; intro g4 c4 w4 r1 r2 r3; have HN : Hid (RM w4 w.heap.size (some ⟨g4, 0, none⟩) (q + 1) c4 1 ((Ev.ops (L.take (j + 1))).map (Value.int .i64)) 3 ∧ Below w.heap.size w w4) := Lib.hid ⟨by rw [HS.out, if_pos rfl]; exact r1, r3.onto (H2.out.2.1.alloc H2.out.2.1.size _) (by have := H2.out.2.1.size; simp; omega) (fun y hy => (H2.out.1.lt y hy).1)⟩; clear r1 r2 r3)
        go_roundw
        case rel => exact ⟨j + 1, q + 1, c4, _, rfl, by go_num, by omega, by omega, HN⟩
        case measure => simp [intOf]; omega
      · have h2b : (k == 2) = false := by simp [h2]
        go_wp2_with fail
        go_roundw
        case rel => exact ⟨j + 1, q, c, r, rfl, by go_num, by omega, by omega, Lib.hid ⟨by rw [HS.out, if_neg h2]; exact H2.out.1, H2.out.2.1⟩⟩
        case measure => simp [intOf]; omega
    · obtain rfl : j = len := by omega
      have i1 : ¬ (j : Int) < (j : Int) := by omega
      obtain ⟨O, hO⟩ : ∃ O, Ev.ops L = O := ⟨_, rfl⟩
      have HR : Hid (RM wr w.heap.size r q c 1 (O.map (Value.int .i64)) 3 ∧ Below w.heap.size w wr ∧ Lib.compact (O.mergeSort fun x y => decide (x ≤ y)) = D ∧ O.length = q) := Lib.hid (by
        have h := HB.out
        rw [List.take_of_length_le (by rw [HL.out.1]; exact Nat.le_refl _), hO] at h
        exact ⟨h.1, h.2, by rw [← hO, ids_eq]; exact HL.out.2.2.1, by have := h.1.1; rw [List.length_map] at this; omega⟩)
      clear HB hO
      rcases Nat.eq_zero_or_pos q with hq0 | hq0
      · subst hq0
        obtain rfl : n = 0 := by
          have h1 := HR.out.2.2.1
          rw [List.length_eq_zero_iff.1 HR.out.2.2.2] at h1
          rw [← HL.out.2.2.2, ← h1]
          simp [Lib.compact, Lib.compactUpTo]
        have hD0 : D = [] := List.length_eq_zero_iff.1 HL.out.2.2.2
        have HD0 := Lib.hid hD0
        clear hD0
        go_wp2_with (first
          | (go_at_call 44; refine (Try.slices_Sort_int_none r c _).mono ?_; rintro rr4 W4 ⟨rfl, rfl⟩)
          | (go_at_call 45; refine (Try.slices_Compact_int_empty r c _).mono ?_; rintro rr5 W5 ⟨rfl, rfl⟩)
          | fail)
        go_ret
        exact ⟨r, c, rfl, by omega, by rw [HD0.out]; exact RI.nil _ _, fun g hg => (HR.out.1.lt g hg).1, HR.out.2.1⟩
      · obtain ⟨g, rfl, hgB, hr⟩ := HR.out.1.row hq0
        have hqc : q ≤ c := by have := hr.len; rw [List.length_map, HR.out.2.2.2] at this; omega
        have hHold : Go.Sort.Holds (Value.int .i64) wr g 0 O.toArray := fun j2 hj2 => by
          have hj3 : j2 < O.length := by simpa using hj2
          obtain ⟨rest, _, _, hB2⟩ := hr
          rw [Nat.zero_add]
          refine ⟨hB2.cell (by rw [List.getElem?_append_left (by rw [List.length_map]; exact hj3), List.getElem?_map, List.getElem?_eq_getElem hj3]; simp [hj3]), hB2.free _⟩
        have HG := Lib.hid (And.intro hr.lt (And.intro hHold hqc))
        clear hr hHold
        obtain rfl : O.length = q := HR.out.2.2.2
        go_wp2_with (first
          | (go_at_call 44; refine (Try.slices_Sort_int g 0 c O _ HG.out.2.1 HG.out.1 (by omega)).mono ?_; rintro rr4 W4 ⟨rfl, nn, os, rfl⟩; have H4 : Hid (Go.Sort.Holds (Value.int .i64) (Go.Sort.grow (Go.Sort.putRow (Value.int .i64) (Go.Sort.ahead wr nn) g 0 (O.mergeSort fun x y => decide (x ≤ y)).toArray) os) g 0 (O.mergeSort fun x y => decide (x ≤ y)).toArray ∧ Below w.heap.size w (Go.Sort.grow (Go.Sort.putRow (Value.int .i64) (Go.Sort.ahead wr nn) g 0 (O.mergeSort fun x y => decide (x ≤ y)).toArray) os) ∧ (O.mergeSort fun x y => decide (x ≤ y)).length = O.length ∧ g < (Go.Sort.grow (Go.Sort.putRow (Value.int .i64) (Go.Sort.ahead wr nn) g 0 (O.mergeSort fun x y => decide (x ≤ y)).toArray) os).heap.size) := Lib.hid (by
              have hz : (O.mergeSort fun x y => decide (x ≤ y)).length = O.length := List.length_mergeSort _
              have h1 := Go.Sort.holds_putRow (Value.int .i64) (Go.Sort.ahead wr nn) g 0 O.toArray (O.mergeSort fun x y => decide (x ≤ y)).toArray HG.out.2.1 (by simp)
              have hs : g < (Go.Sort.putRow (Value.int .i64) (Go.Sort.ahead wr nn) g 0 (O.mergeSort fun x y => decide (x ≤ y)).toArray).heap.size := by rw [Go.Sort.size_putRow]; exact HG.out.1
              have hb := Lib.below_putRow (enc := Value.int .i64) (q := nn) (d := (O.mergeSort fun x y => decide (x ≤ y)).toArray) HR.out.2.1 hgB
              have hle : w.heap.size ≤ (Go.Sort.putRow (Value.int .i64) (Go.Sort.ahead wr nn) g 0 (O.mergeSort fun x y => decide (x ≤ y)).toArray).heap.size := by rw [Go.Sort.size_putRow]; exact HR.out.2.1.size
              refine ⟨Go.Sort.holds_grow _ _ os g 0 _ hs h1, below_grow hb hle os, hz, ?_⟩
              have hx : (Go.Sort.putRow (Value.int .i64) (Go.Sort.ahead wr nn) g 0 (O.mergeSort fun x y => decide (x ≤ y)).toArray).heap.size ≤ (Go.Sort.grow (Go.Sort.putRow (Value.int .i64) (Go.Sort.ahead wr nn) g 0 (O.mergeSort fun x y => decide (x ≤ y)).toArray) os).heap.size := by simp [Go.Sort.grow]
              omega); revert H4; generalize (Go.Sort.grow (Go.Sort.putRow (Value.int .i64) (Go.Sort.ahead wr nn) g 0 (O.mergeSort fun x y => decide (x ≤ y)).toArray) os) = W4; intro H4)
          | fail)
        obtain ⟨S, hS⟩ : ∃ S, (O.mergeSort fun x y => decide (x ≤ y)) = S := ⟨_, rfl⟩
        rw [hS] at H4
        have HD : Hid (Lib.compact S = D) := Lib.hid (by rw [← hS]; exact HR.out.2.2.1)
        have hcal := Try.slices_Compact_int g 0 c S W4 H4.out.1 (by have := H4.out.2.2.1; omega) (by have := H4.out.2.2.1; omega)
        rw [H4.out.2.2.1, HD.out, HL.out.2.2.2] at hcal
        refine hcal.mono ?_
        rintro rr5 W5 ⟨rfl, nq, rfl⟩
        have hnS : n ≤ O.length := by rw [← HL.out.2.2.2, ← HD.out, ← H4.out.2.2.1]; exact compact_len S
        have hsz : (D ++ List.replicate (S.length - n) (0 : Int)).toArray.size = S.toArray.size := by
          have h1 := HL.out.2.2.2; have h2 := H4.out.2.2.1
          simp; omega
        have h5 := Go.Sort.holds_putRow (Value.int .i64) (Go.Sort.ahead W4 nq) g 0 S.toArray (D ++ List.replicate (S.length - n) (0 : Int)).toArray H4.out.1 hsz
        rw [H4.out.2.2.1] at h5
        have H5 : Hid (RI (Go.Sort.putRow (Value.int .i64) (Go.Sort.ahead W4 nq) g 0 (D ++ List.replicate (O.length - n) (0 : Int)).toArray) (some ⟨g, 0, none⟩) D ∧ Below w.heap.size w (Go.Sort.putRow (Value.int .i64) (Go.Sort.ahead W4 nq) g 0 (D ++ List.replicate (O.length - n) (0 : Int)).toArray)) := Lib.hid ⟨fun j2 v hj2 => by
          obtain ⟨hjl2, hv⟩ := List.getElem?_eq_some_iff.1 hj2
          have h6 := (h5 j2 (by simp; omega)).1
          refine ⟨g, 0, rfl, by rw [Go.Sort.size_putRow]; exact H4.out.2.2.2, ?_⟩
          rw [h6, getElem!_pos _ _ (by simp; omega)]
          simp only [List.getElem_toArray]
          rw [List.getElem_append_left hjl2, hv], Lib.below_putRow H4.out.2.1 hgB⟩
        clear h5 hsz hcal
        revert H5
        generalize (Go.Sort.putRow (Value.int .i64) (Go.Sort.ahead W4 nq) g 0 (D ++ List.replicate (O.length - n) (0 : Int)).toArray) = W5
        intro H5
        go_wp2_with fail
        go_ret
        exact ⟨some ⟨g, 0, none⟩, c, rfl, by have := HG.out.2.2; omega, H5.out.1, by rw [rvB_some]; simp; exact hgB, H5.out.2⟩
end Go.Proofs.Ytdchedkhlfmpeaa
