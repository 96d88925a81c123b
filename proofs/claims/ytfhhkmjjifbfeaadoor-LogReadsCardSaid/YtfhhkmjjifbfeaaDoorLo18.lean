/- Log: the document's lines, events held against each other, the listed tables, the law's lives. -/
import Derived.Test.YtfhhkmjjifbfeaaDoorLo17
import Derived.Test.YtfhhkmjjifbfeaaDoorRw
import Derived.Test.YtfhhkmjjifbfeaaDoorRwStep
import Derived.Test.YtfhhkmjjifbfeaaDoorQtR4
import Derived.Stop.LaidErr
import Derived.Shelf.Vars
import Derived.Lib.LaidTab
import Derived.WalkKit
import Derived.ProofKit
import Derived.Handy
import Derived.WalkLawsBesides
import Derived.WalkSpells
import Derived.Lib.Hide
import Derived.Lib.SliceRun
import Derived.Deep.RegionLaw
import Derived.RegionTactic
import Derived.ChangeAlike
import Derived.WalkSmall
import Derived.Deep.QuietTactic
import Derived.BigQuiet
import Derived.OwnWalk
import Derived.Outline
import Derived.Deep.CutRange
import Derived.Deep.CutBlock
import Derived.LoopTactic
namespace Go.Proofs.YtfhhkmjjifbfeaaDoor
open Go.ChangeShapes Go.WideShapes Go.ChangeAt Go.RowKit
set_option linter.unusedSimpArgs false
set_option linter.unusedVariables false

def mkT (l : List UInt8) : ByteArray := ⟨l.toArray⟩
theorem mkT_list (l : List UInt8) : (mkT l).data.toList = l := by simp [mkT]
theorem mkT_eq {s : ByteArray} {l : List UInt8} (h : s.data.toList = l) : s = mkT l := by
  subst h; simp [mkT]
theorem mkT_size (l : List UInt8) : (mkT l).size = l.length := by rw [size_of (mkT_list l)]
theorem ext_drop2 (s u : ByteArray) (k : Nat) (h : s.extract k s.size = u) : u.data.toList = s.data.toList.drop k := by
  rw [← h, ByteArray.data_extract]
  simp
  try (rw [List.take_of_length_le]; simp)
/-- The lines of a text. -/
def Lx.ls : List UInt8 → List (List UInt8)
  | [] => [[]]
  | c :: r => if c = 10 then [] :: Lx.ls r else match Lx.ls r with
    | [] => [[c]]
    | a :: m => (c :: a) :: m
theorem ls_ne (t : List UInt8) : ∃ a m, Lx.ls t = a :: m := by
  cases t with
  | nil => exact ⟨_, _, rfl⟩
  | cons c r =>
    rw [Lx.ls]
    by_cases h : c = 10
    · rw [if_pos h]; exact ⟨_, _, rfl⟩
    · rw [if_neg h]
      cases Lx.ls r <;> exact ⟨_, _, rfl⟩
theorem ls_none : ∀ (t : List UInt8), (∀ k : Nat, t[k]? ≠ some 10) → Lx.ls t = [t]
  | [], _ => rfl
  | c :: r, h => by
    have h0 := h 0
    rw [Lx.ls, if_neg (by intro e; exact h0 (by rw [e]; rfl)), ls_none r (fun k => by have := h (k + 1); simpa using this)]
theorem ls_hit : ∀ (t : List UInt8) (i : Nat), t[i]? = some 10 → (∀ k : Nat, k < i → t[k]? ≠ some 10) → Lx.ls t = t.take i :: Lx.ls (t.drop (i + 1))
  | [], i, h, _ => by simp at h
  | c :: r, 0, h, _ => by
    rw [Lx.ls, if_pos (by simpa using h)]; rfl
  | c :: r, i + 1, h, h2 => by
    have h0 := h2 0 (by omega)
    rw [Lx.ls, if_neg (by intro e; exact h0 (by rw [e]; rfl)), ls_hit r i (by simpa using h) (fun k hk => by have := h2 (k + 1) (by omega); simpa using this)]
    rfl
/-- Texts at the head of a block. -/
def LT (w : World) (g : Nat) (L : List (List UInt8)) : Prop := g < w.heap.size ∧ ∀ (j : Nat) (x : List UInt8), L[j]? = some x → w.cell? ⟨g, j, none⟩ = some (.string (mkT x))
theorem LT.below {w w' : World} {g : Nat} {L : List (List UInt8)} (h : LT w g L) (k : Below w.heap.size w w') : LT w' g L := ⟨Nat.lt_of_lt_of_le h.1 k.size, fun j x hx => (k.cell (p := ⟨g, j, none⟩) h.1).trans (h.2 j x hx)⟩
theorem LT.drew {w : World} {g : Nat} {L : List (List UInt8)} (h : LT w g L) : LT w.drew g L := h
theorem infos : (Tryd.prog.info? 9).map (fun i => (i.zero, i.size, i.bytes)) = some (some (.string ({ data := #[] } : ByteArray)), 1, 16) := by kernel_rfl
theorem one_str (s : ByteArray) : ∀ u ∈ [Value.string s], u.oneCell' = true := by intro u hu; simp at hu; subst hu; rfl
/-- The texts as cells. -/
def sc (L : List (List UInt8)) : List Value := L.map fun x => Value.string (mkT x)
theorem sc_length (L : List (List UInt8)) : (sc L).length = L.length := by simp [sc]
theorem sc_snoc (L : List (List UInt8)) (x : List UInt8) : sc (L ++ [x]) = sc L ++ [.string (mkT x)] := by simp [sc]
theorem sc_lt {w : World} {g c : Nat} {L : List (List UInt8)} (h : Rw w g c (sc L) 9) : LT w g L := ⟨h.lt, fun j x hx => h.cell (by simp [sc, hx])⟩
set_option maxRecDepth 20000 in
set_option maxHeartbeats 4000000 in
theorem rx_lines (s : ByteArray) (t : List UInt8) (hs : s.size ≤ 100000) (ht : s.data.toList = t) (L : List (List UInt8)) (hL : Lx.ls t = L) (n : Nat) (hn : L.length = n) (w : World) : Calls Tryd.prog 6 #[.string s] w fun e w' => ∃ g c, e = .returned (.slice (some ⟨g, 0, none⟩) n c) ∧ LT w' g L ∧ Below w.heap.size w w' := by
  have hlt : t.length = s.size := by rw [← ht]; simp
  have HS := Lib.hid (And.intro ht (And.intro hL (And.intro hn hlt)))
  clear ht hL hn hlt
  go_enter Tryd.func6, Tryd.ntmps6
  go_upto_region 2 with fail
  have HB : Hid (Rw (w.alloc (.cells #[] 9)) w.heap.size 0 (sc []) 9 ∧ w.heap.size ≤ w.heap.size ∧ Below w.heap.size w (w.alloc (.cells #[] 9))) := Lib.hid ⟨Rw.empty w _, Nat.le_refl _, (Below.refl _ _).alloc (Nat.le_refl _) _⟩
  revert HB
  generalize w.alloc (.cells #[] 9) = V
  intro HB
  go_wp2_with fail
  go_loopw [3, 4, 5] (fun lv av iv wr => ∃ (k p m g c : Nat) (l : List (List UInt8)), lv = .slice (some ⟨g, 0, none⟩) m c ∧ av = .int .i64 p ∧ iv = .int .i64 k ∧ p ≤ k ∧ k ≤ s.size ∧ m ≤ k ∧ l.length = m ∧ Hid (l ++ Lx.ls (t.drop p) = L ∧ ∀ j : Nat, p ≤ j → j < k → t[j]? ≠ some 10) ∧ Hid (Rw wr g c (sc l) 9 ∧ w.heap.size ≤ g ∧ Below w.heap.size w wr)) (fun _ _ iv _ => s.size - (intOf iv).toNat)
  case atStart => exact ⟨0, 0, 0, w.heap.size, 0, [], rfl, rfl, rfl, by omega, by omega, by omega, rfl, Lib.hid ⟨by rw [List.drop_zero, HS.out.2.1]; rfl, fun j h1 h2 => by omega⟩, HB⟩
  case round =>
    clear HB
    obtain ⟨k, p, m, g, c, l, rfl, rfl, rfl, hp, hk, hm, hl, HK, HB⟩ := hrel
    have k0 : (0 : Int) ≤ (k : Int) := by omega
    have p0 : (0 : Int) ≤ (p : Int) := by omega
    have pk : (p : Int) ≤ (k : Int) := by omega
    by_cases hks : k < s.size
    · have kI : (k : Int) < (s.size : Int) := by omega
      have kJ : (k : Int) ≤ (s.size : Int) := by omega
      obtain ⟨b, hb⟩ : ∃ b, s[k] = b := ⟨_, rfl⟩
      have hbl : t[k]? = some b := by rw [← HS.out.1, ← hb, List.getElem?_eq_getElem (by simpa using hks)]; rfl
      have w1 : IntKind.i64.wrap ((k : Int) + 1) = (k : Int) + 1 := IntWalk.i64_in _ (by omega)
      by_cases h10 : b = 10
      · have cb : (s[k].toNat : Int) = 10 := by rw [hb, h10]; rfl
        obtain ⟨u, hu⟩ : ∃ u, s.extract p k = u := ⟨_, rfl⟩
        have hul : u.data.toList = (t.drop p).take (k - p) := by rw [← hu, ← HS.out.1]; simp [ByteArray.data_extract, List.drop_take]
        have HU : Hid (u = mkT ((t.drop p).take (k - p))) := Lib.hid (mkT_eq hul)
        have HK2 : Hid ((l ++ [(t.drop p).take (k - p)]) ++ Lx.ls (t.drop (k + 1)) = L ∧ ∀ j : Nat, k + 1 ≤ j → j < k + 1 → t[j]? ≠ some 10) := Lib.hid ⟨by
          rw [← HK.out.1, ls_hit (t.drop p) (k - p) (by rw [List.getElem?_drop, show p + (k - p) = k by omega, hbl, h10]) (fun j hj => by rw [List.getElem?_drop]; exact HK.out.2 (p + j) (by omega) (by omega)), List.drop_drop, show p + (k - p + 1) = k + 1 by omega, List.append_assoc]; rfl, fun j h1 h2 => by omega⟩
        clear hb hbl hul
        go_wp2_with (at_builtin; refine wpList_append_rw _ rfl (.tmp 17) (.tmp 22) 27 27 rfl 9 (.string ({ data := #[] } : ByteArray)) 16 Tryd.underlying27 infos rfl g m c (sc l) rfl (by rw [sc_length, hl]) (HB.out.1.chg ((Chg.refl [] _).alloc _) (by simp)) _ rfl 1 _ (Src.ofSlice _ Tryd.underlying27 ⟨_, 0, none⟩ 1 1 [.string u] rfl (one_new _ _ _) (one_str u)) (by omega) (by omega) ?_; intro g4 c4 w4 r1 r2 r3; have HB4 : Hid (Rw w4 g4 c4 (sc (l ++ [(t.drop p).take (k - p)])) 9 ∧ w.heap.size ≤ g4 ∧ Below w.heap.size w w4) := Lib.hid (by
            have hs := HB.out.2.2.size
            have hg := HB.out.2.1
            simp only [World.size_alloc] at r2
            exact ⟨by rw [sc_snoc, ← HU.out]; exact r1, by omega, r3.onto (HB.out.2.2.alloc hs _) (by simp; omega) (by simp; omega)⟩); clear r1 r2 r3)
        refine ⟨?_, ?measure⟩
        case measure => simp [intOf]; omega
        first
          | exact ⟨k + 1, k + 1, m + 1, g4, c4, _, by go_num, by go_num, by go_num, by omega, by omega, by omega, by rw [List.length_append, hl]; rfl, HK2, HB4⟩
          | ((repeat apply Exists.intro); exact ⟨⟨k + 1, k + 1, m + 1, g4, c4, _, by go_num, by go_num, by go_num, by omega, by omega, by omega, by rw [List.length_append, hl]; rfl, HK2, HB4⟩, rfl⟩)
      · have cb : ((s[k].toNat : Int) == 10) = false := by rw [hb]; exact u8_ne h10 _ rfl
        have HK2 : Hid (l ++ Lx.ls (t.drop p) = L ∧ ∀ j : Nat, p ≤ j → j < k + 1 → t[j]? ≠ some 10) := Lib.hid ⟨HK.out.1, fun j h1 h2 => by
          by_cases e : j = k
          · rw [e, hbl]; intro h; injection h with h; exact h10 h
          · exact HK.out.2 j h1 (by omega)⟩
        clear hb hbl
        go_wp2
        refine ⟨?_, ?measure⟩
        case measure => simp [intOf]; omega
        first
          | exact ⟨k + 1, p, m, g, c, l, by go_num, by go_num, by go_num, by omega, by omega, by omega, hl, HK2, HB⟩
          | ((repeat apply Exists.intro); exact ⟨⟨k + 1, p, m, g, c, l, by go_num, by go_num, by go_num, by omega, by omega, by omega, hl, HK2, HB⟩, rfl⟩)
    · have kI : ¬ (k : Int) < (s.size : Int) := by omega
      have pS : (p : Int) ≤ (s.size : Int) := by omega
      obtain ⟨u, hu⟩ : ∃ u, s.extract p s.size = u := ⟨_, rfl⟩
      have hul : u.data.toList = t.drop p := by rw [← HS.out.1]; exact ext_drop2 s u p hu
      have HU : Hid (u = mkT (t.drop p)) := Lib.hid (mkT_eq hul)
      have HE : Hid (l ++ [t.drop p] = L ∧ n = m + 1) := Lib.hid (by
        have h1 : l ++ [t.drop p] = L := by
          rw [← HK.out.1, ls_none (t.drop p) (fun j => by
            rw [List.getElem?_drop]
            by_cases e : p + j < k
            · exact HK.out.2 (p + j) (by omega) e
            · rw [List.getElem?_eq_none (by rw [HS.out.2.2.2]; omega)]; simp)]
        exact ⟨h1, by rw [← HS.out.2.2.1, ← h1, List.length_append, hl]; rfl⟩)
      clear hul
      go_wp2_with (at_builtin; refine wpList_append_rw _ rfl (.tmp 26) (.tmp 30) 27 27 rfl 9 (.string ({ data := #[] } : ByteArray)) 16 Tryd.underlying27 infos rfl g m c (sc l) rfl (by rw [sc_length, hl]) (HB.out.1.chg ((Chg.refl [] _).alloc _) (by simp)) _ rfl 1 _ (Src.ofSlice _ Tryd.underlying27 ⟨_, 0, none⟩ 1 1 [.string u] rfl (one_new _ _ _) (one_str u)) (by omega) (by omega) ?_; intro g4 c4 w4 r1 r2 r3; have HB4 : Hid (Rw w4 g4 c4 (sc (l ++ [t.drop p])) 9 ∧ w.heap.size ≤ g4 ∧ Below w.heap.size w w4) := Lib.hid (by
            have hs := HB.out.2.2.size
            have hg := HB.out.2.1
            simp only [World.size_alloc] at r2
            exact ⟨by rw [sc_snoc, ← HU.out]; exact r1, by omega, r3.onto (HB.out.2.2.alloc hs _) (by simp; omega) (by simp; omega)⟩); clear r1 r2 r3)
      go_ret
      first
        | exact ⟨g4, c4, by rw [HE.out.2]; rfl, by rw [← HE.out.1]; exact sc_lt HB4.out.1, HB4.out.2.2⟩
        | exact ⟨g4, ⟨c4, by rw [HE.out.2]; rfl⟩, by rw [← HE.out.1]; exact sc_lt HB4.out.1, HB4.out.2.2⟩
/-- A slice (at a) of records, sz cells each: the first M.length of them are those of M by f. -/
def RE (w : World) (a : Option Addr) (sz : Nat) (f : Ev → List Value) (M : List Ev) : Prop := ∀ (j : Nat) (x : Ev), M[j]? = some x → ∃ g o, a = some ⟨g, o, none⟩ ∧ g < w.heap.size ∧ ∀ (q : Nat) (v : Value), (f x)[q]? = some v → w.cell? ⟨g, o + (j * sz + q), none⟩ = some v
theorem flat_at {f : Ev → List Value} {sz : Nat} (hf : ∀ x, (f x).length = sz) : ∀ (L : List Ev) (j : Nat) (x : Ev) (q : Nat) (v : Value), L[j]? = some x → (f x)[q]? = some v → (L.flatMap f)[j * sz + q]? = some v
  | [], j, x, q, v, h, _ => by simp at h
  | y :: L, 0, x, q, v, h, hq => by
    simp at h
    subst h
    have hl := (List.getElem?_eq_some_iff.1 hq).1
    rw [List.flatMap_cons, Nat.zero_mul, Nat.zero_add, List.getElem?_append_left hl, hq]
  | y :: L, j + 1, x, q, v, h, hq => by
    have ih := flat_at hf L j x q v (by simpa using h) hq
    have e : (j + 1) * sz + q = sz + (j * sz + q) := by rw [Nat.add_mul]; omega
    rw [List.flatMap_cons, List.getElem?_append_right (by rw [hf, e]; omega), hf, e, Nat.add_sub_cancel_left]
    exact ih
theorem RE.of_rm {w : World} {B : Nat} {r : Option Addr} {n c sz : Nat} {f : Ev → List Value} {M : List Ev} {T : TypeId} (h : RM w B r n c sz (M.flatMap f) T) (hn : M.length = n) (hf : ∀ x, (f x).length = sz) : RE w r sz f M := fun j x hj => by
  have hj2 := (List.getElem?_eq_some_iff.1 hj).1
  obtain ⟨g, rfl, _, hr⟩ := h.row (by omega)
  exact ⟨g, 0, rfl, hr.lt, fun q v hq => by rw [Nat.zero_add]; exact hr.cell (flat_at hf M j x q v hj hq)⟩
theorem RE.below {w w' : World} {a : Option Addr} {sz : Nat} {f : Ev → List Value} {M : List Ev} (h : RE w a sz f M) (k : Below w.heap.size w w') : RE w' a sz f M := fun j x hj => by
  obtain ⟨g, o, h2, h3, hc⟩ := h j x hj
  exact ⟨g, o, h2, Nat.lt_of_lt_of_le h3 k.size, fun q v hq => by rw [← hc q v hq]; exact Chg.cell (l := []) (Chg.of_fresh k) h3 (by simp)⟩
theorem RE.drew {w : World} {a : Option Addr} {sz : Nat} {f : Ev → List Value} {M : List Ev} (h : RE w a sz f M) : RE w.drew a sz f M := h
theorem RE.of_el {w : World} {a : Option Addr} {M : List Ev} (h : EL w a M) : RE w a 12 Ev.c M := fun j x hj => (h j x hj).2
set_option maxRecDepth 20000 in
set_option maxHeartbeats 16000000 in
theorem ev_same (a b : Option Addr) (n ca cb : Nat) (M : List Ev) (hl : M.length = n) (hn : n ≤ 1000000) (w : World) (HA : RE w a 12 Ev.c M) (HB : RE w b 12 Ev.c M ∧ ∀ x ∈ M, x.ok) :
    Calls Tryd.prog 9 #[.slice a n ca, .slice b n cb] w fun r w' => r = .returned (.bool true) ∧ Below w.heap.size w w' := by
  have HL := Lib.hid (And.intro hl (And.intro HA HB))
  clear hl HA HB
  go_enter Tryd.func9, Tryd.ntmps9
  go_wp2_with fail
  go_loopw [5] (fun z wr => ∃ j : Nat, z = .int .i64 j ∧ j ≤ n ∧ Hid (Below w.heap.size w wr)) (fun z _ => n - (intOf z).toNat)
  case atStart => exact ⟨0, rfl, by omega, Lib.hid (Below.refl _ _)⟩
  case round =>
    obtain ⟨j, rfl, hj, HB⟩ := hrel
    have j0 : (0 : Int) ≤ (j : Int) := by omega
    by_cases hjl : j < n
    · have i1 : (j : Int) < (n : Int) := by omega
      have w1 : IntKind.i64.wrap ((j : Int) + 1) = (j : Int) + 1 := IntWalk.i64_in _ (by omega)
      obtain ⟨x, es⟩ : ∃ x, M[j]? = some x := ⟨_, List.getElem?_eq_getElem (by rw [HL.out.1]; exact hjl)⟩
      have hok := HL.out.2.2.2 x (List.mem_of_getElem? es)
      have eqp := eqEv x x hok hok
      rw [decide_eq_true rfl] at eqp
      obtain ⟨k, i, m, t, b2, e, s0, s1, s2, s3, s4, s5⟩ := x
      obtain ⟨g1, o1, rfl, hg1, C1⟩ := (HL.out.2.1.below HB.out) j _ es
      obtain ⟨g2, o2, rfl, hg2, C2⟩ := (HL.out.2.2.1.below HB.out) j _ es
      have d0 := C1 0 _ rfl
      have e0 := C2 0 _ rfl
      rw [Nat.add_zero] at d0 e0
      have d1 := C1 1 _ rfl
      have e1 := C2 1 _ rfl
      rw [← Nat.add_assoc] at d1 e1
      have d2 := C1 2 _ rfl
      have e2 := C2 2 _ rfl
      rw [← Nat.add_assoc] at d2 e2
      have d3 := C1 3 _ rfl
      have e3 := C2 3 _ rfl
      rw [← Nat.add_assoc] at d3 e3
      have d4 := C1 4 _ rfl
      have e4 := C2 4 _ rfl
      rw [← Nat.add_assoc] at d4 e4
      have d5 := C1 5 _ rfl
      have e5 := C2 5 _ rfl
      rw [← Nat.add_assoc] at d5 e5
      have d6 := C1 6 _ rfl
      have e6 := C2 6 _ rfl
      rw [← Nat.add_assoc] at d6 e6
      have d7 := C1 7 _ rfl
      have e7 := C2 7 _ rfl
      rw [← Nat.add_assoc] at d7 e7
      have d8 := C1 8 _ rfl
      have e8 := C2 8 _ rfl
      rw [← Nat.add_assoc] at d8 e8
      have d9 := C1 9 _ rfl
      have e9 := C2 9 _ rfl
      rw [← Nat.add_assoc] at d9 e9
      have d10 := C1 10 _ rfl
      have e10 := C2 10 _ rfl
      rw [← Nat.add_assoc] at d10 e10
      have d11 := C1 11 _ rfl
      have e11 := C2 11 _ rfl
      rw [← Nat.add_assoc] at d11 e11
      clear C1 C2 hok
      clear es
      go_upto_region 6 with fail
      go_cut [25] from 17 to 25 (fun s wx => s = .bool false ∧ Hid (Below w.heap.size w wx))
      case first =>
        go_region_law (fail)
        all_goals
          go_wp2_with fail
          go_meet
          exact ⟨rfl, Lib.hid HB.out.drew⟩
      case rest =>
        obtain ⟨rfl, HD⟩ := hcut
        go_wp2_with fail
        go_roundw
        case rel => exact ⟨j + 1, by go_num, by omega, HD⟩
        case measure => simp [intOf]; omega
    · have i1 : ¬ (j : Int) < (n : Int) := by omega
      go_wp2_with fail
      go_ret
      exact ⟨rfl, HB.out⟩
/-- An array of texts that reads as these holds these. -/
theorem cells_of_strs {H : Type} {enc : TypeId × Value → H} {P : Program} {w : World} {base : Nat} {sp : Nat → Bool} {held : Bool} {fuel : Nat} {t e : TypeId} {n : Nat} {cs : List Value} {zs : List (List UInt8)} {p : List MemPlace}
    (ht : P.underlying t = some (.array n e)) (he : P.underlying e = some .string) (hce : P.cellsOf e = 1) (hct : P.cellsOf t = n)
    (h : DataW.trod enc P w base sp held fuel t cs = some (.agg (zs.map fun z => .lit (.string z)), p)) : cs = zs.map fun z => Value.string ⟨z.toArray⟩ := by
  obtain ⟨xs, m, _, hx, hlc, hxl, hel⟩ := DataW.trod_array ht h
  have hxs : xs.map (·.1) = zs.map fun z => (DataW.lit (.string z) : DataW H) := (DataW.agg.inj (Prod.mk.inj hx).1).symm
  have hzl : zs.length = n := by
    have := congrArg List.length hxs
    simp at this
    omega
  apply List.ext_getElem?
  intro i
  by_cases hi : i < n
  · have hE := hel i hi
    rw [hce, Nat.mul_one, List.getElem?_eq_getElem (by omega : i < xs.length)] at hE
    obtain ⟨s, e1, e2, _⟩ := DataW.trod_string he hE
    have h1 : cs[i]? = some (.string s) := by
      have := congrArg (·[0]?) e1
      simpa [List.getElem?_take, List.getElem?_drop] using this
    have h2 : (xs.map (·.1))[i]? = some (DataW.lit (.string s.data.toList) : DataW H) := by rw [List.getElem?_map, List.getElem?_eq_getElem (by omega : i < xs.length), e2]; rfl
    rw [hxs] at h2
    simp only [List.getElem?_map, Option.map_eq_some_iff, DataW.lit.injEq, Lit.string.injEq] at h2
    obtain ⟨z', hz', e⟩ := h2
    rw [h1, List.getElem?_map, hz', e]
    simp
  · rw [List.getElem?_eq_none (by omega), List.getElem?_eq_none (by simp; omega)]
theorem Lo.ls_sp : ∀ l : List UInt8, Lx.ls l = Lo.sp 10 l
  | [] => rfl
  | c :: r => by
    rw [Lx.ls, Lo.sp, Lo.ls_sp r]
    by_cases h : c = 10
    · rw [if_pos h, if_pos h]
    · rw [if_neg h, if_neg h]
      cases Lo.sp 10 r <;> rfl
theorem SI_of2 (W : World) (r : List (String × DataW Unit)) (h : laidMet Tryd.prog (("repartee/log.statuses", (.agg (([[114, 117, 110], [100, 111, 110, 101], [102, 97, 105, 108, 101, 100], [100, 101, 97, 100, 108, 105, 110, 101], [111, 118, 101, 114, 102, 108, 111, 119], [100, 114, 97, 105, 110, 101, 100]] : List (List UInt8)).map fun z => .lit (.string z)) : DataW Unit)) :: r) W) : SI W := by
  obtain ⟨ps, ⟨g', t', cs, fuel, p, q, hg', ht', hvar, hd, _, _⟩, _⟩ := h
  obtain rfl := Option.some.inj ((show Tryd.prog.globalNamed "repartee/log.statuses" = some 1 by kernel_rfl).symm.trans hg')
  obtain rfl := Option.some.inj ((show (Tryd.prog.globals[1]?).map (·.type) = some 66 by kernel_rfl).symm.trans ht')
  have hc := cells_of_strs (n := 6) (e := 9) (by kernel_rfl) (by kernel_rfl) (by kernel_rfl) (by kernel_rfl) hd
  have h0 : ∀ i, W.cell? ⟨1, i, none⟩ = cs.toList[i]? := fun i => by rw [World.var?_cell hg' hvar i]; simp
  unfold SI
  simp only [h0, hc]
  exact ⟨rfl, rfl, rfl, rfl, rfl, rfl⟩
theorem WI_of2 (W : World) (r : List (String × DataW Unit)) (h : laidMet Tryd.prog (("repartee/log.whats", (.agg (([[], [108, 111, 111, 107], [109, 97, 116, 99, 104], [116, 105, 109, 101, 111, 117, 116], [101, 111, 102], [108, 111, 97, 100], [115, 101, 110, 116], [106, 117, 109, 112], [119, 111, 107, 101], [100, 111, 110, 101], [102, 97, 105, 108], [108, 111, 111, 112, 101, 100], [100, 101, 97, 100, 108, 105, 110, 101], [111, 118, 101, 114, 102, 108, 111, 119], [100, 114, 97, 105, 110, 101, 100]] : List (List UInt8)).map fun z => .lit (.string z)) : DataW Unit)) :: r) W) : WI W := by
  obtain ⟨ps, ⟨g', t', cs, fuel, p, q, hg', ht', hvar, hd, _, _⟩, _⟩ := h
  obtain rfl := Option.some.inj ((show Tryd.prog.globalNamed "repartee/log.whats" = some 0 by kernel_rfl).symm.trans hg')
  obtain rfl := Option.some.inj ((show (Tryd.prog.globals[0]?).map (·.type) = some 65 by kernel_rfl).symm.trans ht')
  have hc := cells_of_strs (n := 15) (e := 9) (by kernel_rfl) (by kernel_rfl) (by kernel_rfl) (by kernel_rfl) hd
  have h0 : ∀ i, W.cell? ⟨0, i, none⟩ = cs.toList[i]? := fun i => by rw [World.var?_cell hg' hvar i]; simp
  unfold WI
  simp only [h0, hc]
  exact ⟨rfl, rfl, rfl, rfl, rfl, rfl, rfl, rfl, rfl, rfl, rfl, rfl, rfl, rfl, rfl⟩
theorem err_star : "*" ++ "errors.errorString" = "*errors.errorString" := by decide
theorem err_row (u : TypeId) (h : Tryd.prog.typeName? 3 u = some "*errors.errorString") : u = 128 :=
  typeName_ptr_named (nm := "errors.errorString") (by rw [err_star]; kernel_rfl) (by kernel_rfl) (by decide) u (by rw [err_star]; exact h)
theorem sent_of (n : String) (g : Nat) (text : List UInt8) (r : List (String × DataW Unit)) (W : World) (hg : Tryd.prog.globalNamed n = some g) (ht : (Tryd.prog.globals[g]?).map (·.type) = some 60) (h : laidMet Tryd.prog ((n, .iface "*errors.errorString" (.ptr (.agg [.lit (.string text)]))) :: r) W) : ∃ T p, W.cell? ⟨g, 0, none⟩ = some (.iface T p) := by
  obtain ⟨a, s, hv, -, -, -⟩ := laid_sentinel h hg ht Tryd.underlying60 err_row Tryd.underlying128 Tryd.underlying130 rfl rfl Tryd.underlying9 (by kernel_rfl) (by kernel_rfl)
  exact ⟨_, _, by simpa using World.var?_cell hg hv 0⟩
theorem Lo.e0_ok : Ev.ok (⟨8, 0, 0, 0, { data := #[] }, 0, 5, 1, 2, 0, 3, 0⟩ : Ev) := Ev.ok_of _ (by decide) (by unfold Lo.i64; decide)
theorem Lo.e0_good : Lo.good (⟨8, 0, 0, 0, { data := #[] }, 0, 5, 1, 2, 0, 3, 0⟩ : Ev) = true := by
  unfold Lo.good
  rw [Bool.and_eq_true, decide_eq_true_eq]
  exact ⟨rfl, by decide +kernel⟩
theorem Lo.e0_line : Lo.line (⟨8, 0, 0, 0, { data := #[] }, 0, 5, 1, 2, 0, 3, 0⟩ : Ev) = [115, 116, 101, 112, 32, 48, 32, 53, 32, 49, 32, 109, 97, 116, 99, 104, 32, 48, 32, 51, 32, 114, 117, 110] := by
  have e0 : Lib.itoa 0 = [48] := by unfold Lib.itoa; rw [if_neg (by decide), Lib.decDigits_one (by decide)]; rfl
  have e1 : Lib.itoa 1 = [49] := by unfold Lib.itoa; rw [if_neg (by decide), Lib.decDigits_one (by decide)]; rfl
  have e3 : Lib.itoa 3 = [51] := by unfold Lib.itoa; rw [if_neg (by decide), Lib.decDigits_one (by decide)]; rfl
  have e5 : Lo.tt 5 = [53] := by
    have h : (Tk.own 5).toNat = 5 := by decide
    unfold Lo.tt Tx.text; rw [h, if_neg (by decide), Lib.decDigits_one (by decide)]; rfl
  show Lib.join [[115, 116, 101, 112], Lib.itoa 0, Lib.join [Lo.tt 5, Lib.itoa 1, (Lo.word 2).data.toList, Lib.itoa 0, Lib.itoa 3, (Le.word 0).data.toList] [32]] [32] = _
  rw [e0, e1, e3, e5]
  decide +kernel
theorem Lo.e0_pr : Lo.pr (⟨8, 0, 0, 0, { data := #[] }, 0, 5, 1, 2, 0, 3, 0⟩ : Ev) = (({ data := #[115, 116, 101, 112, 32, 48, 32, 53, 32, 49, 32, 109, 97, 116, 99, 104, 32, 48, 32, 51, 32, 114, 117, 110] } : ByteArray), 0) := by
  unfold Lo.pr
  rw [if_pos Lo.e0_good, Lo.e0_line]; rfl
theorem Lo.z_size : ({ data := #[] } : ByteArray).size ≤ 4000 := by decide
theorem Lo.e0_size : ({ data := #[115, 116, 101, 112, 32, 48, 32, 53, 32, 49, 32, 109, 97, 116, 99, 104, 32, 48, 32, 51, 32, 114, 117, 110] } : ByteArray).size ≤ 4000 := by decide +kernel
theorem Lo.e0_parse : Lo.parse ({ data := #[115, 116, 101, 112, 32, 48, 32, 53, 32, 49, 32, 109, 97, 116, 99, 104, 32, 48, 32, 51, 32, 114, 117, 110] } : ByteArray) = ((⟨8, 0, 0, 0, { data := #[] }, 0, 5, 1, 2, 0, 3, 0⟩ : Ev), 0) := by
  have h := Lo.parse_line (⟨8, 0, 0, 0, { data := #[] }, 0, 5, 1, 2, 0, 3, 0⟩ : Ev) Lo.e0_ok Lo.e0_good
  rw [Lo.e0_line] at h
  exact h
set_option maxRecDepth 20000 in
set_option maxHeartbeats 16000000 in
theorem lo_lives (w : World) (htab : Lib.TabIs Tryd.prog w "internal/strconv.uint64pow10" .u64 Lib.pow10Tab) (hni : NI w) (hwi : WI w) (hsi : SI w) :
    Calls Tryd.prog 8 #[] w fun r w' => r = .returned (.bool true) ∧ Below w.heap.size w w' := by
  have eqp : ∀ W : World, (Op.equalIn 10000 32 (.agg #[.int .i64 8, .int .i64 0, .int .i64 0, .int .i64 0, .string { data := #[] }, .int .i64 0, .int .i64 5, .int .i64 1, .int .i64 2, .int .i64 0, .int .i64 3, .int .i64 0]) (.agg #[.int .i64 8, .int .i64 0, .int .i64 0, .int .i64 0, .string { data := #[] }, .int .i64 0, .int .i64 5, .int .i64 1, .int .i64 2, .int .i64 0, .int .i64 3, .int .i64 0])).run Tryd.prog W = .ok true W := fun W => by
    have h := eqEv (⟨8, 0, 0, 0, { data := #[] }, 0, 5, 1, 2, 0, 3, 0⟩ : Ev) (⟨8, 0, 0, 0, { data := #[] }, 0, 5, 1, 2, 0, 3, 0⟩ : Ev) Lo.e0_ok Lo.e0_ok W
    rw [decide_eq_true rfl] at h
    exact h
  have k0 : Below w.heap.size w (w.alloc (.cells #[.int .i64 8, .int .i64 0, .int .i64 0, .int .i64 0, .string { data := #[] }, .int .i64 0, .int .i64 5, .int .i64 1, .int .i64 2, .int .i64 0, .int .i64 3, .int .i64 0] 32)) := (Below.refl _ _).alloc (Nat.le_refl _) _
  obtain ⟨X, hX⟩ : ∃ X, w.heap.size = X := ⟨_, rfl⟩
  have HB : Hid (Blk (w.alloc (.cells #[.int .i64 8, .int .i64 0, .int .i64 0, .int .i64 0, .string { data := #[] }, .int .i64 0, .int .i64 5, .int .i64 1, .int .i64 2, .int .i64 0, .int .i64 3, .int .i64 0] 32)) X [.int .i64 8, .int .i64 0, .int .i64 0, .int .i64 0, .string { data := #[] }, .int .i64 0, .int .i64 5, .int .i64 1, .int .i64 2, .int .i64 0, .int .i64 3, .int .i64 0] 32 ∧ Below w.heap.size w (w.alloc (.cells #[.int .i64 8, .int .i64 0, .int .i64 0, .int .i64 0, .string { data := #[] }, .int .i64 0, .int .i64 5, .int .i64 1, .int .i64 2, .int .i64 0, .int .i64 3, .int .i64 0] 32))) := Lib.hid ⟨by rw [← hX]; exact Blk.newA _ _ _, k0⟩
  have HI := Lib.hid (And.intro htab (And.intro hni (And.intro hwi hsi)))
  obtain ⟨R, hR⟩ : ∃ R : ByteArray, ({ data := #[115, 116, 101, 112, 32, 48, 32, 53, 32, 49, 32, 109, 97, 116, 99, 104, 32, 48, 32, 51, 32, 114, 117, 110] } : ByteArray) = R := ⟨_, rfl⟩
  have HR : Hid (Lo.pr (⟨8, 0, 0, 0, { data := #[] }, 0, 5, 1, 2, 0, 3, 0⟩ : Ev) = (R, 0)) := Lib.hid (by rw [← hR]; exact Lo.e0_pr)
  have b1 := Lo.txt_eq (W := R) (l := [115, 116, 101, 112, 32, 48, 32, 53, 32, 49, 32, 109, 97, 116, 99, 104, 32, 48, 32, 51, 32, 114, 117, 110]) (by rw [← hR])
  clear htab hni hwi hsi k0 hR
  go_enter Tryd.func8, Tryd.ntmps8
  go_upto_region 2 with fail
  clear hX
  revert HB
  generalize (w.alloc (.cells #[.int .i64 8, .int .i64 0, .int .i64 0, .int .i64 0, .string { data := #[] }, .int .i64 0, .int .i64 5, .int .i64 1, .int .i64 2, .int .i64 0, .int .i64 3, .int .i64 0] 32)) = W1
  intro HB
  have d0 := HB.out.1.cell (i := 0) rfl
  have d1 := HB.out.1.cell (i := 1) rfl
  have d2 := HB.out.1.cell (i := 2) rfl
  have d3 := HB.out.1.cell (i := 3) rfl
  have d4 := HB.out.1.cell (i := 4) rfl
  have d5 := HB.out.1.cell (i := 5) rfl
  have d6 := HB.out.1.cell (i := 6) rfl
  have d7 := HB.out.1.cell (i := 7) rfl
  have d8 := HB.out.1.cell (i := 8) rfl
  have d9 := HB.out.1.cell (i := 9) rfl
  have d10 := HB.out.1.cell (i := 10) rfl
  have d11 := HB.out.1.cell (i := 11) rfl
  go_upto_region 3 with (go_at_call 12; (with_reducible refine (lo_print12 8 0 0 0 { data := #[] } 0 5 1 2 0 3 0 Lo.e0_ok Lo.z_size R 0 HR.out _ (tab_below HB.out.2 HI.out.1) (HI.out.2.2.1.below HB.out.2) (HI.out.2.2.2.below HB.out.2)).mono ?_); rintro e1 V2 ⟨rfl, q3⟩; have HBn := Lib.hid (And.intro (HB.out.1.chg (l := []) (Chg.of_fresh q3) (by simp)) (HB.out.2.trans (q3.mono HB.out.2.size))); clear HB; have HB := HBn; clear HBn q3)
  clear d0 d1 d2 d3 d4 d5 d6 d7 d8 d9 d10 d11
  go_upto_region 4 with (go_at_call 7; (with_reducible refine (lo_parse12 ({ data := #[115, 116, 101, 112, 32, 48, 32, 53, 32, 49, 32, 109, 97, 116, 99, 104, 32, 48, 32, 51, 32, 114, 117, 110] } : ByteArray) Lo.e0_size 8 0 0 0 { data := #[] } 0 5 1 2 0 3 0 0 Lo.e0_parse _ (tab_below HB.out.2 HI.out.1) (HI.out.2.1.below HB.out.2) (HI.out.2.2.1.below HB.out.2) (HI.out.2.2.2.below HB.out.2)).mono ?_); rintro e1 V3 ⟨rfl, q3⟩; have HBn := Lib.hid (And.intro (HB.out.1.chg (l := []) (Chg.of_fresh q3) (by simp)) (HB.out.2.trans (q3.mono HB.out.2.size))); clear HB; have HB := HBn; clear HBn q3)
  have HC : Hid (Blk (V3.alloc (.cells #[.int .i64 8, .int .i64 0, .int .i64 0, .int .i64 0, .string { data := #[] }, .int .i64 0, .int .i64 5, .int .i64 1, .int .i64 2, .int .i64 0, .int .i64 3, .int .i64 0] 32)) X [.int .i64 8, .int .i64 0, .int .i64 0, .int .i64 0, .string { data := #[] }, .int .i64 0, .int .i64 5, .int .i64 1, .int .i64 2, .int .i64 0, .int .i64 3, .int .i64 0] 32 ∧ Blk (V3.alloc (.cells #[.int .i64 8, .int .i64 0, .int .i64 0, .int .i64 0, .string { data := #[] }, .int .i64 0, .int .i64 5, .int .i64 1, .int .i64 2, .int .i64 0, .int .i64 3, .int .i64 0] 32)) V3.heap.size [.int .i64 8, .int .i64 0, .int .i64 0, .int .i64 0, .string { data := #[] }, .int .i64 0, .int .i64 5, .int .i64 1, .int .i64 2, .int .i64 0, .int .i64 3, .int .i64 0] 32 ∧ Below w.heap.size w (V3.alloc (.cells #[.int .i64 8, .int .i64 0, .int .i64 0, .int .i64 0, .string { data := #[] }, .int .i64 0, .int .i64 5, .int .i64 1, .int .i64 2, .int .i64 0, .int .i64 3, .int .i64 0] 32))) := Lib.hid (by
    have q3 : Below V3.heap.size V3 (V3.alloc (.cells #[.int .i64 8, .int .i64 0, .int .i64 0, .int .i64 0, .string { data := #[] }, .int .i64 0, .int .i64 5, .int .i64 1, .int .i64 2, .int .i64 0, .int .i64 3, .int .i64 0] 32)) := (Below.refl _ _).alloc (Nat.le_refl _) _
    exact ⟨HB.out.1.chg (l := []) (Chg.of_fresh q3) (by simp), Blk.newA _ _ _, HB.out.2.trans (q3.mono HB.out.2.size)⟩)
  clear HB
  revert HC
  generalize (V3.alloc (.cells #[.int .i64 8, .int .i64 0, .int .i64 0, .int .i64 0, .string { data := #[] }, .int .i64 0, .int .i64 5, .int .i64 1, .int .i64 2, .int .i64 0, .int .i64 3, .int .i64 0] 32)) = W4
  generalize V3.heap.size = Y
  intro HC
  have d0 := HC.out.1.cell (i := 0) rfl
  have d1 := HC.out.1.cell (i := 1) rfl
  have d2 := HC.out.1.cell (i := 2) rfl
  have d3 := HC.out.1.cell (i := 3) rfl
  have d4 := HC.out.1.cell (i := 4) rfl
  have d5 := HC.out.1.cell (i := 5) rfl
  have d6 := HC.out.1.cell (i := 6) rfl
  have d7 := HC.out.1.cell (i := 7) rfl
  have d8 := HC.out.1.cell (i := 8) rfl
  have d9 := HC.out.1.cell (i := 9) rfl
  have d10 := HC.out.1.cell (i := 10) rfl
  have d11 := HC.out.1.cell (i := 11) rfl
  have e0 := HC.out.2.1.cell (i := 0) rfl
  have e1 := HC.out.2.1.cell (i := 1) rfl
  have e2 := HC.out.2.1.cell (i := 2) rfl
  have e3 := HC.out.2.1.cell (i := 3) rfl
  have e4 := HC.out.2.1.cell (i := 4) rfl
  have e5 := HC.out.2.1.cell (i := 5) rfl
  have e6 := HC.out.2.1.cell (i := 6) rfl
  have e7 := HC.out.2.1.cell (i := 7) rfl
  have e8 := HC.out.2.1.cell (i := 8) rfl
  have e9 := HC.out.2.1.cell (i := 9) rfl
  have e10 := HC.out.2.1.cell (i := 10) rfl
  have e11 := HC.out.2.1.cell (i := 11) rfl
  go_wp2_with fail
  go_ret
  exact ⟨rfl, HC.out.2.2⟩
end Go.Proofs.YtfhhkmjjifbfeaaDoor
