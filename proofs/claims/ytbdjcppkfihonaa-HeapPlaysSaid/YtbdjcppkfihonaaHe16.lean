/- Heap: the document's Find, Cut, Due. -/
import Derived.Test.YtbdjcppkfihonaaHe15
import Derived.WalkKit
import Derived.ProofKit
import Derived.Handy
import Derived.WalkLawsBesides
import Derived.WalkSpells
import Derived.Lib.Hide
import Derived.RegionTactic
import Derived.ChangeAlike
import Derived.WalkSmall
import Derived.Deep.QuietTactic
import Derived.BigQuiet
import Derived.OwnWalk
import Derived.Outline
import Derived.Deep.CutRange
import Derived.Deep.CutBlock
import Derived.LoopTactic
namespace Go.Proofs.Ytbdjcppkfihonaa
open Go.ChangeShapes Go.WideShapes Go.ChangeAt Go.RowKit
set_option linter.unusedSimpArgs false
set_option linter.unusedVariables false

/-- Entries that are read anywhere. -/
def EA (w : World) (a : Option Addr) (l : List (Int × Int)) : Prop := (∀ g ∈ rvB a, g < w.heap.size) ∧ ∀ (j : Nat) (x1 x2 : Int), l[j]? = some (x1, x2) → ∃ g o, a = some ⟨g, o, none⟩ ∧ w.cell? ⟨g, o + j * 2, none⟩ = some (.int .i64 x1) ∧ w.cell? ⟨g, o + j * 2 + 1, none⟩ = some (.int .i64 x2)
theorem EA.chg {w w' : World} {a : Option Addr} {l : List (Int × Int)} {x : List Nat} (h : EA w a l) (k : Chg x w w') (hx : ∀ g ∈ rvB a, g ∉ x) : EA w' a l := by
  refine ⟨fun g hg => Nat.lt_of_lt_of_le (h.1 g hg) k.size, fun j x1 x2 hj => ?_⟩
  obtain ⟨g, o, h1, h2, h3⟩ := h.2 j x1 x2 hj
  subst h1
  have hg : g ∈ rvB (some ⟨g, o, none⟩) := by rw [rvB_some]; simp
  exact ⟨g, o, rfl, (k.cell (p := ⟨g, o + j * 2, none⟩) (h.1 g hg) (hx g hg)).trans h2, (k.cell (p := ⟨g, o + j * 2 + 1, none⟩) (h.1 g hg) (hx g hg)).trans h3⟩
theorem EA.below {w w' : World} {a : Option Addr} {l : List (Int × Int)} (h : EA w a l) (k : Below w.heap.size w w') : EA w' a l := h.chg (Chg.of_fresh (l := []) k) (by simp)
theorem EA.drew {w : World} {a : Option Addr} {l : List (Int × Int)} (h : EA w a l) : EA w.drew a l := h
theorem EA.of_rm {w : World} {base n c : Nat} {r : Option Addr} {l : List (Int × Int)} {T : TypeId} (h : RM w base r n c 2 (es l) T) : EA w r l := by
  refine ⟨fun g hg => (h.lt g hg).2, fun j x1 x2 hj => ?_⟩
  have hc := h.er
  obtain ⟨g, h1, h2⟩ := hc.row hj
  subst h1
  obtain ⟨e1, e2⟩ := hc.cells hj
  exact ⟨g, 0, rfl, by rw [Nat.zero_add]; exact e1, by rw [Nat.zero_add]; exact e2⟩
theorem EA.nil (w : World) : EA w none [] := ⟨by simp [rvB], fun j x1 x2 h => by simp at h⟩
theorem EA.at {w : World} {a : Option Addr} {l : List (Int × Int)} (h : EA w a l) {j : Nat} {x1 x2 : Int} (hj : l[j]? = some (x1, x2)) : ∃ g o, a = some ⟨g, o, none⟩ ∧ w.cell? ⟨g, o + j * 2, none⟩ = some (.int .i64 x1) ∧ w.cell? ⟨g, o + j * 2 + 1, none⟩ = some (.int .i64 x2) := h.2 j x1 x2 hj
theorem ER.ea {w : World} {r : Option Addr} {l : List (Int × Int)} (h : ER w r l) (hr : ∀ g ∈ rvB r, g < w.heap.size) : EA w r l := by
  refine ⟨hr, fun j x1 x2 hj => ?_⟩
  obtain ⟨g, h1, h2⟩ := h.row hj
  subst h1
  obtain ⟨e1, e2⟩ := h.cells hj
  exact ⟨g, 0, rfl, by rw [Nat.zero_add]; exact e1, by rw [Nat.zero_add]; exact e2⟩
/-- The place of a number's entry, below 0: it has none. -/
def He.find (l : List (Int × Int)) (id : Int) : Int := match l.findIdx? (fun x => x.2 == id) with
  | some i => i
  | none => -1
theorem find_none {l : List (Int × Int)} {id : Int} (h : ∀ (i : Nat) (x : Int × Int), l[i]? = some x → x.2 ≠ id) : He.find l id = -1 := by
  unfold He.find
  have : l.findIdx? (fun x => x.2 == id) = none := by
    rw [List.findIdx?_eq_none_iff]
    intro x hx
    obtain ⟨i, hi⟩ := List.mem_iff_getElem?.1 hx
    simpa using h i x hi
  rw [this]
theorem find_some {l : List (Int × Int)} {id : Int} {j : Nat} {t : Int} (hj : l[j]? = some (t, id)) (h : ∀ (i : Nat) (x : Int × Int), i < j → l[i]? = some x → x.2 ≠ id) : He.find l id = j := by
  unfold He.find
  have hlt : j < l.length := (List.getElem?_eq_some_iff.1 hj).1
  have : l.findIdx? (fun x => x.2 == id) = some j := by
    rw [List.findIdx?_eq_some_iff_getElem]
    refine ⟨hlt, ?_, fun i hi => ?_⟩
    · rw [List.getElem?_eq_getElem hlt] at hj; injection hj with hj; rw [hj]; simp
    · have := h i _ hi (List.getElem?_eq_getElem (by omega))
      simpa using this
  rw [this]
set_option maxRecDepth 20000 in
set_option maxHeartbeats 4000000 in
theorem rf_find5 (l : List (Int × Int)) (n c : Nat) (hn : l.length = n) (hn6 : n ≤ 1000000) (a : Option Addr) (id : Int) (w : World) (h : EA w a l) : Calls Try.prog 19 #[.slice a n c, .int .i64 id] w fun e w' => e = .returned (.int .i64 (He.find l id)) ∧ w = w' := by
  have H := Lib.hid (And.intro hn h)
  clear hn h
  go_enter Try.func19, Try.ntmps19
  go_wp2_with fail
  go_loopw [5] (fun iv wr => ∃ j : Nat, j ≤ n ∧ iv = .int .i64 j ∧ Hid (w = wr ∧ ∀ (i : Nat) (x : Int × Int), i < j → l[i]? = some x → x.2 ≠ id)) (fun iv _ => n - (intOf iv).toNat)
  case atStart => exact ⟨0, by omega, rfl, Lib.hid ⟨rfl, fun i x hi => by omega⟩⟩
  case round =>
    obtain ⟨j, hj, rfl, HR⟩ := hrel
    obtain rfl := HR.out.1
    have j0 : (0 : Int) ≤ (j : Int) := by omega
    by_cases hlt : j < n
    · have jI : (j : Int) < (n : Int) := by omega
      obtain ⟨⟨x1, x2⟩, hx⟩ : ∃ x, l[j]? = some x := ⟨_, List.getElem?_eq_getElem (by rw [H.out.1]; exact hlt)⟩
      obtain ⟨g, o, rfl, d0, d1⟩ := H.out.2.at hx
      have HX := Lib.hid hx
      clear hx
      by_cases he : x2 = id
      · have hb : (x2 == id) = true := by rw [beq_iff_eq]; exact he
        have HE := Lib.hid he
        clear he
        go_wp2
        go_ret
        exact ⟨by rw [find_some (by rw [← HE.out]; exact HX.out) HR.out.2]; rfl, rfl⟩
      · have hb : (x2 == id) = false := by rw [beq_eq_false_iff_ne]; exact he
        have HN : Hid (w = w ∧ ∀ (i : Nat) (x : Int × Int), i < j + 1 → l[i]? = some x → x.2 ≠ id) := Lib.hid ⟨rfl, fun i x hi hx => by
          by_cases e : i = j
          · subst e; rw [HX.out] at hx; injection hx with hx; rw [← hx]; exact he
          · exact HR.out.2 i x (by omega) hx⟩
        clear he
        go_wp2
        refine ⟨?_, ?measure⟩
        case measure => simp [intOf]; omega
        first
          | exact ⟨j + 1, by omega, by go_num, (by first | exact HN | exact Lib.hid ⟨trivial, HN.out.2⟩)⟩
          | ((repeat apply Exists.intro); exact ⟨⟨j + 1, by omega, by go_num, (by first | exact HN | exact Lib.hid ⟨trivial, HN.out.2⟩)⟩, rfl⟩)
    · obtain rfl : j = n := by omega
      have jI : ¬ (j : Int) < (j : Int) := by omega
      go_wp2
      go_ret
      exact ⟨by rw [find_none fun i x hx => HR.out.2 i x (by rw [← H.out.1]; exact (List.getElem?_eq_some_iff.1 hx).1) hx]; rfl, rfl⟩
theorem cut_take (l : List (Int × Int)) (id : Int) (j : Nat) (x : Int × Int) (hx : l[j]? = some x) : He.cut (l.take (j + 1)) id = if x.2 = id then He.cut (l.take j) id else He.cut (l.take j) id ++ [x] := by
  have hlt : j < l.length := (List.getElem?_eq_some_iff.1 hx).1
  rw [List.getElem?_eq_getElem hlt] at hx
  injection hx with hx
  unfold He.cut
  rw [List.take_succ_eq_append_getElem hlt, hx, List.filter_append]
  by_cases he : x.2 = id
  · simp [he]
  · simp [he]
theorem RM.rn {w : World} {base n c g : Nat} {l : List (Int × Int)} {T : TypeId} (h : RM w base (some ⟨g, 0, none⟩) n c 2 (es l) T) : Rn w g c 2 (es l) T := by
  obtain ⟨h0, h1, h2 | ⟨g2, h2, h3, h4⟩⟩ := h
  · exact absurd h2.1 (by simp)
  · injection h2 with h2; injection h2 with h2; rw [h2]; exact h4
theorem RM.rlen {w : World} {base n c : Nat} {r : Option Addr} {l : List (Int × Int)} {T : TypeId} (h : RM w base r n c 2 (es l) T) : l.length = n := by
  have := h.1; rw [es_length] at this; omega
set_option maxRecDepth 20000 in
set_option maxHeartbeats 4000000 in
theorem rf_cut5 (l : List (Int × Int)) (n c : Nat) (hn : l.length = n) (hn6 : n ≤ 100000) (a : Option Addr) (id : Int) (w : World) (h : EA w a l) : Calls Try.prog 20 #[.slice a n c, .int .i64 id] w fun e w' => ∃ g n' c', e = .returned (.slice (some ⟨g, 0, none⟩) n' c') ∧ Rn w' g c' 2 (es (He.cut l id)) 38 ∧ (He.cut l id).length = n' ∧ w.heap.size ≤ g ∧ Below w.heap.size w w' := by
  have H := Lib.hid (And.intro hn h)
  clear hn h
  go_enter Try.func20, Try.ntmps20
  go_wp2_with fail
  have HB : Hid (RM (w.alloc (.cells #[] 38)) w.heap.size (some ⟨w.heap.size, 0, none⟩) 0 0 2 (es (He.cut (l.take 0) id)) 38 ∧ Below w.heap.size w (w.alloc (.cells #[] 38))) := Lib.hid ⟨⟨by simp [es, He.cut], by simp, Or.inr ⟨_, rfl, Nat.le_refl _, by simpa [es, He.cut] using Rn.empty w 2 38⟩⟩, (Below.refl _ _).alloc (Nat.le_refl _) _⟩
  revert HB
  generalize (w.alloc (.cells #[] 38)) = W1
  intro HB
  go_wp2_with fail
  go_loopw [5, 6] (fun sv iv wr => ∃ (j g' n' c' : Nat), j ≤ n ∧ n' ≤ j ∧ sv = .slice (some ⟨g', 0, none⟩) n' c' ∧ iv = .int .i64 j ∧ Hid (RM wr w.heap.size (some ⟨g', 0, none⟩) n' c' 2 (es (He.cut (l.take j) id)) 38 ∧ Below w.heap.size w wr)) (fun _ iv _ => n - (intOf iv).toNat)
  case atStart => exact ⟨0, _, 0, 0, by omega, by omega, rfl, rfl, HB⟩
  case round =>
    clear HB
    obtain ⟨j, gr, n', c', hj, hnj, rfl, rfl, HR⟩ := hrel
    have j0 : (0 : Int) ≤ (j : Int) := by omega
    by_cases hlt : j < n
    · have jI : (j : Int) < (n : Int) := by omega
      obtain ⟨⟨x1, x2⟩, hx⟩ : ∃ x, l[j]? = some x := ⟨_, List.getElem?_eq_getElem (by rw [H.out.1]; exact hlt)⟩
      obtain ⟨g, o, rfl, d0, d1⟩ := (H.out.2.chg (Chg.of_fresh (l := []) HR.out.2) (by simp)).at hx
      have HX := Lib.hid (cut_take l id j _ hx)
      clear hx
      by_cases he : x2 = id
      · have hb : (x2 != id) = false := by simpa using he
        have HN : Hid (RM wr w.heap.size (some ⟨gr, 0, none⟩) n' c' 2 (es (He.cut (l.take (j + 1)) id)) 38 ∧ Below w.heap.size w wr) := Lib.hid (by rw [HX.out, if_pos he]; exact HR.out)
        clear he
        go_wp2
        refine ⟨?_, ?measure⟩
        case measure => simp [intOf]; omega
        first
          | exact ⟨j + 1, gr, n', c', by omega, by omega, rfl, by go_num, HN⟩
          | ((repeat apply Exists.intro); exact ⟨⟨j + 1, gr, n', c', by omega, by omega, rfl, by go_num, HN⟩, rfl⟩)
      · have hb : (x2 != id) = true := by simpa using he
        have HE : Hid (He.cut (l.take (j + 1)) id = He.cut (l.take j) id ++ [(x1, x2)]) := Lib.hid (by rw [HX.out, if_neg he])
        clear he
        go_wp2_with (at_builtin; refine wpList_append_rm _ rfl (.tmp 21) (.tmp 26) 25 25 rfl 38 (.agg #[.int .i64 0, .int .i64 0]) 2 16 Try.underlying25 infoE rfl w.heap.size (some ⟨gr, 0, none⟩) n' c' _ rfl (HR.out.1.chg (l := []) ((Chg.refl _ _).alloc _) (by simp)) _ rfl 1 (by omega) [.int .i64 x1, .int .i64 x2] (Src.ofSlice _ Try.underlying25 _ _ _ _ rfl (fun i u hi => by rw [Addr.add_lit, Nat.zero_add]; exact (Blk.newA wr #[.int .i64 x1, .int .i64 x2] 38).cell hi) (by intro v hv; simp at hv; rcases hv with rfl | rfl <;> rfl)) (by omega) (by omega) ?_; intro g' c2 w4 q1 q2 q3; rw [← es_snoc, ← HE.out] at q1; have HN : Hid (RM w4 w.heap.size (some ⟨g', 0, none⟩) (n' + 1) c2 2 (es (He.cut (l.take (j + 1)) id)) 38 ∧ Below w.heap.size w w4) := Lib.hid ⟨q1, q3.onto (HR.out.2.alloc HR.out.2.size _) (by simp; have := HR.out.2.size; omega) (fun x hx => (HR.out.1.lt x hx).1)⟩; clear q1 q2 q3)
        all_goals
          refine ⟨?_, ?measure⟩
          case measure => simp [intOf]; omega
          first
            | exact ⟨j + 1, _, n' + 1, c2, by omega, by omega, rfl, by go_num, HN⟩
            | ((repeat apply Exists.intro); exact ⟨⟨j + 1, _, n' + 1, c2, by omega, by omega, rfl, by go_num, HN⟩, rfl⟩)
    · obtain rfl : j = n := by omega
      have jI : ¬ (j : Int) < (j : Int) := by omega
      have HN := Lib.hid (show RM wr w.heap.size (some ⟨gr, 0, none⟩) n' c' 2 (es (He.cut l id)) 38 by have := HR.out.1; rw [List.take_of_length_le (by rw [H.out.1]; exact Nat.le_refl _)] at this; exact this)
      go_wp2
      go_ret
      exact ⟨gr, n', c', rfl, HN.out.rn, HN.out.rlen, (HN.out.lt gr (by rw [rvB_some]; simp)).1, HR.out.2⟩
set_option maxRecDepth 20000 in
set_option maxHeartbeats 4000000 in
theorem rf_due5 (l : List (Int × Int)) (n c : Nat) (hn : l.length = n) (hn6 : n ≤ 1000000) (hl : ∀ x ∈ l, x.1 ≤ 9223372036854775807) (a : Option Addr) (now : Int) (hnow : now ≤ 9223372036854775807) (d : Nat) (hd : (l.takeWhile (fun x => Tk.dueB x.1 now)).length = d) (w : World) (h : EA w a l) : Calls Try.prog 22 #[.slice a n c, .int .i64 now] w fun e w' => e = .returned (.int .i64 d) ∧ w = w' := by
  have hdl : d ≤ n := by rw [← hd, ← hn]; exact tw_le _ l
  have hlt : ∀ j, j < d → ∃ x, l[j]? = some x ∧ Tk.dueB x.1 now = true := fun j hj => tw_lt (fun x => Tk.dueB x.1 now) l j (by rw [hd]; exact hj)
  have heq : ∀ x, l[d]? = some x → Tk.dueB x.1 now = false := fun x hx => tw_eq (fun x => Tk.dueB x.1 now) l x (by rw [hd]; exact hx)
  have H := Lib.hid (And.intro hn (And.intro h (And.intro hlt (And.intro heq hl))))
  clear hn h hlt heq hd hl
  go_enter Try.func22, Try.ntmps22
  go_wp2_with fail
  go_loopw [5] (fun iv wr => ∃ j : Nat, j ≤ d ∧ iv = .int .i64 j ∧ w = wr) (fun iv _ => n - (intOf iv).toNat)
  case atStart => exact ⟨0, by omega, rfl, rfl⟩
  case round =>
    obtain ⟨j, hj, rfl, rfl⟩ := hrel
    have j0 : (0 : Int) ≤ (j : Int) := by omega
    by_cases hlt : j < n
    · have jI : (j : Int) < (n : Int) := by omega
      obtain ⟨⟨x1, x2⟩, hx⟩ : ∃ x, l[j]? = some x := ⟨_, List.getElem?_eq_getElem (by rw [H.out.1]; exact hlt)⟩
      obtain ⟨g, o, rfl, d0, d1⟩ := H.out.2.1.at hx
      have HX := Lib.hid hx
      have hx1 := H.out.2.2.2.2 _ (List.mem_of_getElem? hx)
      dsimp only at hx1
      clear hx
      by_cases hjd : j < d
      · have HD : Hid (Tk.dueB x1 now = true) := Lib.hid (by
          obtain ⟨x, hx, hp⟩ := H.out.2.2.1 j hjd
          rw [HX.out] at hx; injection hx with hx; rw [← hx] at hp; exact hp)
        go_wp2_with (go_at_call 28; refine (rdue_any x1 now hx1 hnow _).mono ?_; rintro e W3 ⟨rfl, rfl⟩; rw [HD.out])
        refine ⟨?_, ?measure⟩
        case measure => simp [intOf]; omega
        first
          | exact ⟨j + 1, by omega, by go_num, rfl⟩
          | exact ⟨j + 1, by omega, by go_num, trivial⟩
          | ((repeat apply Exists.intro); exact ⟨⟨j + 1, by omega, by go_num, (by first | rfl | trivial)⟩, rfl⟩)
      · obtain rfl : j = d := by omega
        have HD : Hid (Tk.dueB x1 now = false) := Lib.hid (H.out.2.2.2.1 _ HX.out)
        go_wp2_with (go_at_call 28; refine (rdue_any x1 now hx1 hnow _).mono ?_; rintro e W3 ⟨rfl, rfl⟩; rw [HD.out])
        go_ret
        exact ⟨rfl, rfl⟩
    · obtain rfl : j = d := by omega
      have jI : ¬ (j : Int) < (n : Int) := by omega
      go_wp2
      go_ret
      exact ⟨rfl, rfl⟩
end Go.Proofs.Ytbdjcppkfihonaa
