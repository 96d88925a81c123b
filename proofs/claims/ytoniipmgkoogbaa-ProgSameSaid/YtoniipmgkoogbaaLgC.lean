/- Several texts in one. -/
import Derived.Test.YtoniipmgkoogbaaLg10
import Derived.Test.YtoniipmgkoogbaaCsRA
import Derived.Test.YtoniipmgkoogbaaGl13
/- Patterns: the document's Least, Void, Starts. -/
namespace Go.Proofs.Ytoniipmgkoogbaa
open Go.ChangeShapes Go.WideShapes Go.ChangeAt Go.RowKit
set_option linter.unusedSimpArgs false
set_option linter.unusedVariables false

theorem memT_nil (X : BitVec 256) : Cs.memT X 256 = [] ↔ X = 0 := by
  constructor
  · intro h
    refine Cs.ext_get fun i hi => ?_
    unfold Cs.memT at h
    rw [List.map_eq_nil_iff, List.filter_eq_nil_iff] at h
    have := h i (List.mem_range.2 hi)
    simpa using this
  · rintro rfl
    unfold Cs.memT
    simp
/-- The places ahead of k from which a pattern occurs to tt. -/
def Lg.pre (l : List (Bool × BitVec 256)) (t : List UInt8) (tt k : Nat) : List Nat := (List.range k).filter fun i => Lg.D (lgL l) (lgT t) i l.length tt
theorem pre_all (l : List (Bool × BitVec 256)) (t : List UInt8) (tt : Nat) : Lg.pre l t tt (tt + 1) = Lg.starts l t tt := by
  unfold Lg.pre Lg.starts; rw [List.range_eq_range']
theorem pre_yes {l : List (Bool × BitVec 256)} {t : List UInt8} {tt k : Nat} (h : Lg.D (lgL l) (lgT t) k l.length tt = true) : Lg.pre l t tt (k + 1) = Lg.pre l t tt k ++ [k] := by
  unfold Lg.pre; rw [List.range_succ, List.filter_append]; simp [h]
theorem pre_no {l : List (Bool × BitVec 256)} {t : List UInt8} {tt k : Nat} (h : Lg.D (lgL l) (lgT t) k l.length tt = false) : Lg.pre l t tt (k + 1) = Lg.pre l t tt k := by
  unfold Lg.pre; rw [List.range_succ, List.filter_append]; simp [h]
end Go.Proofs.Ytoniipmgkoogbaa
/- Patterns: lists taken, numbers the same, what matches. -/
namespace Go.Proofs.Ytoniipmgkoogbaa
open Go.ChangeShapes Go.WideShapes Go.ChangeAt Go.RowKit
set_option linter.unusedSimpArgs false
set_option linter.unusedVariables false

/-- Items as Few gives them. -/
def IK (w : World) (a : Option Addr) (l : List (Bool × BitVec 256)) : Prop := LI w a l ∧ (a = none ∨ ∃ g, a = some ⟨g, 0, none⟩)
theorem IK.below {w w' : World} {a : Option Addr} {l : List (Bool × BitVec 256)} (h : IK w a l) (k : Below w.heap.size w w') : IK w' a l := ⟨h.1.below k, h.2⟩
theorem IK.ia {w : World} {a : Option Addr} {l : List (Bool × BitVec 256)} (h : IK w a l) : IA w a l := h.1.any
theorem IK.ij {w : World} {a : Option Addr} {l : List (Bool × BitVec 256)} (h : IK w a l) : IJ w a l := ⟨h.1.any, by
  rcases h.2 with h | ⟨g, h⟩
  · exact Or.inl h
  · exact Or.inr ⟨g, 0, h⟩⟩
theorem own_ik {w : World} {base : Nat} {v : Value} {n : Nat} {l : List (Bool × BitVec 256)} (h : w.ownsRow base 69 5 v n (its l)) : ∃ a c, v = .slice a l.length c ∧ IK w a l := by
  obtain ⟨a, c, hv, hl⟩ := LI.own h
  refine ⟨a, c, hv, hl, ?_⟩
  rcases h.2 with ⟨h1, h2⟩ | ⟨g, cap, cur, h1, _⟩
  · rw [h1] at hv; injection hv with e; exact Or.inl e.symm
  · rw [h1] at hv; injection hv with e; exact Or.inr ⟨g, e.symm⟩
theorem m_least {L : LgL} {T : LgT} {i : Nat} : ∀ {k n : Nat}, Lg.D L T i k n = true → i + ((List.range k).countP fun j => !(L j).1) ≤ n
  | 0, n, h => by rw [lgD_zero, beq_iff_eq] at h; simp; omega
  | k + 1, n, h => by
    obtain ⟨m, h1, h2⟩ := (lgD_back L T i k n).1 h
    have := m_least h1
    rw [List.range_succ, List.countP_append]
    have hle := lgone_le h2
    cases hr : (L k).1 with
    | true => simp [hr]; omega
    | false =>
      unfold Lg.one at h2
      rw [hr, if_neg (by simp), Bool.and_eq_true] at h2
      have := of_decide_eq_true h2.1
      simp [hr]; omega
theorem least_pre (l : List (Bool × BitVec 256)) : ∀ k, k ≤ l.length → Lg.least (l.take k) = ((List.range k).countP fun j => !(lgL l j).1)
  | 0, _ => by simp [Lg.least]
  | k + 1, hk => by
    obtain ⟨x, hx⟩ : ∃ x, l[k]? = some x := ⟨_, List.getElem?_eq_getElem (by omega)⟩
    obtain ⟨r, X⟩ := x
    have e : lgL l k = (r, X) := by unfold lgL; rw [hx]; rfl
    rw [least_take hx, least_pre l k (by omega), List.range_succ, List.countP_append]
    cases r <;> simp [e]
theorem least_fun (l : List (Bool × BitVec 256)) : Lg.least l = ((List.range l.length).countP fun j => !(lgL l j).1) := by
  rw [← least_pre l l.length (Nat.le_refl _), List.take_length]
/-- What matches is long enough. -/
theorem m_long {l : List (Bool × BitVec 256)} {t : List UInt8} (h : Lg.m l t = true) : Lg.least l ≤ t.length := by
  have := m_least h
  rw [least_fun]; omega
theorem m_fits {L : LgL} {T : LgT} {i : Nat} : ∀ {k n : Nat}, Lg.D L T i k n = true → ∀ j, j < k → (L j).1 = false → (L j).2 ≠ 0
  | 0, n, h, j, hj => absurd hj (by omega)
  | k + 1, n, h, j, hj => by
    obtain ⟨m, h1, h2⟩ := (lgD_back L T i k n).1 h
    by_cases e : j = k
    · subst e
      intro hr h0
      unfold Lg.one Lg.fits at h2
      rw [hr, if_neg (by simp), h0, Bool.and_eq_true] at h2
      have := h2.2
      simp at this
    · exact m_fits h1 j (by omega)
/-- What matches is not void. -/
theorem m_void {l : List (Bool × BitVec 256)} {t : List UInt8} (h : Lg.m l t = true) : Lg.void l = false := by
  unfold Lg.void
  rw [List.any_eq_false]
  intro x hx
  obtain ⟨j, hj⟩ := List.getElem?_of_mem hx
  have hlt := (List.getElem?_eq_some_iff.1 hj).1
  have := m_fits h j hlt
  unfold lgL at this
  rw [hj] at this
  simp only [Option.getD_some] at this
  cases hr : x.1 with
  | true => simp
  | false => rw [decide_eq_false (this hr)]; simp
/-- The empty text. -/
theorem m_empty (l : List (Bool × BitVec 256)) : Lg.m l [] = decide (Lg.least l = 0) := by
  apply bool_iff
  rw [decide_eq_true_iff]
  constructor
  · intro h
    have := m_long h
    simpa using this
  · intro h
    unfold Lg.m
    have hr : ∀ j, j < l.length → (lgL l j).1 = true := by
      intro j hj
      rw [least_fun, List.countP_eq_zero] at h
      have := h j (List.mem_range.2 hj)
      simpa using this
    have : ∀ k, k ≤ l.length → Lg.D (lgL l) (lgT []) 0 k 0 = true := by
      intro k
      induction k with
      | zero => intro _; rw [lgD_zero]; rfl
      | succ k ih => intro hk; rw [lgD_run0 (hr k (by omega))]; exact ih (by omega)
    exact this l.length (Nat.le_refl _)
end Go.Proofs.Ytoniipmgkoogbaa
/- Patterns: the document's Ends, First. -/
namespace Go.Proofs.Ytoniipmgkoogbaa
open Go.ChangeShapes Go.WideShapes Go.ChangeAt Go.RowKit
set_option linter.unusedSimpArgs false
set_option linter.unusedVariables false

theorem occ_starts (l : List (Bool × BitVec 256)) (t : List UInt8) (k : Nat) (b : Bool) (hb : Lg.occ l t k = b) (L : List Nat) (hL : Lg.starts l t k = L) : (b = true → ∃ y Ls, L = y :: Ls) ∧ (b = false → L = []) := by
  constructor
  · intro h
    subst h
    obtain ⟨y, Ls, e⟩ := starts_occ l t k hb
    exact ⟨y, Ls, by rw [← hL, e]⟩
  · intro h
    subst h
    rw [← hL]; exact starts_no l t k hb
end Go.Proofs.Ytoniipmgkoogbaa
/- Patterns: a pattern is found. -/
namespace Go.Proofs.Ytoniipmgkoogbaa
open Go.ChangeShapes Go.WideShapes Go.ChangeAt Go.RowKit
set_option linter.unusedSimpArgs false
set_option linter.unusedVariables false

theorem lv_first : Lg.firstR [(false, Cs.ofL [97]), (true, 0), (false, Cs.ofL [98])] [120, 97, 97, 98] = (1, 4, true) := by decide +kernel
theorem lv_yes : Lg.m [(false, Cs.ofL [97]), (true, 0), (false, Cs.ofL [98])] [97, 98] = true := by decide +kernel
theorem lv_no : Lg.m [(false, Cs.ofL [97]), (true, 0), (false, Cs.ofL [98])] [97] = false := by decide +kernel
theorem lv_items (X Y : BitVec 256) (W : World) : IK (W.alloc (.cells #[.bool false, .int .u64 (Cs.wd X 0), .int .u64 (Cs.wd X 1), .int .u64 (Cs.wd X 2), .int .u64 (Cs.wd X 3), .bool true, .int .u64 0, .int .u64 0, .int .u64 0, .int .u64 0, .bool false, .int .u64 (Cs.wd Y 0), .int .u64 (Cs.wd Y 1), .int .u64 (Cs.wd Y 2), .int .u64 (Cs.wd Y 3)] 69)) (some ⟨W.heap.size, 0, none⟩) [(false, X), (true, 0), (false, Y)] := by
  refine ⟨Or.inr ⟨W.heap.size, rfl, ?_⟩, Or.inr ⟨_, rfl⟩⟩
  exact IL.blk (Blk.newA W #[.bool false, .int .u64 (Cs.wd X 0), .int .u64 (Cs.wd X 1), .int .u64 (Cs.wd X 2), .int .u64 (Cs.wd X 3), .bool true, .int .u64 0, .int .u64 0, .int .u64 0, .int .u64 0, .bool false, .int .u64 (Cs.wd Y 0), .int .u64 (Cs.wd Y 1), .int .u64 (Cs.wd Y 2), .int .u64 (Cs.wd Y 3)] 69) (fun i v h => h)
end Go.Proofs.Ytoniipmgkoogbaa
/- Patterns: in the laws' words. -/
namespace Go.Proofs.Ytoniipmgkoogbaa
open Go.ChangeShapes Go.WideShapes Go.ChangeAt Go.RowKit
set_option linter.unusedSimpArgs false
set_option linter.unusedVariables false

theorem IK.li {w : World} {a : Option Addr} {l : List (Bool × BitVec 256)} (h : IK w a l) : LI w a l := h.1
theorem cut_m (s t : ByteArray) (m : Nat) (hm : m ≤ 1000) (hs : s.size ≤ maxLen) (ht : cutT s m = t) (mi : Int) (hmi : mi = m) (w : World) :
    Calls Try.prog 20 #[.string s, .int .i64 mi] w fun e w' => e = .returned (.string t) ∧ Below w.heap.size w w' := by
  subst hmi
  refine (cut_any s t m hm hs ht w).mono ?_
  rintro e w' ⟨he, rfl⟩
  exact ⟨he, Below.refl _ _⟩
theorem lg_empty2 (l : List (Bool × BitVec 256)) (m : Nat) (hm : Lg.least l = m) (e0 : Bool) (he : decide (m = 0) = e0) (n : Nat) (a : Option Addr) (c : Nat) (hn : l.length = n) (hn6 : n ≤ 1000000) (w : World) (hI : IA w a l) :
    Calls Try.prog 37 #[.slice a n c] w fun e w' => e = .returned (.bool e0) ∧ Below w.heap.size w w' := by
  rw [← he]; exact lg_empty l m hm n a c hn hn6 w hI
/-- What a law of patterns has at the start: a list, somewhat cut. -/
theorem items_in {w : World} {a : Option Addr} {len cap : Nat} {z : List (Bool × BitVec 256)} (h : IsIt w a len cap z) : z.length = len ∧ len ≤ maxLen ∧ IA w a z := ⟨h.1, Nat.le_trans h.2.1 h.2.2.1, h.2.2.2⟩
end Go.Proofs.Ytoniipmgkoogbaa
