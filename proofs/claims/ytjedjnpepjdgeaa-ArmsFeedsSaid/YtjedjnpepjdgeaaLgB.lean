/- Several texts in one. -/
import Derived.Test.YtjedjnpepjdgeaaLgA
import Derived.Test.YtjedjnpepjdgeaaShelf
/- Patterns: forwards, backwards, behind one another. -/
namespace Go.Proofs.Ytjedjnpepjdgeaa
open Go.ChangeShapes Go.WideShapes Go.ChangeAt Go.RowKit
set_option linter.unusedSimpArgs false
set_option linter.unusedVariables false

/-- One item from i tt m. -/
def Lg.one (x : Bool × BitVec 256) (T : LgT) (i m : Nat) : Bool := if x.1 then decide (i ≤ m) else decide (m = i + 1) && Lg.fits x (T i)
theorem lgone_le {x : Bool × BitVec 256} {T : LgT} {i m : Nat} (h : Lg.one x T i m = true) : i ≤ m := by
  unfold Lg.one at h
  cases hx : x.1 with
  | true => rw [hx, if_pos rfl] at h; exact of_decide_eq_true h
  | false =>
    rw [hx, if_neg (by simp), Bool.and_eq_true] at h
    have := of_decide_eq_true h.1
    omega
theorem lgD_back (L : LgL) (T : LgT) (i k n : Nat) : Lg.D L T i (k + 1) n = true ↔ ∃ m, Lg.D L T i k m = true ∧ Lg.one (L k) T m n = true := by
  unfold Lg.one
  cases hr : (L k).1 with
  | true =>
    rw [lgD_run hr, List.any_eq_true]
    constructor
    · rintro ⟨j, hj, h⟩
      exact ⟨j, h, by rw [if_pos rfl]; exact decide_eq_true (by have := List.mem_range.1 hj; omega)⟩
    · rintro ⟨j, h, hj⟩
      rw [if_pos rfl] at hj
      exact ⟨j, List.mem_range.2 (by have := of_decide_eq_true hj; omega), h⟩
  | false =>
    cases n with
    | zero =>
      rw [lgD_one0 hr]
      constructor
      · intro h; cases h
      · rintro ⟨m, _, h⟩
        rw [if_neg (by simp), Bool.and_eq_true] at h
        have := of_decide_eq_true h.1
        omega
    | succ n =>
      rw [lgD_one hr, Bool.and_eq_true]
      constructor
      · rintro ⟨h1, h2⟩
        exact ⟨n, h1, by rw [if_neg (by simp), h2]; simp⟩
      · rintro ⟨m, h1, h2⟩
        rw [if_neg (by simp), Bool.and_eq_true] at h2
        have := of_decide_eq_true h2.1
        obtain rfl : n = m := by omega
        exact ⟨h1, h2.2⟩
theorem lgD_le {L : LgL} {T : LgT} {i k n : Nat} (h : Lg.D L T i k n = true) : i ≤ n := by
  rcases Nat.lt_or_ge n i with e | e
  · rw [lgD_lt L T i k n e] at h; cases h
  · exact e
theorem lgD_front (T : LgT) : ∀ (k : Nat) (L : LgL) (i n : Nat), Lg.D L T i (k + 1) n = true ↔ ∃ m, Lg.one (L 0) T i m = true ∧ Lg.D (fun x => L (x + 1)) T m k n = true
  | 0, L, i, n => by
    rw [lgD_back]
    constructor
    · rintro ⟨m, h1, h2⟩
      rw [lgD_zero, beq_iff_eq] at h1
      subst h1
      exact ⟨n, h2, by rw [lgD_zero]; simp⟩
    · rintro ⟨m, h1, h2⟩
      rw [lgD_zero, beq_iff_eq] at h2
      subst h2
      exact ⟨i, by rw [lgD_zero]; simp, h1⟩
  | k + 1, L, i, n => by
    rw [lgD_back]
    constructor
    · rintro ⟨m, h1, h2⟩
      obtain ⟨p, h3, h4⟩ := (lgD_front T k L i m).1 h1
      exact ⟨p, h3, (lgD_back (fun x => L (x + 1)) T p k n).2 ⟨m, h4, h2⟩⟩
    · rintro ⟨p, h3, h4⟩
      obtain ⟨m, h5, h6⟩ := (lgD_back (fun x => L (x + 1)) T p k n).1 h4
      exact ⟨m, (lgD_front T k L i m).2 ⟨p, h3, h5⟩, h6⟩
theorem lgone_rev {x : Bool × BitVec 256} {T T' : LgT} {tt m n : Nat} (hT : ∀ q, q < tt → T' q = T (tt - 1 - q)) (hn : n ≤ tt) (hm : m ≤ n) : Lg.one x T' m n = Lg.one x T (tt - n) (tt - m) := by
  unfold Lg.one
  cases x.1 with
  | true => rw [if_pos rfl, if_pos rfl]; congr 1; apply propext; omega
  | false =>
    rw [if_neg (by simp), if_neg (by simp)]
    by_cases e : n = m + 1
    · rw [decide_eq_true e, decide_eq_true (show tt - m = tt - n + 1 by omega), hT m (by omega), show tt - 1 - m = tt - n by omega]
    · rw [decide_eq_false e, decide_eq_false (show ¬ tt - m = tt - n + 1 by omega)]; simp
theorem lgD_rev (T T' : LgT) (tt : Nat) (hT : ∀ q, q < tt → T' q = T (tt - 1 - q)) : ∀ (len : Nat) (L L' : LgL) (n : Nat), (∀ k, k < len → L' k = L (len - 1 - k)) → n ≤ tt → (Lg.D L' T' 0 len n = true ↔ Lg.D L T (tt - n) len tt = true)
  | 0, L, L', n, hL, hn => by
    rw [lgD_zero, lgD_zero, beq_iff_eq, beq_iff_eq]; omega
  | len + 1, L, L', n, hL, hn => by
    rw [lgD_back, lgD_front]
    have h0 : L' len = L 0 := by rw [hL len (by omega)]; congr 1; omega
    have ih := fun m hm => lgD_rev T T' tt hT len (fun x => L (x + 1)) L' m (fun k hk => by rw [hL k (by omega)]; show L _ = L _; congr 1; omega) hm
    rw [h0]
    constructor
    · rintro ⟨m, h1, h2⟩
      have hmn := lgone_le h2
      exact ⟨tt - m, by rw [← lgone_rev hT hn hmn]; exact h2, (ih m (by omega)).1 h1⟩
    · rintro ⟨p, h1, h2⟩
      have hp := lgD_le h2
      have hp2 := lgone_le h1
      have e : tt - (tt - p) = p := by omega
      refine ⟨tt - p, (ih (tt - p) (by omega)).2 (by rw [e]; exact h2), ?_⟩
      rw [lgone_rev hT hn (by omega), e]; exact h1
theorem lgone_shift (x : Bool × BitVec 256) (T : LgT) (i m n : Nat) : Lg.one x (fun q => T (i + q)) m n = Lg.one x T (i + m) (i + n) := by
  unfold Lg.one
  cases x.1 with
  | true => rw [if_pos rfl, if_pos rfl]; congr 1; apply propext; omega
  | false =>
    rw [if_neg (by simp), if_neg (by simp)]
    congr 2
    apply propext; omega
theorem lgD_shift (L : LgL) (T : LgT) (i j : Nat) : ∀ k n, Lg.D L (fun q => T (i + q)) j k n = true ↔ Lg.D L T (i + j) k (i + n) = true
  | 0, n => by rw [lgD_zero, lgD_zero, beq_iff_eq, beq_iff_eq]; omega
  | k + 1, n => by
    rw [lgD_back, lgD_back]
    constructor
    · rintro ⟨m, h1, h2⟩
      exact ⟨i + m, (lgD_shift L T i j k m).1 h1, by rw [← lgone_shift]; exact h2⟩
    · rintro ⟨m, h1, h2⟩
      have := lgD_le h1
      obtain ⟨q, rfl⟩ : ∃ q, m = i + q := ⟨m - i, by omega⟩
      exact ⟨q, (lgD_shift L T i j k q).2 h1, by rw [lgone_shift]; exact h2⟩
theorem lgD_congr {L L2 : LgL} {T T2 : LgT} (i : Nat) : ∀ (k n : Nat), (∀ x, x < k → L x = L2 x) → (∀ x, x < n → T x = T2 x) → Lg.D L T i k n = Lg.D L2 T2 i k n
  | 0, n, hL, hT => by rw [lgD_zero, lgD_zero]
  | k + 1, n, hL, hT => by
    have e := hL k (by omega)
    cases hr : (L k).1 with
    | true =>
      rw [lgD_run hr, lgD_run (by rw [← e]; exact hr)]
      exact any_congr_mem fun j hj => lgD_congr i k j (fun x hx => hL x (by omega)) (fun x hx => hT x (by have := List.mem_range.1 hj; omega))
    | false =>
      have hr2 : (L2 k).1 = false := by rw [← e]; exact hr
      cases n with
      | zero => rw [lgD_one0 hr, lgD_one0 hr2]
      | succ n => rw [lgD_one hr, lgD_one hr2, lgD_congr i k n (fun x hx => hL x (by omega)) (fun x hx => hT x (by omega)), e, hT n (by omega)]
theorem bool_iff {a b : Bool} (h : a = true ↔ b = true) : a = b := by
  cases a <;> cases b <;> simp_all
theorem lgL_rev (l : List (Bool × BitVec 256)) (k : Nat) (hk : k < l.length) : lgL l.reverse k = lgL l (l.length - 1 - k) := by
  unfold lgL
  rw [List.getElem?_reverse hk]
/-- Backwards from a place. -/
theorem lg_backwards (l : List (Bool × BitVec 256)) (T : LgT) (tt n : Nat) (hn : n ≤ tt) : Lg.D (lgL l.reverse) (fun q => T (tt - 1 - q)) 0 l.length n = Lg.D (lgL l) T (tt - n) l.length tt :=
  bool_iff (lgD_rev T _ tt (fun _ _ => rfl) l.length (lgL l) _ n (fun k hk => lgL_rev l k hk) hn)
/-- A piece of a text. -/
theorem lg_piece (l : List (Bool × BitVec 256)) (t : List UInt8) (i tt : Nat) (hi : i ≤ tt) (ht : tt ≤ t.length) : Lg.m l ((t.drop i).take (tt - i)) = Lg.D (lgL l) (lgT t) i l.length tt := by
  unfold Lg.m
  have hlen : ((t.drop i).take (tt - i)).length = tt - i := by rw [List.length_take, List.length_drop]; omega
  rw [hlen, lgD_congr (L2 := lgL l) (T2 := fun q => lgT t (i + q)) 0 l.length (tt - i) (fun _ _ => rfl) (fun x hx => by
    unfold lgT
    rw [List.getElem?_take, if_pos hx, List.getElem?_drop])]
  have := bool_iff (lgD_shift (lgL l) (lgT t) i 0 l.length (tt - i))
  rw [this, Nat.add_zero, show i + (tt - i) = tt by omega]
/-- One pattern behind another one. -/
theorem lg_join (l m : List (Bool × BitVec 256)) (T : LgT) (i : Nat) : ∀ k n, k ≤ m.length → (Lg.D (lgL (l ++ m)) T i (l.length + k) n = true ↔ ∃ p, Lg.D (lgL l) T i l.length p = true ∧ Lg.D (lgL m) T p k n = true)
  | 0, n, hk => by
    have e : Lg.D (lgL (l ++ m)) T i (l.length + 0) n = Lg.D (lgL l) T i l.length n := lgD_congr i l.length n (fun x hx => by
      unfold lgL; rw [List.getElem?_append_left hx]) (fun _ _ => rfl)
    rw [e]
    constructor
    · intro h; exact ⟨n, h, by rw [lgD_zero]; simp⟩
    · rintro ⟨p, h1, h2⟩
      rw [lgD_zero, beq_iff_eq] at h2
      rw [h2]; exact h1
  | k + 1, n, hk => by
    have e : lgL (l ++ m) (l.length + k) = lgL m k := by
      unfold lgL
      rw [List.getElem?_append_right (by omega)]
      congr 2; omega
    rw [← Nat.add_assoc, lgD_back, e]
    constructor
    · rintro ⟨q, h1, h2⟩
      obtain ⟨p, h3, h4⟩ := (lg_join l m T i k q (by omega)).1 h1
      exact ⟨p, h3, (lgD_back _ T p k n).2 ⟨q, h4, h2⟩⟩
    · rintro ⟨p, h3, h4⟩
      obtain ⟨q, h5, h6⟩ := (lgD_back _ T p k n).1 h4
      exact ⟨q, (lg_join l m T i k q (by omega)).2 ⟨p, h3, h5⟩, h6⟩
/-- All places from which a pattern occurs to one. -/
def Lg.starts (l : List (Bool × BitVec 256)) (t : List UInt8) (tt : Nat) : List Nat := (List.range' 0 (tt + 1)).filter fun i => Lg.D (lgL l) (lgT t) i l.length tt
/-- Those of them from k on. -/
def Lg.fr (l : List (Bool × BitVec 256)) (t : List UInt8) (tt k : Nat) : List Nat := (List.range' k (tt + 1 - k)).filter fun i => Lg.D (lgL l) (lgT t) i l.length tt
theorem lgfrom_end (l : List (Bool × BitVec 256)) (t : List UInt8) (tt : Nat) : Lg.fr l t tt (tt + 1) = [] := by unfold Lg.fr; simp
theorem lgfrom_yes {l : List (Bool × BitVec 256)} {t : List UInt8} {tt k : Nat} (hk : k ≤ tt) (h : Lg.D (lgL l) (lgT t) k l.length tt = true) : Lg.fr l t tt k = k :: Lg.fr l t tt (k + 1) := by
  unfold Lg.fr
  rw [show tt + 1 - k = (tt + 1 - (k + 1)) + 1 by omega, List.range'_succ, List.filter_cons, if_pos h]
theorem lgfrom_no {l : List (Bool × BitVec 256)} {t : List UInt8} {tt k : Nat} (hk : k ≤ tt) (h : Lg.D (lgL l) (lgT t) k l.length tt = false) : Lg.fr l t tt k = Lg.fr l t tt (k + 1) := by
  unfold Lg.fr
  rw [show tt + 1 - k = (tt + 1 - (k + 1)) + 1 by omega, List.range'_succ, List.filter_cons, if_neg (by rw [h]; simp)]
theorem lgfrom_le (l : List (Bool × BitVec 256)) (t : List UInt8) (tt k : Nat) : (Lg.fr l t tt k).length ≤ tt + 1 - k := by
  unfold Lg.fr
  have := List.length_filter_le (fun i => Lg.D (lgL l) (lgT t) i l.length tt) (List.range' k (tt + 1 - k))
  simpa using this
end Go.Proofs.Ytjedjnpepjdgeaa
/- Patterns: places where one begins. -/
namespace Go.Proofs.Ytjedjnpepjdgeaa
open Go.ChangeShapes Go.WideShapes Go.ChangeAt Go.RowKit
set_option linter.unusedSimpArgs false
set_option linter.unusedVariables false

open Go.Shelf
/-- A number as a cell. -/
def nv (x : Nat) : Value := .int .i64 (x : Int)
theorem infoN : (Try.prog.info? 3).map (fun i => (i.zero, i.size, i.bytes)) = some (some (.int .i64 0), 1, 8) := by kernel_rfl
theorem one_nv (x : Int) : ∀ u ∈ [Value.int .i64 x], u.oneCell' = true := by intro u hu; simp at hu; subst hu; rfl
/-- Numbers by value: none, or at the head of a block. -/
def NV (w : World) (a : Option Addr) (L : List Nat) : Prop := L = [] ∨ ∃ g, a = some ⟨g, 0, none⟩ ∧ g < w.heap.size ∧ ∀ j x, L[j]? = some x → w.cell? ⟨g, j, none⟩ = some (nv x)
theorem NV.below {w w' : World} {a : Option Addr} {L : List Nat} (h : NV w a L) (k : Below w.heap.size w w') : NV w' a L := by
  rcases h with h | ⟨g, h1, h2, h3⟩
  · exact Or.inl h
  · exact Or.inr ⟨g, h1, Nat.lt_of_lt_of_le h2 k.size, fun j x hx => by rw [k.cell (p := ⟨g, j, none⟩) h2]; exact h3 j x hx⟩
theorem own_chg {w w' : World} {base n sz : Nat} {e : TypeId} {v : Value} {xs : List Value} (h : w.ownsRow base e sz v n xs) {l : List Nat} (k : Chg l w w') (hl : ∀ x ∈ l, x < base) : w'.ownsRow base e sz v n xs := by
  refine ⟨h.1, ?_⟩
  rcases h.2 with h | ⟨g, cap, cur, h1, h2, h3, h4⟩
  · exact Or.inl h
  · exact Or.inr ⟨g, cap, cur, h1, h2, by rw [k.block g (Array.getElem?_eq_some_iff.1 h3).1 (fun hm => by have := hl g hm; omega)]; exact h3, h4⟩
theorem own_fresh {w w' : World} {base n sz : Nat} {e : TypeId} {v : Value} {xs : List Value} (h : w.ownsRow base e sz v n xs) (k : Below w.heap.size w w') : w'.ownsRow base e sz v n xs := own_chg h (Chg.of_fresh (l := []) k) (by simp)
theorem own_nv {w : World} {base n : Nat} {v : Value} {L : List Nat} (h : w.ownsRow base 3 1 v n (L.map nv)) : L.length = n ∧ ∃ a c, v = .slice a n c ∧ NV w a L := by
  have hl : L.length = n := by have := h.1; simp at this; omega
  refine ⟨hl, ?_⟩
  rcases h.2 with ⟨h1, h2⟩ | ⟨g, cap, cur, h1, h2, h3, h4, h5, h6, h7⟩
  · exact ⟨none, 0, by rw [h1, h2], Or.inl (List.eq_nil_of_length_eq_zero (by omega))⟩
  · refine ⟨some ⟨g, 0, none⟩, cap, h1, Or.inr ⟨g, rfl, (Array.getElem?_eq_some_iff.1 h3).1, fun j x hx => ?_⟩⟩
    have hb : Blk w g cur.toList 3 := by unfold Blk; exact h3
    refine hb.cell ?_
    have hlt : j < n := by have := (List.getElem?_eq_some_iff.1 hx).1; omega
    have e : (L.map nv)[j]? = some (nv x) := by rw [List.getElem?_map, hx]; rfl
    rw [← h7, List.getElem?_take, if_pos (by omega)] at e
    exact e
theorem WS.belowB {w0 w w' : World} {x g h n : Nat} {a : Option Addr} {c : Nat} {f f2 : Nat → Bool} {B : Nat} (k : WS w0 w x g h n a c f f2) (b : Below B w w') (hx : x < B) (hg : g < B) (hh : h < B) (h0 : w0.heap.size ≤ B) : WS w0 w' x g h n a c f f2 :=
  ⟨⟨k.1.1.below b hx, k.1.2.1.below b hg, k.1.2.2.1.below b hh, k.1.2.2.2⟩, k.2.1.trans (b.mono h0), k.2.2⟩
theorem app_ws {w0 w w3 : World} {x g h n : Nat} {a : Option Addr} {c : Nat} {f f2 : Nat → Bool} {B m : Nat} {v v9 : Value} {old nw xs : List Value} {e : TypeId} (k : WS w0 w x g h n a c f f2) (ho : w.ownsRow B e 1 v m old) (hb : B ≤ w.heap.size) (o : Obj) (hgrow : (w.alloc o).grownBy w3 v.ownBlock) (hx : x < B) (hg : g < B) (hh : h < B) (h0 : w0.heap.size ≤ B) {m9 : Nat} (hown : w3.ownsRow B e 1 v9 m9 (old ++ nw)) (hxs : xs = old ++ nw) : WS w0 w3 x g h n a c f f2 ∧ w3.ownsRow B e 1 v9 m9 xs ∧ B ≤ w3.heap.size := by
  have hb2 : Below B (w.alloc o) w3 := by
    have r : Below B (w.alloc o) (w.alloc o) := Below.refl _ _
    exact r.grown hgrow (by first | (simp; done) | (simp; omega)) (fun q hq => ((ho.alloc o).lt q hq).1)
  exact ⟨(k.alloc o).belowB hb2 hx hg hh h0, by rw [hxs]; exact hown, by have := hb2.size; simp at this; omega⟩
theorem lgS_next {L : LgL} {n : Nat} {T : LgT} {an : Bool} {m : Nat} {b : UInt8} (h : T m = b) : Lg.S L n T an (m + 1) = Lg.P L (Lg.nx L n (Lg.S L n T an m) b an) := by rw [Lg.S, h]
open Go.Sort Go.Lib in
theorem rev_nums (L : List Nat) (n : Nat) (base : Nat) (w0 w : World) (v : Value) (ho : w.ownsRow base 3 1 v n (L.map nv)) (hn : n ≤ 2000000) (hB : Below w0.heap.size w0 w) (hb : w0.heap.size ≤ base) :
    Calls Try.prog 64 #[v] w fun e w' => e = .returned (.tuple #[]) ∧ ∃ a c, v = .slice a n c ∧ NV w' a L.reverse ∧ Below w0.heap.size w0 w' := by
  have hl : L.length = n := by have := ho.1; simp at this; omega
  rcases ho.2 with ⟨h1, h2⟩ | ⟨g, cap, cur, h1, h2, h3, h4, h5, h6, h7⟩
  · subst h2
    obtain rfl : L = [] := List.eq_nil_of_length_eq_zero hl
    subst h1
    exact (Try.slices_Reverse_int_empty none 0 w).mono fun e w' ⟨he, hw⟩ => ⟨he, none, 0, rfl, Or.inl rfl, by rw [hw]; exact hB⟩
  · subst h1
    have hb2 : Blk w g cur.toList 3 := by unfold Blk; exact h3
    have hH : Holds (Value.int .i64) w g 0 (L.map Int.ofNat).toArray := by
      intro j hj
      have hj2 : j < L.length := by simpa using hj
      rw [Nat.zero_add]
      refine ⟨?_, hb2.free j⟩
      have e : (L.map nv)[j]? = some (nv L[j]) := by rw [List.getElem?_map, List.getElem?_eq_getElem hj2]; rfl
      rw [← h7, List.getElem?_take, if_pos (by omega)] at e
      rw [hb2.cell e, getElem!_pos _ _ (by simpa using hj2)]
      simp [nv]
    have hlt := hb2.lt
    have hc := Try.slices_Reverse_int g 0 cap (L.map Int.ofNat) w hH (by simp; omega)
    rw [List.length_map, hl] at hc
    refine hc.mono ?_
    rintro e w' ⟨rfl, q, rfl⟩
    refine ⟨rfl, _, _, rfl, ?_, below_putRow hB (by omega)⟩
    have hH2 := holds_putRow (Value.int .i64) (Go.Sort.ahead w q) g 0 (L.map Int.ofNat).toArray (L.map Int.ofNat).reverse.toArray hH (by simp)
    refine Or.inr ⟨g, rfl, by simpa [Go.Sort.ahead] using hlt, fun j x hx => ?_⟩
    have hj : j < L.length := by have := (List.getElem?_eq_some_iff.1 hx).1; simpa using this
    have := (hH2 j (by simpa using hj)).1
    rw [Nat.zero_add] at this
    rw [this, getElem!_pos _ _ (by simpa using hj)]
    have e : ((L.map Int.ofNat).reverse)[j]? = some (Int.ofNat x) := by rw [← List.map_reverse, List.getElem?_map, hx]; rfl
    obtain ⟨_, e2⟩ := List.getElem?_eq_some_iff.1 e
    simp only [List.getElem_toArray]
    rw [e2]; rfl
set_option maxRecDepth 20000 in
set_option maxHeartbeats 8000000 in
theorem lg_starts (l : List (Bool × BitVec 256)) (s : ByteArray) (t : List UInt8) (hs : s.size ≤ 1000000) (ht : s.data.toList = t) (n : Nat) (a : Option Addr) (c : Nat) (hn : l.length = n) (hn6 : n ≤ 1000000) (tt : Nat) (htt : tt ≤ s.size) (L : List Nat) (hL : Lg.starts l t tt = L) (w : World) (hI : IJ w a l) :
    Calls Try.prog 31 #[.slice a n c, .string s, .int .i64 tt] w fun e w' => ∃ a' c', e = .returned (.slice a' L.length c') ∧ NV w' a' L ∧ Below w.heap.size w w' := by
  obtain ⟨N, hN⟩ : ∃ N, s.size = N := ⟨_, rfl⟩
  obtain ⟨T2, hT2⟩ : ∃ T2 : LgT, (fun q => lgT t (tt - 1 - q)) = T2 := ⟨_, rfl⟩
  obtain ⟨i0, hi, hz0, hz1, hz2⟩ := info_split infoN
  have HIN := Lib.hid (And.intro hi (And.intro hz0 (And.intro hz1 hz2)))
  have HG := Lib.hid (And.intro ht (And.intro hn hL))
  have HIJ := Lib.hid hI
  have HT0 := Lib.hid hT2
  have j0 : (0 : Int) ≤ (tt : Int) := by omega
  have j1 : (tt : Int) ≤ (N : Int) := by omega
  have j2 : ¬ (N : Int) < (tt : Int) := by omega
  have j3 : ¬ (tt : Int) < 0 := by omega
  have htN : tt ≤ N := by omega
  clear hI hn hL hi hz0 hz1 hz2 hT2 htt
  go_enter Try.func31, Try.ntmps31
  go_upto_region 5 with (first
    | (go_at_call 63; refine (lg_turned l n a c HG.out.2.1 hn6 w HIJ.out).mono ?_; rintro e W1 ⟨a2, c2, rfl, k1, k2⟩; have HT : Hid ((fun q => lgT t (tt - 1 - q)) = T2 ∧ l.reverse.length = n ∧ IA W1 a2 l.reverse) := Lib.hid ⟨HT0.out, by rw [List.length_reverse]; exact HG.out.2.1, k1⟩; have HW0 := Lib.hid k2; clear k1 k2)
    | (go_at_call 59; refine (lg_begin l.reverse W1 n a2 c2 HT.out.2.1 hn6 HT.out.2.2).mono ?_; rintro e W2 ⟨x, g, h, rfl, k1⟩; have HB := Lib.hid k1; clear k1))
  obtain ⟨bs, hbs⟩ : ∃ bs, W2.heap.size = bs := ⟨_, rfl⟩
  have HW : Hid (Below w.heap.size w W1 ∧ W1.heap.size ≤ bs ∧ W2.heap.size = bs) := Lib.hid ⟨HW0.out, by rw [← hbs]; exact HB.out.2.1.size, hbs⟩
  have xlt : x < bs := by rw [← hbs]; exact HB.out.1.1.lt
  have glt : g < bs := by rw [← hbs]; exact HB.out.1.2.1.lt
  have hlt : h < bs := by rw [← hbs]; exact HB.out.1.2.2.1.lt
  clear hbs
  go_wp2_with fail
  go_loopw [7, 9] (fun v i wr => ∃ (k g h : Nat) (f2 : Nat → Bool) (m : Nat), i = .int .i64 k ∧ k ≤ tt ∧ m ≤ tt - k ∧ g < bs ∧ h < bs ∧ Hid (WS W1 wr x g h n a2 c2 (Lg.S (lgL l.reverse) n T2 false (tt - k)) f2 ∧ wr.ownsRow bs 3 1 v m ((Lg.fr l t tt (k + 1)).reverse.map nv)) ∧ Hid (bs ≤ wr.heap.size)) (fun _ i _ => (intOf i).toNat)
  case atStart => exact ⟨tt, g, h, _, 0, rfl, by omega, by omega, glt, hlt, Lib.hid ⟨by rw [Nat.sub_self]; exact HB.out, by rw [lgfrom_end]; exact ⟨rfl, Or.inl ⟨rfl, rfl⟩⟩⟩, Lib.hid (by have := HW.out.2.2; omega)⟩
  case round =>
    clear HB glt hlt
    obtain ⟨k, g, h, f2, m, rfl, hk, hm, glt, hlt, HB, HBS⟩ := hrel
    have k0 : (0 : Int) ≤ (k : Int) := by omega
    obtain ⟨b, hb⟩ : ∃ b, Lg.D (lgL l) (lgT t) k l.length tt = b := ⟨_, rfl⟩
    have HD : Hid (Lg.D (lgL l) (lgT t) k l.length tt = b) := Lib.hid hb
    have HS : Hid (Lg.S (lgL l.reverse) n T2 false (tt - k) n = b) := Lib.hid (by
      rw [lgS_one _ _ _ _ _ (Nat.le_refl _), lgE_len, ← HT.out.1, ← hb]
      have := lg_backwards l (lgT t) tt (tt - k) (by omega)
      rw [HG.out.2.1] at this ⊢
      rw [this, show tt - (tt - k) = k by omega])
    clear hb
    obtain ⟨r, cr, hv⟩ := own_slice HB.out.2
    subst hv
    cases b with
    | false =>
      go_upto_region 9 with (go_at_call 61; refine (lg_done W1 _ x g h n a2 c2 _ f2 false HS.out HB.out.1).mono ?_; rintro e W4 ⟨rfl, b4⟩; have H9 : Hid (WS W1 W4 x g h n a2 c2 (Lg.S (lgL l.reverse) n T2 false (tt - k)) f2 ∧ W4.ownsRow bs 3 1 (.slice r m cr) m ((Lg.fr l t tt k).reverse.map nv) ∧ bs ≤ W4.heap.size) := Lib.hid ⟨HB.out.1.below b4, by rw [lgfrom_no hk HD.out]; exact own_fresh HB.out.2 b4, by have := HBS.out; have := b4.size; omega⟩; clear b4 HB HS)
      by_cases hk0 : k = 0
      · subst hk0
        have HL0 : Hid (Lg.starts l t tt = Lg.fr l t tt 0) := Lib.hid rfl
        go_wp2_with (go_at_call 64; refine (rev_nums (Lg.fr l t tt 0).reverse _ bs w _ _ H9.out.2.1 (by omega) (HW.out.1.trans (H9.out.1.2.1.mono HW.out.1.size)) (by have := HW.out.1.size; have := HW.out.2.1; omega)).mono ?_; rintro e W6 ⟨rfl, a6, c6, e6, k6, b6⟩; rw [List.reverse_reverse] at k6; have HZ := Lib.hid (And.intro e6 (And.intro k6 b6)); clear e6 k6 b6)
        have HE8 : Hid ((Value.slice r m cr) = Value.slice a6 L.length c6) := Lib.hid (by rw [HZ.out.1, ← (own_nv H9.out.2.1).1, List.length_reverse, ← HG.out.2.2, HL0.out])
        go_ret
        exact ⟨a6, c6, congrArg Ending.returned HE8.out, by rw [← HG.out.2.2, HL0.out]; exact HZ.out.2.1, HZ.out.2.2⟩
      · obtain ⟨j, hj1, hj2⟩ : ∃ j, k ≤ j + 1 ∧ j + 1 ≤ k := ⟨k - 1, by omega, by omega⟩
        have hks : j < s.size := by omega
        have cb : (s[j].toNat : Int) = (lgT t j).toNat := by rw [lgT_at HG.out.1 hks]
        have w2 : IntKind.i64.wrap ((k : Int) - 1) = (j : Int) := by rw [IntWalk.i64_in _ (by omega)]; omega
        have kz : ((k : Int) == 0) = false := by rw [beq_eq_false_iff_ne]; omega
        have HE : Hid (tt - j = tt - k + 1 ∧ T2 (tt - k) = lgT t j) := Lib.hid ⟨by omega, by rw [← HT.out.1]; show lgT t (tt - 1 - (tt - k)) = _; congr 1; omega⟩
        clear hk0
        go_wp2_with (go_at_call 60; refine (lg_step l.reverse (lgT t j) false W1 _ x g h n a2 c2 _ f2 HT.out.2.1 hn6 HT.out.2.2 H9.out.1).mono ?_; rintro e W6 ⟨rfl, k6, b6⟩; have HN : Hid (WS W1 W6 x h g n a2 c2 (Lg.S (lgL l.reverse) n T2 false (tt - j)) (Lg.S (lgL l.reverse) n T2 false (tt - k)) ∧ W6.ownsRow bs 3 1 (Value.slice r m cr) (m) ((Lg.fr l t tt (j + 1)).reverse.map nv)) := Lib.hid ⟨by rw [HE.out.1, lgS_next HE.out.2]; exact k6, by rw [show j + 1 = k by omega]; exact own_chg H9.out.2.1 b6 (by simp; omega)⟩; have HSZ := Lib.hid b6.size; clear k6 b6)
        refine ⟨?_, ?measure⟩
        case measure => simp [intOf]; omega
        first
          | exact ⟨j, h, g, _, m, by go_num, by omega, by omega, by omega, by omega, HN, Lib.hid (by have := H9.out.2.2; have := HSZ.out; omega)⟩
          | ((repeat apply Exists.intro); exact ⟨⟨j, h, g, _, m, by go_num, by omega, by omega, by omega, by omega, HN, Lib.hid (by have := H9.out.2.2; have := HSZ.out; omega)⟩, rfl⟩)
    | true =>
      go_upto_region 9 with (first
        | (go_at_call 61; refine (lg_done W1 _ x g h n a2 c2 _ f2 true HS.out HB.out.1).mono ?_; rintro e W4 ⟨rfl, b4⟩; have H8 : Hid (WS W1 W4 x g h n a2 c2 (Lg.S (lgL l.reverse) n T2 false (tt - k)) f2 ∧ W4.ownsRow bs 3 1 (.slice r m cr) m ((Lg.fr l t tt (k + 1)).reverse.map nv) ∧ bs ≤ W4.heap.size) := Lib.hid ⟨HB.out.1.below b4, own_fresh HB.out.2 b4, by have := HW.out.2.2; have := HBS.out; have := b4.size; omega⟩; clear b4 HB HS)
        | (at_builtin; refine wpList_append_own _ rfl _ _ 32 rfl bs 3 i0 (.int .i64 0) 1 8 Try.underlying32 HIN.out.1 HIN.out.2.1 HIN.out.2.2.1 HIN.out.2.2.2 rfl (by decide) _ _ _ rfl (H8.out.2.1.alloc _) ⟨W4.heap.size, 0, none⟩ 1 1 [.int .i64 k] rfl rfl (new_cells _ _ _) (one_nv k) (by unfold maxLen; omega) (by omega) (by have := H8.out.2.2; simp; omega) ?_; intro v9 w3 hown hgrow _; have H9 : Hid (WS W1 w3 x g h n a2 c2 (Lg.S (lgL l.reverse) n T2 false (tt - k)) f2 ∧ w3.ownsRow bs 3 1 v9 (m + 1) ((Lg.fr l t tt k).reverse.map nv) ∧ bs ≤ w3.heap.size) := Lib.hid (app_ws H8.out.1 H8.out.2.1 H8.out.2.2 _ hgrow xlt glt hlt HW.out.2.1 hown (by rw [lgfrom_yes hk HD.out, List.reverse_cons, List.map_append]; rfl)); clear hown hgrow H8))
      by_cases hk0 : k = 0
      · subst hk0
        have HL0 : Hid (Lg.starts l t tt = Lg.fr l t tt 0) := Lib.hid rfl
        go_wp2_with (go_at_call 64; refine (rev_nums (Lg.fr l t tt 0).reverse _ bs w _ _ H9.out.2.1 (by omega) (HW.out.1.trans (H9.out.1.2.1.mono HW.out.1.size)) (by have := HW.out.1.size; have := HW.out.2.1; omega)).mono ?_; rintro e W6 ⟨rfl, a6, c6, e6, k6, b6⟩; rw [List.reverse_reverse] at k6; have HZ := Lib.hid (And.intro e6 (And.intro k6 b6)); clear e6 k6 b6)
        have HE8 : Hid (v9 = Value.slice a6 L.length c6) := Lib.hid (by rw [HZ.out.1, ← (own_nv H9.out.2.1).1, List.length_reverse, ← HG.out.2.2, HL0.out])
        go_ret
        exact ⟨a6, c6, congrArg Ending.returned HE8.out, by rw [← HG.out.2.2, HL0.out]; exact HZ.out.2.1, HZ.out.2.2⟩
      · obtain ⟨j, hj1, hj2⟩ : ∃ j, k ≤ j + 1 ∧ j + 1 ≤ k := ⟨k - 1, by omega, by omega⟩
        have hks : j < s.size := by omega
        have cb : (s[j].toNat : Int) = (lgT t j).toNat := by rw [lgT_at HG.out.1 hks]
        have w2 : IntKind.i64.wrap ((k : Int) - 1) = (j : Int) := by rw [IntWalk.i64_in _ (by omega)]; omega
        have kz : ((k : Int) == 0) = false := by rw [beq_eq_false_iff_ne]; omega
        have HE : Hid (tt - j = tt - k + 1 ∧ T2 (tt - k) = lgT t j) := Lib.hid ⟨by omega, by rw [← HT.out.1]; show lgT t (tt - 1 - (tt - k)) = _; congr 1; omega⟩
        clear hk0
        go_wp2_with (go_at_call 60; refine (lg_step l.reverse (lgT t j) false W1 _ x g h n a2 c2 _ f2 HT.out.2.1 hn6 HT.out.2.2 H9.out.1).mono ?_; rintro e W6 ⟨rfl, k6, b6⟩; have HN : Hid (WS W1 W6 x h g n a2 c2 (Lg.S (lgL l.reverse) n T2 false (tt - j)) (Lg.S (lgL l.reverse) n T2 false (tt - k)) ∧ W6.ownsRow bs 3 1 v9 (m + 1) ((Lg.fr l t tt (j + 1)).reverse.map nv)) := Lib.hid ⟨by rw [HE.out.1, lgS_next HE.out.2]; exact k6, by rw [show j + 1 = k by omega]; exact own_chg H9.out.2.1 b6 (by simp; omega)⟩; have HSZ := Lib.hid b6.size; clear k6 b6)
        refine ⟨?_, ?measure⟩
        case measure => simp [intOf]; omega
        first
          | exact ⟨j, h, g, _, m + 1, by go_num, by omega, by omega, by omega, by omega, HN, Lib.hid (by have := H9.out.2.2; have := HSZ.out; omega)⟩
          | ((repeat apply Exists.intro); exact ⟨⟨j, h, g, _, m + 1, by go_num, by omega, by omega, by omega, by omega, HN, Lib.hid (by have := H9.out.2.2; have := HSZ.out; omega)⟩, rfl⟩)
end Go.Proofs.Ytjedjnpepjdgeaa
/- Patterns: where one occurs first. -/
namespace Go.Proofs.Ytjedjnpepjdgeaa
open Go.ChangeShapes Go.WideShapes Go.ChangeAt Go.RowKit
set_option linter.unusedSimpArgs false
set_option linter.unusedVariables false

/-- Whether a pattern occurs to a place. -/
def Lg.occ (l : List (Bool × BitVec 256)) (t : List UInt8) (k : Nat) : Bool := (List.range (k + 1)).any fun i => Lg.D (lgL l) (lgT t) i l.length k
theorem lgS_occ (l : List (Bool × BitVec 256)) (t : List UInt8) (n k : Nat) (hn : l.length = n) : Lg.S (lgL l) n (lgT t) true k n = Lg.occ l t k := by
  rw [lgS_any _ _ _ _ _ (Nat.le_refl _)]
  unfold Lg.occ
  rw [hn]
  exact any_congr_mem fun i _ => lgE_len _ _ _ _ _
/-- Where a pattern occurs first. -/
def Lg.firstR (l : List (Bool × BitVec 256)) (t : List UInt8) : Nat × Nat × Bool := match (List.range (t.length + 1)).find? (Lg.occ l t) with
  | none => (0, 0, false)
  | some k => ((Lg.starts l t k).headD 0, k, true)
theorem first_some {l : List (Bool × BitVec 256)} {t : List UInt8} {k : Nat} (hk : k ≤ t.length) (h0 : ∀ j, j < k → Lg.occ l t j = false) (h : Lg.occ l t k = true) : Lg.firstR l t = ((Lg.starts l t k).headD 0, k, true) := by
  unfold Lg.firstR
  have : (List.range (t.length + 1)).find? (Lg.occ l t) = some k := by
    rw [List.find?_range_eq_some]
    exact ⟨h, List.mem_range.2 (by omega), fun j hj => by rw [h0 j hj]; rfl⟩
  rw [this]
theorem first_none {l : List (Bool × BitVec 256)} {t : List UInt8} (h0 : ∀ j, j ≤ t.length → Lg.occ l t j = false) : Lg.firstR l t = (0, 0, false) := by
  unfold Lg.firstR
  have : (List.range (t.length + 1)).find? (Lg.occ l t) = none := by
    rw [List.find?_eq_none]
    intro j hj
    rw [h0 j (by have := List.mem_range.1 hj; omega)]; simp
  rw [this]
theorem starts_occ (l : List (Bool × BitVec 256)) (t : List UInt8) (k : Nat) (h : Lg.occ l t k = true) : ∃ y L, Lg.starts l t k = y :: L := by
  unfold Lg.occ at h
  rw [List.any_eq_true] at h
  obtain ⟨i, hi, hd⟩ := h
  have hm : i ∈ Lg.starts l t k := by
    unfold Lg.starts
    rw [List.mem_filter]
    exact ⟨by rw [List.mem_range'_1]; have := List.mem_range.1 hi; omega, hd⟩
  match e : Lg.starts l t k, hm with
  | y :: L, _ => exact ⟨y, L, rfl⟩
theorem starts_no (l : List (Bool × BitVec 256)) (t : List UInt8) (k : Nat) (h : Lg.occ l t k = false) : Lg.starts l t k = [] := by
  unfold Lg.occ at h
  rw [List.any_eq_false] at h
  unfold Lg.starts
  rw [List.filter_eq_nil_iff]
  intro i hi
  rw [List.mem_range'_1] at hi
  exact h i (List.mem_range.2 (by omega))
theorem NV.head {w : World} {a : Option Addr} {L Ls : List Nat} {y : Nat} (h : NV w a L) (e : L = y :: Ls) : ∃ g, a = some ⟨g, 0, none⟩ ∧ w.cell? ⟨g, 0, none⟩ = some (.int .i64 (y : Int)) := by
  rcases h with h | ⟨g, h1, h2, h3⟩
  · rw [h] at e; cases e
  · exact ⟨g, h1, h3 0 y (by rw [e]; rfl)⟩
/-- The places to which a pattern occurs, ahead of k. -/
def Lg.en (l : List (Bool × BitVec 256)) (t : List UInt8) (k : Nat) : List Nat := (List.range k).filter (Lg.occ l t)
theorem lgen_yes {l : List (Bool × BitVec 256)} {t : List UInt8} {k : Nat} (h : Lg.occ l t k = true) : Lg.en l t (k + 1) = Lg.en l t k ++ [k] := by
  unfold Lg.en; rw [List.range_succ, List.filter_append]; simp [h]
theorem lgen_no {l : List (Bool × BitVec 256)} {t : List UInt8} {k : Nat} (h : Lg.occ l t k = false) : Lg.en l t (k + 1) = Lg.en l t k := by
  unfold Lg.en; rw [List.range_succ, List.filter_append]; simp [h]
set_option maxRecDepth 20000 in
theorem lg_starts_no (s : ByteArray) (n : Nat) (a : Option Addr) (c : Nat) (tt : Int) (htt : tt < 0 ∨ (s.size : Int) < tt) (w : World) :
    Calls Try.prog 31 #[.slice a n c, .string s, .int .i64 tt] w fun e w' => e = .returned (.slice none 0 0) ∧ w' = w := by
  rcases htt with h | h
  · go_enter Try.func31, Try.ntmps31
    go_wp2
    go_ret
    exact ⟨rfl, rfl⟩
  · have h0 : ¬ tt < 0 := by omega
    go_enter Try.func31, Try.ntmps31
    go_wp2
    go_ret
    exact ⟨rfl, rfl⟩
set_option maxRecDepth 20000 in
set_option maxHeartbeats 8000000 in
theorem lg_first (l : List (Bool × BitVec 256)) (s : ByteArray) (t : List UInt8) (hs6 : s.size ≤ 1000000) (ht : s.data.toList = t) (n : Nat) (a : Option Addr) (c : Nat) (hn : l.length = n) (hn6 : n ≤ 1000000) (fr to_ : Nat) (ok : Bool) (hF : Lg.firstR l t = (fr, to_, ok)) (w : World) (hI : IJ w a l) :
    Calls Try.prog 26 #[.slice a n c, .string s] w fun e w' => e = .returned (.tuple #[.int .i64 fr, .int .i64 to_, .bool ok]) ∧ Below w.heap.size w w' := by
  obtain ⟨N, hN⟩ : ∃ N, s.size = N := ⟨_, rfl⟩
  have HG := Lib.hid (And.intro hI (And.intro hn (And.intro ht (And.intro (show t.length = N by rw [← ht]; simpa using hN) hF))))
  clear hI hn ht hF
  go_enter Try.func26, Try.ntmps26
  go_upto_region 2 with (go_at_call 59; refine (lg_begin l w n a c HG.out.2.1 hn6 HG.out.1.1).mono ?_; rintro e W1 ⟨x, g, h, rfl, hs1⟩; have HB := Lib.hid hs1; clear hs1)
  go_loopw [5] (fun i wr => ∃ (k g h : Nat) (f2 : Nat → Bool), i = .int .i64 k ∧ k ≤ N ∧ Hid (∀ j, j < k → Lg.occ l t j = false) ∧ Hid (WS w wr x g h n a c (Lg.S (lgL l) n (lgT t) true k) f2)) (fun i _ => N - (intOf i).toNat)
  case atStart => exact ⟨0, g, h, _, rfl, by omega, Lib.hid (fun j hj => absurd hj (by omega)), HB⟩
  case round =>
    clear HB
    obtain ⟨k, g, h, f2, rfl, hk, HK, HB⟩ := hrel
    have j0 : (0 : Int) ≤ (k : Int) := by omega
    obtain ⟨b, hb⟩ : ∃ b, Lg.occ l t k = b := ⟨_, rfl⟩
    have HO := Lib.hid hb
    have HS : Hid (Lg.S (lgL l) n (lgT t) true k n = b) := Lib.hid (by rw [lgS_occ l t n k HG.out.2.1, hb])
    clear hb
    by_cases hkN : k < N
    · have kN : (k : Int) < (N : Int) := by omega
      cases b with
      | false =>
        have hks : k < s.size := by omega
        have cb : (s[k].toNat : Int) = (lgT t k).toNat := by rw [lgT_at HG.out.2.2.1 hks]
        have HK2 : Hid (∀ j, j < k + 1 → Lg.occ l t j = false) := Lib.hid (fun j hj => by
          by_cases e : j = k
          · rw [e]; exact HO.out
          · exact HK.out j (by omega))
        go_wp2_with (first
          | (go_at_call 61; refine (lg_done w _ x g h n a c _ f2 false HS.out HB.out).mono ?_; rintro e W4 ⟨rfl, b4⟩; replace HB : Hid (WS w W4 x g h n a c (Lg.S (lgL l) n (lgT t) true k) f2) := Lib.hid (HB.out.below b4); clear b4)
          | (go_at_call 60; refine (lg_step l (lgT t k) true w _ x g h n a c _ f2 HG.out.2.1 hn6 HG.out.1.1 HB.out).mono ?_; rintro e W6 ⟨rfl, hs4, hc4⟩; have HN : Hid (WS w W6 x h g n a c (Lg.S (lgL l) n (lgT t) true (k + 1)) (Lg.S (lgL l) n (lgT t) true k)) := Lib.hid hs4; clear hs4 hc4))
        refine ⟨?_, ?measure⟩
        case measure => simp [intOf]; omega
        first
          | exact ⟨k + 1, h, g, _, by go_num, by omega, HK2, HN⟩
          | ((repeat apply Exists.intro); exact ⟨⟨k + 1, h, g, _, by go_num, by omega, HK2, HN⟩, rfl⟩)
      | true =>
        have HK2 := first_some (l := l) (t := t) (k := k) (by rw [HG.out.2.2.2.1]; omega) HK.out HO.out
        obtain ⟨y, Ls, hy⟩ := starts_occ l t k HO.out
        obtain ⟨L, hL⟩ : ∃ L, Lg.starts l t k = L := ⟨_, rfl⟩
        rw [HG.out.2.2.2.2] at HK2
        simp only [Prod.mk.injEq] at HK2
        rw [hL] at hy
        have HL := Lib.hid (And.intro hL hy)
        have HR : Hid (fr = y ∧ to_ = k ∧ ok = true) := Lib.hid ⟨by rw [HK2.1, hL, hy]; rfl, HK2.2.1, HK2.2.2⟩
        have hlen : 0 < L.length := by rw [hy]; simp
        have hlenI : (0 : Int) < (L.length : Int) := by omega
        obtain ⟨q, hq⟩ : ∃ q, L.length = q := ⟨_, rfl⟩
        clear HK2 hL hy
        go_wp2_with (first
          | (go_at_call 61; refine (lg_done w _ x g h n a c _ f2 true HS.out HB.out).mono ?_; rintro e W4 ⟨rfl, b4⟩; replace HB : Hid (WS w W4 x g h n a c (Lg.S (lgL l) n (lgT t) true k) f2) := Lib.hid (HB.out.below b4); clear b4)
          | (go_at_call 31; refine (lg_starts l s t hs6 HG.out.2.2.1 n a c HG.out.2.1 hn6 k (by omega) L HL.out.1 _ (HG.out.1.below (HB.out.2.1))).mono ?_; rintro e W5 ⟨a5, c5, rfl, k5, b5⟩; obtain ⟨g5, rfl, z5⟩ := k5.head HL.out.2; have HZ := Lib.hid (HB.out.2.1.trans (b5.mono HB.out.2.1.size)); clear k5 b5 HB HS))
        go_ret3
        exact ⟨by rw [HR.out.1, HR.out.2.1, HR.out.2.2]; rfl, HZ.out⟩
    · have kN : ¬ (k : Int) < (N : Int) := by omega
      cases b with
      | false =>
        have HK2 := first_none (l := l) (t := t) (fun j hj => by
          by_cases e : j = k
          · rw [e]; exact HO.out
          · exact HK.out j (by rw [HG.out.2.2.2.1] at hj; omega))
        rw [HG.out.2.2.2.2] at HK2
        simp only [Prod.mk.injEq] at HK2
        have HR := Lib.hid HK2
        clear HK2
        go_wp2_with (go_at_call 61; refine (lg_done w _ x g h n a c _ f2 false HS.out HB.out).mono ?_; rintro e W4 ⟨rfl, b4⟩; replace HB : Hid (WS w W4 x g h n a c (Lg.S (lgL l) n (lgT t) true k) f2) := Lib.hid (HB.out.below b4); clear b4)
        go_ret3
        exact ⟨by rw [HR.out.1, HR.out.2.1, HR.out.2.2]; rfl, HB.out.2.1⟩
      | true =>
        have HK2 := first_some (l := l) (t := t) (k := k) (by rw [HG.out.2.2.2.1]; omega) HK.out HO.out
        obtain ⟨y, Ls, hy⟩ := starts_occ l t k HO.out
        obtain ⟨L, hL⟩ : ∃ L, Lg.starts l t k = L := ⟨_, rfl⟩
        rw [HG.out.2.2.2.2] at HK2
        simp only [Prod.mk.injEq] at HK2
        rw [hL] at hy
        have HL := Lib.hid (And.intro hL hy)
        have HR : Hid (fr = y ∧ to_ = k ∧ ok = true) := Lib.hid ⟨by rw [HK2.1, hL, hy]; rfl, HK2.2.1, HK2.2.2⟩
        have hlen : 0 < L.length := by rw [hy]; simp
        have hlenI : (0 : Int) < (L.length : Int) := by omega
        obtain ⟨q, hq⟩ : ∃ q, L.length = q := ⟨_, rfl⟩
        clear HK2 hL hy
        go_wp2_with (first
          | (go_at_call 61; refine (lg_done w _ x g h n a c _ f2 true HS.out HB.out).mono ?_; rintro e W4 ⟨rfl, b4⟩; replace HB : Hid (WS w W4 x g h n a c (Lg.S (lgL l) n (lgT t) true k) f2) := Lib.hid (HB.out.below b4); clear b4)
          | (go_at_call 31; refine (lg_starts l s t hs6 HG.out.2.2.1 n a c HG.out.2.1 hn6 k (by omega) L HL.out.1 _ (HG.out.1.below (HB.out.2.1))).mono ?_; rintro e W5 ⟨a5, c5, rfl, k5, b5⟩; obtain ⟨g5, rfl, z5⟩ := k5.head HL.out.2; have HZ := Lib.hid (HB.out.2.1.trans (b5.mono HB.out.2.1.size)); clear k5 b5 HB HS))
        go_ret3
        exact ⟨by rw [HR.out.1, HR.out.2.1, HR.out.2.2]; rfl, HZ.out⟩
end Go.Proofs.Ytjedjnpepjdgeaa
/- Patterns: to where one occurs. -/
namespace Go.Proofs.Ytjedjnpepjdgeaa
open Go.ChangeShapes Go.WideShapes Go.ChangeAt Go.RowKit
set_option linter.unusedSimpArgs false
set_option linter.unusedVariables false

set_option maxRecDepth 20000 in
set_option maxHeartbeats 8000000 in
theorem lg_ends (l : List (Bool × BitVec 256)) (s : ByteArray) (t : List UInt8) (hs : s.size ≤ 1000000) (ht : s.data.toList = t) (n : Nat) (a : Option Addr) (c : Nat) (hn : l.length = n) (hn6 : n ≤ 1000000) (L : List Nat) (hL : Lg.en l t (t.length + 1) = L) (w : World) (hI : IA w a l) :
    Calls Try.prog 29 #[.slice a n c, .string s] w fun e w' => ∃ a' c', e = .returned (.slice a' L.length c') ∧ NV w' a' L ∧ Below w.heap.size w w' := by
  obtain ⟨N, hN⟩ : ∃ N, s.size = N := ⟨_, rfl⟩
  obtain ⟨i0, hi, hz0, hz1, hz2⟩ := info_split infoN
  have HIN := Lib.hid (And.intro hi (And.intro hz0 (And.intro hz1 hz2)))
  have HG := Lib.hid (And.intro hI (And.intro hn (And.intro ht (And.intro (show t.length = N by rw [← ht]; simpa using hN) hL))))
  clear hI hn hL hi hz0 hz1 hz2 ht
  go_enter Try.func29, Try.ntmps29
  go_upto_region 3 with (go_at_call 59; refine (lg_begin l w n a c HG.out.2.1 hn6 HG.out.1).mono ?_; rintro e W2 ⟨x, g, h, rfl, k1⟩; have HB := Lib.hid k1; clear k1)
  obtain ⟨bs, hbs⟩ : ∃ bs, W2.heap.size = bs := ⟨_, rfl⟩
  have HW : Hid (w.heap.size ≤ bs ∧ W2.heap.size = bs) := Lib.hid ⟨by rw [← hbs]; exact HB.out.2.1.size, hbs⟩
  have xlt : x < bs := by rw [← hbs]; exact HB.out.1.1.lt
  have glt : g < bs := by rw [← hbs]; exact HB.out.1.2.1.lt
  have hlt : h < bs := by rw [← hbs]; exact HB.out.1.2.2.1.lt
  clear hbs
  go_wp2_with fail
  go_loopw [5, 7] (fun v i wr => ∃ (k g h : Nat) (f2 : Nat → Bool) (m : Nat), i = .int .i64 k ∧ k ≤ N ∧ m ≤ k ∧ g < bs ∧ h < bs ∧ Hid (WS w wr x g h n a c (Lg.S (lgL l) n (lgT t) true k) f2 ∧ wr.ownsRow bs 3 1 v (m) ((Lg.en l t k).map nv) ∧ bs ≤ wr.heap.size)) (fun _ i _ => N - (intOf i).toNat)
  case atStart => exact ⟨0, g, h, _, 0, rfl, by omega, by omega, glt, hlt, Lib.hid ⟨HB.out, ⟨rfl, Or.inl ⟨rfl, rfl⟩⟩, by have := HW.out.2; omega⟩⟩
  case round =>
    clear HB glt hlt
    obtain ⟨k, g, h, f2, m, rfl, hk, hm, glt, hlt, HB⟩ := hrel
    have k0 : (0 : Int) ≤ (k : Int) := by omega
    obtain ⟨b, hb⟩ : ∃ b, Lg.occ l t k = b := ⟨_, rfl⟩
    have HD := Lib.hid hb
    have HS : Hid (Lg.S (lgL l) n (lgT t) true k n = b) := Lib.hid (by rw [lgS_occ l t n k HG.out.2.1, hb])
    clear hb
    obtain ⟨r, cr, hv⟩ := own_slice HB.out.2.1
    subst hv
    cases b with
    | false =>
      go_upto_region 7 with (go_at_call 61; refine (lg_done w _ x g h n a c _ f2 false HS.out HB.out.1).mono ?_; rintro e W4 ⟨rfl, b4⟩; have H9 : Hid (WS w W4 x g h n a c (Lg.S (lgL l) n (lgT t) true k) f2 ∧ W4.ownsRow bs 3 1 (.slice r m cr) (m) ((Lg.en l t (k + 1)).map nv) ∧ bs ≤ W4.heap.size) := Lib.hid ⟨HB.out.1.below b4, by rw [lgen_no HD.out]; exact own_fresh HB.out.2.1 b4, by have := HB.out.2.2; have := b4.size; omega⟩; clear b4 HB HS)
      by_cases hkN : k = N
      · subst hkN
        have HE8 : Hid ((Lg.en l t (k + 1)) = L) := Lib.hid (by rw [← HG.out.2.2.2.2, HG.out.2.2.2.1])
        obtain ⟨el, r9, c9, e9, k9⟩ := own_nv H9.out.2.1
        have HZ := Lib.hid (And.intro el (And.intro e9 k9))
        clear el e9 k9
        have kz : ((k : Int) == (k : Int)) = true := by simp
        have HE9 : Hid ((Value.slice r m cr) = Value.slice r9 L.length c9) := Lib.hid (by rw [HZ.out.2.1, ← HZ.out.1, HE8.out])
        go_wp2
        go_ret
        exact ⟨r9, c9, congrArg Ending.returned HE9.out, by rw [← HE8.out]; exact HZ.out.2.2, H9.out.1.2.1⟩
      · have hkN2 : k < N := by omega
        have hks : k < s.size := by omega
        have cb : (s[k].toNat : Int) = (lgT t k).toNat := by rw [lgT_at HG.out.2.2.1 hks]
        have w2 : IntKind.i64.wrap ((k : Int) + 1) = (k : Int) + 1 := by rw [IntWalk.i64_in _ (by omega)]
        have kz : ((k : Int) == (N : Int)) = false := by rw [beq_eq_false_iff_ne]; omega
        clear hkN
        go_wp2_with (go_at_call 60; refine (lg_step l (lgT t k) true w _ x g h n a c _ f2 HG.out.2.1 hn6 HG.out.1 H9.out.1).mono ?_; rintro e W6 ⟨rfl, k6, b6⟩; have HN : Hid (WS w W6 x h g n a c (Lg.S (lgL l) n (lgT t) true (k + 1)) (Lg.S (lgL l) n (lgT t) true k) ∧ W6.ownsRow bs 3 1 (Value.slice r m cr) (m) ((Lg.en l t (k + 1)).map nv) ∧ bs ≤ W6.heap.size) := Lib.hid ⟨k6, own_chg H9.out.2.1 b6 (by simp; omega), by have := H9.out.2.2; have := b6.size; omega⟩; clear k6 b6)
        refine ⟨?_, ?measure⟩
        case measure => simp [intOf]; omega
        first
          | exact ⟨k + 1, h, g, _, m, by go_num, by omega, by omega, by omega, by omega, HN⟩
          | ((repeat apply Exists.intro); exact ⟨⟨k + 1, h, g, _, m, by go_num, by omega, by omega, by omega, by omega, HN⟩, rfl⟩)
    | true =>
      go_upto_region 7 with (first
        | (go_at_call 61; refine (lg_done w _ x g h n a c _ f2 true HS.out HB.out.1).mono ?_; rintro e W4 ⟨rfl, b4⟩; have H8 : Hid (WS w W4 x g h n a c (Lg.S (lgL l) n (lgT t) true k) f2 ∧ W4.ownsRow bs 3 1 (.slice r m cr) (m) ((Lg.en l t k).map nv) ∧ bs ≤ W4.heap.size) := Lib.hid ⟨HB.out.1.below b4, own_fresh HB.out.2.1 b4, by have := HB.out.2.2; have := b4.size; omega⟩; clear b4 HB HS)
        | (at_builtin; refine wpList_append_own _ rfl _ _ 32 rfl bs 3 i0 (.int .i64 0) 1 8 Try.underlying32 HIN.out.1 HIN.out.2.1 HIN.out.2.2.1 HIN.out.2.2.2 rfl (by decide) _ _ _ rfl (H8.out.2.1.alloc _) ⟨W4.heap.size, 0, none⟩ 1 1 [.int .i64 k] rfl rfl (new_cells _ _ _) (one_nv k) (by unfold maxLen; omega) (by omega) (by have := H8.out.2.2; simp; omega) ?_; intro v9 w3 hown hgrow _; have H9 : Hid (WS w w3 x g h n a c (Lg.S (lgL l) n (lgT t) true k) f2 ∧ w3.ownsRow bs 3 1 v9 (m + 1) ((Lg.en l t (k + 1)).map nv) ∧ bs ≤ w3.heap.size) := Lib.hid (app_ws H8.out.1 H8.out.2.1 H8.out.2.2 _ hgrow xlt glt hlt HW.out.1 hown (by rw [lgen_yes HD.out, List.map_append]; rfl)); clear hown hgrow H8))
      by_cases hkN : k = N
      · subst hkN
        have HE8 : Hid ((Lg.en l t (k + 1)) = L) := Lib.hid (by rw [← HG.out.2.2.2.2, HG.out.2.2.2.1])
        obtain ⟨el, r9, c9, e9, k9⟩ := own_nv H9.out.2.1
        have HZ := Lib.hid (And.intro el (And.intro e9 k9))
        clear el e9 k9
        have kz : ((k : Int) == (k : Int)) = true := by simp
        have HE9 : Hid (v9 = Value.slice r9 L.length c9) := Lib.hid (by rw [HZ.out.2.1, ← HZ.out.1, HE8.out])
        go_wp2
        go_ret
        exact ⟨r9, c9, congrArg Ending.returned HE9.out, by rw [← HE8.out]; exact HZ.out.2.2, H9.out.1.2.1⟩
      · have hkN2 : k < N := by omega
        have hks : k < s.size := by omega
        have cb : (s[k].toNat : Int) = (lgT t k).toNat := by rw [lgT_at HG.out.2.2.1 hks]
        have w2 : IntKind.i64.wrap ((k : Int) + 1) = (k : Int) + 1 := by rw [IntWalk.i64_in _ (by omega)]
        have kz : ((k : Int) == (N : Int)) = false := by rw [beq_eq_false_iff_ne]; omega
        clear hkN
        go_wp2_with (go_at_call 60; refine (lg_step l (lgT t k) true w _ x g h n a c _ f2 HG.out.2.1 hn6 HG.out.1 H9.out.1).mono ?_; rintro e W6 ⟨rfl, k6, b6⟩; have HN : Hid (WS w W6 x h g n a c (Lg.S (lgL l) n (lgT t) true (k + 1)) (Lg.S (lgL l) n (lgT t) true k) ∧ W6.ownsRow bs 3 1 v9 (m + 1) ((Lg.en l t (k + 1)).map nv) ∧ bs ≤ W6.heap.size) := Lib.hid ⟨k6, own_chg H9.out.2.1 b6 (by simp; omega), by have := H9.out.2.2; have := b6.size; omega⟩; clear k6 b6)
        refine ⟨?_, ?measure⟩
        case measure => simp [intOf]; omega
        first
          | exact ⟨k + 1, h, g, _, m + 1, by go_num, by omega, by omega, by omega, by omega, HN⟩
          | ((repeat apply Exists.intro); exact ⟨⟨k + 1, h, g, _, m + 1, by go_num, by omega, by omega, by omega, by omega, HN⟩, rfl⟩)
end Go.Proofs.Ytjedjnpepjdgeaa
