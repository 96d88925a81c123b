/- Lex: lines. -/
import Derived.Test.YtopiiehdgknmgaaDoorLx7
import Derived.Test.YtopiiehdgknmgaaDoorLx6
namespace Go.Proofs.YtopiiehdgknmgaaDoor
open Go.ChangeShapes Go.WideShapes Go.ChangeAt Go.RowKit
set_option linter.unusedSimpArgs false
set_option linter.unusedVariables false

/-- The lines of a text. -/
def Lx.ls : List UInt8 → List (List UInt8)
  | [] => [[]]
  | c :: r => if c = 10 then [] :: Lx.ls r else match Lx.ls r with
    | [] => [[c]]
    | a :: m => (c :: a) :: m
theorem ls_ne (t : List UInt8) : ∃ a m, Lx.ls t = a :: m := by
  cases t with
  | nil => exact ⟨_, _, rfl⟩
  | cons c r =>
    rw [Lx.ls]
    by_cases h : c = 10
    · rw [if_pos h]; exact ⟨_, _, rfl⟩
    · rw [if_neg h]
      cases Lx.ls r <;> exact ⟨_, _, rfl⟩
theorem ls_none : ∀ (t : List UInt8), (∀ k : Nat, t[k]? ≠ some 10) → Lx.ls t = [t]
  | [], _ => rfl
  | c :: r, h => by
    have h0 := h 0
    rw [Lx.ls, if_neg (by intro e; exact h0 (by rw [e]; rfl)), ls_none r (fun k => by have := h (k + 1); simpa using this)]
theorem ls_hit : ∀ (t : List UInt8) (i : Nat), t[i]? = some 10 → (∀ k : Nat, k < i → t[k]? ≠ some 10) → Lx.ls t = t.take i :: Lx.ls (t.drop (i + 1))
  | [], i, h, _ => by simp at h
  | c :: r, 0, h, _ => by
    rw [Lx.ls, if_pos (by simpa using h)]; rfl
  | c :: r, i + 1, h, h2 => by
    have h0 := h2 0 (by omega)
    rw [Lx.ls, if_neg (by intro e; exact h0 (by rw [e]; rfl)), ls_hit r i (by simpa using h) (fun k hk => by have := h2 (k + 1) (by omega); simpa using this)]
    rfl
theorem lines_split (s : ByteArray) : ∀ n, s.size ≤ n → (Lib.splitB { data := #[10] } 0 (Lib.countB s { data := #[10] }) s).map (fun x => x.data.toList) = Lx.ls s.data.toList ∧ Lib.countB s { data := #[10] } + 1 = (Lx.ls s.data.toList).length := by
  intro n
  induction n generalizing s with
  | zero =>
    intro hn
    have h0 : s.data.toList = [] := by
      have : s.data.toList.length = s.size := by simp
      exact List.eq_nil_of_length_eq_zero (by omega)
    have hs : s = { data := #[] } := eqT (by rw [h0])
    subst hs
    exact ⟨by decide +kernel, by decide +kernel⟩
  | succ n ih =>
    intro hn
    have hone : Lib.indexB s { data := #[10] } = Lib.indexByte s.data.toList 10 := by
      unfold Lib.indexB
      exact Lib.index_one _ _
    rcases Lib.indexB_cases s { data := #[10] } with h | ⟨i, h, hi⟩
    · rw [Lib.countB_miss s _ h, Lib.splitB_zero]
      rw [hone] at h
      rw [ls_none _ (fun k => Lib.indexByte_none h k)]
      exact ⟨rfl, rfl⟩
    · have hh := h
      rw [hone] at hh
      obtain ⟨h1, h2⟩ := Lib.indexByte_some hh
      have hsz : ({ data := #[10] } : ByteArray).size = 1 := rfl
      rw [Lib.countB_hit s _ i (by decide) h, Nat.add_comm 1, Lib.splitB_hit _ _ _ _ i h, hsz]
      rw [hsz] at hi
      obtain ⟨ih1, ih2⟩ := ih (s.extract (i + 1) s.size) (by rw [ByteArray.size_extract]; omega)
      have hd : (s.extract (i + 1) s.size).data.toList = s.data.toList.drop (i + 1) := ext_drop2 s _ (i + 1) rfl
      have ht : (s.extract 0 (i + 0)).data.toList = s.data.toList.take i := take_ext s _ i rfl
      rw [hd] at ih1 ih2
      rw [ls_hit _ i h1 h2, List.map_cons, ih1, ht, List.length_cons, ih2]
      exact ⟨rfl, rfl⟩
/-- The first lines, with line feeds between. -/
def Lx.jf (L : List (List UInt8)) : Nat → List UInt8
  | 0 => []
  | i + 1 => (if i = 0 then Lx.jf L i else Lx.jf L i ++ [10]) ++ (L[i]?).getD []
theorem jf_cons (a : List UInt8) (M : List (List UInt8)) : ∀ n, Lx.jf (a :: M) (n + 1) = a ++ (if n = 0 then [] else 10 :: Lx.jf M n)
  | 0 => by simp [Lx.jf]
  | n + 1 => by
    have h1 : Lx.jf (a :: M) (n + 1 + 1) = (Lx.jf (a :: M) (n + 1) ++ [10]) ++ ((a :: M)[n + 1]?).getD [] := by rw [Lx.jf, if_neg (Nat.succ_ne_zero n)]
    have h2 : Lx.jf M (n + 1) = (if n = 0 then Lx.jf M n else Lx.jf M n ++ [10]) ++ (M[n]?).getD [] := by rw [Lx.jf]
    rw [h1, jf_cons a M n, if_neg (Nat.succ_ne_zero n), h2]
    by_cases h : n = 0
    · subst h; simp [Lx.jf]
    · rw [if_neg h, if_neg h]; simp
theorem jf_ls : ∀ t : List UInt8, Lx.jf (Lx.ls t) (Lx.ls t).length = t
  | [] => rfl
  | c :: r => by
    obtain ⟨a, m, h⟩ := ls_ne r
    have ih := jf_ls r
    rw [Lx.ls]
    by_cases h0 : c = 10
    · rw [if_pos h0, List.length_cons, jf_cons, if_neg (by rw [h]; simp), ih, h0]; rfl
    · rw [if_neg h0, h]
      rw [h, List.length_cons, jf_cons] at ih
      show Lx.jf ((c :: a) :: m) (m.length + 1) = c :: r
      rw [jf_cons, List.cons_append, ih]
theorem jf_len (L : List (List UInt8)) (B : Nat) (h : ∀ (i : Nat) (x : List UInt8), L[i]? = some x → x.length ≤ B) : ∀ n, (Lx.jf L n).length ≤ n * (B + 1)
  | 0 => by simp [Lx.jf]
  | n + 1 => by
    have ih := jf_len L B h n
    rw [Lx.jf, List.length_append]
    have h2 : ((L[n]?).getD []).length ≤ B := by
      cases hx : L[n]? with
      | none => simp
      | some x => exact h n x hx
    have h3 : (if n = 0 then Lx.jf L n else Lx.jf L n ++ [10]).length ≤ (Lx.jf L n).length + 1 := by
      by_cases e : n = 0
      · rw [if_pos e]; omega
      · rw [if_neg e, List.length_append]; simp
    rw [Nat.add_mul]; omega
theorem ls_le : ∀ (t : List UInt8), (Lx.ls t).length ≤ t.length + 1 ∧ ∀ x ∈ Lx.ls t, x.length ≤ t.length
  | [] => ⟨by simp [Lx.ls], by simp [Lx.ls]⟩
  | c :: r => by
    obtain ⟨a, m, h⟩ := ls_ne r
    obtain ⟨h1, h2⟩ := ls_le r
    rw [Lx.ls]
    by_cases h0 : c = 10
    · rw [if_pos h0]
      refine ⟨by simp; omega, fun x hx => ?_⟩
      rcases List.mem_cons.1 hx with e | hx
      · rw [e]; simp
      · have := h2 x hx; simp; omega
    · rw [if_neg h0, h]
      rw [h] at h1 h2
      refine ⟨by simp at h1 ⊢; omega, fun x hx => ?_⟩
      rcases List.mem_cons.1 hx with e | hx
      · rw [e]; have := h2 a (by simp); simp; omega
      · have := h2 x (by simp [hx]); simp; omega
/-- Texts at the head of a block. -/
def LT (w : World) (g : Nat) (L : List (List UInt8)) : Prop := g < w.heap.size ∧ ∀ (j : Nat) (x : List UInt8), L[j]? = some x → w.cell? ⟨g, j, none⟩ = some (.string (mkT x))
theorem LT.below {w w' : World} {g : Nat} {L : List (List UInt8)} (h : LT w g L) (k : Below w.heap.size w w') : LT w' g L := ⟨Nat.lt_of_lt_of_le h.1 k.size, fun j x hx => (k.cell (p := ⟨g, j, none⟩) h.1).trans (h.2 j x hx)⟩
theorem LT.drew {w : World} {g : Nat} {L : List (List UInt8)} (h : LT w g L) : LT w.drew g L := h
theorem lx_lines2 (s : ByteArray) (hs : s.size ≤ 1000000) (L : List (List UInt8)) (hL : Lx.ls s.data.toList = L) (n : Nat) (hn : L.length = n) (m : Int) (w : World) (hm : w.cell? ⟨0, 0, none⟩ = some (.int .i64 m)) : Calls Tryd.prog 13 #[.string s] w fun e w' => ∃ g c, e = .returned (.slice (some ⟨g, 0, none⟩) n c) ∧ LT w' g L ∧ Below w.heap.size w w' := by
  refine (lx_lines s hs m w hm).mono ?_
  rintro e W1 ⟨rfl, rfl⟩
  obtain ⟨h1, h2⟩ := lines_split s s.size (Nat.le_refl _)
  rw [hL] at h1 h2
  rw [h2, hn]
  refine ⟨_, _, rfl, ⟨by simp, fun j x hx => ?_⟩, (Below.refl _ _).alloc (Nat.le_refl _) _⟩
  refine (Blk.new w _ _).cell ?_
  rw [List.getElem?_map]
  rw [← h1, List.getElem?_map, Option.map_eq_some_iff] at hx
  obtain ⟨y, hy, hx⟩ := hx
  rw [hy, ← hx, ← mkT_eq rfl]; rfl
/-- Says the line nothing? -/
def Lx.idle (t : List UInt8) : Bool := match t with
  | [] => true
  | c :: _ => c == 35
theorem lx_idle (x : List UInt8) (hx : x.length ≤ 100000) (r : Bool) (hr : Lx.idle x = r) (w : World) : Calls Tryd.prog 15 #[.string (mkT x)] w fun e w' => e = .returned (.bool r) ∧ Below w.heap.size w w' := by
  cases x with
  | nil =>
    have e : mkT [] = { data := #[] } := rfl
    obtain rfl : r = true := by rw [← hr]; rfl
    rw [e]
    go_enter Tryd.func15, Tryd.ntmps15
    go_wp2
    go_ret
    exact ⟨rfl, Below.refl _ _⟩
  | cons c l =>
    obtain ⟨s, hs⟩ : ∃ s, mkT (c :: l) = s := ⟨_, rfl⟩
    have hl : s.data.toList = c :: l := by rw [← hs, mkT_list]
    have hsz : s.size = l.length + 1 := by rw [size_of hl]; rfl
    have h0 : 0 < s.size := by omega
    have hc : s[0] = c := by
      have := list_of s h0
      rw [hl] at this
      injection this with this; exact this.symm
    have he1 := size_full h0
    have i0 : (0 : Int) < (s.size : Int) := by omega
    rw [hs]
    clear hsz hl hs
    by_cases h : c = 35
    · have cb : (s[0].toNat : Int) = 35 := by rw [hc, h]; rfl
      obtain rfl : r = true := by rw [← hr, h]; rfl
      clear hc hr
      go_enter Tryd.func15, Tryd.ntmps15
      go_wp2
      go_ret
      exact ⟨rfl, Below.refl _ _⟩
    · have cb : ((s[0].toNat : Int) == 35) = false := by rw [hc]; exact u8_ne h _ rfl
      obtain rfl : r = false := by rw [← hr]; exact beq_eq_false_iff_ne.2 h
      clear hc hr
      go_enter Tryd.func15, Tryd.ntmps15
      go_wp2
      go_ret
      exact ⟨rfl, Below.refl _ _⟩
theorem rx_idle (x : List UInt8) (hx : x.length ≤ 100000) (r : Bool) (hr : Lx.idle x = r) (w : World) : Calls Tryd.prog 16 #[.string (mkT x)] w fun e w' => e = .returned (.bool r) ∧ Below w.heap.size w w' := by
  cases x with
  | nil =>
    have e : mkT [] = { data := #[] } := rfl
    obtain rfl : r = true := by rw [← hr]; rfl
    rw [e]
    go_enter Tryd.func16, Tryd.ntmps16
    go_wp2
    go_ret
    exact ⟨rfl, Below.refl _ _⟩
  | cons c l =>
    obtain ⟨s, hs⟩ : ∃ s, mkT (c :: l) = s := ⟨_, rfl⟩
    have hl : s.data.toList = c :: l := by rw [← hs, mkT_list]
    have hsz : s.size = l.length + 1 := by rw [size_of hl]; rfl
    have h0 : 0 < s.size := by omega
    have hc : s[0] = c := by
      have := list_of s h0
      rw [hl] at this
      injection this with this; exact this.symm
    have he1 := size_full h0
    have i0 : (0 : Int) < (s.size : Int) := by omega
    rw [hs]
    clear hsz hl hs
    by_cases h : c = 35
    · have cb : (s[0].toNat : Int) = 35 := by rw [hc, h]; rfl
      obtain rfl : r = true := by rw [← hr, h]; rfl
      clear hc hr
      go_enter Tryd.func16, Tryd.ntmps16
      go_wp2
      go_ret
      exact ⟨rfl, Below.refl _ _⟩
    · have cb : ((s[0].toNat : Int) == 35) = false := by rw [hc]; exact u8_ne h _ rfl
      obtain rfl : r = false := by rw [← hr]; exact beq_eq_false_iff_ne.2 h
      clear hc hr
      go_enter Tryd.func16, Tryd.ntmps16
      go_wp2
      go_ret
      exact ⟨rfl, Below.refl _ _⟩
theorem infos : (Tryd.prog.info? 9).map (fun i => (i.zero, i.size, i.bytes)) = some (some (.string ({ data := #[] } : ByteArray)), 1, 16) := by kernel_rfl
theorem one_str (s : ByteArray) : ∀ u ∈ [Value.string s], u.oneCell' = true := by intro u hu; simp at hu; subst hu; rfl
/-- The texts as cells. -/
def sc (L : List (List UInt8)) : List Value := L.map fun x => Value.string (mkT x)
theorem sc_length (L : List (List UInt8)) : (sc L).length = L.length := by simp [sc]
theorem sc_snoc (L : List (List UInt8)) (x : List UInt8) : sc (L ++ [x]) = sc L ++ [.string (mkT x)] := by simp [sc]
theorem sc_lt {w : World} {g c : Nat} {L : List (List UInt8)} (h : Rw w g c (sc L) 9) : LT w g L := ⟨h.lt, fun j x hx => h.cell (by simp [sc, hx])⟩
set_option maxRecDepth 20000 in
set_option maxHeartbeats 4000000 in
theorem rx_lines (s : ByteArray) (t : List UInt8) (hs : s.size ≤ 100000) (ht : s.data.toList = t) (L : List (List UInt8)) (hL : Lx.ls t = L) (n : Nat) (hn : L.length = n) (w : World) : Calls Tryd.prog 14 #[.string s] w fun e w' => ∃ g c, e = .returned (.slice (some ⟨g, 0, none⟩) n c) ∧ LT w' g L ∧ Below w.heap.size w w' := by
  have hlt : t.length = s.size := by rw [← ht]; simp
  have HS := Lib.hid (And.intro ht (And.intro hL (And.intro hn hlt)))
  clear ht hL hn hlt
  go_enter Tryd.func14, Tryd.ntmps14
  go_upto_region 2 with fail
  have HB : Hid (Rw (w.alloc (.cells #[] 9)) w.heap.size 0 (sc []) 9 ∧ w.heap.size ≤ w.heap.size ∧ Below w.heap.size w (w.alloc (.cells #[] 9))) := Lib.hid ⟨Rw.empty w _, Nat.le_refl _, (Below.refl _ _).alloc (Nat.le_refl _) _⟩
  revert HB
  generalize w.alloc (.cells #[] 9) = V
  intro HB
  go_wp2_with fail
  go_loopw [3, 4, 5] (fun lv av iv wr => ∃ (k p m g c : Nat) (l : List (List UInt8)), lv = .slice (some ⟨g, 0, none⟩) m c ∧ av = .int .i64 p ∧ iv = .int .i64 k ∧ p ≤ k ∧ k ≤ s.size ∧ m ≤ k ∧ l.length = m ∧ Hid (l ++ Lx.ls (t.drop p) = L ∧ ∀ j : Nat, p ≤ j → j < k → t[j]? ≠ some 10) ∧ Hid (Rw wr g c (sc l) 9 ∧ w.heap.size ≤ g ∧ Below w.heap.size w wr)) (fun _ _ iv _ => s.size - (intOf iv).toNat)
  case atStart => exact ⟨0, 0, 0, w.heap.size, 0, [], rfl, rfl, rfl, by omega, by omega, by omega, rfl, Lib.hid ⟨by rw [List.drop_zero, HS.out.2.1]; rfl, fun j h1 h2 => by omega⟩, HB⟩
  case round =>
    clear HB
    obtain ⟨k, p, m, g, c, l, rfl, rfl, rfl, hp, hk, hm, hl, HK, HB⟩ := hrel
    have k0 : (0 : Int) ≤ (k : Int) := by omega
    have p0 : (0 : Int) ≤ (p : Int) := by omega
    have pk : (p : Int) ≤ (k : Int) := by omega
    by_cases hks : k < s.size
    · have kI : (k : Int) < (s.size : Int) := by omega
      have kJ : (k : Int) ≤ (s.size : Int) := by omega
      obtain ⟨b, hb⟩ : ∃ b, s[k] = b := ⟨_, rfl⟩
      have hbl : t[k]? = some b := by rw [← HS.out.1, ← hb, List.getElem?_eq_getElem (by simpa using hks)]; rfl
      have w1 : IntKind.i64.wrap ((k : Int) + 1) = (k : Int) + 1 := IntWalk.i64_in _ (by omega)
      by_cases h10 : b = 10
      · have cb : (s[k].toNat : Int) = 10 := by rw [hb, h10]; rfl
        obtain ⟨u, hu⟩ : ∃ u, s.extract p k = u := ⟨_, rfl⟩
        have hul : u.data.toList = (t.drop p).take (k - p) := by rw [← hu, ← HS.out.1]; simp [ByteArray.data_extract, List.drop_take]
        have HU : Hid (u = mkT ((t.drop p).take (k - p))) := Lib.hid (mkT_eq hul)
        have HK2 : Hid ((l ++ [(t.drop p).take (k - p)]) ++ Lx.ls (t.drop (k + 1)) = L ∧ ∀ j : Nat, k + 1 ≤ j → j < k + 1 → t[j]? ≠ some 10) := Lib.hid ⟨by
          rw [← HK.out.1, ls_hit (t.drop p) (k - p) (by rw [List.getElem?_drop, show p + (k - p) = k by omega, hbl, h10]) (fun j hj => by rw [List.getElem?_drop]; exact HK.out.2 (p + j) (by omega) (by omega)), List.drop_drop, show p + (k - p + 1) = k + 1 by omega, List.append_assoc]; rfl, fun j h1 h2 => by omega⟩
        clear hb hbl hul
        go_wp2_with (at_builtin; refine wpList_append_rw _ rfl (.tmp 17) (.tmp 22) 40 40 rfl 9 (.string ({ data := #[] } : ByteArray)) 16 Tryd.underlying40 infos rfl g m c (sc l) rfl (by rw [sc_length, hl]) (HB.out.1.chg ((Chg.refl [] _).alloc _) (by simp)) _ rfl 1 _ (Src.ofSlice _ Tryd.underlying40 ⟨_, 0, none⟩ 1 1 [.string u] rfl (one_new _ _ _) (one_str u)) (by omega) (by omega) ?_; intro g4 c4 w4 r1 r2 r3; have HB4 : Hid (Rw w4 g4 c4 (sc (l ++ [(t.drop p).take (k - p)])) 9 ∧ w.heap.size ≤ g4 ∧ Below w.heap.size w w4) := Lib.hid (by
            have hs := HB.out.2.2.size
            have hg := HB.out.2.1
            simp only [World.size_alloc] at r2
            exact ⟨by rw [sc_snoc, ← HU.out]; exact r1, by omega, r3.onto (HB.out.2.2.alloc hs _) (by simp; omega) (by simp; omega)⟩); clear r1 r2 r3)
        refine ⟨?_, ?measure⟩
        case measure => simp [intOf]; omega
        first
          | exact ⟨k + 1, k + 1, m + 1, g4, c4, _, by go_num, by go_num, by go_num, by omega, by omega, by omega, by rw [List.length_append, hl]; rfl, HK2, HB4⟩
          | ((repeat apply Exists.intro); exact ⟨⟨k + 1, k + 1, m + 1, g4, c4, _, by go_num, by go_num, by go_num, by omega, by omega, by omega, by rw [List.length_append, hl]; rfl, HK2, HB4⟩, rfl⟩)
      · have cb : ((s[k].toNat : Int) == 10) = false := by rw [hb]; exact u8_ne h10 _ rfl
        have HK2 : Hid (l ++ Lx.ls (t.drop p) = L ∧ ∀ j : Nat, p ≤ j → j < k + 1 → t[j]? ≠ some 10) := Lib.hid ⟨HK.out.1, fun j h1 h2 => by
          by_cases e : j = k
          · rw [e, hbl]; intro h; injection h with h; exact h10 h
          · exact HK.out.2 j h1 (by omega)⟩
        clear hb hbl
        go_wp2
        refine ⟨?_, ?measure⟩
        case measure => simp [intOf]; omega
        first
          | exact ⟨k + 1, p, m, g, c, l, by go_num, by go_num, by go_num, by omega, by omega, by omega, hl, HK2, HB⟩
          | ((repeat apply Exists.intro); exact ⟨⟨k + 1, p, m, g, c, l, by go_num, by go_num, by go_num, by omega, by omega, by omega, hl, HK2, HB⟩, rfl⟩)
    · have kI : ¬ (k : Int) < (s.size : Int) := by omega
      have pS : (p : Int) ≤ (s.size : Int) := by omega
      obtain ⟨u, hu⟩ : ∃ u, s.extract p s.size = u := ⟨_, rfl⟩
      have hul : u.data.toList = t.drop p := by rw [← HS.out.1]; exact ext_drop2 s u p hu
      have HU : Hid (u = mkT (t.drop p)) := Lib.hid (mkT_eq hul)
      have HE : Hid (l ++ [t.drop p] = L ∧ n = m + 1) := Lib.hid (by
        have h1 : l ++ [t.drop p] = L := by
          rw [← HK.out.1, ls_none (t.drop p) (fun j => by
            rw [List.getElem?_drop]
            by_cases e : p + j < k
            · exact HK.out.2 (p + j) (by omega) e
            · rw [List.getElem?_eq_none (by rw [HS.out.2.2.2]; omega)]; simp)]
        exact ⟨h1, by rw [← HS.out.2.2.1, ← h1, List.length_append, hl]; rfl⟩)
      clear hul
      go_wp2_with (at_builtin; refine wpList_append_rw _ rfl (.tmp 26) (.tmp 30) 40 40 rfl 9 (.string ({ data := #[] } : ByteArray)) 16 Tryd.underlying40 infos rfl g m c (sc l) rfl (by rw [sc_length, hl]) (HB.out.1.chg ((Chg.refl [] _).alloc _) (by simp)) _ rfl 1 _ (Src.ofSlice _ Tryd.underlying40 ⟨_, 0, none⟩ 1 1 [.string u] rfl (one_new _ _ _) (one_str u)) (by omega) (by omega) ?_; intro g4 c4 w4 r1 r2 r3; have HB4 : Hid (Rw w4 g4 c4 (sc (l ++ [t.drop p])) 9 ∧ w.heap.size ≤ g4 ∧ Below w.heap.size w w4) := Lib.hid (by
            have hs := HB.out.2.2.size
            have hg := HB.out.2.1
            simp only [World.size_alloc] at r2
            exact ⟨by rw [sc_snoc, ← HU.out]; exact r1, by omega, r3.onto (HB.out.2.2.alloc hs _) (by simp; omega) (by simp; omega)⟩); clear r1 r2 r3)
      go_ret
      first
        | exact ⟨g4, c4, by rw [HE.out.2]; rfl, by rw [← HE.out.1]; exact sc_lt HB4.out.1, HB4.out.2.2⟩
        | exact ⟨g4, ⟨c4, by rw [HE.out.2]; rfl⟩, by rw [← HE.out.1]; exact sc_lt HB4.out.1, HB4.out.2.2⟩
end Go.Proofs.YtopiiehdgknmgaaDoor
