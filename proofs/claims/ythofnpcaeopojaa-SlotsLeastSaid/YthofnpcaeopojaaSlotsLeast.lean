/- P28.3: for every most and numbers: whoever comes gets the least slot that nobody has, and a number that nobody had. No condition. -/
import Derived.Test.YthofnpcaeopojaaOpen
import Derived.WalkKit
import Derived.ProofKit
import Derived.OpenShut
import Derived.Test.YthofnpcaeopojaaSl6
namespace Go.Proofs.Ythofnpcaeopojaa.slotsLeast
open Go.Joins Go.ChangeShapes Go.WideShapes Go.ChangeAt Go.RowKit Go.Deep
open Go.ChangeMaps (open_string)
set_option linter.unusedSimpArgs false
set_option linter.unusedVariables false

/-- Where a number stands first; below 0: nowhere. -/
def ix : List Int → Int → Int
  | [], _ => -1
  | x :: r, v => if x == v then 0 else if ix r v == -1 then -1 else ix r v + 1
theorem ix_from (v : Int) : ∀ (l : List Int) (i : Nat), Lib.idxFrom l v i = if ix l v = -1 then -1 else (i : Int) + ix l v
  | [], i => by simp [Lib.idxFrom, ix]
  | x :: r, i => by
    by_cases hx : x = v
    · simp [Lib.idxFrom, ix, hx]
    · have ih := ix_from v r (i + 1)
      have hb : (x == v) = false := by simpa using hx
      simp only [Lib.idxFrom, ix, hb, Bool.false_eq_true, if_false, hx]
      rw [ih]
      by_cases h : ix r v = -1
      · simp [h]
      · have hg : ¬ (ix r v + 1 = -1) := by
          have : ∀ l : List Int, -1 ≤ ix l v := fun l => by
            induction l with
            | nil => simp [ix]
            | cons a b ihb => simp only [ix]; split; · omega
                              · split <;> omega
          have := this r; omega
        simp [h, hg]; omega
theorem ix_eq (l : List Int) (v : Int) : Lib.idxOf l v = ix l v := by
  unfold Lib.idxOf
  rw [ix_from]
  split
  · omega
  · simp
/-- The first free slot from one on. -/
def ff (W : List Int) (t : Nat) : Int := if ix (W.drop t) (-1) = -1 then -1 else (t : Int) + ix (W.drop t) (-1)
theorem idxOf_ge : ∀ (l : List Int) (v : Int), -1 ≤ ix l v ∧ ix l v < l.length
  | [], v => by simp [ix]
  | x :: r, v => by
    have := idxOf_ge r v
    simp only [ix, List.length_cons, beq_iff_eq]
    split
    · omega
    · split <;> omega
theorem ff_no (W : List Int) (t : Nat) (h : t < W.length) (hv : W.getD t 0 = -1) : ff W t = t := by
  have e : W[t] = -1 := by rw [← hv]; simp [List.getD, List.getElem?_eq_getElem h]
  unfold ff
  rw [List.drop_eq_getElem_cons h, e]
  simp [ix]
theorem ff_yes (W : List Int) (t : Nat) (h : t < W.length) (hv : ¬ W.getD t 0 = -1) : ff W t = ff W (t + 1) := by
  have e : W[t] = W.getD t 0 := by simp [List.getD, List.getElem?_eq_getElem h]
  have hg := idxOf_ge (W.drop (t + 1)) (-1)
  unfold ff
  rw [List.drop_eq_getElem_cons h, e]
  simp only [ix, beq_iff_eq, hv, if_false]
  by_cases h1 : ix (W.drop (t + 1)) (-1) = -1
  · simp [h1]
  · simp only [h1, if_false]
    rw [if_neg (by omega)]
    omega
theorem ff_0 (W : List Int) : ff W 0 = ix W (-1) := by
  unfold ff
  rw [List.drop_zero]
  split
  · omega
  · simp
theorem ff_end (W : List Int) (n : Nat) (h : W.length = n) : ff W n = -1 := by
  unfold ff
  rw [List.drop_of_length_le (by omega)]
  simp [ix]
theorem idxOf_at : ∀ (l : List Int) (v : Int) (j : Nat), ix l v = (j : Int) → l[j]? = some v
  | [], v, j, h => by simp only [ix] at h; omega
  | x :: r, v, j, h => by
    simp only [ix, beq_iff_eq] at h
    by_cases hx : x = v
    · simp [hx] at h
      obtain rfl : j = 0 := by omega
      subst hx; rfl
    · simp only [beq_iff_eq, hx, if_false] at h
      split at h
      · omega
      · obtain ⟨i, rfl⟩ : ∃ i, j = i + 1 := ⟨j - 1, by omega⟩
        have := idxOf_at r v i (by omega)
        simpa using this
theorem idxOf_none : ∀ (l : List Int) (v : Int), ix l v = -1 → l.count v = 0
  | [], v, h => rfl
  | x :: r, v, h => by
    have hg := idxOf_ge r v
    simp only [ix, beq_iff_eq] at h
    by_cases hx : x = v
    · simp [hx] at h
    · simp only [beq_iff_eq, hx, if_false] at h
      split at h
      · rename_i h2
        rw [List.count_cons_of_ne (fun e => hx e)]
        exact idxOf_none r v h2
      · omega
/-- Slots that hold together, in memory. -/
def SL (w0 w : World) (s g m n : Nat) (W : List Int) (M : List (Int × Int × Nat)) (c nx : Nat) : Prop := SB w0 w s g m n W M c nx ∧ SOk n W M c nx
theorem SL.le {w0 w : World} {s g m n c nx : Nat} {W : List Int} {M : List (Int × Int × Nat)} (h : SL w0 w s g m n W M c nx) : M.length ≤ n := by have := h.2.2.2.2.2; omega
theorem SL.wl {w0 w : World} {s g m n c nx : Nat} {W : List Int} {M : List (Int × Int × Nat)} (h : SL w0 w s g m n W M c nx) : W.length = n := h.2.2.1
theorem SL.bel {w0 w : World} {s g m n c nx : Nat} {W : List Int} {M : List (Int × Int × Nat)} (h : SL w0 w s g m n W M c nx) : Below w0.heap.size w0 w := h.1.2.1
theorem SL.full {w0 w : World} {s g m n c nx : Nat} {W : List Int} {M : List (Int × Int × Nat)} (h : SL w0 w s g m n W M c nx) (h1 : 1 ≤ n) (hi : ix W (-1) = -1) : 1 ≤ nx := by
  have h2 := idxOf_none W (-1) hi
  have h3 := h.2.2.2.2.2
  have hl : 0 < M.length := by omega
  have := (h.2.2.2.1 _ (List.getElem_mem hl)).1
  have := h.2.1.2.2.1 _ (List.getElem_mem hl)
  omega
theorem lv_any {w0 w : World} {s g m n c nx : Nat} {W : List Int} {M : List (Int × Int × Nat)} (h : SL w0 w s g m n W M c nx) :
    Calls Try.prog 19 #[.pointer (some ⟨s, 0, none⟩)] w fun e w' => ∃ a cp, e = .returned (.slice a M.length cp) ∧ SL w0 w' s g m n W M c nx :=
  (sl_live s g m n W M c nx w h.1.1 h.2.1).mono fun e w' ⟨v, he, k1, k2⟩ => by
    have hs : ∃ a cp, v = .slice a M.length cp := by
      rcases k1 with ⟨_, ⟨hv, hn⟩ | ⟨g', cap, cur, hv, _⟩⟩
      · exact ⟨none, 0, by rw [hv, hn]⟩
      · exact ⟨_, _, hv⟩
    obtain ⟨a, cp, rfl⟩ := hs
    exact ⟨a, cp, he, h.1.fresh k2, h.2⟩
theorem fr_any {w0 w : World} {s g m n c nx : Nat} {W : List Int} {M : List (Int × Int × Nat)} (hn : n ≤ 1024) (h : SL w0 w s g m n W M c nx) :
    Calls Try.prog 20 #[.pointer (some ⟨s, 0, none⟩)] w fun e w' => e = .returned (.int .i64 ((n : Int) - (M.length : Int))) ∧ SL w0 w' s g m n W M c nx :=
  (sl_free s g m n W M c nx w hn h.2.1.2.2.2 h.1.1).mono fun e w' ⟨he, q, hw⟩ => ⟨he, by rw [hw]; exact ⟨h.1.fresh (below_drewN (Below.refl _ _) q), h.2⟩⟩
theorem cl_any {w0 w : World} {s g m n c nx : Nat} {W : List Int} {M : List (Int × Int × Nat)} (id : Int) (hn : n ≤ 1024) (h : SL w0 w s g m n W M c nx) :
    Calls Try.prog 12 #[.pointer (some ⟨s, 0, none⟩), .int .i64 id] w fun e w' => ∃ (b : Bool) (W' : List Int) (M' : List (Int × Int × Nat)), e = .returned (.bool b) ∧ SL w0 w' s g m n W' M' c nx := by
  cases hi : mIdx M id with
  | none => exact (sl_close_no s g m n W M c nx id w h.1.1 hi).mono fun e w' ⟨he, hw⟩ => ⟨false, W, M, he, by rw [← hw]; exact h⟩
  | some p =>
    obtain ⟨i, v⟩ := p
    obtain ⟨b, hb⟩ := mIdx_some hi
    obtain ⟨_, j, hj, _⟩ := h.2.2.2.1 _ (List.mem_of_getElem? hb)
    simp only at hj
    subst hj
    obtain ⟨k1, k2⟩ := h.2.close hb
    exact (sl_close s g m n W M c nx id i j w hn k2 h.1.1 hi).mono fun e w' ⟨he, k3, k4⟩ => ⟨true, _, _, he, h.1.to k3 k4 (three s g m), k1⟩
theorem op_yes {w0 w : World} {s g m n c nx j : Nat} {W : List Int} {M : List (Int × Int × Nat)} (hn : n ≤ 1024) (hnx : nx < 4096) (hj : ix W (-1) = (j : Int)) (h : SL w0 w s g m n W M c nx) :
    Calls Try.prog 10 #[.pointer (some ⟨s, 0, none⟩)] w fun e w' => e = .returned (.tuple #[.int .i64 nx, .int .i64 j, .bool true]) ∧ SL w0 w' s g m n (W.set j nx) (M ++ [((nx : Int), (j : Int), c)]) (c + 1) (nx + 1) := by
  have hat := idxOf_at W (-1) j hj
  have hjl : j < n := by rw [← h.2.2.1]; exact (List.getElem?_eq_some_iff.1 hat).1
  refine (sl_open s g m n W M c nx j w hn (by omega) (by omega) hjl ((ix_eq _ _).trans hj) (mIdx_none fun x hx e => by have := (h.2.2.2.1 x hx).1; omega) (fun x hx => (h.2.1.2.2.1 x hx).1) h.1.1).mono ?_
  rintro e w' ⟨he, k1, k2⟩
  exact ⟨he, h.1.to (by rw [Int.natCast_add]; exact k1) k2 (three s g m), h.2.open hn hnx hat⟩
theorem op_no {w0 w : World} {s g m n c nx : Nat} {W : List Int} {M : List (Int × Int × Nat)} (hn : n ≤ 1024) (hnx : nx < 4096) (hj : ix W (-1) = -1) (h : SL w0 w s g m n W M c nx) :
    Calls Try.prog 10 #[.pointer (some ⟨s, 0, none⟩)] w fun e w' => e = .returned (.tuple #[.int .i64 0, .int .i64 0, .bool false]) ∧ w = w' :=
  sl_open_full s g m n W M c nx w hn (by omega) ((ix_eq _ _).trans hj) h.1.1
theorem who_no {w0 w : World} {s g m n c nx j : Nat} {W : List Int} {M : List (Int × Int × Nat)} (hn : n ≤ 1024) (hj : j < n) (hv : W.getD j 0 = -1) (h : SL w0 w s g m n W M c nx) :
    Calls Try.prog 17 #[.pointer (some ⟨s, 0, none⟩), .int .i64 j] w fun e w' => e = .returned (.tuple #[.int .i64 0, .bool false]) ∧ w = w' := sl_who_no s g m n W M c nx j w hn hj hv h.1.1
theorem who_yes {w0 w : World} {s g m n c nx j : Nat} {W : List Int} {M : List (Int × Int × Nat)} {v : Int} (hn : n ≤ 1024) (hj : j < n) (hv : W.getD j 0 = v) (hne : (v == -1) = false) (h : SL w0 w s g m n W M c nx) :
    Calls Try.prog 17 #[.pointer (some ⟨s, 0, none⟩), .int .i64 j] w fun e w' => e = .returned (.tuple #[.int .i64 v, .bool true]) ∧ w = w' := sl_who_yes s g m n W M c nx v j w hn hj hv hne h.1.1
theorem wi_any (n lo r : Int) (h : max n lo = r) (hr : r ≤ 4096) (hl : lo ≤ 4096) (w : World) : Calls Try.prog 18 #[.int .i64 n, .int .i64 lo, .int .i64 4096] w fun e w' => e = .returned (.int .i64 r) ∧ w = w' := by
  by_cases h1 : n < lo
  · obtain rfl : lo = r := by omega
    go_enter Try.func18, Try.ntmps18
    go_wp2
    go_ret
    exact ⟨rfl, rfl⟩
  · obtain rfl : n = r := by omega
    have h2 : ¬ 4096 < n := by omega
    go_enter Try.func18, Try.ntmps18
    go_wp2
    go_ret
    exact ⟨rfl, rfl⟩
set_option maxRecDepth 20000 in
set_option maxHeartbeats 8000000 in

theorem walk (a0 : Int) (a1 : Option Addr) (len1 cap1 : Nat) (z1 : List Int) (w : World) (w0 : (Lit.int .u8 a0).wf = true) (w1 : IsRow .u8 w a1 len1 cap1 z1) :
    Calls Try.prog 4 #[.int .u8 a0, .slice a1 len1 cap1] w fun e w' => e = .returned (.bool true) ∧ Below w.heap.size w w' := by
  obtain ⟨hlc, hcm, hnil, hcell⟩ := w1
  unfold maxLen at hnil
  have HCELL := Lib.hid hcell
  have b0 : 0 ≤ a0 ∧ a0 ≤ 255 := bounds_u8 w0
  obtain ⟨q, hq⟩ : ∃ q : Nat, a0 % 8 = (q : Int) := ⟨(a0 % 8).toNat, by omega⟩
  obtain ⟨n, hn⟩ : ∃ n : Nat, (1 : Int) + (q : Int) = (n : Int) := ⟨1 + q, by omega⟩
  have hn8 : 1 ≤ n ∧ n ≤ 8 := by omega
  have q0 : (0 : Int) ≤ (q : Int) := by omega
  have q8 : (q : Int) ≤ 7 := by omega
  have n0 : (0 : Int) ≤ (n : Int) := by omega
  have n8 : (n : Int) ≤ 8 := by omega
  obtain ⟨b1, b2⟩ := b0
  have hnk : n ≤ 1024 := by omega
  clear hcell
  go_enter Try.func4, Try.ntmps4
  go_wp2_with (go_at_call 7; refine (sb_new n n _ (by omega)).mono ?_; rintro e wn ⟨s, g, m, rfl, k1⟩; have H0 : Hid (SL w wn s g m n (List.replicate n (-1)) [] 0 0) := Lib.hid ⟨k1, SOk.new n⟩; clear k1)
  go_loopw [7, 8] (fun l i wr => ∃ (k c nx : Nat) (W : List Int) (M : List (Int × Int × Nat)) (la : Int), l = .int .i64 la ∧ i = .int .i64 k ∧ k ≤ 40 ∧ nx ≤ k ∧ -1 ≤ la ∧ la < (nx : Int) ∧ Hid (SL w wr s g m n W M c nx)) (fun _ i _ => 40 - (intOf i).toNat)
  case atStart => exact ⟨0, 0, 0, _, _, -1, rfl, rfl, by omega, by omega, by omega, by omega, H0⟩
  case round =>
    clear H0
    obtain ⟨k, c, nx, W, M, la, rfl, rfl, hk, hnx, hl1, hl2, HS⟩ := hrel
    have i0 : (0 : Int) ≤ (k : Int) := by omega
    have i40 : (k : Int) ≤ 40 := by omega
    by_cases hkl : k < len1
    · by_cases hk4 : k < 40
      · have i1 : (k : Int) < (len1 : Int) := by omega
        have i2 : (k : Int) < 40 := by omega
        obtain ⟨wo, rfl⟩ : ∃ wo : World, wo = wr := ⟨_, rfl⟩
        obtain ⟨bb, off, hab, hbl, hcl⟩ := HCELL.out.2.2 (by omega)
        subst hab
        have hzm : z1.getD k 0 ∈ z1 := by
          have hk : k < z1.length := by omega
          simp [List.getD, List.getElem?_eq_getElem hk]
        have hzb := bounds_u8 (HCELL.out.2.1 _ hzm)
        have hzc := hcl k hkl
        obtain ⟨z, hz⟩ : ∃ z, z1.getD k 0 = z := ⟨_, rfl⟩
        rw [hz] at hzb hzc
        obtain ⟨z0, z255⟩ := hzb
        have HY := Lib.hid (And.intro hzc hbl)
        have HWL := Lib.hid (SL.wl HS.out)
        clear hcl hzm hz hzc hbl
        go_wp2
        go_loop [9, 10] (fun f j => (∃ t : Nat, t < n ∧ f = .int .i64 (ff W (t + 1)) ∧ j = .int .i64 (t : Int)) ∨ (f = .int .i64 (ff W 0) ∧ j = .int .i64 (-1))) (fun _ j => (intOf j + 1).toNat)
        case atStart => exact Or.inl ⟨n - 1, by omega, by rw [Nat.sub_add_cancel hn8.1, ff_end W n HWL.out], by congr 1; omega⟩
        case round =>
          rcases hrel with ⟨t, ht, rfl, rfl⟩ | ⟨rfl, rfl⟩
          · have t0 : (0 : Int) ≤ (t : Int) := by omega
            have t8 : (t : Int) ≤ 8 := by omega
            have hrel2 : ∀ f : Int, f = ff W t → ((∃ t' : Nat, t' < n ∧ (Value.int .i64 f) = .int .i64 (ff W (t' + 1)) ∧ (Value.int .i64 ((t : Int) - 1)) = .int .i64 (t' : Int)) ∨ ((Value.int .i64 f) = .int .i64 (ff W 0) ∧ (Value.int .i64 ((t : Int) - 1)) = .int .i64 (-1))) := by
              rintro f rfl
              rcases t with _ | t'
              · right; exact ⟨rfl, by congr 1⟩
              · left; exact ⟨t', by omega, rfl, by congr 1; omega⟩
            by_cases hv : W.getD t 0 = -1
            · have hfe : (t : Int) = ff W t := (ff_no W t (by rw [HWL.out]; exact ht) hv).symm
              have HR := Lib.hid (hrel2 t hfe)
              have HV := Lib.hid hv
              clear hrel2 hv hfe
              go_wp2_with (go_at_call 17; with_reducible refine (who_no hnk ht HV.out HS.out).mono ?_; rintro e w' ⟨rfl, rfl⟩)
              go_round
              case rel => exact HR.out
              case measure => simp [intOf]
            · have hfe : ff W (t + 1) = ff W t := (ff_yes W t (by rw [HWL.out]; exact ht) hv).symm
              obtain ⟨v, hv2⟩ : ∃ v, W.getD t 0 = v := ⟨_, rfl⟩
              have hne : (v == -1) = false := by rw [beq_eq_false_iff_ne, ← hv2]; exact hv
              have HR := Lib.hid (hrel2 _ hfe)
              have HV := Lib.hid hv2
              clear hrel2 hv hfe hv2
              go_wp2_with (go_at_call 17; with_reducible refine (who_yes hnk ht HV.out hne HS.out).mono ?_; rintro e w' ⟨rfl, rfl⟩)
              go_round
              case rel => exact HR.out
              case measure => simp [intOf]
          · have hz2 : ∀ w2 : World, Below w.heap.size w w2 → w2.cell? ⟨bb, off + k, none⟩ = some (.int .u8 z) := fun w2 hb => (hb.cell (p := ⟨bb, off + k, none⟩) HY.out.2).trans HY.out.1
            have HZ := Lib.hid hz2
            clear hz2
            have hg := idxOf_ge W (-1)
            by_cases hi : ix W (-1) = -1
            · have hf : ff W 0 = -1 := by rw [ff_0]; exact hi
              have h1 := SL.full HS.out hn8.1 hi
              obtain ⟨lb, hlb⟩ : ∃ lb : Int, max la 0 = lb := ⟨_, rfl⟩
              have hb1 : 0 ≤ lb ∧ lb < (nx : Int) := by omega
              have HI := Lib.hid (And.intro hi hlb)
              have hc1 := HZ.out wo (SL.bel HS.out)
              have H2 := HS
              clear hi hlb hg
              go_wp2_with (first
                | (go_at_call 10; with_reducible refine (op_no hnk (by omega) HI.out.1 HS.out).mono ?_; rintro e w2 ⟨rfl, rfl⟩)
                | (go_at_call 18; refine (wi_any la 0 lb HI.out.2 (by omega) (by omega) _).mono ?_; rintro e w' ⟨rfl, rfl⟩)
                | (go_at_call 12; refine (cl_any z hnk H2.out).mono ?_; rintro e w3 ⟨bq, W3, M3, rfl, k1⟩; have hle := SL.le k1; have hl3 : (M3.length : Int) ≤ (n : Int) := (by omega); have hl4 : ¬ (n : Int) < (M3.length : Int) := (by omega); have hl5 : (0 : Int) ≤ (M3.length : Int) := (by omega); have hl6 : ¬ n < M3.length := (by omega); have hl7 : M3.length ≤ n := (by omega); have hl8 : (((M3.length : Int) + ((n : Int) - (M3.length : Int))) != (n : Int)) = false := (by simp; omega); have H3 := Lib.hid k1; clear k1 hle)
                | (go_at_call 19; with_reducible refine (lv_any H3.out).mono ?_; rintro e w4 ⟨a4, c4, rfl, k1⟩; have H4 := Lib.hid k1; clear k1)
                | (go_at_call 19; with_reducible refine (lv_any H4.out).mono ?_; rintro e w5 ⟨a5, c5, rfl, k1⟩; have H5 := Lib.hid k1; clear k1)
                | (go_at_call 20; with_reducible refine (fr_any hnk H5.out).mono ?_; rintro e w6 ⟨rfl, k1⟩; have H6 := Lib.hid k1; clear k1))
              refine ⟨⟨k + 1, _, nx, W3, M3, lb, rfl, by go_num, by omega, by omega, by omega, by omega, H6⟩, ?_⟩
              show 40 - ((k : Int) + 1).toNat < 40 - (k : Int).toNat
              omega
            · obtain ⟨j, hj⟩ : ∃ j : Nat, ix W (-1) = (j : Int) := ⟨(ix W (-1)).toNat, by omega⟩
              have hf : ff W 0 = (j : Int) := by rw [ff_0]; exact hj
              have j0 : (0 : Int) ≤ (j : Int) := by omega
              have j1 : decide ((0 : Int) ≤ (j : Int)) = true := by rw [decide_eq_true_eq]; omega
              have hid : decide ((nx : Int) ≤ la) = false := by rw [decide_eq_false_iff_not]; omega
              have hmx : max la (nx : Int) = (nx : Int) := by omega
              have hnx4 : nx < 4096 := by omega
              have HI := Lib.hid (And.intro hj (And.intro hmx hnx4))
              clear hi hj hmx hg hnx4
              go_wp2_with (first
                | (go_at_call 10; with_reducible refine (op_yes hnk HI.out.2.2 HI.out.1 HS.out).mono ?_; rintro e w2 ⟨rfl, k1⟩; have hc1 := HZ.out w2 (SL.bel k1); have H2 := Lib.hid k1; clear k1)
                | (go_at_call 18; refine (wi_any la nx nx HI.out.2.1 (by omega) (by omega) _).mono ?_; rintro e w' ⟨rfl, rfl⟩)
                | (go_at_call 12; refine (cl_any z hnk H2.out).mono ?_; rintro e w3 ⟨bq, W3, M3, rfl, k1⟩; have hle := SL.le k1; have hl3 : (M3.length : Int) ≤ (n : Int) := (by omega); have hl4 : ¬ (n : Int) < (M3.length : Int) := (by omega); have hl5 : (0 : Int) ≤ (M3.length : Int) := (by omega); have hl6 : ¬ n < M3.length := (by omega); have hl7 : M3.length ≤ n := (by omega); have hl8 : (((M3.length : Int) + ((n : Int) - (M3.length : Int))) != (n : Int)) = false := (by simp; omega); have H3 := Lib.hid k1; clear k1 hle)
                | (go_at_call 19; with_reducible refine (lv_any H3.out).mono ?_; rintro e w4 ⟨a4, c4, rfl, k1⟩; have H4 := Lib.hid k1; clear k1)
                | (go_at_call 19; with_reducible refine (lv_any H4.out).mono ?_; rintro e w5 ⟨a5, c5, rfl, k1⟩; have H5 := Lib.hid k1; clear k1)
                | (go_at_call 20; with_reducible refine (fr_any hnk H5.out).mono ?_; rintro e w6 ⟨rfl, k1⟩; have H6 := Lib.hid k1; clear k1))
              refine ⟨⟨k + 1, _, nx + 1, W3, M3, (nx : Int), rfl, by go_num, by omega, by omega, by omega, by omega, H6⟩, ?_⟩
              show 40 - ((k : Int) + 1).toNat < 40 - (k : Int).toNat
              omega
      · have i1 : (k : Int) < (len1 : Int) := by omega
        have i2 : ¬ (k : Int) < 40 := by omega
        have HB := Lib.hid (SB.bel HS.out.1)
        go_wp2_with (go_at_call 16; refine (sl_lives _).mono ?_; rintro e w4 ⟨rfl, k1⟩; have HB2 := Lib.hid (HB.out.trans (k1.mono HB.out.size)); clear k1)
        go_ret
        exact ⟨rfl, HB2.out⟩
    · have i1 : ¬ (k : Int) < (len1 : Int) := by omega
      have HB := Lib.hid (SB.bel HS.out.1)
      go_wp2_with (go_at_call 16; refine (sl_lives _).mono ?_; rintro e w4 ⟨rfl, k1⟩; have HB2 := Lib.hid (HB.out.trans (k1.mono HB.out.size)); clear k1)
      go_ret
      exact ⟨rfl, HB2.out⟩

set_option maxRecDepth 100000 in
theorem lifted (os : Os) (started : os.Started) (H : Type) (enc : TypeId × Value → H) :
    ReturnsInHanded {} Try.checked os 4 .any (Rows.slotsLeastSpec.pre6 enc Try.prog Try.f4 Rows.slotsLeastRow.domain false) (Rows.slotsLeastSpec.post enc Try.prog Try.f4 false true false false) := by
  refine returnsInHanded_of_change (C := Try.checked) ownKn started (by kernel_rfl) Try.func4
    (ChangeSpec.witness6 (enc := enc) (C := Try.checked) false ⟨#[], #[.int .u8 0, .slice none 0 0], []⟩ 8 (by kernel_rfl) (by kernel_rfl) (by kernel_rfl) (by kernel_rfl)) ?_
  intro W base args ds gs before hval0 hW hcnd _
  have hval : ∀ (j : Nat) t v, Try.f4.params[j]? = some t → args[j]? = some v → Value.okWide Try.prog W .any base t v := hval0
  have hW' := hW
  obtain ⟨p, q, hA0, hV, rfl, hfz, hnd⟩ := hW
  have hA : DataW.TrodAll enc Try.prog W 0 (fun _ => true) true Try.f4.params.toList args.toList ds p := hA0
  rw [Try.params4] at hA hval
  obtain ⟨v0, vs0, d0, ds0, p0, q0, hargs, rfl, rfl, h0, r0⟩ := trodAll_cons hA
  obtain ⟨v1, vs1, d1, ds1, p1, q1, rfl, rfl, rfl, h1, r1⟩ := trodAll_cons r0
  obtain ⟨rfl, rfl, rfl⟩ := trodAll_nil r1
  obtain rfl : args = #[v0, v1] := by cases args; simp_all
  obtain ⟨rfl, rfl⟩ := trodVars_none hV
  have k0 := h0
  have lt0 : ∀ x ∈ p0, x.block < W.heap.size := by obtain ⟨m, hm⟩ := k0; exact DataW.trod_lt m _ _ _ hm
  obtain ⟨a0, rfl, rfl, rfl, w0⟩ := open_int Try.underlying5 (hval 0 5 v0 rfl rfl) h0
  have k1 := h1
  have lt1 : ∀ x ∈ p1, x.block < W.heap.size := by obtain ⟨m, hm⟩ := k1; exact DataW.trod_lt m _ _ _ hm
  obtain ⟨b1, lb1, cb1, rfl⟩ := okWide_slice Try.underlying43 (hval 1 43 v1 rfl rfl)
  obtain ⟨fu1, hf1⟩ := h1
  simp only [Value.cells] at hf1
  obtain ⟨a1, len1, cap1, z1, e1, w1⟩ := fld_row Try.underlying43 Try.underlying5 (by kernel_rfl) hf1
  obtain ⟨rfl, rfl, rfl⟩ : b1 = a1 ∧ lb1 = len1 ∧ cb1 = cap1 := by simpa using e1
  clear hA0 hval0
  refine (walk a0 b1 lb1 cb1 z1 W w0 w1).mono fun e W' ⟨he, bel⟩ => ?_
  subst he
  exact ⟨_, rfl, _, _, _, [], _, [], hW', trodAll_mk1 (shut_bool Try.underlying4 _), (trodAll_cons_mk (Below.trod laidOut (by kernel_rfl) (of_decide_eq_true (by kernel_rfl)) k0 bel lt0) (trodAll_cons_mk (Below.trod laidOut (by kernel_rfl) (of_decide_eq_true (by kernel_rfl)) k1 bel lt1) trodAll_mk0)), rfl, bel.frame _, fun h => by cases h⟩

theorem over : Rows.slotsLeastRow.holds Try.pinned (OpenSpec.ofChange Rows.slotsLeastSpec) :=
  OpenClaim.holds_of_wide 4 Try.f4 rfl rfl rfl rfl rfl rfl rfl ⟨rfl, rfl, rfl, rfl, rfl⟩ rfl rfl rfl rfl rfl (by kernel_rfl) Try.func4 (by kernel_rfl)
    (of_decide_eq_true (by kernel_rfl)) (by unfold Func.isWrapper; first | (rw [if_pos (by decide +kernel)]; kernel_rfl) | (rw [if_neg (by decide +kernel)]; exact ⟨rfl, rfl⟩))
    (fun os started H enc _ => lifted os started H enc)

/-- The statement. -/
theorem proved : Rows.SlotsLeastSaid := over
#print axioms proved
end Go.Proofs.Ythofnpcaeopojaa.slotsLeast
