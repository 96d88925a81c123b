/- Heap: the object; Cut. -/
import Derived.Test.YtbdjcppkfihonaaHe11
import Derived.Test.YtbdjcppkfihonaaTkWalks
import Derived.WalkKit
import Derived.ProofKit
import Derived.Handy
import Derived.WalkLawsBesides
import Derived.WalkSpells
import Derived.Lib.Hide
import Derived.RegionTactic
import Derived.ChangeAlike
import Derived.WalkSmall
import Derived.Deep.QuietTactic
import Derived.BigQuiet
import Derived.OwnWalk
import Derived.Outline
import Derived.Deep.CutRange
import Derived.Deep.CutBlock
import Derived.LoopTactic
namespace Go.Proofs.Ytbdjcppkfihonaa
open Go.ChangeShapes Go.WideShapes Go.ChangeAt Go.RowKit
set_option linter.unusedSimpArgs false
set_option linter.unusedVariables false

/-- A heap of numbers below k that holds l: itself in block p, the deadlines by number in ga, the entries at r. -/
structure HP (w : World) (p ga k n c : Nat) (r : Option Addr) (l : List (Int × Int)) : Prop where
  o : Blk w p [.slice r n c, .slice (some ⟨ga, 0, none⟩) k k] 98
  a : Blk w ga (He.ats k l) 2
  m : RM w 0 r n c 2 (es l) 38
  pg : p ≠ ga
  pr : p ∉ rvB r
  gr : ga ∉ rvB r
  len : l.length = n
  ok : He.ok k l
  k1 : 1 ≤ k ∧ k ≤ 1024
theorem HP.chg {w w' : World} {p ga k n c : Nat} {r : Option Addr} {l : List (Int × Int)} (h : HP w p ga k n c r l) {x : List Nat} (q : Chg x w w') (h1 : p ∉ x) (h2 : ga ∉ x) (h3 : ∀ g ∈ rvB r, g ∉ x) : HP w' p ga k n c r l :=
  ⟨h.o.chg q h1, h.a.chg q h2, h.m.chg q h3, h.pg, h.pr, h.gr, h.len, h.ok, h.k1⟩
theorem HP.below {w w' : World} {p ga k n c : Nat} {r : Option Addr} {l : List (Int × Int)} (h : HP w p ga k n c r l) (q : Below w.heap.size w w') : HP w' p ga k n c r l :=
  h.chg (Chg.of_fresh (l := []) q) (by simp) (by simp) (by simp)
theorem HP.drew {w : World} {p ga k n c : Nat} {r : Option Addr} {l : List (Int × Int)} (h : HP w p ga k n c r l) : HP w.drew p ga k n c r l := h.below (Below.refl _ _).drew
theorem HP.nk {w : World} {p ga k n c : Nat} {r : Option Addr} {l : List (Int × Int)} (h : HP w p ga k n c r l) : n ≤ k := by
  have := h.ok.len; have := h.len; omega
theorem HP.c0 {w : World} {p ga k n c : Nat} {r : Option Addr} {l : List (Int × Int)} (h : HP w p ga k n c r l) : w.cell? ⟨p, 0, none⟩ = some (.slice r n c) := h.o.cell (i := 0) rfl
theorem HP.c1 {w : World} {p ga k n c : Nat} {r : Option Addr} {l : List (Int × Int)} (h : HP w p ga k n c r l) : w.cell? ⟨p, 1, none⟩ = some (.slice (some ⟨ga, 0, none⟩) k k) := h.o.cell (i := 1) rfl
theorem RM.er {w : World} {base n c : Nat} {r : Option Addr} {l : List (Int × Int)} {T : TypeId} (h : RM w base r n c 2 (es l) T) : ER w r l := by
  obtain ⟨h0, h1, h2 | ⟨g, h2, h3, h4⟩⟩ := h
  · left
    rw [es_length, h2.2.1] at h0
    exact List.length_eq_zero_iff.1 (by omega)
  · right
    exact ⟨g, h2, h4.lt, fun j a b hj => ⟨h4.cell (es_get l j a b hj).1, h4.cell (es_get l j a b hj).2⟩⟩
theorem HP.rn {w : World} {p ga k n c g : Nat} {l : List (Int × Int)} (h : HP w p ga k n c (some ⟨g, 0, none⟩) l) : Rn w g c 2 (es l) 38 := by
  obtain ⟨h0, h1, h2 | ⟨g2, h2, h3, h4⟩⟩ := h.m
  · exact absurd h2.1 (by simp)
  · injection h2 with h2; injection h2 with h2; rw [h2]; exact h4
theorem HP.at {w : World} {p ga k n c : Nat} {r : Option Addr} {l : List (Int × Int)} (h : HP w p ga k n c r l) (id : Int) : Calls Try.prog 27 #[.pointer (some ⟨p, 0, none⟩), .int .i64 id] w fun e w' => e = .returned (if He.at l id = 9223372036854775807 then .tuple #[.int .i64 0, .bool false] else .tuple #[.int .i64 (He.at l id), .bool true]) ∧ w' = w := by
  by_cases hb : 0 ≤ id ∧ id < k
  · obtain ⟨i, rfl⟩ : ∃ i : Nat, id = i := ⟨id.toNat, by omega⟩
    have hi : i < k := by omega
    exact he_at p ga k i _ hi w h.c1 (h.a.cell (ats_get l hi))
  · rw [if_pos (at_out h.ok hb)]
    exact he_at_out p ga k id hb w h.c1
set_option maxRecDepth 20000 in
set_option maxHeartbeats 4000000 in
theorem he_cut (p ga k n c : Nat) (r : Option Addr) (l : List (Int × Int)) (id : Int) (m : List (Int × Int)) (hm : He.cut l id = m) (b : Bool) (hb : decide (He.at l id ≠ 9223372036854775807) = b) (w : World) (h : HP w p ga k n c r l) : Calls Try.prog 18 #[.pointer (some ⟨p, 0, none⟩), .int .i64 id] w fun e w' => ∃ n', e = .returned (.bool b) ∧ HP w' p ga k n' c r m ∧ Chg (p :: ga :: rvB r) w w' := by
  by_cases ha : He.at l id = 9223372036854775807
  · obtain rfl : b = false := by rw [← hb]; simp [ha]
    have hm2 : m = l := by rw [← hm]; exact cut_same (at_no h.ok ha)
    have hA := h.at id
    rw [if_pos ha] at hA
    have H := Lib.hid (And.intro h (And.intro hm2 hA))
    clear hm hb ha hm2 hA h
    go_enter Try.func18, Try.ntmps18
    go_wp2_with (go_at_call 27; refine (H.out.2.2).mono ?_; rintro e W1 ⟨rfl, rfl⟩)
    go_ret
    exact ⟨n, rfl, by rw [H.out.2.1]; exact H.out.1, Chg.refl _ _⟩
  · obtain rfl : b = true := by rw [← hb]; simp [ha]
    obtain ⟨t, ht⟩ : ∃ t, He.at l id = t := ⟨_, rfl⟩
    have hmem : (t, id) ∈ l := by rw [← ht]; exact at_is ha
    have hrng := h.ok.rng _ hmem
    dsimp only at hrng
    obtain ⟨i, hi⟩ : ∃ i : Nat, l[i]? = some (t, id) := List.mem_iff_getElem?.1 hmem
    have hil : i < n := by rw [← h.len]; exact (List.getElem?_eq_some_iff.1 hi).1
    obtain ⟨q, rfl⟩ : ∃ q : Nat, id = q := ⟨id.toNat, by omega⟩
    have hqk : q < k := by omega
    have hnk := h.nk
    have hk1 := h.k1.2
    obtain ⟨g, rfl, hg0, hRn⟩ : ∃ g, r = some ⟨g, 0, none⟩ ∧ 0 ≤ g ∧ Rn w g c 2 (es l) 38 := by
      obtain ⟨h0, h1, h2 | h2⟩ := h.m
      · omega
      · exact h2
    have hA := h.at q
    rw [if_neg ha, ht] at hA
    have hS := he_search l n h.len (by omega) t q i (by rw [← pl_at l h.ok.srt i _ hi]; exact pl_parts l _ h.ok.srt) true (by simp [hi]) (some ⟨g, 0, none⟩) c _ rfl w h.m.er
    have hgp : g ≠ p ∧ g ≠ ga := by
      have h1 := h.pr; have h2 := h.gr
      rw [rvB_some] at h1 h2
      simp at h1 h2
      exact ⟨fun e => h1 e.symm, fun e => h2 e.symm⟩
    have hm2 : m = l.take i ++ l.drop (i + 1) := by rw [← hm]; exact cut_idx h.ok.nod hi
    have hats : (He.ats k l).set q (.int .i64 9223372036854775807) = He.ats k m := ats_put hqk fun j hj => by rw [← hm]; exact at_cut h.ok q j
    have H := Lib.hid (And.intro h (And.intro hm2 (And.intro hA (And.intro hS (And.intro hgp (And.intro hats (And.intro (show He.ok k m by rw [← hm]; exact ok_cut h.ok _) hm)))))))
    clear hm hb ha hm2 hA hS hgp hats hi hmem hrng ht h hRn hg0
    have w1 : IntKind.i64.wrap ((i : Int) + 1) = (i : Int) + 1 := IntWalk.i64_in _ (by omega)
    have i0 : (0 : Int) ≤ (q : Int) := by omega
    have i1 : (q : Int) < (k : Int) := by omega
    have n1 : p ≠ ga := H.out.1.pg
    have n2 : ga ≠ p := fun e => n1 e.symm
    go_enter Try.func18, Try.ntmps18
    have c0 := H.out.1.c0
    go_wp2_with (first
      | (go_at_call 27; refine (H.out.2.2.1).mono ?_; rintro e W1 ⟨rfl, rfl⟩)
      | (go_at_call 54
         refine (H.out.2.2.2.1).mono ?_
         rintro e W1 ⟨rfl, hb⟩
         have HB := Lib.hid (And.intro (H.out.1.below hb) hb)
         have c0 := HB.out.1.c0
         clear hb)
      | (go_at_call 57
         refine (he_delete l n i H.out.1.len (by omega) hil _ rfl g c W1 HB.out.1.rn).mono ?_
         rintro e W2 ⟨rfl, q1, q2⟩
         have HD := Lib.hid (And.intro q1 q2)
         have HE : Hid (Blk W2 p [.slice (some ⟨g, 0, none⟩) n c, .slice (some ⟨ga, 0, none⟩) k k] 98 ∧ Blk W2 ga (He.ats k l) 2) := Lib.hid ⟨HB.out.1.o.chg q2 (by simpa using fun e => H.out.2.2.2.2.1.1 e.symm), HB.out.1.a.chg q2 (by simpa using fun e => H.out.2.2.2.2.1.2 e.symm)⟩
         have c0 := HE.out.1.cell (i := 0) rfl
         have c1 := HE.out.1.cell (i := 1) rfl
         have f0 := HE.out.1.free 0
         have f1 := HE.out.2.free q
         have cq := HE.out.2.cell (ats_get l hqk)
         clear q1 q2))
    go_ret
    refine ⟨n - 1, rfl, ⟨?_, ?_, ?_, H.out.1.pg, H.out.1.pr, H.out.1.gr, ?_, H.out.2.2.2.2.2.2.1, H.out.1.k1⟩, ?_⟩
    · exact (HE.out.1.set 0 _).other H.out.1.pg q _
    · have := (HE.out.2.other (c := p) (fun e => H.out.1.pg e.symm) 0 (.slice (some ⟨g, 0, none⟩) (n - 1) c)).set q (.int .i64 9223372036854775807)
      rw [H.out.2.2.2.2.2.1] at this
      exact this
    · have hR : Rn ((W2.setCell ⟨p, 0, none⟩ (.slice (some ⟨g, 0, none⟩) (n - 1) c)).setCell ⟨ga, q, none⟩ (.int .i64 9223372036854775807)) g c 2 (es m) 38 := by
        have h1 := HD.out.1
        rw [← H.out.2.1] at h1
        exact h1.chg (((Chg.refl [p, ga] W2).set (Or.inl (by simp)) 0 _).set (Or.inl (by simp)) q _) (by simp; exact H.out.2.2.2.2.1)
      exact ⟨by rw [es_length, H.out.2.1, List.length_append, List.length_take, List.length_drop, H.out.1.len]; omega, by omega, Or.inr ⟨g, rfl, by omega, hR⟩⟩
    · rw [H.out.2.1, List.length_append, List.length_take, List.length_drop, H.out.1.len]; omega
    · refine ((((Chg.of_fresh HB.out.2).trans HD.out.2 (fun x hx => Or.inl ?_)).set (Or.inl ?_) 0 _).set (Or.inl ?_) q _)
      · rw [rvB_some]; simp at hx ⊢; exact Or.inr (Or.inr hx)
      · simp
      · simp
end Go.Proofs.Ytbdjcppkfihonaa
