/- Contracts of a wire (package wire) that tell which blocks they leave as they were: all but the wire's own and those that it holds. -/
import Derived.Test.YtkhkgnckimhekaaWireOrd
namespace Go.Proofs.Ytkhkgnckimhekaa
open Go.ChangeShapes Go.WideShapes Go.ChangeAt Go.RowKit
set_option linter.unusedSimpArgs false
set_option linter.unusedVariables false

/-- Of the blocks below B none but b is changed. -/
structure Only (b B : Nat) (w w' : World) : Prop where
  os : w'.os = w.os
  tape : w'.tape = w.tape
  output : w'.output = w.output
  size : w.heap.size ≤ w'.heap.size
  block : ∀ k, k < B → k ≠ b → w'.heap[k]? = w.heap[k]?
theorem Only.refl (b B : Nat) (w : World) : Only b B w w := ⟨rfl, rfl, rfl, Nat.le_refl _, fun _ _ _ => rfl⟩
theorem Only.next {b B : Nat} {a w w' : World} (h : Only b B a w) (k : Below B w w') : Only b B a w' :=
  ⟨k.os.trans h.os, k.tape.trans h.tape, k.output.trans h.output, Nat.le_trans h.size k.size, fun i hi hn => (k.block i hi).trans (h.block i hi hn)⟩
theorem Only.trans {b B : Nat} {a w w' : World} (h : Only b B a w) (k : Only b B w w') : Only b B a w' :=
  ⟨k.os.trans h.os, k.tape.trans h.tape, k.output.trans h.output, Nat.le_trans h.size k.size, fun i hi hn => (k.block i hi hn).trans (h.block i hi hn)⟩
theorem Only.set {b B : Nat} {a w : World} (h : Only b B a w) (j : Nat) (u : Value) : Only b B a (w.setCell ⟨b, j, none⟩ u) := by
  have k := (Below.refl b w).setCell (p := ⟨b, j, none⟩) (Nat.le_refl _) u
  exact ⟨k.os.trans h.os, k.tape.trans h.tape, k.output.trans h.output, Nat.le_trans h.size k.size, fun i hi hn => (Below.heap_setCell w _ u i hn).trans (h.block i hi hn)⟩
theorem Only.below {b B : Nat} {a w : World} (h : Only b B a w) (hb : b ≤ B) : Below b a w :=
  ⟨h.os, h.tape, h.output, h.size, fun i hi => h.block i (Nat.lt_of_lt_of_le hi hb) (Nat.ne_of_lt hi)⟩
theorem WAt.of_block {w w' : World} {b : Nat} {v : Value} {en : Bool} {se re : Nat} (h : WAt w b v en se re) (hb : w'.heap[b]? = w.heap[b]?) : WAt w' b v en se re := by
  obtain ⟨h0, h1, h2, h3, f0, f1, f2, f3⟩ := h
  exact ⟨by rw [World.cell?_of_block (w := w) hb]; exact h0, by rw [World.cell?_of_block (w := w) hb]; exact h1, by rw [World.cell?_of_block (w := w) hb]; exact h2, by rw [World.cell?_of_block (w := w) hb]; exact h3,
    by rw [World.frozen?_of_block (w := w) hb]; exact f0, by rw [World.frozen?_of_block (w := w) hb]; exact f1, by rw [World.frozen?_of_block (w := w) hb]; exact f2, by rw [World.frozen?_of_block (w := w) hb]; exact f3⟩
theorem WAt.below {w w' : World} {b : Nat} {v : Value} {en : Bool} {se re : Nat} (h : WAt w b v en se re) (k : Below w.heap.size w w') : WAt w' b v en se re :=
  h.of_block (k.block b (World.block_lt_of_cell? _ _ h.1))
theorem HV.below {w w' : World} {B : Nat} {v : Value} {S : ByteArray} (h : HV w B v S) (k : Below w.heap.size w w') : HV w' B v S := by
  rcases h with h | ⟨g, o, cap, hv, h1, h2, h3, h4, h5⟩
  · exact Or.inl h
  · have hb := k.block g h3.2
    refine Or.inr ⟨g, o, cap, hv, h1, h2, ⟨h3.1, Nat.lt_of_lt_of_le h3.2 k.size⟩, fun i hi => ?_, fun j hj => ⟨?_, ?_⟩⟩
    · rw [World.cell?_of_block (w := w) hb]; exact h4 i hi
    · rw [World.cell?_of_block (w := w) hb]; exact (h5 j hj).1
    · rw [World.frozen?_of_block (w := w) hb]; exact (h5 j hj).2
theorem HV.shape {w : World} {B : Nat} {v : Value} {S : ByteArray} (h : HV w B v S) : ∃ a c, v = .slice a S.size c := by
  rcases h with ⟨rfl, h0⟩ | ⟨g, o, cap, rfl, _⟩
  · exact ⟨none, 0, by rw [h0]⟩
  · exact ⟨_, _, rfl⟩
theorem HV.drewN {w : World} {B : Nat} {v : Value} {S : ByteArray} (h : HV w B v S) (n : Nat) : HV (w.drewN n) B v S := by
  rcases h with h | ⟨g, o, cap, hv, h⟩
  · exact Or.inl h
  · exact Or.inr ⟨g, o, cap, hv, h.drewN n⟩
theorem HV.set {w : World} {B b : Nat} {v : Value} {S : ByteArray} (h : HV w B v S) (hb : b < B) (j : Nat) (x : Value) : HV (w.setCell ⟨b, j, none⟩ x) B v S := by
  rcases h with h | ⟨g, o, cap, hv, h⟩
  · exact Or.inl h
  · exact Or.inr ⟨g, o, cap, hv, h.set hb j x⟩
set_option maxHeartbeats 600000 in
theorem offer_room2 (b B g o cap : Nat) (S s : ByteArray) (se re : Nat) (e : Bool) (w : World) (hs : s.size ≤ 4096) (hse : se ≤ 100000) (hb : b < B) (hr : S.size + s.size ≤ cap) (h : WAt w b (.slice (some ⟨g, o, none⟩) S.size cap) false se re) (ha : HAt w B g o cap S) :
    Calls Try.prog 10 #[.pointer (some ⟨b, 0, none⟩), .string s, .bool e] w fun en w' => en = .returned (.bool true) ∧ WAt w' b (.slice (some ⟨g, o, none⟩) (S.size + s.size) cap) e (se + s.size) re ∧ HAt w' B g o cap (S ++ s) ∧ Only b B w w' := by
  have hgB := ha.2.2.1
  have HW := Lib.hid (h.setCells g (o + S.size) (byteCells s) (by omega))
  have HH := Lib.hid (ha.fill hr)
  have HB : Hid (Only b B w (w.setCells g (o + S.size) (byteCells s))) := Lib.hid ((Only.refl _ _ _).next (below_setCells (by omega) _ _ _ (Below.refl _ _)))
  have hcl : Hid (∀ j, j < (byteCells s).length → (w.cell? ⟨g, o + S.size + j, none⟩).isSome = true) := fun j hj => by
    rw [byteCells_length] at hj; rw [Nat.add_assoc]; exact (ha.2.2.2.2 (S.size + j) (by omega)).1
  have hfl : Hid (∀ j, j < (byteCells s).length → w.frozen? ⟨g, o + S.size + j, none⟩ = false) := fun j hj => by
    rw [byteCells_length] at hj; rw [Nat.add_assoc]; exact (ha.2.2.2.2 (S.size + j) (by omega)).2
  obtain ⟨h0, h1, h2, h3, f0, f1, f2, f3⟩ := h
  clear ha hgB
  go_enter Try.func10, Try.ntmps10
  go_wp2_with (at_builtin; refine wpList_append_room1 _ rfl _ _ 42 9 rfl 5 (.int .u8 0) 1 Try.underlying42 info5 g o S.size cap rfl (.string s) rfl s.size (byteCells s) (Src.ofString _ Try.underlying9 s) hr hcl.out hfl.out ?_; obtain ⟨g0, g1, g2, g3, e0, e1, e2, e3⟩ := HW.out)
  go_ret
  have K := (((HW.out.set0 (.slice (some ⟨g, o, none⟩) (S.size + s.size) cap)).set2 (se + s.size)).set1 e)
  have e9 : ((se + s.size : Nat) : Int) = (se : Int) + (s.size : Int) := by omega
  rw [e9] at K
  exact ⟨rfl, K, ((HH.out.set hb _ _).set hb _ _).set hb _ _, ((HB.out.set _ _).set _ _).set _ _⟩
set_option maxHeartbeats 1000000 in
theorem offer_grow2 (b B g o cap : Nat) (S s : ByteArray) (se re : Nat) (e : Bool) (w : World) (hs : s.size ≤ 4096) (hS : S.size ≤ 100000) (hse : se ≤ 100000) (hb : b < B) (hB : B ≤ w.heap.size) (hr : cap < S.size + s.size) (h : WAt w b (.slice (some ⟨g, o, none⟩) S.size cap) false se re) (ha : HAt w B g o cap S) :
    Calls Try.prog 10 #[.pointer (some ⟨b, 0, none⟩), .string s, .bool e] w fun en w' => ∃ G, en = .returned (.bool true) ∧ WAt w' b (.slice (some ⟨w.heap.size, 0, none⟩) (S.size + s.size) G) e (se + s.size) re ∧ HAt w' B w.heap.size 0 G (S ++ s) ∧ Only b B w w' := by
  have HW := Lib.hid h
  have hoc : Hid (∀ j v, (byteCells S)[j]? = some v → w.cell? ⟨g, o + j, none⟩ = some v) := fun j v hj => by
    have hjl : j < S.size := by have := (List.getElem?_eq_some_iff.1 hj).1; rwa [byteCells_length] at this
    rw [byteCells_at S j hjl] at hj
    rw [← hj]; exact ha.2.2.2.1 j hjl
  obtain ⟨h0, h1, h2, h3, f0, f1, f2, f3⟩ := h
  clear ha
  go_enter Try.func10, Try.ntmps10
  go_wp2_with (at_builtin; refine wpList_append_grow1 _ rfl _ _ 42 9 rfl 5 (.int .u8 0) Try.underlying42 info5 g o S.size cap rfl (.string s) rfl s.size (byteCells s) (Src.ofString _ Try.underlying9 s) (byteCells S) (byteCells_length S) hoc.out hr (by omega) ?_)
  intro G hG hGm
  have hGm' : G ≤ 9223372036854775807 := by unfold maxLen at hGm; omega
  have HH : Hid (HAt ((w.alloc (Obj.cells ((byteCells S ++ byteCells s).toArray ++ Builtin.zeroCells #[Value.int IntKind.u8 0] (G - (S.size + s.size))) 5)).drew) B w.heap.size 0 G (S ++ s)) := HAt.fresh w B G S s hB hG hGm'
  have HW1 : Hid (WAt ((w.alloc (Obj.cells ((byteCells S ++ byteCells s).toArray ++ Builtin.zeroCells #[Value.int IntKind.u8 0] (G - (S.size + s.size))) 5)).drew) b (.slice (some ⟨g, o, none⟩) S.size cap) false se re) := HW.out.fresh _
  have HB1 : Hid (Only b B w ((w.alloc (Obj.cells ((byteCells S ++ byteCells s).toArray ++ Builtin.zeroCells #[Value.int IntKind.u8 0] (G - (S.size + s.size))) 5)).drew)) := Lib.hid ((Only.refl _ _ _).next (((Below.refl B w).alloc hB _).drew))
  revert HH HW1 HB1
  generalize ((w.alloc (Obj.cells ((byteCells S ++ byteCells s).toArray ++ Builtin.zeroCells #[Value.int IntKind.u8 0] (G - (S.size + s.size))) 5)).drew) = w1
  intro HH HW1 HB1
  obtain ⟨g0, g1, g2, g3, e0, e1, e2, e3⟩ := HW1.out
  clear h0 h1 h2 h3 f0 f1 f2 f3
  go_wp2
  go_ret
  have K := (((HW1.out.set0 (.slice (some ⟨w.heap.size, 0, none⟩) (S.size + s.size) G)).set2 (se + s.size)).set1 e)
  have e9 : ((se + s.size : Nat) : Int) = (se : Int) + (s.size : Int) := by omega
  rw [e9] at K
  exact ⟨G, rfl, K, ((HH.out.set hb _ _).set hb _ _).set hb _ _, ((HB1.out.set _ _).set _ _).set _ _⟩
set_option maxHeartbeats 600000 in
theorem offer_any2 (b B : Nat) (v : Value) (n : Nat) (xs : List Value) (se re : Nat) (s : ByteArray) (e : Bool) (w : World) (hs : s.size ≤ 4096) (hn : n ≤ 100000) (hse : se ≤ 100000) (hb : b < B) (hB : B ≤ w.heap.size) (h : WAt w b v false se re) (ho : w.ownsRow B 5 1 v n xs) :
    Calls Try.prog 10 #[.pointer (some ⟨b, 0, none⟩), .string s, .bool e] w fun en w' => ∃ v', en = .returned (.bool true) ∧ WAt w' b v' e (se + s.size) re ∧ w'.ownsRow B 5 1 v' (n + s.size) (xs ++ Lib.strCells s) ∧ Only b B w w' := by
  obtain ⟨i0, hi, hz0, hz1, hz2⟩ := info_parts info5
  have HI := Lib.hid hi
  have HI0 := Lib.hid hz0
  have HI1 := Lib.hid hz1
  have HI2 := Lib.hid hz2
  have HO := Lib.hid ho
  clear hi hz0 hz1 hz2 ho
  have HW := Lib.hid h
  obtain ⟨h0, h1, h2, h3, f0, f1, f2, f3⟩ := h
  go_enter Try.func10, Try.ntmps10
  go_wp2_with (at_builtin; refine Lib.wpList_append_own_string _ rfl _ _ 42 9 rfl B 5 i0 Try.underlying42 Try.underlying9 HI.out HI0.out HI1.out HI2.out _ n xs rfl HO.out s rfl (by unfold maxLen; omega) (by omega) hB ?_)
  intro v' w1 hown hgrow _
  have hne : some b ≠ v.ownBlock := fun hj => by have := (HO.out.lt b hj.symm).1; omega
  have HW1 := Lib.hid (HW.out.grown hgrow hne)
  have HB1 : Hid (Only b B w w1) := Lib.hid ((Only.refl _ _ _).next ((Below.refl _ _).grown hgrow hB (fun j hj => (HO.out.lt j hj).1)))
  have HO1 := Lib.hid hown
  obtain ⟨sa, sc, rfl⟩ := own_shape hown
  obtain ⟨g0, g1, g2, g3, e0, e1, e2, e3⟩ := HW1.out
  clear hown hgrow hne h0 h1 h2 h3 f0 f1 f2 f3
  go_wp2
  go_ret
  have K := (((HW1.out.set0 (.slice sa (n + s.size) sc)).set2 (se + s.size)).set1 e)
  have e9 : ((se + s.size : Nat) : Int) = (se : Int) + (s.size : Int) := by omega
  rw [e9] at K
  refine ⟨.slice sa (n + s.size) sc, rfl, ?_, ?_, ?_⟩
  · exact K
  · exact ownsRow_setCell_below (ownsRow_setCell_below (ownsRow_setCell_below HO1.out hb _) hb _) hb _
  · exact ((HB1.out.set _ _).set _ _).set _ _
theorem offer_at2 (b B : Nat) (v : Value) (S s : ByteArray) (se re : Nat) (e : Bool) (w : World) (hs : s.size ≤ 4096) (hS : S.size ≤ 100000) (hse : se ≤ 100000) (hb : b < B) (hB : B ≤ w.heap.size) (h : WAt w b v false se re) (ha : HV w B v S) :
    Calls Try.prog 10 #[.pointer (some ⟨b, 0, none⟩), .string s, .bool e] w fun en w' => ∃ v', en = .returned (.bool true) ∧ WAt w' b v' e (se + s.size) re ∧ HV w' B v' (S ++ s) ∧ Only b B w w' := by
  rcases ha with ⟨rfl, h0⟩ | ⟨g, o, cap, rfl, ha⟩
  · refine (offer_any2 b B _ 0 [] se re s e w hs (by omega) hse hb hB h (World.ownsRow_nil _ _ _ _)).mono fun en w' ⟨v', he, hw, ho, hbel⟩ => ⟨v', he, hw, ?_, hbel⟩
    rw [bytes_empty h0]
    exact own_HV (n := 0 + s.size) (by omega) ho
  · by_cases hr : S.size + s.size ≤ cap
    · refine (offer_room2 b B g o cap S s se re e w hs hse hb hr h ha).mono fun en w' ⟨he, hw, hh, hbel⟩ => ⟨_, he, hw, Or.inr ⟨g, o, cap, ?_, hh⟩, hbel⟩
      rw [ByteArray.size_append]
    · refine (offer_grow2 b B g o cap S s se re e w hs hS hse hb hB (by omega) h ha).mono fun en w' ⟨G, he, hw, hh, hbel⟩ => ⟨_, he, hw, Or.inr ⟨w.heap.size, 0, G, ?_, hh⟩, hbel⟩
      rw [ByteArray.size_append]
/-- A number brought between nothing and l. -/
def K3 (n : Int) (l k : Nat) : Prop := (n ≤ 0 ∧ k = 0) ∨ (0 ≤ n ∧ n = k ∧ k ≤ l) ∨ ((l : Int) < n ∧ k = l)
theorem K3_ex (n : Int) (l : Nat) : ∃ k, K3 n l k := by
  by_cases h0 : n ≤ 0
  · exact ⟨0, Or.inl ⟨h0, rfl⟩⟩
  · by_cases h1 : (l : Int) < n
    · exact ⟨l, Or.inr (Or.inr ⟨h1, rfl⟩)⟩
    · exact ⟨n.toNat, Or.inr (Or.inl ⟨by omega, by omega, by omega⟩)⟩
theorem K3.le {n : Int} {l k : Nat} (h : K3 n l k) : k ≤ l := by unfold K3 at h; omega
theorem peek_neg (b : Nat) (g o len cap : Nat) (en : Bool) (se re : Nat) (n : Int) (w : World) (hn : n ≤ 0) (hlc : len ≤ cap) (hcm : cap ≤ 9223372036854775807) (h : WAt w b (.slice (some ⟨g, o, none⟩) len cap) en se re) :
    Calls Try.prog 17 #[.pointer (some ⟨b, 0, none⟩), .int .i64 n] w fun e w' => e = .returned (.string ⟨#[]⟩) ∧ ∃ q, w' = w.drewN q := by
  obtain ⟨h0, h1, h2, h3, f0, f1, f2, f3⟩ := h
  have hm : max n 0 = 0 := by omega
  have hm2 : min 0 (len : Int) = 0 := by omega
  have hcv : ∀ W, (convert 42 9 (.slice (some ⟨g, o, none⟩) 0 cap)).run Try.prog W = .ok (.string ⟨#[]⟩) W := fun _ => by kernel_rfl
  go_enter Try.func17, Try.ntmps17
  go_wp2
  go_quiet (fail)
  go_wp2
  go_ret
  exact ⟨rfl, _, rfl⟩
theorem peek_nil0 (b : Nat) (en : Bool) (se re : Nat) (n : Int) (hn : n ≤ 0) (w : World) (h : WAt w b (.slice none 0 0) en se re) :
    Calls Try.prog 17 #[.pointer (some ⟨b, 0, none⟩), .int .i64 n] w fun e w' => e = .returned (.string ⟨#[]⟩) ∧ ∃ q, w' = w.drewN q := by
  obtain ⟨h0, h1, h2, h3, f0, f1, f2, f3⟩ := h
  have hm : max n 0 = 0 := by omega
  have hcv : ∀ W, (convert 42 9 (.slice none 0 0)).run Try.prog W = .ok (.string ⟨#[]⟩) W := fun _ => by kernel_rfl
  have hsl : ∀ W, (Instr.slice 42 (.slice none 0 0) none (some (.int .i64 0)) none).run Try.prog W = .ok (.slice none 0 0) W := fun _ => by kernel_rfl
  go_enter Try.func17, Try.ntmps17
  go_wp2
  go_quiet (fail)
  go_wp2
  go_ret
  exact ⟨rfl, _, rfl⟩
theorem peek_k3 (b B : Nat) (v : Value) (S : ByteArray) (en : Bool) (se re : Nat) (n : Int) (k : Nat) (w : World) (hk : K3 n S.size k) (h : WAt w b v en se re) (ha : HV w B v S) :
    Calls Try.prog 17 #[.pointer (some ⟨b, 0, none⟩), .int .i64 n] w fun e w' => e = .returned (.string (S.extract 0 k)) ∧ ∃ q, w' = w.drewN q := by
  have hz : S.extract 0 0 = ⟨#[]⟩ := ByteArray.ext (Array.eq_empty_of_size_eq_zero (by simp))
  have hle := hk.le
  rcases ha with ⟨rfl, h0⟩ | ⟨g, o, cap, rfl, ha⟩
  · have hk0 : k = 0 := by omega
    subst hk0
    rw [hz]
    by_cases hn : n ≤ 0
    · exact peek_nil0 b en se re n hn w h
    · exact peek_nil b en se re n (by omega) w h
  · rcases hk with ⟨hn, rfl⟩ | ⟨hn, hk, hkl⟩ | ⟨hn, hk⟩
    · rw [hz]; exact peek_neg b g o S.size cap en se re n w hn ha.1 ha.2.1 h
    · exact peek_any b g o S.size cap k S en se re n w rfl ha.1 ha.2.1 (Or.inl ⟨hk, hkl⟩) h ha.2.2.2.1
    · exact peek_any b g o S.size cap k S en se re n w rfl ha.1 ha.2.1 (Or.inr ⟨hn, hk⟩) h ha.2.2.2.1
theorem take_k3 (b B : Nat) (v : Value) (S : ByteArray) (en : Bool) (se re : Nat) (n : Int) (k : Nat) (w : World) (hk : K3 n S.size k) (hS : S.size ≤ 100000) (hre : re ≤ 100000) (hb : b < B) (h : WAt w b v en se re) (ha : HV w B v S) :
    Calls Try.prog 12 #[.pointer (some ⟨b, 0, none⟩), .int .i64 n] w fun e w' => ∃ v', e = .returned (.string (S.extract 0 k)) ∧ WAt w' b v' en se (re + k) ∧ HV w' B v' (S.extract k S.size) ∧ Only b B w w' := by
  have hz : S.extract 0 0 = ⟨#[]⟩ := ByteArray.ext (Array.eq_empty_of_size_eq_zero (by simp))
  have hall : S.extract 0 S.size = S := by simp
  have hkl := hk.le
  have hdn : ∀ q, Only b B w (w.drewN q) := fun q => (Only.refl _ _ _).next (below_drewN (Below.refl _ _) q)
  by_cases hk0 : k = 0
  · subst hk0
    refine (take_keep b _ en se re n w h (fun W hW hWw => ?_)).mono fun e w' ⟨he, q, hw⟩ => ⟨v, by rw [hz]; exact he, by rw [hw]; exact h.drewN q, by rw [hw, hall]; exact ha.drewN q, by rw [hw]; exact hdn q⟩
    subst hWw
    have := peek_k3 b B v S en se re n 0 _ hk hW ha
    rw [hz] at this
    exact this
  · rcases ha with ⟨rfl, h0⟩ | ⟨g, o, cap, rfl, ha⟩
    · omega
    · have hk' : (n = k ∧ k ≤ S.size) ∨ ((S.size : Int) < n ∧ k = S.size) := by unfold K3 at hk; omega
      by_cases hkc : k < cap
      · refine (take_lt b g o S.size cap k S en se re n w rfl ha.1 ha.2.1 (by omega) (by omega) (by omega) hkc hk' h ha.2.2.2.1).mono fun e w' ⟨he, q, hw⟩ => ⟨.slice (some ⟨g, o + k, none⟩) (S.size - k) (cap - k), he, by rw [hw]; exact ((h.drewN q).set0 _).set3 _, Or.inr ⟨g, o + k, cap - k, by rw [ByteArray.size_extract, Nat.min_self], ?_⟩, by rw [hw]; exact ((hdn q).set _ _).set _ _⟩
        rw [hw]
        exact (((ha.drewN q).set hb _ _).set hb _ _).drop hkl
      · have hc1 : cap = S.size := by have := ha.1; omega
        obtain rfl : k = S.size := by omega
        subst hc1
        refine (take_cap b g o S.size S en se re n w rfl (Nat.le_refl _) ha.2.1 (by omega) (by omega) (by omega) hk' h ha.2.2.2.1).mono fun e w' ⟨he, q, hw⟩ => ⟨.slice (some ⟨g, o, none⟩) 0 0, he, by rw [hw]; exact ((h.drewN q).set0 _).set3 _, Or.inr ⟨g, o, 0, by rw [show (S.extract S.size S.size).size = 0 by rw [ByteArray.size_extract]; omega], ?_⟩, by rw [hw]; exact ((hdn q).set _ _).set _ _⟩
        rw [hw]
        obtain ⟨k1, k2, k3, k4, k5⟩ := ((ha.drewN q).set hb 0 (.slice (some ⟨g, o, none⟩) 0 0)).set hb 3 (.int .i64 ((re + S.size : Nat) : Int))
        exact ⟨by rw [ByteArray.size_extract]; omega, by omega, k3, fun i hi => by rw [ByteArray.size_extract] at hi; omega, fun j hj => by omega⟩
theorem len_any (b : Nat) (a : Option Addr) (len cap : Nat) (en : Bool) (se re : Nat) (w : World) (h : WAt w b (.slice a len cap) en se re) :
    Calls Try.prog 18 #[.pointer (some ⟨b, 0, none⟩)] w fun e w' => e = .returned (.int .i64 len) ∧ w = w' := by
  obtain ⟨h0, h1, h2, h3, f0, f1, f2, f3⟩ := h
  go_enter Try.func18, Try.ntmps18
  go_wp2
  go_ret
  exact ⟨rfl, rfl⟩
theorem eof_any (b : Nat) (v : Value) (en : Bool) (se re : Nat) (w : World) (h : WAt w b v en se re) :
    Calls Try.prog 21 #[.pointer (some ⟨b, 0, none⟩)] w fun e w' => e = .returned (.bool en) ∧ w = w' := by
  obtain ⟨h0, h1, h2, h3, f0, f1, f2, f3⟩ := h
  go_enter Try.func21, Try.ntmps21
  go_wp2
  go_ret
  exact ⟨rfl, rfl⟩
theorem sent_any (b : Nat) (v : Value) (en : Bool) (se re : Nat) (w : World) (h : WAt w b v en se re) :
    Calls Try.prog 19 #[.pointer (some ⟨b, 0, none⟩)] w fun e w' => e = .returned (.int .i64 se) ∧ w = w' := by
  obtain ⟨h0, h1, h2, h3, f0, f1, f2, f3⟩ := h
  go_enter Try.func19, Try.ntmps19
  go_wp2
  go_ret
  exact ⟨rfl, rfl⟩
theorem read_any (b : Nat) (v : Value) (en : Bool) (se re : Nat) (w : World) (h : WAt w b v en se re) :
    Calls Try.prog 20 #[.pointer (some ⟨b, 0, none⟩)] w fun e w' => e = .returned (.int .i64 re) ∧ w = w' := by
  obtain ⟨h0, h1, h2, h3, f0, f1, f2, f3⟩ := h
  go_enter Try.func20, Try.ntmps20
  go_wp2
  go_ret
  exact ⟨rfl, rfl⟩
theorem drop_any (b B : Nat) (a : Option Addr) (len cap : Nat) (en : Bool) (se re : Nat) (w : World) (h : WAt w b (.slice a len cap) en se re) :
    Calls Try.prog 13 #[.pointer (some ⟨b, 0, none⟩)] w fun e w' => e = .returned (.int .i64 len) ∧ WAt w' b (.slice none 0 0) true se re ∧ Only b B w w' := by
  have HW := Lib.hid h
  obtain ⟨h0, h1, h2, h3, f0, f1, f2, f3⟩ := h
  go_enter Try.func13, Try.ntmps13
  go_wp2
  go_ret
  exact ⟨rfl, (HW.out.set0 _).set1 _, ((Only.refl _ _ _).set _ _).set _ _⟩
theorem within_k3 (n : Int) (l k : Nat) (hk : K3 n l k) (w : World) :
    Calls Try.prog 23 #[.int .i64 n, .int .i64 0, .int .i64 l] w fun e w' => e = .returned (.int .i64 k) ∧ w = w' := by
  rcases hk with ⟨hn, rfl⟩ | ⟨hn, hk, hkl⟩ | ⟨hn, hk⟩
  · by_cases h0 : n < 0
    · go_enter Try.func23, Try.ntmps23
      go_wp2
      go_ret
      exact ⟨rfl, rfl⟩
    · obtain rfl : n = 0 := by omega
      go_enter Try.func23, Try.ntmps23
      go_wp2
      go_ret
      exact ⟨rfl, rfl⟩
  · subst hk
    go_enter Try.func23, Try.ntmps23
    go_wp2
    go_ret
    exact ⟨rfl, rfl⟩
  · subst hk
    go_enter Try.func23, Try.ntmps23
    go_wp2
    go_ret
    exact ⟨rfl, rfl⟩
end Go.Proofs.Ytkhkgnckimhekaa
