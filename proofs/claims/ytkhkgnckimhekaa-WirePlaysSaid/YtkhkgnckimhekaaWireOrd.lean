/- Contracts of a wire whose bytes lie wherever they lie (package wire): what is laid behind them, and what is read of them. -/
import Derived.Test.YtkhkgnckimhekaaWireWalks
import Derived.Deep.AppendSrc
import Derived.Lib.JoinLaws
import Derived.Laws.IdiomCopy
import Derived.Lib.LazyBuf
import Derived.Deep.MidRow
namespace Go.Proofs.Ytkhkgnckimhekaa
open Go.ChangeShapes Go.WideShapes Go.ChangeAt Go.RowKit
set_option linter.unusedSimpArgs false
set_option linter.unusedVariables false

/-- A slice of bytes that the wire holds, the room behind it too. -/
def HAt (w : World) (B : Nat) (g o cap : Nat) (S : ByteArray) : Prop :=
  S.size ≤ cap ∧ cap ≤ 9223372036854775807 ∧ (B ≤ g ∧ g < w.heap.size) ∧ Lib.Bytes w g o S ∧ ∀ j, j < cap → (w.cell? ⟨g, o + j, none⟩).isSome = true ∧ w.frozen? ⟨g, o + j, none⟩ = false
theorem bytes_append {w : World} {g o : Nat} {S s : ByteArray} (h1 : Lib.Bytes w g o S) (h2 : Lib.Bytes w g (o + S.size) s) : Lib.Bytes w g o (S ++ s) := by
  intro i hi
  have hi2 : i < S.size + s.size := by simpa [ByteArray.size_append] using hi
  by_cases h : i < S.size
  · rw [ByteArray.getElem_append_left h]; exact h1 i h
  · rw [ByteArray.getElem_append_right (by omega)]
    have := h2 (i - S.size) (by omega)
    rw [show o + S.size + (i - S.size) = o + i by omega] at this
    exact this
theorem byteCells_at (s : ByteArray) (j : Nat) (hj : j < s.size) : (byteCells s)[j]? = some (.int .u8 (s[j].toNat : Int)) := by
  unfold byteCells
  rw [List.getElem?_map]
  have : s.data.toList[j]? = some s[j] := by
    rw [List.getElem?_eq_getElem (by simpa using hj)]; rfl
  rw [this]; rfl
theorem bytes_setCells {w : World} {g o : Nat} {s : ByteArray} (hc : ∀ j, j < s.size → (w.cell? ⟨g, o + j, none⟩).isSome = true) : Lib.Bytes (w.setCells g o (byteCells s)) g o s := by
  intro i hi
  have hl : (byteCells s).length = s.size := byteCells_length s
  rw [World.cell?_setCells_in g (byteCells s) o w (fun j hj => hc j (by omega)) i (by omega)]
  have := byteCells_at s i hi
  rw [List.getElem?_eq_getElem (by omega)] at this
  exact this
theorem WAt.setCells {w : World} {b : Nat} {v : Value} {en : Bool} {se re : Nat} (h : WAt w b v en se re) (g o : Nat) (vs : List Value) (hne : b ≠ g) : WAt (w.setCells g o vs) b v en se re := by
  obtain ⟨h0, h1, h2, h3, f0, f1, f2, f3⟩ := h
  refine ⟨?_, ?_, ?_, ?_, by rw [World.frozen?_setCells]; exact f0, by rw [World.frozen?_setCells]; exact f1, by rw [World.frozen?_setCells]; exact f2, by rw [World.frozen?_setCells]; exact f3⟩
  all_goals (rw [World.cell?_setCells_out g vs o w _ (fun e _ => absurd e hne)]; assumption)
theorem HAt.fill {w : World} {B g o cap : Nat} {S s : ByteArray} (h : HAt w B g o cap S) (hr : S.size + s.size ≤ cap) : HAt (w.setCells g (o + S.size) (byteCells s)) B g o cap (S ++ s) := by
  obtain ⟨h1, h2, h3, h4, h5⟩ := h
  have hc : ∀ j, j < s.size → (w.cell? ⟨g, o + S.size + j, none⟩).isSome = true := fun j hj => by rw [Nat.add_assoc]; exact (h5 (S.size + j) (by omega)).1
  refine ⟨by rw [ByteArray.size_append]; exact hr, h2, ?_, bytes_append ?_ (bytes_setCells hc), fun j hj => ⟨World.isSome_setCells g _ _ w _ (h5 j hj).1, by rw [World.frozen?_setCells]; exact (h5 j hj).2⟩⟩
  · have := h3
    exact ⟨this.1, Nat.lt_of_lt_of_le this.2 (below_setCells (Nat.le_refl g) _ _ w (Below.refl g w)).size⟩
  · intro i hi
    rw [World.cell?_setCells_out g _ _ w _ (fun _ _ => Or.inl (by show o + i < o + S.size; omega))]
    exact h4 i hi
theorem HAt.set {w : World} {B g o cap b : Nat} {S : ByteArray} (h : HAt w B g o cap S) (hb : b < B) (j : Nat) (x : Value) : HAt (w.setCell ⟨b, j, none⟩ x) B g o cap S := by
  obtain ⟨h1, h2, h3, h4, h5⟩ := h
  have hne : b ≠ g := by have := h3.1; omega
  refine ⟨h1, h2, by simpa using h3, fun i hi => ?_, fun i hi => ⟨?_, by rw [World.frozen?_setCell]; exact (h5 i hi).2⟩⟩
  · rw [World.cell?_setCell_other _ _ _ _ (by first | (simp; done) | (simp; intro e; exact absurd e.symm hne) | (simp; omega))]; exact h4 i hi
  · rw [World.cell?_setCell_other _ _ _ _ (by first | (simp; done) | (simp; intro e; exact absurd e.symm hne) | (simp; omega))]; exact (h5 i hi).1
theorem HAt.drewN {w : World} {B g o cap : Nat} {S : ByteArray} (h : HAt w B g o cap S) (n : Nat) : HAt (w.drewN n) B g o cap S := by
  obtain ⟨h1, h2, h3, h4, h5⟩ := h
  exact ⟨h1, h2, by simpa using h3, h4.drewN n, fun i hi => ⟨by simpa using (h5 i hi).1, by simpa using (h5 i hi).2⟩⟩
set_option maxHeartbeats 600000 in
theorem offer_room (b B g o cap : Nat) (S s : ByteArray) (se re : Nat) (e : Bool) (w : World) (hs : s.size ≤ 4096) (hse : se ≤ 100000) (hb : b < B) (hr : S.size + s.size ≤ cap) (h : WAt w b (.slice (some ⟨g, o, none⟩) S.size cap) false se re) (ha : HAt w B g o cap S) :
    Calls Try.prog 10 #[.pointer (some ⟨b, 0, none⟩), .string s, .bool e] w fun en w' => en = .returned (.bool true) ∧ WAt w' b (.slice (some ⟨g, o, none⟩) (S.size + s.size) cap) e (se + s.size) re ∧ HAt w' B g o cap (S ++ s) ∧ Below b w w' := by
  have hgB := ha.2.2.1
  have HW := Lib.hid (h.setCells g (o + S.size) (byteCells s) (by omega))
  have HH := Lib.hid (ha.fill hr)
  have HB : Hid (Below b w (w.setCells g (o + S.size) (byteCells s))) := Lib.hid (below_setCells (by omega) _ _ _ (Below.refl _ _))
  have hcl : Hid (∀ j, j < (byteCells s).length → (w.cell? ⟨g, o + S.size + j, none⟩).isSome = true) := fun j hj => by
    rw [byteCells_length] at hj; rw [Nat.add_assoc]; exact (ha.2.2.2.2 (S.size + j) (by omega)).1
  have hfl : Hid (∀ j, j < (byteCells s).length → w.frozen? ⟨g, o + S.size + j, none⟩ = false) := fun j hj => by
    rw [byteCells_length] at hj; rw [Nat.add_assoc]; exact (ha.2.2.2.2 (S.size + j) (by omega)).2
  obtain ⟨h0, h1, h2, h3, f0, f1, f2, f3⟩ := h
  clear ha hgB
  go_enter Try.func10, Try.ntmps10
  go_wp2_with (at_builtin; refine wpList_append_room1 _ rfl _ _ 42 9 rfl 5 (.int .u8 0) 1 Try.underlying42 info5 g o S.size cap rfl (.string s) rfl s.size (byteCells s) (Src.ofString _ Try.underlying9 s) hr hcl.out hfl.out ?_; obtain ⟨g0, g1, g2, g3, e0, e1, e2, e3⟩ := HW.out)
  go_ret
  have K := (((HW.out.set0 (.slice (some ⟨g, o, none⟩) (S.size + s.size) cap)).set2 (se + s.size)).set1 e)
  have e9 : ((se + s.size : Nat) : Int) = (se : Int) + (s.size : Int) := by omega
  rw [e9] at K
  exact ⟨rfl, K, ((HH.out.set hb _ _).set hb _ _).set hb _ _, ((HB.out.setCell (p := ⟨b, _, none⟩) (Nat.le_refl _) _).setCell (p := ⟨b, _, none⟩) (Nat.le_refl _) _).setCell (p := ⟨b, _, none⟩) (Nat.le_refl _) _⟩
theorem wpList_append_grow1 {P : Program} (w : World) {ops : Array Oper} {rest : List Oper} {o : Oper} {a : Act} {Q : Exit → Act → World → Prop}
    (hg : o.guard = none) (s x : Operand) (t tx : TypeId) (hop : o.op = Op.call { callee := Callee.builtin Builtin.append, args := #[s, x], argTypes := #[t, tx] })
    (e : TypeId) (z : Value) (ht : P.underlying t = some (.slice e)) (hinfo : (P.info? e).map (fun i => (i.zero, i.size, i.bytes)) = some (some z, 1, 1))
    (b off sLen sCap : Nat) (hs : a.eval s = .slice (some ⟨b, off, none⟩) sLen sCap) (xv : Value) (hx : a.eval x = xv) (n : Nat) (news : List Value) (hsrc : Src P 1 tx xv n news w)
    (olds : List Value) (hl : olds.length = sLen) (hc : ∀ j v, olds[j]? = some v → w.cell? ⟨b, off + j, none⟩ = some v) (hgr : sCap < sLen + n) (h63 : sLen + n ≤ 1000000)
    (hK : ∀ G, sLen + n ≤ G → G ≤ maxLen → wpList P ops Q rest (a.put o.dst (.slice (some ⟨w.heap.size, 0, none⟩) (sLen + n) G)) (w.drew.alloc (.cells ((olds ++ news).toArray ++ Builtin.zeroCells z.cells (G - (sLen + n))) e))) :
    wpList P ops Q (o :: rest) a w := by
  refine wpList_plain hg fun K hK' => ?_
  obtain ⟨i, hi, hzz⟩ := Option.map_eq_some_iff.1 hinfo
  simp only [Prod.mk.injEq] at hzz
  obtain ⟨hz, hs1, hb1⟩ := hzz
  have hold : (Builtin.firstCells i.size sLen (.slice (some ⟨b, off, none⟩) sLen sCap)).run P w.drew = .ok olds.toArray w.drew := by
    rw [hs1]
    exact run_firstCells_some _ 1 sLen ⟨b, off, none⟩ sLen sCap olds (by omega) (fun j v hj => by
      have := hc j v hj
      have e2 : (({ block := b, off := off, spot := none } : Addr).add j) = ⟨b, off + j, none⟩ := by simp [Addr.add]
      rw [e2]; simpa using this)
  have hrun := run_append_grow_src (P := P) (w := w) t tx o.type e i z ht hi hz (some ⟨b, off, none⟩) sLen sCap olds hold xv n news (by rw [hs1]; exact hsrc) hgr (by omega) (growslice_fits hgr (by rw [hb1]; omega))
  unfold Oper.wp
  simp [execOp, hop, resolve, invoke, builtin, hs, hx, hrun, Result.andThen]
  exact hK' _ _ (by simpa using hK _ (grownCap_ge w (sLen + n) sCap e) (grownCap_le_maxLen w (sLen + n) sCap e (by unfold maxLen; omega)))
theorem HAt.fresh (w : World) (B G : Nat) (S s : ByteArray) (hB : B ≤ w.heap.size) (hG : S.size + s.size ≤ G) (hm : G ≤ 9223372036854775807) :
    HAt (w.drew.alloc (.cells ((byteCells S ++ byteCells s).toArray ++ Builtin.zeroCells (Value.int .u8 0).cells (G - (S.size + s.size))) 5)) B w.heap.size 0 G (S ++ s) := by
  have hsz : (byteCells S ++ byteCells s).length = S.size + s.size := by rw [List.length_append, byteCells_length, byteCells_length]
  have hC : ((byteCells S ++ byteCells s).toArray ++ Builtin.zeroCells (Value.int .u8 0).cells (G - (S.size + s.size))).size = G := by
    rw [Array.size_append, size_zeroCells]
    simp only [List.size_toArray, hsz, Value.cells]
    simp
    omega
  generalize hCe : ((byteCells S ++ byteCells s).toArray ++ Builtin.zeroCells (Value.int .u8 0).cells (G - (S.size + s.size))) = C at hC
  have hcell : ∀ j, (w.drew.alloc (.cells C 5)).cell? ⟨w.heap.size, 0 + j, none⟩ = C[j]? := fun j => by
    rw [Nat.zero_add]; exact World.cell?_alloc_at _ _ _ _ rfl
  refine ⟨by rw [ByteArray.size_append]; exact hG, hm, ⟨hB, by simp⟩, ?_, fun j hj => ⟨by rw [hcell, Array.getElem?_eq_getElem (by omega)]; rfl, by rw [Nat.zero_add]; exact World.frozen?_alloc_at _ _ _ _ rfl⟩⟩
  intro i hi
  have hi2 : i < S.size + s.size := by simpa [ByteArray.size_append] using hi
  rw [hcell, ← hCe]
  rw [Array.getElem?_append_left (by simp only [List.size_toArray, hsz]; exact hi2)]
  simp only [List.getElem?_toArray]
  by_cases h : i < S.size
  · rw [List.getElem?_append_left (by rw [byteCells_length]; exact h), byteCells_at S i h, ByteArray.getElem_append_left h]
  · rw [List.getElem?_append_right (by rw [byteCells_length]; omega), byteCells_length, byteCells_at s (i - S.size) (by omega), ByteArray.getElem_append_right (by omega)]
theorem WAt.fresh {w : World} {b : Nat} {v : Value} {en : Bool} {se re : Nat} (h : WAt w b v en se re) (o : Obj) : WAt (w.drew.alloc o) b v en se re := by
  have hb := World.block_lt_of_cell? _ _ h.1
  obtain ⟨h0, h1, h2, h3, f0, f1, f2, f3⟩ := h
  have hb' : b < w.drew.heap.size := hb
  exact ⟨by rw [World.cell?_alloc_past _ _ _ hb']; simpa using h0, by rw [World.cell?_alloc_past _ _ _ hb']; simpa using h1, by rw [World.cell?_alloc_past _ _ _ hb']; simpa using h2, by rw [World.cell?_alloc_past _ _ _ hb']; simpa using h3,
    by rw [World.frozen?_alloc_past _ _ _ hb']; simpa using f0, by rw [World.frozen?_alloc_past _ _ _ hb']; simpa using f1, by rw [World.frozen?_alloc_past _ _ _ hb']; simpa using f2, by rw [World.frozen?_alloc_past _ _ _ hb']; simpa using f3⟩
set_option maxHeartbeats 1000000 in
theorem offer_grow (b B g o cap : Nat) (S s : ByteArray) (se re : Nat) (e : Bool) (w : World) (hs : s.size ≤ 4096) (hS : S.size ≤ 100000) (hse : se ≤ 100000) (hb : b < B) (hB : B ≤ w.heap.size) (hr : cap < S.size + s.size) (h : WAt w b (.slice (some ⟨g, o, none⟩) S.size cap) false se re) (ha : HAt w B g o cap S) :
    Calls Try.prog 10 #[.pointer (some ⟨b, 0, none⟩), .string s, .bool e] w fun en w' => ∃ G, en = .returned (.bool true) ∧ WAt w' b (.slice (some ⟨w.heap.size, 0, none⟩) (S.size + s.size) G) e (se + s.size) re ∧ HAt w' B w.heap.size 0 G (S ++ s) ∧ Below b w w' := by
  have HW := Lib.hid h
  have hoc : Hid (∀ j v, (byteCells S)[j]? = some v → w.cell? ⟨g, o + j, none⟩ = some v) := fun j v hj => by
    have hjl : j < S.size := by have := (List.getElem?_eq_some_iff.1 hj).1; rwa [byteCells_length] at this
    rw [byteCells_at S j hjl] at hj
    rw [← hj]; exact ha.2.2.2.1 j hjl
  obtain ⟨h0, h1, h2, h3, f0, f1, f2, f3⟩ := h
  clear ha
  go_enter Try.func10, Try.ntmps10
  go_wp2_with (at_builtin; refine wpList_append_grow1 _ rfl _ _ 42 9 rfl 5 (.int .u8 0) Try.underlying42 info5 g o S.size cap rfl (.string s) rfl s.size (byteCells s) (Src.ofString _ Try.underlying9 s) (byteCells S) (byteCells_length S) hoc.out hr (by omega) ?_)
  intro G hG hGm
  have hGm' : G ≤ 9223372036854775807 := by unfold maxLen at hGm; omega
  have HH : Hid (HAt ((w.alloc (Obj.cells ((byteCells S ++ byteCells s).toArray ++ Builtin.zeroCells #[Value.int IntKind.u8 0] (G - (S.size + s.size))) 5)).drew) B w.heap.size 0 G (S ++ s)) := HAt.fresh w B G S s hB hG hGm'
  have HW1 : Hid (WAt ((w.alloc (Obj.cells ((byteCells S ++ byteCells s).toArray ++ Builtin.zeroCells #[Value.int IntKind.u8 0] (G - (S.size + s.size))) 5)).drew) b (.slice (some ⟨g, o, none⟩) S.size cap) false se re) := HW.out.fresh _
  have HB1 : Hid (Below b w ((w.alloc (Obj.cells ((byteCells S ++ byteCells s).toArray ++ Builtin.zeroCells #[Value.int IntKind.u8 0] (G - (S.size + s.size))) 5)).drew)) := Lib.hid (((Below.refl b w).alloc (by omega) _).drew)
  revert HH HW1 HB1
  generalize ((w.alloc (Obj.cells ((byteCells S ++ byteCells s).toArray ++ Builtin.zeroCells #[Value.int IntKind.u8 0] (G - (S.size + s.size))) 5)).drew) = w1
  intro HH HW1 HB1
  obtain ⟨g0, g1, g2, g3, e0, e1, e2, e3⟩ := HW1.out
  clear h0 h1 h2 h3 f0 f1 f2 f3
  go_wp2
  go_ret
  have K := (((HW1.out.set0 (.slice (some ⟨w.heap.size, 0, none⟩) (S.size + s.size) G)).set2 (se + s.size)).set1 e)
  have e9 : ((se + s.size : Nat) : Int) = (se : Int) + (s.size : Int) := by omega
  rw [e9] at K
  exact ⟨G, rfl, K, ((HH.out.set hb _ _).set hb _ _).set hb _ _, ((HB1.out.setCell (p := ⟨b, _, none⟩) (Nat.le_refl _) _).setCell (p := ⟨b, _, none⟩) (Nat.le_refl _) _).setCell (p := ⟨b, _, none⟩) (Nat.le_refl _) _⟩
/-- What a wire holds, nothing at all too. -/
def HV (w : World) (B : Nat) (v : Value) (S : ByteArray) : Prop := (v = .slice none 0 0 ∧ S.size = 0) ∨ ∃ g o cap, v = .slice (some ⟨g, o, none⟩) S.size cap ∧ HAt w B g o cap S
theorem bytes_empty {S : ByteArray} (h : S.size = 0) (s : ByteArray) : S ++ s = s := by
  have : S = ByteArray.empty := ByteArray.ext (Array.eq_empty_of_size_eq_zero (by simpa using h))
  rw [this]; simp
theorem own_HV {w : World} {B : Nat} {v : Value} {n : Nat} {s : ByteArray} (hn : n = s.size) (h : w.ownsRow B 5 1 v n (Lib.strCells s)) : HV w B v s := by
  subst hn
  have hlt := h.lt
  rcases h with ⟨_, ⟨hv, h0⟩ | ⟨g, cap, cur, hv, hg, hh, hnc, hcm, hcs, ht⟩⟩
  · exact Or.inl ⟨hv, h0⟩
  · refine Or.inr ⟨g, 0, cap, hv, hnc, by unfold maxLen at hcm; omega, ⟨hg, (hlt g (by rw [hv]; rfl)).2⟩, fun i hi => ?_, fun j hj => ⟨?_, by simp [World.frozen?, hh]⟩⟩
    · have e : (cur.toList.take (s.size * 1))[i]? = (Lib.strCells s)[i]? := by rw [ht]
      rw [List.getElem?_take_of_lt (by omega)] at e
      have e2 : (Lib.strCells s)[i]? = some (.int .u8 (s[i].toNat : Int)) := byteCells_at s i hi
      rw [e2] at e
      simp only [World.cell?, hh, Nat.zero_add]
      simpa using e
    · simp only [World.cell?, hh, Nat.zero_add]
      simp [hcs, hj]
theorem offer_at (b B : Nat) (v : Value) (S s : ByteArray) (se re : Nat) (e : Bool) (w : World) (hs : s.size ≤ 4096) (hS : S.size ≤ 100000) (hse : se ≤ 100000) (hb : b < B) (hB : B ≤ w.heap.size) (h : WAt w b v false se re) (ha : HV w B v S) :
    Calls Try.prog 10 #[.pointer (some ⟨b, 0, none⟩), .string s, .bool e] w fun en w' => ∃ v', en = .returned (.bool true) ∧ WAt w' b v' e (se + s.size) re ∧ HV w' B v' (S ++ s) ∧ Below b w w' := by
  rcases ha with ⟨rfl, h0⟩ | ⟨g, o, cap, rfl, ha⟩
  · refine (offer_any b B _ 0 [] se re s e w hs (by omega) hse hb hB h (World.ownsRow_nil _ _ _ _)).mono fun en w' ⟨v', he, hw, ho, hbel⟩ => ⟨v', he, hw, ?_, hbel⟩
    rw [bytes_empty h0]
    exact own_HV (n := 0 + s.size) (by omega) ho
  · by_cases hr : S.size + s.size ≤ cap
    · refine (offer_room b B g o cap S s se re e w hs hse hb hr h ha).mono fun en w' ⟨he, hw, hh, hbel⟩ => ⟨_, he, hw, Or.inr ⟨g, o, cap, ?_, hh⟩, hbel⟩
      rw [ByteArray.size_append]
    · refine (offer_grow b B g o cap S s se re e w hs hS hse hb hB (by omega) h ha).mono fun en w' ⟨G, he, hw, hh, hbel⟩ => ⟨_, he, hw, Or.inr ⟨w.heap.size, 0, G, ?_, hh⟩, hbel⟩
      rw [ByteArray.size_append]
theorem HAt.drop {w : World} {B g o cap k : Nat} {S : ByteArray} (h : HAt w B g o cap S) (hk : k ≤ S.size) : HAt w B g (o + k) (cap - k) (S.extract k S.size) := by
  obtain ⟨h1, h2, h3, h4, h5⟩ := h
  refine ⟨by rw [ByteArray.size_extract]; omega, by omega, h3, fun i hi => ?_, fun j hj => by rw [Nat.add_assoc]; exact h5 (k + j) (by omega)⟩
  have hi2 : i < S.size - k := by rw [ByteArray.size_extract] at hi; omega
  have := h4 (k + i) (by omega)
  rw [Nat.add_assoc, this]
  rw [ByteArray.getElem_extract]
theorem take_keep (b : Nat) (v : Value) (en : Bool) (se re : Nat) (n : Int) (w : World) (h : WAt w b v en se re)
    (hp : ∀ W, WAt W b v en se re → W = w → Calls Try.prog 17 #[.pointer (some ⟨b, 0, none⟩), .int .i64 n] W fun e w' => e = .returned (.string ⟨#[]⟩) ∧ ∃ q, w' = W.drewN q) :
    Calls Try.prog 12 #[.pointer (some ⟨b, 0, none⟩), .int .i64 n] w fun e w' => e = .returned (.string ⟨#[]⟩) ∧ ∃ q, w' = w.drewN q := by
  have HP := Lib.hid (hp w h rfl)
  clear h hp
  go_enter Try.func12, Try.ntmps12
  go_wp2_with (go_at_call 17; refine HP.out.mono ?_; rintro e w2 ⟨rfl, q, rfl⟩)
  go_ret
  exact ⟨rfl, _, rfl⟩
theorem peek_nil (b : Nat) (en : Bool) (se re : Nat) (n : Int) (hn : 0 ≤ n) (w : World) (h : WAt w b (.slice none 0 0) en se re) :
    Calls Try.prog 17 #[.pointer (some ⟨b, 0, none⟩), .int .i64 n] w fun e w' => e = .returned (.string ⟨#[]⟩) ∧ ∃ q, w' = w.drewN q := by
  obtain ⟨h0, h1, h2, h3, f0, f1, f2, f3⟩ := h
  have hm : min (max n 0) 0 = 0 := by omega
  have hm1 : min n 0 = 0 := by omega
  have hm2 : max n 0 = n := by omega
  have hcv : ∀ W, (convert 42 9 (.slice none 0 0)).run Try.prog W = .ok (.string ⟨#[]⟩) W := fun _ => by kernel_rfl
  have hsl : ∀ W, (Instr.slice 42 (.slice none 0 0) none (some (.int .i64 0)) none).run Try.prog W = .ok (.slice none 0 0) W := fun _ => by kernel_rfl
  go_enter Try.func17, Try.ntmps17
  go_wp2
  go_quiet (fail)
  go_wp2
  go_ret
  exact ⟨rfl, _, rfl⟩
theorem take_at (b B : Nat) (v : Value) (S : ByteArray) (en : Bool) (se re : Nat) (n : Int) (w : World) (hn : 0 ≤ n) (hS : S.size ≤ 100000) (hre : re ≤ 100000) (hb : b < B) (h : WAt w b v en se re) (ha : HV w B v S) :
    Calls Try.prog 12 #[.pointer (some ⟨b, 0, none⟩), .int .i64 n] w fun e w' => ∃ k v', k ≤ S.size ∧ ((S.size : Int) ≤ n → k = S.size) ∧ e = .returned (.string (S.extract 0 k)) ∧ WAt w' b v' en se (re + k) ∧ HV w' B v' (S.extract k S.size) ∧ Below b w w' := by
  have hz : S.extract 0 0 = ⟨#[]⟩ := ByteArray.ext (Array.eq_empty_of_size_eq_zero (by simp))
  have hall : S.extract 0 S.size = S := by simp
  rcases ha with ⟨rfl, h0⟩ | ⟨g, o, cap, rfl, ha⟩
  · refine (take_keep b _ en se re n w h (fun W hW _ => peek_nil b en se re n hn W hW)).mono fun e w' ⟨he, q, hw⟩ => ⟨0, .slice none 0 0, by omega, fun _ => by omega, by rw [hz]; exact he, by rw [hw]; exact h.drewN q, Or.inl ⟨rfl, by rw [ByteArray.size_extract]; omega⟩, by rw [hw]; exact below_drewN (Below.refl _ _) q⟩
  · obtain ⟨k, hk⟩ : ∃ k : Nat, (n = k ∧ k ≤ S.size) ∨ ((S.size : Int) < n ∧ k = S.size) := by
      by_cases h1 : n ≤ S.size
      · exact ⟨n.toNat, Or.inl ⟨by omega, by omega⟩⟩
      · exact ⟨S.size, Or.inr ⟨by omega, rfl⟩⟩
    have hks : k ≤ S.size := by omega
    have hlast : (S.size : Int) ≤ n → k = S.size := fun _ => by omega
    by_cases hk0 : k = 0
    · subst hk0
      refine (take_keep b _ en se re n w h (fun W hW hWw => ?_)).mono fun e w' ⟨he, q, hw⟩ => ⟨0, .slice (some ⟨g, o, none⟩) S.size cap, by omega, hlast, by rw [hz]; exact he, by rw [hw]; exact h.drewN q, Or.inr ⟨g, o, cap, by rw [ByteArray.size_extract]; simp, ?_⟩, by rw [hw]; exact below_drewN (Below.refl _ _) q⟩
      · subst hWw
        exact (peek_any b g o S.size cap 0 S en se re n _ rfl ha.1 ha.2.1 hk hW ha.2.2.2.1).mono fun e w' ⟨he, hq⟩ => ⟨by rw [he, hz], hq⟩
      · rw [hw, hall]; exact ha.drewN q
    · by_cases hkc : k < cap
      · refine (take_lt b g o S.size cap k S en se re n w rfl ha.1 ha.2.1 (by omega) (by omega) (by omega) hkc hk h ha.2.2.2.1).mono fun e w' ⟨he, q, hw⟩ => ⟨k, .slice (some ⟨g, o + k, none⟩) (S.size - k) (cap - k), hks, hlast, he, by rw [hw]; exact ((h.drewN q).set0 _).set3 _, Or.inr ⟨g, o + k, cap - k, by rw [ByteArray.size_extract, Nat.min_self], ?_⟩, by rw [hw]; exact below_two _ _ _ _ _ _ _⟩
        rw [hw]
        exact (((ha.drewN q).set hb _ _).set hb _ _).drop hks
      · have hc1 : cap = S.size := by have := ha.1; omega
        obtain rfl : k = S.size := by omega
        subst hc1
        refine (take_cap b g o S.size S en se re n w rfl (Nat.le_refl _) ha.2.1 (by omega) (by omega) (by omega) hk h ha.2.2.2.1).mono fun e w' ⟨he, q, hw⟩ => ⟨S.size, .slice (some ⟨g, o, none⟩) 0 0, hks, hlast, he, by rw [hw]; exact ((h.drewN q).set0 _).set3 _, Or.inr ⟨g, o, 0, by rw [show (S.extract S.size S.size).size = 0 by rw [ByteArray.size_extract]; omega], ?_⟩, by rw [hw]; exact below_two _ _ _ _ _ _ _⟩
        rw [hw]
        obtain ⟨k1, k2, k3, k4, k5⟩ := ((ha.drewN q).set hb 0 (.slice (some ⟨g, o, none⟩) 0 0)).set hb 3 (.int .i64 ((re + S.size : Nat) : Int))
        exact ⟨by rw [ByteArray.size_extract]; omega, by omega, k3, fun i hi => by rw [ByteArray.size_extract] at hi; omega, fun j hj => by omega⟩
end Go.Proofs.Ytkhkgnckimhekaa
