/- P26.1: for every most, quantum, calls and number: what purses tell of any calls, and what any one has behind each, is as the page says. No condition. -/
import Derived.Test.YtgldildepechaaaOpen
import Derived.WalkKit
import Derived.ProofKit
import Derived.OpenShut
import Derived.Test.YtgldildepechaaaPurRef5
import Derived.Test.YtgldildepechaaaPur2
import Derived.Test.YtgldildepechaaaMix
import Derived.Deep.CutRange
import Derived.Deep.CutBlock
import Derived.Deep.LoopGhost
import Derived.Deep.RegionHeld3
namespace Go.Proofs.Ytgldildepechaaa.pursePlays
open Go.Joins Go.ChangeShapes Go.WideShapes Go.ChangeAt Go.RowKit Go.Deep
open Go.ChangeMaps (open_string)
set_option linter.unusedSimpArgs false
set_option linter.unusedVariables false

section
variable {H : Type} {enc : TypeId × Value → H} {P : Program} {w : World} {base : Nat} {spare : Nat → Bool} {held : Bool}
theorem open_flat3 {r : Reach} {b0 : Nat} {t : TypeId} {f0 f1 f2 : Field} {v : Value} {d : DataW H} {p : List MemPlace} (hs : P.underlying t = some (.struct #[f0, f1, f2])) (hone : oneCellFields P #[f0, f1, f2] = true) (hC : P.cellsOf t = 3)
    (hv : Value.okWide P w r b0 t v) (h : DataW.Trod enc P w base spare held t v d p) :
    ∃ (v0 v1 v2 : Value) (y0 y1 y2 : DataW H × List MemPlace) (n : Nat), v = .agg #[v0, v1, v2] ∧ d = .agg [y0.1, y1.1, y2.1] ∧ True ∧
      DataW.trod enc P w base spare held n f0.type [v0] = some y0 ∧ DataW.trod enc P w base spare held n f1.type [v1] = some y1 ∧ DataW.trod enc P w base spare held n f2.type [v2] = some y2 := by
  obtain ⟨cs, rfl, hsz⟩ := okWide_struct hs hv
  obtain ⟨l⟩ := cs
  match l, hsz.trans hC with
  | [c0, c1, c2], _ =>
    obtain ⟨fuel, hf⟩ := h
    obtain ⟨xs, n, _, hx, _, hlen, hg⟩ := DataW.trod_struct hs hf
    obtain ⟨o0, k0⟩ := hone_of hone 0 f0 rfl
    obtain ⟨o1, k1⟩ := hone_of hone 1 f1 rfl
    obtain ⟨o2, k2⟩ := hone_of hone 2 f2 rfl
    match xs, hlen with
    | [y0, y1, y2], _ =>
      simp only [Prod.mk.injEq] at hx
      exact ⟨c0, c1, c2, y0, y1, y2, n, rfl, by simpa using hx.1, trivial, by simpa [Value.cells, o0, k0] using hg 0 f0 rfl, by simpa [Value.cells, o1, k1] using hg 1 f1 rfl, by simpa [Value.cells, o2, k2] using hg 2 f2 rfl⟩
end
theorem lives_any (w : World) : Calls Try.prog 19 #[] w fun e w' => e = .returned (.bool true) ∧ Below w.heap.size w w' := by
  go_enter Try.func19, Try.ntmps19
  go_wp2_with (first
    | (go_at_call 7; refine (pu_new 2 2 3 3 _ (by decide) (by decide)).mono ?_; rintro e w1 ⟨b, h, rfl, k1, k2, k3⟩; have H1 : Hid (PU w1 b h 2 3 [0, 0] ∧ Below w.heap.size w w1 ∧ (w.heap.size ≤ b ∧ w.heap.size ≤ h)) := Lib.hid ⟨k1, k2, k3⟩; clear k1 k2 k3)
    | (go_at_call 11; refine (pu_give_val b h 2 3 [0, 0] 1 _ H1.out.1).mono ?_; rintro e w2 ⟨rfl, k1, k2⟩; rw [show pHas (pSet [0, 0] 1 (min (pHas [0, 0] 1 + 3) 2000000000)) 1 = 3 by decide]; have H2 : Hid (PU w2 b h 2 3 [0, 3] ∧ Below w.heap.size w w2) := Lib.hid ⟨k1, k2.onto H1.out.2.1 H1.out.2.1.size (by simp; exact H1.out.2.2.2)⟩; clear k1 k2)
    | (go_at_call 14; refine (pu_pay b h 2 3 [0, 3] 1 5 _ H2.out.1).mono ?_; rintro e w3 ⟨rfl, k1, k2⟩; rw [show pCan [0, 3] 1 5 = false by decide]; have H3 : Hid (PU w3 b h 2 3 [0, 3] ∧ Below w.heap.size w w3) := Lib.hid ⟨k1, k2.onto H2.out.2 H2.out.2.size (by simp; exact H1.out.2.2.2)⟩; clear k1 k2 H2)
    | (go_at_call 11; refine (pu_give_val b h 2 3 [0, 3] 1 _ H3.out.1).mono ?_; rintro e w4 ⟨rfl, k1, k2⟩; rw [show pHas (pSet [0, 3] 1 (min (pHas [0, 3] 1 + 3) 2000000000)) 1 = 6 by decide]; have H4 : Hid (PU w4 b h 2 3 [0, 6] ∧ Below w.heap.size w w4) := Lib.hid ⟨k1, k2.onto H3.out.2 H3.out.2.size (by simp; exact H1.out.2.2.2)⟩; clear k1 k2)
    | (go_at_call 14; refine (pu_pay b h 2 3 [0, 6] 1 5 _ H4.out.1).mono ?_; rintro e w5 ⟨rfl, k1, k2⟩; rw [show pCan [0, 6] 1 5 = true by decide]; have H5 : Hid (PU w5 b h 2 3 [0, 1] ∧ Below w.heap.size w w5) := Lib.hid ⟨k1, k2.onto H4.out.2 H4.out.2.size (by simp; exact H1.out.2.2.2)⟩; clear k1 k2)
    | (go_at_call 17; refine (pu_has b h 2 3 [0, 1] 1 _ H5.out.1).mono ?_; rintro e w6 ⟨rfl, rfl⟩; rw [show pHas [0, 1] 1 = 1 by decide]))
  go_ret
  exact ⟨rfl, H5.out.2⟩
theorem lSet_clamp (n : Int) (M : List (Int × Int)) (id v u : Int) (h : clampI v 0 2000000000 = clampI u 0 2000000000) : lSet n M id v = lSet n M id u := by
  unfold lSet; rw [h]
theorem RV.give {n : Nat} {M : List (Int × Int)} {V : List Int} (h : RV n M V) (id q : Int) (hb : 0 ≤ pHas V id ∧ pHas V id ≤ 2000000000) (hq : 0 ≤ q) : RV n (lSet n M id (lHas M id + q)) (pSet V id (min (pHas V id + q) 2000000000)) := by
  rw [lSet_clamp n M id (lHas M id + q) (min (pHas V id + q) 2000000000) (by rw [h.2.1 id]; unfold clampI; omega)]
  exact h.set id _ (by omega)
/-- What holds all the time: the purses, the document's own list, and the statement's argument. -/
def PS (w0 w : World) (G : Nat) (gc : List Value) (p h n : Nat) (q : Int) (V : List Int) (X lo : Nat) (a : Option Addr) (M : List (Int × Int)) (c : Nat) : Prop :=
  PU w p h n q V ∧ Blk w X [.int .i64 n, .int .i64 q, .slice a M.length c] 29 ∧ RL w lo a M ∧ Blk w G gc 24 ∧ Below w0.heap.size w0 w ∧
  (p ≠ X ∧ h ≠ X ∧ p ≠ G ∧ h ≠ G ∧ X ≠ G) ∧ (w0.heap.size ≤ p ∧ w0.heap.size ≤ h ∧ w0.heap.size ≤ X ∧ w0.heap.size ≤ G) ∧ (p < lo ∧ h < lo ∧ X < lo) ∧ M.length ≤ c ∧ c ≤ 9223372036854775807
section
variable {w0 w w' : World} {G : Nat} {gc : List Value} {p h n : Nat} {q : Int} {V : List Int} {X lo : Nat} {a : Option Addr} {M : List (Int × Int)} {c : Nat}
theorem PS.fresh (s : PS w0 w G gc p h n q V X lo a M c) (k : Below w.heap.size w w') : PS w0 w' G gc p h n q V X lo a M c := by
  obtain ⟨s1, s2, s3, s4, s5, s6⟩ := s
  exact ⟨s1.fresh k, s2.below k s2.lt, s3.fresh k, s4.below k s4.lt, s5.trans (k.mono s5.size), s6⟩
theorem PS.drew (s : PS w0 w G gc p h n q V X lo a M c) : PS w0 w.drew G gc p h n q V X lo a M c := s.fresh (Below.refl _ _).drew
theorem PS.pur {V' : List Int} (s : PS w0 w G gc p h n q V X lo a M c) (u : PU w' p h n q V') (k : Chg [h] w w') : PS w0 w' G gc p h n q V' X lo a M c := by
  obtain ⟨s1, s2, s3, s4, s5, s6, s7, s8, s9⟩ := s
  exact ⟨u, s2.chg k (by simp; omega), s3.chg k (by simp; omega), s4.chg k (by simp; omega), k.onto s5 s5.size (by simp; omega), s6, s7, s8, s9⟩
theorem PS.list {g9 c9 : Nat} {N : List (Int × Int)} {lo9 : Nat} (s : PS w0 w G gc p h n q V X lo a M c) (r : RL w lo9 (some ⟨g9, 0, none⟩) N) (hlo : lo ≤ lo9) (h1 : N.length ≤ c9) (h2 : c9 ≤ 9223372036854775807) (n9 : Nat) (hn9 : N.length = n9) :
    PS w0 (((w.setCell ⟨X, 0, none⟩ (.int .i64 n)).setCell ⟨X, 1, none⟩ (.int .i64 q)).setCell ⟨X, 2, none⟩ (.slice (some ⟨g9, 0, none⟩) n9 c9)) G gc p h n q V X lo (some ⟨g9, 0, none⟩) N c9 := by
  subst hn9
  obtain ⟨s1, s2, s3, s4, s5, s6, s7, s8, s9⟩ := s
  have k := (((Chg.refl [X] w).set (b := X) (Or.inl (by simp)) 0 (.int .i64 n)).set (b := X) (Or.inl (by simp)) 1 (.int .i64 q)).set (b := X) (Or.inl (by simp)) 2 (.slice (some ⟨g9, 0, none⟩) N.length c9)
  exact ⟨s1.chg k (by simp; omega) (by simp; omega), ((s2.set 0 _).set 1 _).set 2 _, (r.down hlo).chg k (by simp; omega), s4.chg k (by simp; omega), k.onto s5 s5.size (by simp; omega), s6, s7, s8, h1, h2⟩
theorem PS.same (s : PS w0 w G gc p h n q V X lo a M c) : PS w0 (((w.setCell ⟨X, 0, none⟩ (.int .i64 n)).setCell ⟨X, 1, none⟩ (.int .i64 q)).setCell ⟨X, 2, none⟩ (.slice a M.length c)) G gc p h n q V X lo a M c := by
  obtain ⟨s1, s2, s3, s4, s5, s6, s7, s8, s9⟩ := s
  have k := (((Chg.refl [X] w).set (b := X) (Or.inl (by simp)) 0 (.int .i64 n)).set (b := X) (Or.inl (by simp)) 1 (.int .i64 q)).set (b := X) (Or.inl (by simp)) 2 (.slice a M.length c)
  exact ⟨s1.chg k (by simp; omega) (by simp; omega), ((s2.set 0 _).set 1 _).set 2 _, s3.chg k (by simp; omega), s4.chg k (by simp; omega), k.onto s5 s5.size (by simp; omega), s6, s7, s8, s9⟩
end
/-- .. and the call at hand, in block A. -/
def QS (w0 w : World) (G : Nat) (gc : List Value) (p h n : Nat) (q : Int) (V : List Int) (X lo : Nat) (a : Option Addr) (M : List (Int × Int)) (c : Nat) (A : Nat) (ac : List Value) : Prop :=
  PS w0 w G gc p h n q V X lo a M c ∧ Blk w A ac 33 ∧ (A ≠ h ∧ A ≠ X)
section
variable {w0 w w' : World} {G : Nat} {gc : List Value} {p h n : Nat} {q : Int} {V : List Int} {X lo : Nat} {a : Option Addr} {M : List (Int × Int)} {c A : Nat} {ac : List Value}
theorem QS.fresh (s : QS w0 w G gc p h n q V X lo a M c A ac) (k : Below w.heap.size w w') : QS w0 w' G gc p h n q V X lo a M c A ac := ⟨s.1.fresh k, s.2.1.below k s.2.1.lt, s.2.2⟩
theorem QS.drew (s : QS w0 w G gc p h n q V X lo a M c A ac) : QS w0 w.drew G gc p h n q V X lo a M c A ac := s.fresh (Below.refl _ _).drew
theorem QS.pur {V' : List Int} (s : QS w0 w G gc p h n q V X lo a M c A ac) (u : PU w' p h n q V') (k : Chg [h] w w') : QS w0 w' G gc p h n q V' X lo a M c A ac := ⟨s.1.pur u k, s.2.1.chg k (by simp; exact s.2.2.1), s.2.2⟩
theorem QS.list {g9 c9 : Nat} {N : List (Int × Int)} {lo9 : Nat} (s : QS w0 w G gc p h n q V X lo a M c A ac) (r : RL w lo9 (some ⟨g9, 0, none⟩) N) (hlo : lo ≤ lo9) (h1 : N.length ≤ c9) (h2 : c9 ≤ 9223372036854775807) (n9 : Nat) (hn9 : N.length = n9) :
    QS w0 (((w.setCell ⟨X, 0, none⟩ (.int .i64 n)).setCell ⟨X, 1, none⟩ (.int .i64 q)).setCell ⟨X, 2, none⟩ (.slice (some ⟨g9, 0, none⟩) n9 c9)) G gc p h n q V X lo (some ⟨g9, 0, none⟩) N c9 A ac :=
  ⟨s.1.list r hlo h1 h2 n9 hn9, s.2.1.chg ((((Chg.refl [X] w).set (b := X) (Or.inl (by simp)) 0 _).set (b := X) (Or.inl (by simp)) 1 _).set (b := X) (Or.inl (by simp)) 2 _) (by simp; exact s.2.2.2), s.2.2⟩
theorem QS.same (s : QS w0 w G gc p h n q V X lo a M c A ac) : QS w0 (((w.setCell ⟨X, 0, none⟩ (.int .i64 n)).setCell ⟨X, 1, none⟩ (.int .i64 q)).setCell ⟨X, 2, none⟩ (.slice a M.length c)) G gc p h n q V X lo a M c A ac :=
  ⟨s.1.same, s.2.1.chg ((((Chg.refl [X] w).set (b := X) (Or.inl (by simp)) 0 _).set (b := X) (Or.inl (by simp)) 1 _).set (b := X) (Or.inl (by simp)) 2 _) (by simp; exact s.2.2.2), s.2.2⟩
theorem QS.new (s : PS w0 w G gc p h n q V X lo a M c) (ac : Array Value) : QS w0 (w.alloc (.cells ac 33)) G gc p h n q V X lo a M c w.heap.size ac.toList := by
  have l1 := s.1.lts
  have l2 := s.2.1.lt
  exact ⟨s.fresh ((Below.refl _ _).alloc (Nat.le_refl _) _), Blk.newA w ac _, by omega⟩
theorem QS.x0 (s : QS w0 w G gc p h n q V X lo a M c A ac) : w.cell? ⟨X, 0, none⟩ = some (.int .i64 n) := s.1.2.1.cell (i := 0) rfl
theorem QS.x1 (s : QS w0 w G gc p h n q V X lo a M c A ac) : w.cell? ⟨X, 1, none⟩ = some (.int .i64 q) := s.1.2.1.cell (i := 1) rfl
theorem QS.x2 (s : QS w0 w G gc p h n q V X lo a M c A ac) : w.cell? ⟨X, 2, none⟩ = some (.slice a M.length c) := s.1.2.1.cell (i := 2) rfl
theorem QS.free (s : QS w0 w G gc p h n q V X lo a M c A ac) (i : Nat) : w.frozen? ⟨X, i, none⟩ = false := s.1.2.1.free i
end
def H3x (n9 : Nat) (N : List (Int × Int)) : Prop := n9 = N.length
theorem lHas_mem {M : List (Int × Int)} (hn : (M.map (·.1)).Nodup) {x : Int × Int} (hx : x ∈ M) : lHas M x.1 = x.2 := by
  induction M with
  | nil => simp at hx
  | cons y M ih =>
    have hn2 := List.nodup_cons.1 hn
    rcases List.mem_cons.1 hx with e | e
    · subst e; simp [lHas]
    · have : ¬ y.1 = x.1 := fun e2 => hn2.1 (List.mem_map.2 ⟨x, e, e2.symm⟩)
      simp only [lHas, if_neg this]
      exact ih hn2.2 e
theorem RV.val {n : Nat} {M : List (Int × Int)} {V : List Int} (h : RV n M V) (hb : ∀ id, 0 ≤ pHas V id ∧ pHas V id ≤ 2000000000) : ∀ v ∈ M.map (·.2), 0 ≤ v ∧ v ≤ 2000000000 := by
  intro v hv
  obtain ⟨x, hx, rfl⟩ := List.mem_map.1 hv
  have := hb x.1
  rw [← h.2.1, lHas_mem h.2.2.1 hx] at this
  exact this
theorem keepA {w : World} {G : Nat} (hl : G < w.heap.size) (o : Obj) {v u : Option Value} (h : w.cell? ⟨G, 0, none⟩ = v ∧ w.cell? ⟨G, 1, none⟩ = u) : (w.alloc o).cell? ⟨G, 0, none⟩ = v ∧ (w.alloc o).cell? ⟨G, 1, none⟩ = u := by
  rw [World.cell?_alloc_past _ _ _ hl, World.cell?_alloc_past _ _ _ hl]
  exact h
theorem ps_set {w0 w : World} {G : Nat} {gc : List Value} {p h n : Nat} {q : Int} {V : List Int} {X : Nat} {rc : List Value} {x y v : Value} (u : PU w p h n q V) (hG : Blk w G gc 24) (hB : Below w0.heap.size w0 w) (hX : Blk w X [x, y, v] 29)
    (h1 : p ≠ X ∧ h ≠ X ∧ p ≠ G ∧ h ≠ G ∧ X ≠ G) (h2 : w0.heap.size ≤ p ∧ w0.heap.size ≤ h ∧ w0.heap.size ≤ X ∧ w0.heap.size ≤ G) :
    PS w0 (((w.setCell ⟨X, 0, none⟩ (.int .i64 n)).setCell ⟨X, 1, none⟩ (.int .i64 q)).setCell ⟨X, 2, none⟩ (.slice none 0 0)) G gc p h n q V X w.heap.size none [] 0 := by
  have k := (((Chg.refl [X] w).set (b := X) (Or.inl (by simp)) 0 (.int .i64 n)).set (b := X) (Or.inl (by simp)) 1 (.int .i64 q)).set (b := X) (Or.inl (by simp)) 2 (.slice none 0 0)
  have l1 := u.lts
  have l2 := hX.lt
  exact ⟨u.chg k (by simp; omega) (by simp; omega), ((hX.set 0 _).set 1 _).set 2 _, ⟨k.size, Or.inl rfl⟩, hG.chg k (by simp; omega), k.onto hB hB.size (by simp; omega), h1, h2, by omega, by simp, by omega⟩
theorem ps_new {w0 w : World} {G : Nat} {gc : List Value} {p h n : Nat} {q : Int} {V : List Int} (u : PU w p h n q V) (hG : Blk w G gc 24) (hB : Below w0.heap.size w0 w)
    (h1 : p ≠ G ∧ h ≠ G) (h2 : w0.heap.size ≤ p ∧ w0.heap.size ≤ h ∧ w0.heap.size ≤ G) :
    PS w0 (w.alloc (Obj.cells #[.int .i64 n, .int .i64 q, .slice none 0 0] 29)) G gc p h n q V w.heap.size (w.heap.size + 1) none [] 0 := by
  have k := (Chg.refl [] w).alloc (Obj.cells #[.int .i64 n, .int .i64 q, .slice none 0 0] 29)
  have l1 := u.lts
  have l2 := hG.lt
  have hs := hB.size
  exact ⟨u.chg k (by simp) (by simp), Blk.newA w _ _, ⟨by simp, Or.inl rfl⟩, hG.chg k (by simp), k.onto hB hs (by simp), by omega, by omega, by omega, by simp, by omega⟩
theorem keep3 {w : World} {X G : Nat} (hne : G ≠ X) (a b c : Value) {v u : Option Value} (h : w.cell? ⟨G, 0, none⟩ = v ∧ w.cell? ⟨G, 1, none⟩ = u) : (((w.setCell ⟨X, 0, none⟩ a).setCell ⟨X, 1, none⟩ b).setCell ⟨X, 2, none⟩ c).cell? ⟨G, 0, none⟩ = v ∧ (((w.setCell ⟨X, 0, none⟩ a).setCell ⟨X, 1, none⟩ b).setCell ⟨X, 2, none⟩ c).cell? ⟨G, 1, none⟩ = u := by
  have o : ∀ (W : World) (i j : Nat) (x : Value), (W.setCell ⟨X, i, none⟩ x).cell? ⟨G, j, none⟩ = W.cell? ⟨G, j, none⟩ := fun W i j x => World.cell?_setCell_other _ _ _ _ (by first | (simp; done) | (simp; omega))
  rw [o, o, o, o, o, o]
  exact h
set_option maxRecDepth 20000 in
set_option maxHeartbeats 8000000 in

theorem walk (a0_Most : Int) (a0_Quantum : Int) (a0_Acts : Option Addr) (len0_Acts cap0_Acts : Nat) (a1 : Int) (w : World) (w0_Most : (Lit.int .i64 a0_Most).wf = true) (w0_Quantum : (Lit.int .i64 a0_Quantum).wf = true) (w0_Acts : IsRecs .i64 3 w a0_Acts len0_Acts cap0_Acts) (w1 : (Lit.int .i64 a1).wf = true) :
    Calls Try.prog 3 #[.agg #[.int .i64 a0_Most, .int .i64 a0_Quantum, .slice a0_Acts len0_Acts cap0_Acts], .int .i64 a1] w fun e w' => e = .returned (.bool true) ∧ Below w.heap.size w w' := by
  obtain ⟨hlc, hcm, hnil, hcell⟩ := w0_Acts
  unfold maxLen at hcm
  have HCELL := Lib.hid hcell
  clear hcell hnil
  obtain ⟨n, hn⟩ : ∃ n : Nat, min (max a0_Most 1) 1024 = (n : Int) := ⟨(min (max a0_Most 1) 1024).toNat, by omega⟩
  obtain ⟨q, hq⟩ : ∃ q : Int, min (max a0_Quantum 1) 1000000 = q := ⟨_, rfl⟩
  have HN := Lib.hid hn
  have HQ := Lib.hid hq
  have n1 : 1 ≤ n ∧ n ≤ 1024 := by omega
  have q1 : 1 ≤ q ∧ q ≤ 1000000 := by omega
  clear hn hq
  go_enter Try.func3, Try.ntmps3
  go_upto_region 1 with fail
  have hW : Hid (Blk (w.alloc (Obj.cells #[Value.int .i64 a0_Most, .int .i64 a0_Quantum, .slice a0_Acts len0_Acts cap0_Acts] 24)) w.heap.size [Value.int .i64 a0_Most, .int .i64 a0_Quantum, .slice a0_Acts len0_Acts cap0_Acts] 24 ∧ Below w.heap.size w (w.alloc (Obj.cells #[Value.int .i64 a0_Most, .int .i64 a0_Quantum, .slice a0_Acts len0_Acts cap0_Acts] 24))) := Lib.hid ⟨Blk.newA w _ _, (Below.refl _ _).alloc (Nat.le_refl _) _⟩
  revert hW
  generalize w.alloc (Obj.cells #[Value.int .i64 a0_Most, .int .i64 a0_Quantum, .slice a0_Acts len0_Acts cap0_Acts] 24) = W0
  intro hW
  obtain ⟨gc, hgc⟩ : ∃ gc, [Value.int .i64 a0_Most, .int .i64 a0_Quantum, .slice a0_Acts len0_Acts cap0_Acts] = gc := ⟨_, rfl⟩
  have HG := Lib.hid hgc
  rw [hgc] at hW
  clear hgc
  have lG : w.heap.size < W0.heap.size := hW.out.1.lt
  go_cut [5, 6] from 12 to 21 (fun s5 s6 wx => ∃ p h X lo : Nat, s5 = .pointer (some ⟨p, 0, none⟩) ∧ s6 = .pointer (some ⟨X, 0, none⟩) ∧ Hid (PS w wx w.heap.size gc p h n q (List.replicate n 0) X lo none [] 0))
  case first =>
    have c0 : W0.drew.cell? ⟨w.heap.size, 0, none⟩ = some (.int .i64 a0_Most) := hW.out.1.drew.cell (i := 0) (by rw [← HG.out]; rfl)
    have c1 : W0.drew.cell? ⟨w.heap.size, 1, none⟩ = some (.int .i64 a0_Quantum) := hW.out.1.drew.cell (i := 1) (by rw [← HG.out]; rfl)
    go_region_held3 (fun w' => w'.cell? ⟨w.heap.size, 0, none⟩ = some (.int .i64 a0_Most) ∧ w'.cell? ⟨w.heap.size, 1, none⟩ = some (.int .i64 a0_Quantum)) (first | with_reducible exact ⟨c0, c1⟩ | with_reducible exact ⟨d0, d1⟩ | with_reducible exact ⟨e0, e1⟩ | exact keepA l1 _ ⟨d0, d1⟩ | exact keepA l2 _ ⟨e0, e1⟩ | exact keepA (w := W0) lG _ ⟨c0, c1⟩ | exact keep3 (by omega) _ _ _ ⟨e0, e1⟩) (first
      | (go_at_call 7; refine (pu_new n _ _ q _ HN.out HQ.out).mono ?_; rintro e w1 ⟨p, h, rfl, k1, k2, k3⟩; have kk : Below W0.heap.size W0 w1 := (by first | exact ((Below.refl _ W0).drew).trans k2 | exact (((Below.refl W0.heap.size W0).alloc (Nat.le_refl _) _).drew).trans (k2.mono (by simp))); have kp : W0.heap.size ≤ p ∧ W0.heap.size ≤ h := (by first | exact k3 | (simp at k3; omega)); have F1 : Hid (PU w1 p h n q (List.replicate n 0) ∧ Blk w1 w.heap.size gc 24 ∧ Below w.heap.size w w1 ∧ (W0.heap.size ≤ p ∧ W0.heap.size ≤ h) ∧ W0.heap.size ≤ w1.heap.size) := Lib.hid ⟨k1, hW.out.1.below kk lG, hW.out.2.trans (kk.mono hW.out.2.size), kp, kk.size⟩; have l1 : w.heap.size < w1.heap.size := F1.out.2.1.lt; (first | (have X1 : Hid (Blk w1 W0.heap.size [.int .i64 0, .int .i64 0, .slice none 0 0] 29 ∧ W0.heap.size < p ∧ W0.heap.size < h) := Lib.hid ⟨(Blk.newA W0 #[.int .i64 0, .int .i64 0, .slice none 0 0] 29).drew.below k2 (by simp), by simp at k3; omega⟩; clear k1 k2 k3 kk kp) | clear k1 k2 k3 kk kp); have d0 : w1.cell? ⟨w.heap.size, 0, none⟩ = some (.int .i64 a0_Most) := F1.out.2.1.cell (i := 0) (by rw [← HG.out]; rfl); have d1 : w1.cell? ⟨w.heap.size, 1, none⟩ = some (.int .i64 a0_Quantum) := F1.out.2.1.cell (i := 1) (by rw [← HG.out]; rfl))
      | (go_at_call 8; refine (ref_new _ _ n q _ HN.out HQ.out).mono ?_; rintro e w2 ⟨rfl, k5⟩; have k6 : Below w1.heap.size w1 w2 := (by first | exact k5 | exact ((Below.refl w1.heap.size w1).alloc (Nat.le_refl _) _).trans (k5.mono (by simp))); have F2 : Hid (PU w2 p h n q (List.replicate n 0) ∧ Blk w2 w.heap.size gc 24 ∧ Below w.heap.size w w2 ∧ w1.heap.size ≤ w2.heap.size) := Lib.hid ⟨F1.out.1.fresh k6, F1.out.2.1.below k6 l1, F1.out.2.2.1.trans (k6.mono F1.out.2.2.1.size), k6.size⟩; have l2 : w.heap.size < w2.heap.size := F2.out.2.1.lt; have e0 : w2.cell? ⟨w.heap.size, 0, none⟩ = some (.int .i64 a0_Most) := F2.out.2.1.cell (i := 0) (by rw [← HG.out]; rfl); have e1 : w2.cell? ⟨w.heap.size, 1, none⟩ = some (.int .i64 a0_Quantum) := F2.out.2.1.cell (i := 1) (by rw [← HG.out]; rfl); first | (have X2 : Hid (Blk w2 w1.heap.size [.int .i64 0, .int .i64 0, .slice none 0 0] 29) := Lib.hid ((Blk.newA w1 #[.int .i64 0, .int .i64 0, .slice none 0 0] 29).below k5 (by simp)); have x0 := X2.out.cell (i := 0) rfl; have x1 := X2.out.cell (i := 1) rfl; have x2 := X2.out.cell (i := 2) rfl; have y0 := X2.out.free 0; have y1 := X2.out.free 1; have y2 := X2.out.free 2; clear k5) | (have X3 := Lib.hid (X1.out.1.below k6 X1.out.1.lt); have x0 := X3.out.cell (i := 0) rfl; have x1 := X3.out.cell (i := 1) rfl; have x2 := X3.out.cell (i := 2) rfl; have y0 := X3.out.free 0; have y1 := X3.out.free 1; have y2 := X3.out.free 2; clear k5) | clear k5))
    all_goals
      go_wp2_with fail
      go_meet
      have hp := F1.out.2.2.2
      have hs := hW.out.2.size
      have hu := F1.out.1.lts
      first
        | exact ⟨p, h, _, _, rfl, rfl, Lib.hid (ps_new F2.out.1 F2.out.2.1 F2.out.2.2.1 (by omega) (by omega))⟩
        | exact ⟨p, h, _, _, rfl, rfl, Lib.hid (ps_set (rc := []) F2.out.1 F2.out.2.1 F2.out.2.2.1 X2.out (by omega) (by omega))⟩
        | exact ⟨p, h, _, _, rfl, rfl, Lib.hid (ps_set (rc := []) F2.out.1 F2.out.2.1 F2.out.2.2.1 X3.out (by have := X1.out.2; omega) (by omega))⟩
  case rest =>
    obtain ⟨p, h, X, lo, rfl, rfl, HS0⟩ := hcut
    have HV0 := Lib.hid (RV.nil n)
    clear lG hW HN HQ
    have z1 : wc.drew.cell? ⟨X, 1, none⟩ = some (.int .i64 q) := HS0.out.2.1.cell (i := 1) rfl
    go_wp2_with fail
    go_region_held3 (fun w' => w'.cell? ⟨X, 1, none⟩ = some (.int .i64 q)) (first | with_reducible exact z1) (first | (go_at_call 9; refine (pu_quantum p h n q _ _ HS0.out.drew.1).mono ?_; rintro e w1 ⟨rfl, rfl⟩))
    have HS1 := Lib.hid HS0.out.drew
    clear z1 HS0
    revert HS1
    generalize wc.drew = W1
    intro HS1
    go_wp2_with fail
    go_loopw [7] (fun i wr => ∃ (j c : Nat) (a : Option Addr) (M : List (Int × Int)) (V : List Int), i = .int .i64 j ∧ j ≤ 30 ∧ j ≤ len0_Acts ∧ M.length ≤ j ∧ Hid (PS w wr w.heap.size gc p h n q V X lo a M c) ∧ Hid (RV n M V)) (fun i _ => 40 - (intOf i).toNat)
    case atStart => exact ⟨0, 0, none, [], _, rfl, by omega, by omega, by simp, HS1, HV0⟩
    case round =>
      clear HS1 HV0
      obtain ⟨j, c, a, M, V, rfl, hj30, hjl, hMj, HS, HV⟩ := hrel
      have b2 : wr.cell? ⟨w.heap.size, 2, none⟩ = some (.slice a0_Acts len0_Acts cap0_Acts) := HS.out.2.2.2.1.cell (i := 2) (by rw [← HG.out]; rfl)
      by_cases hjlt : j < len0_Acts
      · by_cases h30 : j < 30
        · obtain ⟨bb, off, hab, hbl, hcl⟩ := HCELL.out (by omega)
          obtain ⟨kd, e0, wkd⟩ := hcl j hjlt 0 (by omega)
          obtain ⟨id, e1, wid⟩ := hcl j hjlt 1 (by omega)
          obtain ⟨nn, e2, wnn⟩ := hcl j hjlt 2 (by omega)
          have hnn := bounds_i64 wnn
          rw [hab] at b2
          have y0 : wr.cell? ⟨bb, off + j * 3, none⟩ = some (.int .i64 kd) := by rw [HS.out.2.2.2.2.1.cell (by simpa using hbl)]; simpa using e0
          have y1 : wr.cell? ⟨bb, off + j * 3 + 1, none⟩ = some (.int .i64 id) := by rw [HS.out.2.2.2.2.1.cell (by simpa using hbl), Nat.add_assoc]; exact e1
          have y2 : wr.cell? ⟨bb, off + j * 3 + 1 + 1, none⟩ = some (.int .i64 nn) := by rw [HS.out.2.2.2.2.1.cell (by simpa using hbl), Nat.add_assoc, Nat.add_assoc]; exact e2
          clear hcl e0 e1 e2 wkd wid wnn hab
          go_upto_block 2 with fail
          have HQ := Lib.hid (QS.new HS.out #[.int .i64 kd, .int .i64 id, .int .i64 nn])
          clear y0 y1 y2 b2 HS
          revert HQ
          generalize wr.alloc (Obj.cells #[Value.int .i64 kd, Value.int .i64 id, Value.int .i64 nn] 33) = W2
          generalize wr.heap.size = A
          intro HQ
          have hl := hMj
          have HPB := Lib.hid (fun id => HQ.out.1.1.bound id)
          have HHB : Hid (∀ id, 0 ≤ lHas M id ∧ lHas M id ≤ 2000000000) := Lib.hid (fun id => by rw [HV.out.2.1]; exact HPB.out id)
          go_cut [] from 27 to 93 (fun wx => ∃ (c : Nat) (a : Option Addr) (M : List (Int × Int)) (V : List Int), M.length ≤ j + 1 ∧ Hid (QS w wx w.heap.size gc p h n q V X lo a M c A [.int .i64 kd, .int .i64 id, .int .i64 nn]) ∧ Hid (RV n M V))
          case first =>
            by_cases e0 : kd = 0
            · subst e0
              obtain ⟨N, hN⟩ : ∃ N, lSet n M id (lHas M id + q) = N := ⟨_, rfl⟩
              have HN := Lib.hid hN
              have hNl : N.length ≤ j + 1 := by rw [← hN]; exact Nat.le_trans (lSet_le _ _ _ _) (by omega)
              obtain ⟨n9, hn9⟩ : ∃ n9, N.length = n9 := ⟨_, rfl⟩
              have HN9 := Lib.hid hn9
              clear hN hn9
              have u1 := HQ.out.2.1.cell (i := 1) rfl
              have u2 := HQ.out.x0
              have u3 := HQ.out.x1
              have u4 := HQ.out.x2
              go_upto_region 11 with (go_at_call 10; refine (ref_give n q lo a M c id _ (by omega) HQ.out.1.2.2.2.2.2.2.2.2 HQ.out.1.2.2.1 (by omega) (HHB.out id)).mono ?_; rintro e w2 ⟨v, rfl, g9, c9, rfl, k1, k2, k3, k4⟩; rw [HN.out] at k1 k3 ⊢; rw [HN9.out]; have H2 := Lib.hid (HQ.out.fresh k2); have HK := Lib.hid (And.intro k1 (And.intro k3 k4)); have f0 := H2.out.free 0; have f1 := H2.out.free 1; have f2 := H2.out.free 2; have r0 := H2.out.x0; have r1 := H2.out.x1; have r2 := H2.out.x2; clear k1 k2 k3 k4)
              clear u1 u2 u3 u4
              have H3 := Lib.hid (H2.out.list HK.out.1 HQ.out.1.2.2.1.1 HK.out.2.1 HK.out.2.2 n9 HN9.out)
              clear f0 f1 f2 r0 r1 r2
              revert H3
              generalize ((w2.setCell ⟨X, 0, none⟩ (.int .i64 n)).setCell ⟨X, 1, none⟩ (.int .i64 q)).setCell ⟨X, 2, none⟩ (.slice (some ⟨g9, 0, none⟩) n9 c9) = W3
              intro H3
              have HV3 := Lib.hid (RV.give HV.out id q (HPB.out id) (by omega))
              rw [HN.out] at HV3
              obtain ⟨V3, hV3⟩ : ∃ V3, pSet V id (min (pHas V id + q) 2000000000) = V3 := ⟨_, rfl⟩
              have HVE := Lib.hid hV3
              rw [hV3] at HV3
              clear hV3
              obtain ⟨z3, hz3⟩ : ∃ z3, pHas V3 id = z3 := ⟨_, rfl⟩
              have HZ3 := Lib.hid hz3
              clear hz3
              have HNX : Hid (H3x n9 N) := Lib.hid HN9.out.symm
              have c2' := H3.out.x2
              rw [HN9.out] at c2'
              have c0 : W3.drew.cell? ⟨X, 0, none⟩ = some (.int .i64 n) := H3.out.x0
              have c1 : W3.drew.cell? ⟨X, 1, none⟩ = some (.int .i64 q) := H3.out.x1
              have c2 : W3.drew.cell? ⟨X, 2, none⟩ = some (.slice (some ⟨g9, 0, none⟩) n9 c9) := c2'
              have c3 : W3.drew.cell? ⟨A, 1, none⟩ = some (.int .i64 id) := H3.out.2.1.cell (i := 1) rfl
              go_region_held3 (fun w' => w'.cell? ⟨X, 0, none⟩ = some (.int .i64 n) ∧ w'.cell? ⟨X, 1, none⟩ = some (.int .i64 q) ∧ w'.cell? ⟨X, 2, none⟩ = some (.slice (some ⟨g9, 0, none⟩) n9 c9) ∧ w'.cell? ⟨A, 1, none⟩ = some (.int .i64 id)) (first | with_reducible exact ⟨c0, c1, c2, c3⟩ | with_reducible exact ⟨d0, d1, d2, d3⟩ | with_reducible exact ⟨e0, e1, e2, e3⟩) (first
                | (go_at_call 11; refine (pu_give_val p h n q V id _ H3.out.drew.1.1).mono ?_; rintro e w4 ⟨rfl, k1, k2⟩; rw [HVE.out] at k1 ⊢; rw [HZ3.out]; have H4 := Lib.hid (H3.out.drew.pur k1 k2); clear k1 k2; have d2' := H4.out.x2; rw [HN9.out] at d2'; have d0 : w4.cell? ⟨X, 0, none⟩ = some (.int .i64 n) := H4.out.x0; have d1 : w4.cell? ⟨X, 1, none⟩ = some (.int .i64 q) := H4.out.x1; have d2 : w4.cell? ⟨X, 2, none⟩ = some (.slice (some ⟨g9, 0, none⟩) n9 c9) := d2'; have d3 : w4.cell? ⟨A, 1, none⟩ = some (.int .i64 id) := H4.out.2.1.cell (i := 1) rfl)
                | (go_at_call 12; rw [← HN9.out]; refine (ref_has n q lo (some ⟨g9, 0, none⟩) N c9 id _ (by omega) H4.out.1.2.2.1).mono ?_; rintro e w5 ⟨rfl, k1⟩; rw [HV3.out.2.1, HZ3.out]; have H5 := Lib.hid (H4.out.fresh k1); clear k1; have e2' := H5.out.x2; rw [HN9.out] at e2'; have e0 : w5.cell? ⟨X, 0, none⟩ = some (.int .i64 n) := H5.out.x0; have e1 : w5.cell? ⟨X, 1, none⟩ = some (.int .i64 q) := H5.out.x1; have e2 : w5.cell? ⟨X, 2, none⟩ = some (.slice (some ⟨g9, 0, none⟩) n9 c9) := e2'; have e3 : w5.cell? ⟨A, 1, none⟩ = some (.int .i64 id) := H5.out.2.1.cell (i := 1) rfl))
              all_goals
                go_wp2_with fail
                go_meet
                exact ⟨c9, _, N, V3, hNl, H5, HV3⟩
            · by_cases e1 : kd = 1
              · subst e1
                obtain ⟨N, hN⟩ : ∃ N, lSet n M id (lHas M id - max nn 0) = N := ⟨_, rfl⟩
                have HN := Lib.hid hN
                have hNl : N.length ≤ j + 1 := by rw [← hN]; exact Nat.le_trans (lSet_le _ _ _ _) (by omega)
                obtain ⟨n9, hn9⟩ : ∃ n9, N.length = n9 := ⟨_, rfl⟩
                have HN9 := Lib.hid hn9
                clear hN hn9
                have u1 := HQ.out.2.1.cell (i := 1) rfl
                have u1b := HQ.out.2.1.cell (i := 2) rfl
                have u2 := HQ.out.x0
                have u3 := HQ.out.x1
                have u4 := HQ.out.x2
                have hVl := HQ.out.1.1.2.2.1
                by_cases hcan : (0 ≤ id ∧ id < (n : Int)) ∧ max nn 0 ≤ lHas M id
                · have HC : Hid (pCan V id nn = true) := Lib.hid (by unfold pCan; rw [decide_eq_true_eq, ← HV.out.2.1]; omega)
                  have HPP : Hid (pPay V id nn = pSet V id (lHas M id - max nn 0)) := Lib.hid (by unfold pPay; rw [HC.out, if_pos rfl, HV.out.2.1])
                  have hbb := HHB.out id
                  have HV3 := Lib.hid (HV.out.set id (lHas M id - max nn 0) (by omega))
                  rw [HN.out] at HV3
                  go_upto_region 15 with (go_at_call 13; refine (ref_pay_yes n q lo a M c id nn _ _ (by omega) HQ.out.1.2.2.2.2.2.2.2.2 HQ.out.1.2.2.1 rfl hcan.1 hcan.2 (HHB.out id)).mono ?_; rintro e w2 ⟨v, rfl, g9, c9, rfl, k1, k2, k3, k4⟩; rw [HN.out] at k1 k3 ⊢; rw [HN9.out]; have H2 := Lib.hid (HQ.out.fresh k2); have HK := Lib.hid (And.intro k1 (And.intro k3 k4)); have f0 := H2.out.free 0; have f1 := H2.out.free 1; have f2 := H2.out.free 2; have r0 := H2.out.x0; have r1 := H2.out.x1; have r2 := H2.out.x2; clear k1 k2 k3 k4)
                  clear u1 u1b u2 u3 u4
                  have H3 := Lib.hid (H2.out.list HK.out.1 HQ.out.1.2.2.1.1 HK.out.2.1 HK.out.2.2 n9 HN9.out)
                  clear f0 f1 f2 r0 r1 r2
                  revert H3
                  generalize ((w2.setCell ⟨X, 0, none⟩ (.int .i64 n)).setCell ⟨X, 1, none⟩ (.int .i64 q)).setCell ⟨X, 2, none⟩ (.slice (some ⟨g9, 0, none⟩) n9 c9) = W3
                  intro H3
                  have t1 := H3.out.2.1.cell (i := 1) rfl
                  have t2 := H3.out.2.1.cell (i := 2) rfl
                  go_wp2_with (go_at_call 14; refine (pu_pay p h n q V id nn _ H3.out.1.1).mono ?_; rintro e w4 ⟨rfl, k1, k2⟩; rw [HC.out]; rw [HPP.out] at k1; have H4 := Lib.hid (H3.out.pur k1 k2); clear k1 k2)
                  go_meet
                  exact ⟨c9, _, N, _, hNl, H4, HV3⟩
                · have HC : Hid (pCan V id nn = false) := Lib.hid (by unfold pCan; rw [decide_eq_false_iff_not, ← HV.out.2.1]; omega)
                  have HPP : Hid (pPay V id nn = V) := Lib.hid (by unfold pPay; rw [HC.out]; rfl)
                  have hno : id < 0 ∨ (n : Int) ≤ id ∨ lHas M id < max nn 0 := by omega
                  have HNO := Lib.hid hno
                  clear hcan hno
                  go_upto_region 15 with (go_at_call 13; refine (ref_pay_no n q lo a M c id nn _ _ (by omega) HQ.out.1.2.2.2.2.2.2.2.2 HQ.out.1.2.2.1 rfl HNO.out).mono ?_; rintro e w2 ⟨rfl, k2⟩; have H2 := Lib.hid (HQ.out.fresh k2); have f0 := H2.out.free 0; have f1 := H2.out.free 1; have f2 := H2.out.free 2; have r0 := H2.out.x0; have r1 := H2.out.x1; have r2 := H2.out.x2; clear k2)
                  clear u1 u1b u2 u3 u4
                  have H3 := Lib.hid H2.out.same
                  clear f0 f1 f2 r0 r1 r2
                  revert H3
                  generalize ((w2.setCell ⟨X, 0, none⟩ (.int .i64 n)).setCell ⟨X, 1, none⟩ (.int .i64 q)).setCell ⟨X, 2, none⟩ (.slice a M.length c) = W3
                  intro H3
                  have t1 := H3.out.2.1.cell (i := 1) rfl
                  have t2 := H3.out.2.1.cell (i := 2) rfl
                  go_wp2_with (go_at_call 14; refine (pu_pay p h n q V id nn _ H3.out.1.1).mono ?_; rintro e w4 ⟨rfl, k1, k2⟩; rw [HC.out]; rw [HPP.out] at k1; have H4 := Lib.hid (H3.out.pur k1 k2); clear k1 k2)
                  go_meet
                  exact ⟨c, _, M, V, by omega, H4, HV⟩
              · by_cases e2 : kd = 2
                · subst e2
                  obtain ⟨N, hN⟩ : ∃ N, lSet n M id 0 = N := ⟨_, rfl⟩
                  have HN := Lib.hid hN
                  have hNl : N.length ≤ j + 1 := by rw [← hN]; exact Nat.le_trans (lSet_le _ _ _ _) (by omega)
                  obtain ⟨n9, hn9⟩ : ∃ n9, N.length = n9 := ⟨_, rfl⟩
                  have HN9 := Lib.hid hn9
                  clear hN hn9
                  obtain ⟨z3, hz3⟩ : ∃ z3, pHas V id = z3 := ⟨_, rfl⟩
                  have HZ3 := Lib.hid hz3
                  clear hz3
                  have HV3 := Lib.hid (HV.out.set id 0 (by omega))
                  rw [HN.out] at HV3
                  go_upto_region 18 with fail
                  have c0 : W2.drew.cell? ⟨X, 0, none⟩ = some (.int .i64 n) := HQ.out.x0
                  have c1 : W2.drew.cell? ⟨X, 1, none⟩ = some (.int .i64 q) := HQ.out.x1
                  have c2 : W2.drew.cell? ⟨X, 2, none⟩ = some (.slice a M.length c) := HQ.out.x2
                  have c3 : W2.drew.cell? ⟨A, 1, none⟩ = some (.int .i64 id) := HQ.out.2.1.cell (i := 1) rfl
                  go_region_held3 (fun w' => w'.cell? ⟨X, 0, none⟩ = some (.int .i64 n) ∧ w'.cell? ⟨X, 1, none⟩ = some (.int .i64 q) ∧ w'.cell? ⟨X, 2, none⟩ = some (.slice a M.length c) ∧ w'.cell? ⟨A, 1, none⟩ = some (.int .i64 id)) (first | with_reducible exact ⟨c0, c1, c2, c3⟩ | with_reducible exact ⟨d0, d1, d2, d3⟩ | with_reducible exact ⟨e0, e1, e2, e3⟩) (first
                    | (go_at_call 15; refine (pu_clear p h n q V id _ HQ.out.drew.1.1).mono ?_; rintro e w4 ⟨rfl, k1, k2⟩; rw [HZ3.out]; have H4 := Lib.hid (HQ.out.drew.pur k1 k2); clear k1 k2; have d0 : w4.cell? ⟨X, 0, none⟩ = some (.int .i64 n) := H4.out.x0; have d1 : w4.cell? ⟨X, 1, none⟩ = some (.int .i64 q) := H4.out.x1; have d2 : w4.cell? ⟨X, 2, none⟩ = some (.slice a M.length c) := H4.out.x2; have d3 : w4.cell? ⟨A, 1, none⟩ = some (.int .i64 id) := H4.out.2.1.cell (i := 1) rfl)
                    | (go_at_call 12; refine (ref_has n q lo a M c id _ (by omega) H4.out.1.2.2.1).mono ?_; rintro e w5 ⟨rfl, k1⟩; rw [HV.out.2.1, HZ3.out]; have H5 := Lib.hid (H4.out.fresh k1); clear k1; have e0 : w5.cell? ⟨X, 0, none⟩ = some (.int .i64 n) := H5.out.x0; have e1 : w5.cell? ⟨X, 1, none⟩ = some (.int .i64 q) := H5.out.x1; have e2 : w5.cell? ⟨X, 2, none⟩ = some (.slice a M.length c) := H5.out.x2; have e3 : w5.cell? ⟨A, 1, none⟩ = some (.int .i64 id) := H5.out.2.1.cell (i := 1) rfl))
                  all_goals
                    clear c0 c1 c2 c3 d0 d1 d2 d3
                    go_wp2_with (go_at_call 16; refine (ref_clear n q lo a M c id _ (by omega) H5.out.1.2.2.2.2.2.2.2.2 H5.out.1.2.2.1).mono ?_; rintro e w2 ⟨v, rfl, g9, c9, rfl, k1, k2, k3, k4⟩; rw [HN.out] at k1 k3 ⊢; rw [HN9.out]; have H2 := Lib.hid (H5.out.fresh k2); have HK := Lib.hid (And.intro k1 (And.intro k3 k4)); have f0 := H2.out.free 0; have f1 := H2.out.free 1; have f2 := H2.out.free 2; have r0 := H2.out.x0; have r1 := H2.out.x1; have r2 := H2.out.x2; clear k1 k2 k3 k4)
                    go_meet
                    exact ⟨c9, _, N, _, hNl, Lib.hid (H2.out.list HK.out.1 H5.out.1.2.2.1.1 HK.out.2.1 HK.out.2.2 n9 HN9.out), HV3⟩
                · skip
                  go_wp2_with fail
                  go_meet
                  exact ⟨c, a, M, V, by omega, HQ, HV⟩
          case rest =>
            clear HQ HV hMj hl HPB HHB
            obtain ⟨c, a, M, V, hMj, HQ, HV⟩ := hcut
            have hM1 : M.length ≤ 31 := by omega
            obtain ⟨m, hm⟩ : ∃ m, M.length = m := ⟨_, rfl⟩
            have HM := Lib.hid hm
            have x2 := HQ.out.x2
            rw [hm] at x2 hMj hM1
            have HVB := Lib.hid (RV.val HV.out HQ.out.1.1.bound)
            have HVS := Lib.hid HV.out.2.2.2.2
            clear hm
            obtain ⟨L2, hL2⟩ : ∃ L2, M.map (·.2) = L2 := ⟨_, rfl⟩
            have HL2 := Lib.hid hL2
            rw [hL2] at HVB HVS
            clear hL2
            go_wp2_with fail
            go_loopw [10, 11] (fun s i wx => ∃ (k : Nat) (z : Int), s = .int .i64 z ∧ i = .int .i64 k ∧ k ≤ m ∧ Hid (wx = wc) ∧ Hid (z = (L2.take k).sum)) (fun _ i _ => m - (intOf i).toNat)
            case atStart => exact ⟨0, 0, rfl, rfl, by omega, Lib.hid rfl, Lib.hid (by simp)⟩
            case round =>
              obtain ⟨k, z, rfl, rfl, hk, hw, HZ⟩ := hrel
              have hw := hw.out
              subst hw
              have hzb := take_bound HVB.out k (by omega)
              rw [← HZ.out] at hzb
              by_cases hkm : k < m
              · have hkl : k < M.length := by rw [HM.out]; exact hkm
                obtain ⟨g, e, d1, d2, hg⟩ := HQ.out.1.2.2.1.cells hkl
                obtain ⟨y, hy⟩ : ∃ y, M[k].2 = y := ⟨_, rfl⟩
                rw [hy] at d2
                rw [e] at x2
                have hyb : 0 ≤ y ∧ y ≤ 2000000000 := HVB.out y (by rw [← HL2.out, ← hy]; exact List.mem_map.2 ⟨M[k], List.getElem_mem hkl, rfl⟩)
                have HZ2 : Hid (z + y = (L2.take (k + 1)).sum) := Lib.hid (by
                  have hl : k < L2.length := by rw [← HL2.out, List.length_map]; exact hkl
                  rw [sum_take L2 k hl, HZ.out]
                  congr 1
                  rw [← HL2.out, List.getD_eq_getElem?_getD, List.getElem?_map, List.getElem?_eq_getElem hkl, ← hy]
                  rfl)
                have s1 : IntKind.i64.wrap (z + y) = z + y := IntWalk.i64_in _ (by omega)
                have i1 : (k : Int) < (m : Int) := by omega
                have i0 : (0 : Int) ≤ (k : Int) := by omega
                clear hy d1 e
                go_wp2_with fail
                refine ⟨?_, ?measure⟩
                case measure => simp [intOf]; omega
                exact ⟨k + 1, z + y, rfl, by go_num, by omega, Lib.hid (by trivial), HZ2⟩
              · obtain rfl : k = m := by omega
                obtain ⟨sv, hsv⟩ : ∃ sv, V.sum = sv := ⟨_, rfl⟩
                have HSV := Lib.hid hsv
                have hzs : z = sv := by rw [HZ.out, List.take_of_length_le (by rw [← HL2.out, List.length_map, HM.out]; exact Nat.le_refl _), HVS.out, hsv]
                subst hzs
                clear hsv
                obtain ⟨pa, hpa⟩ : ∃ pa, pHas V a1 = pa := ⟨_, rfl⟩
                have HPA := Lib.hid hpa
                obtain ⟨pi, hpi⟩ : ∃ pi, pHas V id = pi := ⟨_, rfl⟩
                have HPI := Lib.hid hpi
                clear hpa hpi
                go_wp2_with fail
                refine wp_region_class (fun w' => QS w w' w.heap.size gc p h n q V X lo a M c A [.int .i64 kd, .int .i64 id, .int .i64 nn]) (by kernel_rfl) (by kernel_rfl) HQ.out.drew ?_
                repeat (first
                    | go_big_quiet_skip
                    | (go_big_quiet_want
                       unfold Oper.quiet
                       apply Exists.intro
                       refine ⟨fun wq hwq => ?_, ?_⟩
                       · (have c0 := QS.x0 hwq
                          have c1 := QS.x1 hwq
                          have c2 := QS.x2 hwq
                          rw [HM.out] at c2
                          have c3 := hwq.2.1.cell (i := 1) rfl
                          unfold Oper.quietAt
                          go_simp
                          first
                            | exact ⟨rfl, hwq⟩
                            | exact rfl
                            | (go_at_call 17; refine (pu_has p h n q V _ _ hwq.1.1).mono ?_; rintro e w3 ⟨he, rfl⟩; first | (rw [HPA.out] at he; exact ⟨he, hwq⟩) | (rw [HPI.out] at he; exact ⟨he, hwq⟩))
                            | (go_at_call 12; rw [← HM.out]; refine (ref_has n q lo a M c _ _ (by rw [HM.out]; omega) hwq.1.2.2.1).mono ?_; rintro e w3 ⟨he, k9⟩; rw [HV.out.2.1] at he; first | (rw [HPA.out] at he; exact ⟨he, QS.fresh hwq k9⟩) | (rw [HPI.out] at he; exact ⟨he, QS.fresh hwq k9⟩))
                            | (go_at_call 18; refine (pu_all p h n q V _ hwq.1.1).mono ?_; rintro e w3 ⟨he, rfl⟩; rw [HSV.out] at he; exact ⟨he, hwq⟩))
                       simp only [Act.put, List.setIfInBounds_toArray, List.set_cons_zero, List.set_cons_succ]
                       go_big_quiet_on))
                refine wpQuiet_nil ?_
                intro w4 hw4
                have HS4 := Lib.hid hw4.1
                clear hw4
                go_wp2_with fail
                refine ⟨?_, ?measure⟩
                case measure => simp [intOf]; omega
                first
                  | exact ⟨j + 1, c, a, M, V, by go_num, by omega, by omega, by rw [HM.out]; exact hMj, HS4, HV⟩
                  | ((repeat apply Exists.intro); exact ⟨⟨j + 1, c, a, M, V, by go_num, by omega, by omega, by rw [HM.out]; exact hMj, HS4, HV⟩, rfl⟩)
        · go_wp2_with (go_at_call 19; refine (lives_any _).mono ?_; rintro e w9 ⟨rfl, hb⟩)
          go_ret
          exact ⟨rfl, (HS.out.fresh hb).2.2.2.2.1⟩
      · go_wp2_with (go_at_call 19; refine (lives_any _).mono ?_; rintro e w9 ⟨rfl, hb⟩)
        go_ret
        exact ⟨rfl, (HS.out.fresh hb).2.2.2.2.1⟩

set_option maxRecDepth 100000 in
theorem lifted (os : Os) (started : os.Started) (H : Type) (enc : TypeId × Value → H) :
    ReturnsInHanded {} Try.checked os 3 .any (Rows.pursePlaysSpec.pre6 enc Try.prog Try.f3 Rows.pursePlaysRow.domain false) (Rows.pursePlaysSpec.post enc Try.prog Try.f3 false true false false) := by
  refine returnsInHanded_of_change (C := Try.checked) ownKn started (by kernel_rfl) Try.func3
    (ChangeSpec.witness6 (enc := enc) (C := Try.checked) false ⟨#[], #[.agg #[.int .i64 0, .int .i64 0, .slice none 0 0], .int .i64 0], []⟩ 8 (by kernel_rfl) (by kernel_rfl) (by kernel_rfl) (by kernel_rfl)) ?_
  intro W base args ds gs before hval0 hW hcnd _
  have hval : ∀ (j : Nat) t v, Try.f3.params[j]? = some t → args[j]? = some v → Value.okWide Try.prog W .any base t v := hval0
  have hW' := hW
  obtain ⟨p, q, hA0, hV, rfl, hfz, hnd⟩ := hW
  have hA : DataW.TrodAll enc Try.prog W 0 (fun _ => true) true Try.f3.params.toList args.toList ds p := hA0
  rw [Try.params3] at hA hval
  obtain ⟨v0, vs0, d0, ds0, p0, q0, hargs, rfl, rfl, h0, r0⟩ := trodAll_cons hA
  obtain ⟨v1, vs1, d1, ds1, p1, q1, rfl, rfl, rfl, h1, r1⟩ := trodAll_cons r0
  obtain ⟨rfl, rfl, rfl⟩ := trodAll_nil r1
  obtain rfl : args = #[v0, v1] := by cases args; simp_all
  obtain ⟨rfl, rfl⟩ := trodVars_none hV
  have k0 := h0
  have lt0 : ∀ x ∈ p0, x.block < W.heap.size := by obtain ⟨m, hm⟩ := k0; exact DataW.trod_lt m _ _ _ hm
  obtain ⟨u0_0, u0_1, u0_2, y0_0, y0_1, y0_2, nn0, rfl, _, _, g0_0, g0_1, g0_2⟩ := open_flat3 Try.underlying24 (by kernel_rfl) (by kernel_rfl) (hval 0 24 v0 rfl rfl) h0
  obtain ⟨a0_Most, rfl, w0_Most⟩ := fld_int Try.underlying3 g0_0
  obtain ⟨a0_Quantum, rfl, w0_Quantum⟩ := fld_int Try.underlying3 g0_1
  obtain ⟨a0_Acts, len0_Acts, cap0_Acts, rfl, w0_Acts⟩ := fld_recs (k := .i64) Try.underlying22 Try.underlying33 (by kernel_rfl) (by kernel_rfl) (by intro j f h; obtain rfl | rfl | rfl | hj : j = 0 ∨ j = 1 ∨ j = 2 ∨ 3 ≤ j := (by omega); all_goals (first | (simp at h; subst h; exact Try.underlying3) | (rw [Array.getElem?_eq_none (by simpa using hj)] at h; cases h))) (by decide) g0_2
  have k1 := h1
  have lt1 : ∀ x ∈ p1, x.block < W.heap.size := by obtain ⟨m, hm⟩ := k1; exact DataW.trod_lt m _ _ _ hm
  obtain ⟨a1, rfl, rfl, rfl, w1⟩ := open_int Try.underlying3 (hval 1 3 v1 rfl rfl) h1
  clear hA0 hval0
  refine (walk a0_Most a0_Quantum a0_Acts len0_Acts cap0_Acts a1 W w0_Most w0_Quantum w0_Acts w1).mono fun e W' ⟨he, bel⟩ => ?_
  subst he
  exact ⟨_, rfl, _, _, _, [], _, [], hW', trodAll_mk1 (shut_bool Try.underlying4 _), (trodAll_cons_mk (Below.trod laidOut (by kernel_rfl) (of_decide_eq_true (by kernel_rfl)) k0 bel lt0) (trodAll_cons_mk (Below.trod laidOut (by kernel_rfl) (of_decide_eq_true (by kernel_rfl)) k1 bel lt1) trodAll_mk0)), rfl, bel.frame _, fun h => by cases h⟩

theorem over : Rows.pursePlaysRow.holds Try.pinned (OpenSpec.ofChange Rows.pursePlaysSpec) :=
  OpenClaim.holds_of_wide 3 Try.f3 rfl rfl rfl rfl rfl rfl rfl ⟨rfl, rfl, rfl, rfl, rfl⟩ rfl rfl rfl rfl rfl (by kernel_rfl) Try.func3 (by kernel_rfl)
    (of_decide_eq_true (by kernel_rfl)) (by unfold Func.isWrapper; first | (rw [if_pos (by decide +kernel)]; kernel_rfl) | (rw [if_neg (by decide +kernel)]; exact ⟨rfl, rfl⟩))
    (fun os started H enc _ => lifted os started H enc)

/-- The statement. -/
theorem proved : Rows.PursePlaysSaid := over
#print axioms proved
end Go.Proofs.Ytgldildepechaaa.pursePlays
