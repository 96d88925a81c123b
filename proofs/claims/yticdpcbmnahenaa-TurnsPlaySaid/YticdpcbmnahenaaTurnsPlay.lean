/- P27.1 to P27.3: for every most, quantum, calls and number: what turns tell of any calls, and who waits, and has what, is as the page says. No condition. -/
import Derived.Test.YticdpcbmnahenaaOpen
import Derived.WalkKit
import Derived.ProofKit
import Derived.OpenShut
import Derived.Test.YticdpcbmnahenaaTurnsTold
import Derived.Test.YticdpcbmnahenaaTurnsRef5
import Derived.Test.YticdpcbmnahenaaTurnsRef6
import Derived.Test.YticdpcbmnahenaaMix
import Derived.Deep.CutRange
import Derived.Deep.CutBlock
import Derived.Deep.LoopGhost
import Derived.Deep.RegionHeld3
namespace Go.Proofs.Yticdpcbmnahenaa.turnsPlay
open Go.Joins Go.ChangeShapes Go.WideShapes Go.ChangeAt Go.RowKit Go.Deep
open Go.ChangeMaps (open_string)
set_option linter.unusedSimpArgs false
set_option linter.unusedVariables false

section
variable {H : Type} {enc : TypeId × Value → H} {P : Program} {w : World} {base : Nat} {spare : Nat → Bool} {held : Bool}
theorem open_flat3 {r : Reach} {b0 : Nat} {t : TypeId} {f0 f1 f2 : Field} {v : Value} {d : DataW H} {p : List MemPlace} (hs : P.underlying t = some (.struct #[f0, f1, f2])) (hone : oneCellFields P #[f0, f1, f2] = true) (hC : P.cellsOf t = 3)
    (hv : Value.okWide P w r b0 t v) (h : DataW.Trod enc P w base spare held t v d p) :
    ∃ (v0 v1 v2 : Value) (y0 y1 y2 : DataW H × List MemPlace) (n : Nat), v = .agg #[v0, v1, v2] ∧ d = .agg [y0.1, y1.1, y2.1] ∧ True ∧
      DataW.trod enc P w base spare held n f0.type [v0] = some y0 ∧ DataW.trod enc P w base spare held n f1.type [v1] = some y1 ∧ DataW.trod enc P w base spare held n f2.type [v2] = some y2 := by
  obtain ⟨cs, rfl, hsz⟩ := okWide_struct hs hv
  obtain ⟨l⟩ := cs
  match l, hsz.trans hC with
  | [c0, c1, c2], _ =>
    obtain ⟨fuel, hf⟩ := h
    obtain ⟨xs, n, _, hx, _, hlen, hg⟩ := DataW.trod_struct hs hf
    obtain ⟨o0, k0⟩ := hone_of hone 0 f0 rfl
    obtain ⟨o1, k1⟩ := hone_of hone 1 f1 rfl
    obtain ⟨o2, k2⟩ := hone_of hone 2 f2 rfl
    match xs, hlen with
    | [y0, y1, y2], _ =>
      simp only [Prod.mk.injEq] at hx
      exact ⟨c0, c1, c2, y0, y1, y2, n, rfl, by simpa using hx.1, trivial, by simpa [Value.cells, o0, k0] using hg 0 f0 rfl, by simpa [Value.cells, o1, k1] using hg 1 f1 rfl, by simpa [Value.cells, o2, k2] using hg 2 f2 rfl⟩
end
/-- What holds all the time: the turns, the document's turns in block X, and the statement's argument in block G. -/
def ZS (w0 w : World) (G : Nat) (gc : List Value) (t b R I p h n : Nat) (q : Int) (on : Bool) (who dn : Nat) (L : List Nat) (V : List Int) (X lo : Nat) (r : Option Addr) (LX : List Nat) (cr : Nat) (a : Option Addr) (M : List (Int × Int)) (c : Nat) (wv : Int) (dx : Nat) : Prop :=
  TAt w t b R I p h n q on who dn L V ∧ Blk w X [.slice r LX.length cr, .int .i64 n, .int .i64 q, .slice a M.length c, .int .i64 wv, .int .i64 dx] 32 ∧ LR w lo r LX cr ∧ RL w lo a M ∧ (M.length ≤ c ∧ c ≤ 9223372036854775807) ∧ Blk w G gc 24 ∧ Below w0.heap.size w0 w ∧
  ((X ≠ t ∧ X ≠ b ∧ X ≠ R ∧ X ≠ I ∧ X ≠ p ∧ X ≠ h) ∧ (G ≠ t ∧ G ≠ b ∧ G ≠ R ∧ G ≠ I ∧ G ≠ p ∧ G ≠ h) ∧ X ≠ G) ∧ (w0.heap.size ≤ t ∧ w0.heap.size ≤ b ∧ w0.heap.size ≤ R ∧ w0.heap.size ≤ I ∧ w0.heap.size ≤ p ∧ w0.heap.size ≤ h ∧ w0.heap.size ≤ X ∧ w0.heap.size ≤ G) ∧ (t < lo ∧ b < lo ∧ R < lo ∧ I < lo ∧ p < lo ∧ h < lo ∧ X < lo)
theorem own6 {l : List Nat} {t b R I p h z : Nat} (hl : ∀ x ∈ l, x = t ∨ x = b ∨ x = R ∨ x = I ∨ x = p ∨ x = h) (hz : z ≠ t ∧ z ≠ b ∧ z ≠ R ∧ z ≠ I ∧ z ≠ p ∧ z ≠ h) : z ∉ l := fun hm => by rcases hl z hm with e | e | e | e | e | e <;> omega
section
variable {w0 w w' : World} {G : Nat} {gc : List Value} {t b R I p h n : Nat} {q : Int} {on : Bool} {who dn : Nat} {L : List Nat} {V : List Int} {X lo : Nat} {r : Option Addr} {LX : List Nat} {cr : Nat} {a : Option Addr} {M : List (Int × Int)} {c : Nat} {wv : Int} {dx : Nat}
theorem ZS.fresh (s : ZS w0 w G gc t b R I p h n q on who dn L V X lo r LX cr a M c wv dx) (k : Below w.heap.size w w') : ZS w0 w' G gc t b R I p h n q on who dn L V X lo r LX cr a M c wv dx := by
  obtain ⟨s1, s2, s3, s4, s5, s6, s7, s8⟩ := s
  exact ⟨s1.fresh k, s2.below k s2.lt, s3.fresh k, s4.fresh k, s5, s6.below k s6.lt, s7.trans (k.mono s7.size), s8⟩
theorem ZS.tur {on' : Bool} {who' dn' : Nat} {L' : List Nat} {V' : List Int} {l : List Nat} (s : ZS w0 w G gc t b R I p h n q on who dn L V X lo r LX cr a M c wv dx) (z : TAt w' t b R I p h n q on' who' dn' L' V') (k : Chg l w w') (hl : ∀ x ∈ l, x = t ∨ x = b ∨ x = R ∨ x = I ∨ x = p ∨ x = h) : ZS w0 w' G gc t b R I p h n q on' who' dn' L' V' X lo r LX cr a M c wv dx := by
  obtain ⟨s1, s2, s3, s4, s5, s6, s7, s8, s9, s10⟩ := s
  have hlo : ∀ x ∈ l, x < lo := fun x hx => by rcases hl x hx with e | e | e | e | e | e <;> omega
  exact ⟨z, s2.chg k (own6 hl s8.1), s3.chg k hlo, s4.chg k hlo, s5, s6.chg k (own6 hl s8.2.1), k.onto s7 s7.size (fun x hx => by rcases hl x hx with e | e | e | e | e | e <;> omega), s8, s9, s10⟩
theorem ZS.put {r2 : Option Addr} {L2 : List Nat} {cr2 : Nat} {a2 : Option Addr} {M2 : List (Int × Int)} {c2 : Nat} {wv2 : Int} {dx2 : Nat} (s : ZS w0 w G gc t b R I p h n q on who dn L V X lo r LX cr a M c wv dx) (k1 : LR w lo r2 L2 cr2) (k2 : RL w lo a2 M2) (k3 : M2.length ≤ c2 ∧ c2 ≤ 9223372036854775807) :
    ZS w0 ((((((w.setCell ⟨X, 0, none⟩ (.slice r2 L2.length cr2)).setCell ⟨X, 1, none⟩ (.int .i64 n)).setCell ⟨X, 2, none⟩ (.int .i64 q)).setCell ⟨X, 3, none⟩ (.slice a2 M2.length c2)).setCell ⟨X, 4, none⟩ (.int .i64 wv2)).setCell ⟨X, 5, none⟩ (.int .i64 dx2)) G gc t b R I p h n q on who dn L V X lo r2 L2 cr2 a2 M2 c2 wv2 dx2 := by
  obtain ⟨s1, s2, s3, s4, s5, s6, s7, s8, s9, s10⟩ := s
  have k : Chg [X] w ((((((w.setCell ⟨X, 0, none⟩ (.slice r2 L2.length cr2)).setCell ⟨X, 1, none⟩ (.int .i64 n)).setCell ⟨X, 2, none⟩ (.int .i64 q)).setCell ⟨X, 3, none⟩ (.slice a2 M2.length c2)).setCell ⟨X, 4, none⟩ (.int .i64 wv2)).setCell ⟨X, 5, none⟩ (.int .i64 dx2)) := ((((((Chg.refl [X] w).set (Or.inl (by simp)) _ _).set (Or.inl (by simp)) _ _).set (Or.inl (by simp)) _ _).set (Or.inl (by simp)) _ _).set (Or.inl (by simp)) _ _).set (Or.inl (by simp)) _ _
  exact ⟨s1.chg k (by simp; omega) (by simp; omega) (by simp; omega) (by simp; omega) (by simp; omega) (by simp; omega), (((((s2.set 0 _).set 1 _).set 2 _).set 3 _).set 4 _).set 5 _, k1.chg k (by simp; omega), k2.chg k (by simp; omega), k3, s6.chg k (by simp; omega), k.onto s7 s7.size (by simp; omega), s8, s9, s10⟩
theorem ZS.xc (s : ZS w0 w G gc t b R I p h n q on who dn L V X lo r LX cr a M c wv dx) : Blk w X [.slice r LX.length cr, .int .i64 n, .int .i64 q, .slice a M.length c, .int .i64 wv, .int .i64 dx] 32 := s.2.1
end
/-- .. and the call at hand, in block A. -/
def QS (w0 w : World) (G : Nat) (gc : List Value) (t b R I p h n : Nat) (q : Int) (on : Bool) (who dn : Nat) (L : List Nat) (V : List Int) (X lo : Nat) (r : Option Addr) (LX : List Nat) (cr : Nat) (a : Option Addr) (M : List (Int × Int)) (c : Nat) (wv : Int) (dx : Nat) (A : Nat) (ac : List Value) : Prop :=
  ZS w0 w G gc t b R I p h n q on who dn L V X lo r LX cr a M c wv dx ∧ Blk w A ac 35 ∧ (A ≠ t ∧ A ≠ b ∧ A ≠ R ∧ A ≠ I ∧ A ≠ p ∧ A ≠ h) ∧ A ≠ X
section
variable {w0 w w' : World} {G : Nat} {gc : List Value} {t b R I p h n : Nat} {q : Int} {on : Bool} {who dn : Nat} {L : List Nat} {V : List Int} {X lo : Nat} {r : Option Addr} {LX : List Nat} {cr : Nat} {a : Option Addr} {M : List (Int × Int)} {c : Nat} {wv : Int} {dx : Nat} {A : Nat} {ac : List Value}
theorem QS.fresh (s : QS w0 w G gc t b R I p h n q on who dn L V X lo r LX cr a M c wv dx A ac) (k : Below w.heap.size w w') : QS w0 w' G gc t b R I p h n q on who dn L V X lo r LX cr a M c wv dx A ac := ⟨s.1.fresh k, s.2.1.below k s.2.1.lt, s.2.2⟩
theorem QS.tur {on' : Bool} {who' dn' : Nat} {L' : List Nat} {V' : List Int} {l : List Nat} (s : QS w0 w G gc t b R I p h n q on who dn L V X lo r LX cr a M c wv dx A ac) (z : TAt w' t b R I p h n q on' who' dn' L' V') (k : Chg l w w') (hl : ∀ x ∈ l, x = t ∨ x = b ∨ x = R ∨ x = I ∨ x = p ∨ x = h) : QS w0 w' G gc t b R I p h n q on' who' dn' L' V' X lo r LX cr a M c wv dx A ac :=
  ⟨s.1.tur z k hl, s.2.1.chg k (own6 hl s.2.2.1), s.2.2⟩
theorem QS.put {r2 : Option Addr} {L2 : List Nat} {cr2 : Nat} {a2 : Option Addr} {M2 : List (Int × Int)} {c2 : Nat} {wv2 : Int} {dx2 : Nat} (s : QS w0 w G gc t b R I p h n q on who dn L V X lo r LX cr a M c wv dx A ac) (k1 : LR w lo r2 L2 cr2) (k2 : RL w lo a2 M2) (k3 : M2.length ≤ c2 ∧ c2 ≤ 9223372036854775807) :
    QS w0 ((((((w.setCell ⟨X, 0, none⟩ (.slice r2 L2.length cr2)).setCell ⟨X, 1, none⟩ (.int .i64 n)).setCell ⟨X, 2, none⟩ (.int .i64 q)).setCell ⟨X, 3, none⟩ (.slice a2 M2.length c2)).setCell ⟨X, 4, none⟩ (.int .i64 wv2)).setCell ⟨X, 5, none⟩ (.int .i64 dx2)) G gc t b R I p h n q on who dn L V X lo r2 L2 cr2 a2 M2 c2 wv2 dx2 A ac := by
  have k : Chg [X] w ((((((w.setCell ⟨X, 0, none⟩ (.slice r2 L2.length cr2)).setCell ⟨X, 1, none⟩ (.int .i64 n)).setCell ⟨X, 2, none⟩ (.int .i64 q)).setCell ⟨X, 3, none⟩ (.slice a2 M2.length c2)).setCell ⟨X, 4, none⟩ (.int .i64 wv2)).setCell ⟨X, 5, none⟩ (.int .i64 dx2)) := ((((((Chg.refl [X] w).set (Or.inl (by simp)) _ _).set (Or.inl (by simp)) _ _).set (Or.inl (by simp)) _ _).set (Or.inl (by simp)) _ _).set (Or.inl (by simp)) _ _).set (Or.inl (by simp)) _ _
  exact ⟨s.1.put k1 k2 k3, s.2.1.chg k (by simp; exact s.2.2.2), s.2.2⟩
theorem QS.new (s : ZS w0 w G gc t b R I p h n q on who dn L V X lo r LX cr a M c wv dx) (ac : Array Value) : QS w0 (w.alloc (.cells ac 35)) G gc t b R I p h n q on who dn L V X lo r LX cr a M c wv dx w.heap.size ac.toList := by
  have l1 := s.1.lts
  have l2 := s.2.1.lt
  exact ⟨s.fresh ((Below.refl _ _).alloc (Nat.le_refl _) _), Blk.newA w ac _, by omega, by omega⟩
end
theorem keepA {w : World} {G : Nat} (hl : G < w.heap.size) (o : Obj) {v u : Option Value} (h : w.cell? ⟨G, 0, none⟩ = v ∧ w.cell? ⟨G, 1, none⟩ = u) : (w.alloc o).cell? ⟨G, 0, none⟩ = v ∧ (w.alloc o).cell? ⟨G, 1, none⟩ = u := by
  rw [World.cell?_alloc_past _ _ _ hl, World.cell?_alloc_past _ _ _ hl]
  exact h
theorem keepAD {w : World} {G : Nat} (hl : G < w.heap.size) (o : Obj) {v u : Option Value} (h : w.cell? ⟨G, 0, none⟩ = v ∧ w.cell? ⟨G, 1, none⟩ = u) : (w.alloc o).drew.cell? ⟨G, 0, none⟩ = v ∧ (w.alloc o).drew.cell? ⟨G, 1, none⟩ = u := keepA hl o h
theorem keep6 {w : World} {X G : Nat} (hne : G ≠ X) (a b c d e f : Value) {v u : Option Value} (h : w.cell? ⟨G, 0, none⟩ = v ∧ w.cell? ⟨G, 1, none⟩ = u) : ((((((w.setCell ⟨X, 0, none⟩ (a)).setCell ⟨X, 1, none⟩ (b)).setCell ⟨X, 2, none⟩ (c)).setCell ⟨X, 3, none⟩ (d)).setCell ⟨X, 4, none⟩ (e)).setCell ⟨X, 5, none⟩ (f)).cell? ⟨G, 0, none⟩ = v ∧ ((((((w.setCell ⟨X, 0, none⟩ (a)).setCell ⟨X, 1, none⟩ (b)).setCell ⟨X, 2, none⟩ (c)).setCell ⟨X, 3, none⟩ (d)).setCell ⟨X, 4, none⟩ (e)).setCell ⟨X, 5, none⟩ (f)).cell? ⟨G, 1, none⟩ = u := by
  have o : ∀ (W : World) (i j : Nat) (x : Value), (W.setCell ⟨X, i, none⟩ x).cell? ⟨G, j, none⟩ = W.cell? ⟨G, j, none⟩ := fun W i j x => World.cell?_setCell_other _ _ _ _ (by first | (simp; done) | (simp; omega))
  rw [o, o, o, o, o, o, o, o, o, o, o, o]
  exact h
theorem zs_set {w0 w : World} {G : Nat} {gc : List Value} {t b R I p h n : Nat} {q : Int} {on : Bool} {who dn : Nat} {L : List Nat} {V : List Int} {X : Nat} {x0 x1 x2 x3 x4 x5 : Value} (u : TAt w t b R I p h n q on who dn L V) (hG : Blk w G gc 24) (hB : Below w0.heap.size w0 w) (hX : Blk w X [x0, x1, x2, x3, x4, x5] 32)
    (h1 : (X ≠ t ∧ X ≠ b ∧ X ≠ R ∧ X ≠ I ∧ X ≠ p ∧ X ≠ h) ∧ (G ≠ t ∧ G ≠ b ∧ G ≠ R ∧ G ≠ I ∧ G ≠ p ∧ G ≠ h) ∧ X ≠ G) (h2 : w0.heap.size ≤ t ∧ w0.heap.size ≤ b ∧ w0.heap.size ≤ R ∧ w0.heap.size ≤ I ∧ w0.heap.size ≤ p ∧ w0.heap.size ≤ h ∧ w0.heap.size ≤ X ∧ w0.heap.size ≤ G) :
    ZS w0 ((((((w.setCell ⟨X, 0, none⟩ (.slice none 0 0)).setCell ⟨X, 1, none⟩ (.int .i64 n)).setCell ⟨X, 2, none⟩ (.int .i64 q)).setCell ⟨X, 3, none⟩ (.slice none 0 0)).setCell ⟨X, 4, none⟩ (.int .i64 (-1))).setCell ⟨X, 5, none⟩ (.int .i64 0)) G gc t b R I p h n q on who dn L V X w.heap.size none [] 0 none [] 0 (-1) 0 := by
  have k : Chg [X] w ((((((w.setCell ⟨X, 0, none⟩ (.slice none 0 0)).setCell ⟨X, 1, none⟩ (.int .i64 n)).setCell ⟨X, 2, none⟩ (.int .i64 q)).setCell ⟨X, 3, none⟩ (.slice none 0 0)).setCell ⟨X, 4, none⟩ (.int .i64 (-1))).setCell ⟨X, 5, none⟩ (.int .i64 0)) := ((((((Chg.refl [X] w).set (Or.inl (by simp)) _ _).set (Or.inl (by simp)) _ _).set (Or.inl (by simp)) _ _).set (Or.inl (by simp)) _ _).set (Or.inl (by simp)) _ _).set (Or.inl (by simp)) _ _
  have l1 := u.lts
  have l2 := hX.lt
  exact ⟨u.chg k (by simp; omega) (by simp; omega) (by simp; omega) (by simp; omega) (by simp; omega) (by simp; omega), (((((hX.set 0 _).set 1 _).set 2 _).set 3 _).set 4 _).set 5 _, LR.nil k.size, ⟨k.size, Or.inl rfl⟩, by simp, hG.chg k (by simp; omega), k.onto hB hB.size (by simp; omega), h1, h2, by omega⟩
theorem zs_new {w0 w : World} {G : Nat} {gc : List Value} {t b R I p h n : Nat} {q : Int} {on : Bool} {who dn : Nat} {L : List Nat} {V : List Int} (u : TAt w t b R I p h n q on who dn L V) (hG : Blk w G gc 24) (hB : Below w0.heap.size w0 w)
    (h1 : G ≠ t ∧ G ≠ b ∧ G ≠ R ∧ G ≠ I ∧ G ≠ p ∧ G ≠ h) (h2 : w0.heap.size ≤ t ∧ w0.heap.size ≤ b ∧ w0.heap.size ≤ R ∧ w0.heap.size ≤ I ∧ w0.heap.size ≤ p ∧ w0.heap.size ≤ h ∧ w0.heap.size ≤ G) :
    ZS w0 (w.alloc (Obj.cells #[.slice none 0 0, .int .i64 n, .int .i64 q, .slice none 0 0, .int .i64 (-1), .int .i64 0] 32)) G gc t b R I p h n q on who dn L V w.heap.size (w.heap.size + 1) none [] 0 none [] 0 (-1) 0 := by
  have k := (Chg.refl [] w).alloc (Obj.cells #[.slice none 0 0, .int .i64 n, .int .i64 q, .slice none 0 0, .int .i64 (-1), .int .i64 0] 32)
  have l1 := u.lts
  have l2 := hG.lt
  have hs := hB.size
  exact ⟨u.chg k (by simp) (by simp) (by simp) (by simp) (by simp) (by simp), Blk.newA w _ _, LR.nil (by simp), ⟨by simp, Or.inl rfl⟩, by simp, hG.chg k (by simp), k.onto hB hs (by simp), by omega, by omega, by omega⟩
theorem lSet_clamp (n : Int) (M : List (Int × Int)) (id v u : Int) (h : clampI v 0 2000000000 = clampI u 0 2000000000) : lSet n M id v = lSet n M id u := by
  unfold lSet; rw [h]
theorem RV.give {n : Nat} {M : List (Int × Int)} {V : List Int} (h : RV n M V) (id q : Int) (hb : 0 ≤ pHas V id ∧ pHas V id ≤ 2000000000) (hq : 0 ≤ q) : RV n (lSet n M id (lHas M id + q)) (pSet V id (min (pHas V id + q) 2000000000)) := by
  rw [lSet_clamp n M id (lHas M id + q) (min (pHas V id + q) 2000000000) (by rw [h.2.1 id]; unfold clampI; omega)]
  exact h.set id _ (by omega)
set_option maxRecDepth 20000 in
set_option maxHeartbeats 20000000 in

theorem walk (a0_Most : Int) (a0_Quantum : Int) (a0_Acts : Option Addr) (len0_Acts cap0_Acts : Nat) (a1 : Int) (w : World) (w0_Most : (Lit.int .i64 a0_Most).wf = true) (w0_Quantum : (Lit.int .i64 a0_Quantum).wf = true) (w0_Acts : IsRecs .i64 3 w a0_Acts len0_Acts cap0_Acts) (w1 : (Lit.int .i64 a1).wf = true) :
    Calls Try.prog 3 #[.agg #[.int .i64 a0_Most, .int .i64 a0_Quantum, .slice a0_Acts len0_Acts cap0_Acts], .int .i64 a1] w fun e w' => e = .returned (.bool true) ∧ Below w.heap.size w w' := by
  obtain ⟨hlc, hcm, hnil, hcell⟩ := w0_Acts
  unfold maxLen at hcm
  have HCELL := Lib.hid hcell
  clear hcell hnil
  obtain ⟨n, hn⟩ : ∃ n : Nat, min (max a0_Most 1) 1024 = (n : Int) := ⟨(min (max a0_Most 1) 1024).toNat, by omega⟩
  obtain ⟨q, hq⟩ : ∃ q : Int, min (max a0_Quantum 1) 1000000 = q := ⟨_, rfl⟩
  have HN := Lib.hid hn
  have HQQ := Lib.hid hq
  have n1 : 1 ≤ n ∧ n ≤ 1024 := by omega
  have q1 : 1 ≤ q ∧ q ≤ 1000000 := by omega
  clear hn hq
  go_enter Try.func3, Try.ntmps3
  go_upto_region 1 with fail
  have hW : Hid (Blk (w.alloc (Obj.cells #[Value.int .i64 a0_Most, .int .i64 a0_Quantum, .slice a0_Acts len0_Acts cap0_Acts] 24)) w.heap.size [Value.int .i64 a0_Most, .int .i64 a0_Quantum, .slice a0_Acts len0_Acts cap0_Acts] 24 ∧ Below w.heap.size w (w.alloc (Obj.cells #[Value.int .i64 a0_Most, .int .i64 a0_Quantum, .slice a0_Acts len0_Acts cap0_Acts] 24))) := Lib.hid ⟨Blk.newA w _ _, (Below.refl _ _).alloc (Nat.le_refl _) _⟩
  revert hW
  generalize w.alloc (Obj.cells #[Value.int .i64 a0_Most, .int .i64 a0_Quantum, .slice a0_Acts len0_Acts cap0_Acts] 24) = W0
  intro hW
  obtain ⟨gc, hgc⟩ : ∃ gc, [Value.int .i64 a0_Most, .int .i64 a0_Quantum, .slice a0_Acts len0_Acts cap0_Acts] = gc := ⟨_, rfl⟩
  have HG := Lib.hid hgc
  rw [hgc] at hW
  clear hgc
  have lG : w.heap.size < W0.heap.size := hW.out.1.lt
  go_cut [5, 6] from 14 to 23 (fun s5 s6 wx => ∃ t b R I p h X lo : Nat, s5 = .pointer (some ⟨t, 0, none⟩) ∧ s6 = .pointer (some ⟨X, 0, none⟩) ∧ Hid (ZS w wx w.heap.size gc t b R I p h n q false 0 0 [] (List.replicate n 0) X lo none [] 0 none [] 0 (-1) 0))
  case first =>
    have c0 : W0.drew.cell? ⟨w.heap.size, 0, none⟩ = some (.int .i64 a0_Most) := hW.out.1.drew.cell (i := 0) (by rw [← HG.out]; rfl)
    have c1 : W0.drew.cell? ⟨w.heap.size, 1, none⟩ = some (.int .i64 a0_Quantum) := hW.out.1.drew.cell (i := 1) (by rw [← HG.out]; rfl)
    have b0 : W0.cell? ⟨w.heap.size, 0, none⟩ = some (.int .i64 a0_Most) := c0
    have b1 : W0.cell? ⟨w.heap.size, 1, none⟩ = some (.int .i64 a0_Quantum) := c1
    have hne0 : w.heap.size ≠ W0.heap.size := by omega
    go_region_held3 (fun w' => w'.cell? ⟨w.heap.size, 0, none⟩ = some (.int .i64 a0_Most) ∧ w'.cell? ⟨w.heap.size, 1, none⟩ = some (.int .i64 a0_Quantum)) (first | with_reducible exact ⟨c0, c1⟩ | with_reducible exact ⟨d0, d1⟩ | with_reducible exact ⟨e0, e1⟩ | with_reducible exact keepA l1 _ ⟨d0, d1⟩ | with_reducible exact keepA l2 _ ⟨e0, e1⟩ | with_reducible exact keepAD lG _ ⟨b0, b1⟩ | with_reducible exact keep6 hne1 _ _ _ _ _ _ ⟨e0, e1⟩ | with_reducible exact keep6 hne0 _ _ _ _ _ _ ⟨e0, e1⟩) (first
      | (go_at_call 7; refine (t_new n _ _ q _ HN.out HQQ.out).mono ?_; rintro e w1 ⟨t, b, R, I, p, h, rfl, k1, k2, k3⟩; have kk : Below W0.heap.size W0 w1 := (by first | exact ((Below.refl _ W0).drew).trans k2 | exact (((Below.refl W0.heap.size W0).alloc (Nat.le_refl _) _).drew).trans (k2.mono (by simp))); have kp : W0.heap.size ≤ t ∧ W0.heap.size ≤ b ∧ W0.heap.size ≤ R ∧ W0.heap.size ≤ I ∧ W0.heap.size ≤ p ∧ W0.heap.size ≤ h := (by first | exact k3 | (simp at k3; omega)); have F1 : Hid (TAt w1 t b R I p h n q false 0 0 [] (List.replicate n 0) ∧ Blk w1 w.heap.size gc 24 ∧ Below w.heap.size w w1 ∧ (W0.heap.size ≤ t ∧ W0.heap.size ≤ b ∧ W0.heap.size ≤ R ∧ W0.heap.size ≤ I ∧ W0.heap.size ≤ p ∧ W0.heap.size ≤ h) ∧ W0.heap.size ≤ w1.heap.size) := Lib.hid ⟨k1, hW.out.1.below kk lG, hW.out.2.trans (kk.mono hW.out.2.size), kp, kk.size⟩; have l1 : w.heap.size < w1.heap.size := F1.out.2.1.lt; have hne1 : w.heap.size ≠ w1.heap.size := (by omega); (first | (have X1 : Hid (Blk w1 W0.heap.size [.slice none 0 0, .int .i64 0, .int .i64 0, .slice none 0 0, .int .i64 0, .int .i64 0] 32 ∧ W0.heap.size < t ∧ W0.heap.size < b ∧ W0.heap.size < R ∧ W0.heap.size < I ∧ W0.heap.size < p ∧ W0.heap.size < h) := Lib.hid ⟨(Blk.newA W0 #[.slice none 0 0, .int .i64 0, .int .i64 0, .slice none 0 0, .int .i64 0, .int .i64 0] 32).drew.below k2 (by simp), by simp at k3; omega⟩; clear k1 k2 k3 kk kp) | clear k1 k2 k3 kk kp); have d0 : w1.cell? ⟨w.heap.size, 0, none⟩ = some (.int .i64 a0_Most) := F1.out.2.1.cell (i := 0) (by rw [← HG.out]; rfl); have d1 : w1.cell? ⟨w.heap.size, 1, none⟩ = some (.int .i64 a0_Quantum) := F1.out.2.1.cell (i := 1) (by rw [← HG.out]; rfl))
      | (go_at_call 8; refine (tr_new _ _ n q _ HN.out HQQ.out).mono ?_; rintro e w2 ⟨rfl, k5⟩; have k6 : Below w1.heap.size w1 w2 := (by first | exact k5 | exact ((Below.refl w1.heap.size w1).alloc (Nat.le_refl _) _).trans (k5.mono (by simp))); have F2 : Hid (TAt w2 t b R I p h n q false 0 0 [] (List.replicate n 0) ∧ Blk w2 w.heap.size gc 24 ∧ Below w.heap.size w w2 ∧ w1.heap.size ≤ w2.heap.size) := Lib.hid ⟨F1.out.1.fresh k6, F1.out.2.1.below k6 l1, F1.out.2.2.1.trans (k6.mono F1.out.2.2.1.size), k6.size⟩; have l2 : w.heap.size < w2.heap.size := F2.out.2.1.lt; have e0 : w2.cell? ⟨w.heap.size, 0, none⟩ = some (.int .i64 a0_Most) := F2.out.2.1.cell (i := 0) (by rw [← HG.out]; rfl); have e1 : w2.cell? ⟨w.heap.size, 1, none⟩ = some (.int .i64 a0_Quantum) := F2.out.2.1.cell (i := 1) (by rw [← HG.out]; rfl); first | (have X2 : Hid (Blk w2 w1.heap.size [.slice none 0 0, .int .i64 0, .int .i64 0, .slice none 0 0, .int .i64 0, .int .i64 0] 32) := Lib.hid ((Blk.newA w1 #[.slice none 0 0, .int .i64 0, .int .i64 0, .slice none 0 0, .int .i64 0, .int .i64 0] 32).below k5 (by simp)); have x0 := X2.out.cell (i := 0) rfl; have y0 := X2.out.free 0; have x1 := X2.out.cell (i := 1) rfl; have y1 := X2.out.free 1; have x2 := X2.out.cell (i := 2) rfl; have y2 := X2.out.free 2; have x3 := X2.out.cell (i := 3) rfl; have y3 := X2.out.free 3; have x4 := X2.out.cell (i := 4) rfl; have y4 := X2.out.free 4; have x5 := X2.out.cell (i := 5) rfl; have y5 := X2.out.free 5; clear k5) | (have X3 := Lib.hid (X1.out.1.below k6 X1.out.1.lt); have x0 := X3.out.cell (i := 0) rfl; have y0 := X3.out.free 0; have x1 := X3.out.cell (i := 1) rfl; have y1 := X3.out.free 1; have x2 := X3.out.cell (i := 2) rfl; have y2 := X3.out.free 2; have x3 := X3.out.cell (i := 3) rfl; have y3 := X3.out.free 3; have x4 := X3.out.cell (i := 4) rfl; have y4 := X3.out.free 4; have x5 := X3.out.cell (i := 5) rfl; have y5 := X3.out.free 5; clear k5) | clear k5))
    all_goals
      go_wp2_with fail
      go_meet
      have hp := F1.out.2.2.2
      have hs := hW.out.2.size
      have hu := F1.out.1.lts
      first
        | with_reducible exact ⟨t, b, R, I, p, h, _, _, rfl, rfl, Lib.hid (zs_new F2.out.1 F2.out.2.1 F2.out.2.2.1 (by omega) (by omega))⟩
        | with_reducible exact ⟨t, b, R, I, p, h, _, _, rfl, rfl, Lib.hid (zs_set F2.out.1 F2.out.2.1 F2.out.2.2.1 X2.out (by omega) (by omega))⟩
        | with_reducible exact ⟨t, b, R, I, p, h, _, _, rfl, rfl, Lib.hid (zs_set F2.out.1 F2.out.2.1 F2.out.2.2.1 X3.out (by have := X1.out.2; omega) (by omega))⟩
  case rest =>
    obtain ⟨t, b, R, I, p, h, X, lo, rfl, rfl, HS0⟩ := hcut
    have HV0 := Lib.hid (RV.nil n)
    clear lG hW HN HQQ
    go_wp2_with fail
    go_loopw [7] (fun i wr => ∃ (j : Nat) (on : Bool) (who dn : Nat) (L : List Nat) (V : List Int) (r : Option Addr) (cr : Nat) (a : Option Addr) (M : List (Int × Int)) (c : Nat) (wv : Int), i = .int .i64 j ∧ j ≤ 40 ∧ j ≤ len0_Acts ∧ dn ≤ j ∧ M.length ≤ j ∧ Hid (ZS w wr w.heap.size gc t b R I p h n q on who dn L V X lo r L cr a M c wv dn) ∧ Hid (RV n M V) ∧ Hid (wv = if on = true then (who : Int) else -1)) (fun i _ => 50 - (intOf i).toNat)
    case atStart => exact ⟨0, false, 0, 0, [], _, none, 0, none, [], 0, -1, rfl, by omega, by omega, by omega, by simp, HS0, HV0, Lib.hid rfl⟩
    case round =>
      clear HS0 HV0
      obtain ⟨j, on, who, dn, L, V, r, cr, a, M, c, wv, rfl, hj40, hjl, hdn, hMj, HS, HV, HWV⟩ := hrel
      have b2 : wr.cell? ⟨w.heap.size, 2, none⟩ = some (.slice a0_Acts len0_Acts cap0_Acts) := HS.out.2.2.2.2.2.1.cell (i := 2) (by rw [← HG.out]; rfl)
      by_cases hjlt : j < len0_Acts
      · by_cases h40 : j < 40
        · obtain ⟨bb, off, hab, hbl, hcl⟩ := HCELL.out (by omega)
          obtain ⟨kd, e0, wkd⟩ := hcl j hjlt 0 (by omega)
          obtain ⟨id, e1, wid⟩ := hcl j hjlt 1 (by omega)
          obtain ⟨nn, e2, wnn⟩ := hcl j hjlt 2 (by omega)
          rw [hab] at b2
          have hB7 := HS.out.2.2.2.2.2.2.1
          have y0 : wr.cell? ⟨bb, off + j * 3, none⟩ = some (.int .i64 kd) := by rw [hB7.cell (by simpa using hbl)]; simpa using e0
          have y1 : wr.cell? ⟨bb, off + j * 3 + 1, none⟩ = some (.int .i64 id) := by rw [hB7.cell (by simpa using hbl), Nat.add_assoc]; exact e1
          have y2 : wr.cell? ⟨bb, off + j * 3 + 1 + 1, none⟩ = some (.int .i64 nn) := by rw [hB7.cell (by simpa using hbl), Nat.add_assoc, Nat.add_assoc]; exact e2
          clear hcl e0 e1 e2 wkd wid wnn hab hB7
          go_upto_block 2 with fail
          have HQ := Lib.hid (QS.new HS.out #[.int .i64 kd, .int .i64 id, .int .i64 nn])
          clear y0 y1 y2 b2 HS
          revert HQ
          generalize wr.alloc (Obj.cells #[Value.int .i64 kd, Value.int .i64 id, Value.int .i64 nn] 35) = W2
          generalize wr.heap.size = A
          intro HQ
          go_cut [9, 11] from 24 to 129 (fun s9 s11 wx => ∃ (z on : Bool) (who dn' : Nat) (L : List Nat) (V : List Int) (r : Option Addr) (cr : Nat) (a : Option Addr) (M : List (Int × Int)) (c : Nat) (wv : Int), s9 = .bool z ∧ s11 = .bool z ∧ dn' ≤ j + 1 ∧ M.length ≤ j + 1 ∧ Hid (QS w wx w.heap.size gc t b R I p h n q on who dn' L V X lo r L cr a M c wv dn' A [.int .i64 kd, .int .i64 id, .int .i64 nn]) ∧ Hid (RV n M V) ∧ Hid (wv = if on = true then (who : Int) else -1))
          case first =>
            by_cases ek0 : kd = 0
            · subst ek0
              by_cases hA : on = true ∧ (who : Int) = id
              · obtain ⟨hA1, hA2⟩ := hA
                subst hA1
                subst hA2
                obtain rfl : wv = (who : Int) := HWV.out
                have HI9 : Hid ((who : Int) < 0 ∨ (n : Int) ≤ (who : Int) ∨ tW true who L (who : Int) = true) := Lib.hid (Or.inr (Or.inr (by unfold tW; simp)))
                have x0 := HQ.out.1.xc.cell (i := 0) rfl
                have x1 := HQ.out.1.xc.cell (i := 1) rfl
                have x2 := HQ.out.1.xc.cell (i := 2) rfl
                have x3 := HQ.out.1.xc.cell (i := 3) rfl
                have x4 := HQ.out.1.xc.cell (i := 4) rfl
                have x5 := HQ.out.1.xc.cell (i := 5) rfl
                have u0 := HQ.out.2.1.cell (i := 0) rfl
                have u1 := HQ.out.2.1.cell (i := 1) rfl
                have u2 := HQ.out.2.1.cell (i := 2) rfl
                go_upto_region 11 with (go_at_call 9; refine (tr_wake_turn lo n q r L cr a M c (who : Int) dn _ (by have := HQ.out.1.1.2.2.2.1.len; omega) (by omega) HQ.out.1.2.2.2.2.1 HQ.out.1.2.2.1 HQ.out.1.2.2.2.1 (by omega)).mono ?_; rintro e w2 ⟨v, rfl, r2, cr2, a2, c2, rfl, k1, k2, k3, k4⟩; have H2 := Lib.hid (HQ.out.fresh k4); have HK1 := Lib.hid k1; have HK2 := Lib.hid k2; have HK3 := Lib.hid k3; clear k1 k2 k3 k4; have y0 := H2.out.1.xc.cell (i := 0) rfl; have y1 := H2.out.1.xc.cell (i := 1) rfl; have y2 := H2.out.1.xc.cell (i := 2) rfl; have y3 := H2.out.1.xc.cell (i := 3) rfl; have y4 := H2.out.1.xc.cell (i := 4) rfl; have y5 := H2.out.1.xc.cell (i := 5) rfl; have fr0 := H2.out.1.xc.free 0; have fr1 := H2.out.1.xc.free 1; have fr2 := H2.out.1.xc.free 2; have fr3 := H2.out.1.xc.free 3; have fr4 := H2.out.1.xc.free 4; have fr5 := H2.out.1.xc.free 5)
                clear x0 x1 x2 x3 x4 x5 u0 u1 u2
                have H3 := Lib.hid (H2.out.put (wv2 := (who : Int)) (dx2 := dn) HK1.out HK2.out HK3.out)
                clear y0 y1 y2 y3 y4 y5 fr0 fr1 fr2 fr3 fr4 fr5
                revert H3
                generalize (((((w2.setCell ⟨X, 0, none⟩ (.slice r2 L.length cr2)).setCell ⟨X, 1, none⟩ (.int .i64 n)).setCell ⟨X, 2, none⟩ (.int .i64 q)).setCell ⟨X, 3, none⟩ (.slice a2 M.length c2)).setCell ⟨X, 4, none⟩ (.int .i64 (who : Int))).setCell ⟨X, 5, none⟩ (.int .i64 dn) = W3
                intro H3
                have u0 := H3.out.2.1.cell (i := 0) rfl
                have u1 := H3.out.2.1.cell (i := 1) rfl
                have u2 := H3.out.2.1.cell (i := 2) rfl
                go_wp2_with (go_at_call 10; refine (t_wake_no t b R I p h n q true who dn L V _ (who : Int) H3.out.1.1 HI9.out).mono ?_; rintro e w4 ⟨rfl, q4, rfl⟩; have H4 := Lib.hid (H3.out.fresh (below_drewN (Below.refl _ _) q4)))
                go_meet
                exact ⟨false, true, who, dn, L, V, _, _, _, M, _, (who : Int), rfl, rfl, by omega, by omega, H4, HV, HWV⟩
              · have hg : wv < 0 ∨ id ≠ wv := by
                  have := HWV.out
                  cases on with
                  | false => left; rw [this]; simp
                  | true => right; rw [this]; simp only [if_true]; intro e; exact hA ⟨rfl, e.symm⟩
                by_cases hB : id < 0 ∨ (n : Int) ≤ id ∨ isIn L id = true
                · have HI9 : Hid (id < 0 ∨ (n : Int) ≤ id ∨ tW on who L id = true) := Lib.hid (by
                    rcases hB with h | h | h
                    · exact Or.inl h
                    · exact Or.inr (Or.inl h)
                    · exact Or.inr (Or.inr (by unfold tW; rw [h]; simp)))
                  have HHB := Lib.hid hB
                  have HHG := Lib.hid hg
                  clear hA hB hg
                  have x0 := HQ.out.1.xc.cell (i := 0) rfl
                  have x1 := HQ.out.1.xc.cell (i := 1) rfl
                  have x2 := HQ.out.1.xc.cell (i := 2) rfl
                  have x3 := HQ.out.1.xc.cell (i := 3) rfl
                  have x4 := HQ.out.1.xc.cell (i := 4) rfl
                  have x5 := HQ.out.1.xc.cell (i := 5) rfl
                  have u0 := HQ.out.2.1.cell (i := 0) rfl
                  have u1 := HQ.out.2.1.cell (i := 1) rfl
                  have u2 := HQ.out.2.1.cell (i := 2) rfl
                  go_upto_region 11 with (go_at_call 9; refine (tr_wake_no lo n q r L cr a M c wv dn id _ (by have := HQ.out.1.1.2.2.2.1.len; omega) (by omega) HQ.out.1.2.2.2.2.1 HQ.out.1.2.2.1 HQ.out.1.2.2.2.1 HHG.out HHB.out).mono ?_; rintro e w2 ⟨v, rfl, r2, cr2, a2, c2, rfl, k1, k2, k3, k4⟩; have H2 := Lib.hid (HQ.out.fresh k4); have HK1 := Lib.hid k1; have HK2 := Lib.hid k2; have HK3 := Lib.hid k3; clear k1 k2 k3 k4; have y0 := H2.out.1.xc.cell (i := 0) rfl; have y1 := H2.out.1.xc.cell (i := 1) rfl; have y2 := H2.out.1.xc.cell (i := 2) rfl; have y3 := H2.out.1.xc.cell (i := 3) rfl; have y4 := H2.out.1.xc.cell (i := 4) rfl; have y5 := H2.out.1.xc.cell (i := 5) rfl; have fr0 := H2.out.1.xc.free 0; have fr1 := H2.out.1.xc.free 1; have fr2 := H2.out.1.xc.free 2; have fr3 := H2.out.1.xc.free 3; have fr4 := H2.out.1.xc.free 4; have fr5 := H2.out.1.xc.free 5)
                  clear x0 x1 x2 x3 x4 x5 u0 u1 u2
                  have H3 := Lib.hid (H2.out.put (wv2 := wv) (dx2 := dn) HK1.out HK2.out HK3.out)
                  clear y0 y1 y2 y3 y4 y5 fr0 fr1 fr2 fr3 fr4 fr5
                  revert H3
                  generalize (((((w2.setCell ⟨X, 0, none⟩ (.slice r2 L.length cr2)).setCell ⟨X, 1, none⟩ (.int .i64 n)).setCell ⟨X, 2, none⟩ (.int .i64 q)).setCell ⟨X, 3, none⟩ (.slice a2 M.length c2)).setCell ⟨X, 4, none⟩ (.int .i64 wv)).setCell ⟨X, 5, none⟩ (.int .i64 dn) = W3
                  intro H3
                  have u0 := H3.out.2.1.cell (i := 0) rfl
                  have u1 := H3.out.2.1.cell (i := 1) rfl
                  have u2 := H3.out.2.1.cell (i := 2) rfl
                  go_wp2_with (go_at_call 10; refine (t_wake_no t b R I p h n q on who dn L V _ id H3.out.1.1 HI9.out).mono ?_; rintro e w4 ⟨rfl, q4, rfl⟩; have H4 := Lib.hid (H3.out.fresh (below_drewN (Below.refl _ _) q4)))
                  go_meet
                  exact ⟨false, on, who, dn, L, V, _, _, _, M, _, wv, rfl, rfl, by omega, by omega, H4, HV, HWV⟩
                · obtain ⟨x, rfl⟩ : ∃ x : Nat, id = (x : Int) := ⟨id.toNat, by omega⟩
                  have hxn : x < n := by omega
                  have hxL : ¬ x ∈ L := fun hm => hB (Or.inr (Or.inr (by rw [isIn_nat]; simpa using hm)))
                  have HTF : Hid (tW on who L (x : Int) = false) := Lib.hid (by
                    unfold tW
                    rw [isIn_nat]
                    cases on with
                    | false => simp [hxL]
                    | true => have : ¬ (who : Int) = (x : Int) := fun e => hA ⟨rfl, e⟩
                              simp [hxL, this])
                  have HHX := Lib.hid hxL
                  have HHG := Lib.hid hg
                  clear hA hB hg hxL
                  obtain ⟨L2, hL2⟩ : ∃ L2, L ++ [x] = L2 := ⟨_, rfl⟩
                  have HL2 := Lib.hid hL2
                  clear hL2
                  have x0 := HQ.out.1.xc.cell (i := 0) rfl
                  have x1 := HQ.out.1.xc.cell (i := 1) rfl
                  have x2 := HQ.out.1.xc.cell (i := 2) rfl
                  have x3 := HQ.out.1.xc.cell (i := 3) rfl
                  have x4 := HQ.out.1.xc.cell (i := 4) rfl
                  have x5 := HQ.out.1.xc.cell (i := 5) rfl
                  have u0 := HQ.out.2.1.cell (i := 0) rfl
                  have u1 := HQ.out.2.1.cell (i := 1) rfl
                  have u2 := HQ.out.2.1.cell (i := 2) rfl
                  go_upto_region 11 with (go_at_call 9; refine (tr_wake_yes lo n q r L cr a M c wv dn x _ (by have := HQ.out.1.1.2.2.2.1.len; omega) (by omega) HQ.out.1.2.2.2.2.1 HQ.out.1.2.2.1 HQ.out.1.2.2.2.1 HHG.out hxn HHX.out).mono ?_; rintro e w2 ⟨v, rfl, r2, cr2, a2, c2, rfl, k1, k2, k3, k4⟩; rw [HL2.out] at k1; rw [HL2.out]; have H2 := Lib.hid (HQ.out.fresh k4); have HK1 := Lib.hid k1; have HK2 := Lib.hid k2; have HK3 := Lib.hid k3; clear k1 k2 k3 k4; have y0 := H2.out.1.xc.cell (i := 0) rfl; have y1 := H2.out.1.xc.cell (i := 1) rfl; have y2 := H2.out.1.xc.cell (i := 2) rfl; have y3 := H2.out.1.xc.cell (i := 3) rfl; have y4 := H2.out.1.xc.cell (i := 4) rfl; have y5 := H2.out.1.xc.cell (i := 5) rfl; have fr0 := H2.out.1.xc.free 0; have fr1 := H2.out.1.xc.free 1; have fr2 := H2.out.1.xc.free 2; have fr3 := H2.out.1.xc.free 3; have fr4 := H2.out.1.xc.free 4; have fr5 := H2.out.1.xc.free 5)
                  clear x0 x1 x2 x3 x4 x5 u0 u1 u2
                  have H3 := Lib.hid (H2.out.put (wv2 := wv) (dx2 := dn) HK1.out HK2.out HK3.out)
                  clear y0 y1 y2 y3 y4 y5 fr0 fr1 fr2 fr3 fr4 fr5
                  revert H3
                  generalize (((((w2.setCell ⟨X, 0, none⟩ (.slice r2 L2.length cr2)).setCell ⟨X, 1, none⟩ (.int .i64 n)).setCell ⟨X, 2, none⟩ (.int .i64 q)).setCell ⟨X, 3, none⟩ (.slice a2 M.length c2)).setCell ⟨X, 4, none⟩ (.int .i64 wv)).setCell ⟨X, 5, none⟩ (.int .i64 dn) = W3
                  intro H3
                  have u0 := H3.out.2.1.cell (i := 0) rfl
                  have u1 := H3.out.2.1.cell (i := 1) rfl
                  have u2 := H3.out.2.1.cell (i := 2) rfl
                  go_wp2_with (go_at_call 10; refine (t_wake_yes t b R I p h n q on who dn L V _ x hxn H3.out.1.1 HTF.out).mono ?_; rintro e w4 ⟨rfl, k1, k2⟩; rw [HL2.out] at k1; have H4 := Lib.hid (H3.out.tur k1 k2 (by simp)); clear k1 k2)
                  go_meet
                  exact ⟨true, on, who, dn, L2, V, _, _, _, M, _, wv, rfl, rfl, by omega, by omega, H4, HV, HWV⟩
            · skip
              by_cases ek1 : kd = 1
              · subst ek1
                by_cases hA : on = true ∨ L = []
                · have hno : 0 ≤ wv ∨ L = [] := by
                    rcases hA with h | h
                    · left; have := HWV.out; rw [h] at this; simp at this; omega
                    · exact Or.inr h
                  have HNO := Lib.hid hno
                  have HPB : Hid (∀ W', TAt W' t b R I p h n q on who dn L V → Calls Try.prog 12 #[.pointer (some ⟨t, 0, none⟩)] W' fun e w' => e = .returned (.tuple #[.int .i64 0, .bool false]) ∧ W' = w') := Lib.hid (fun W' z => by
                    cases on with
                    | true => exact t_begin_on t b R I p h n q who dn L V W' z
                    | false =>
                      rcases hA with h | h
                      · cases h
                      · subst h; exact t_begin_none t b R I p h n q who dn V W' z)
                  clear hA hno
                  have x0 := HQ.out.1.xc.cell (i := 0) rfl
                  have x1 := HQ.out.1.xc.cell (i := 1) rfl
                  have x2 := HQ.out.1.xc.cell (i := 2) rfl
                  have x3 := HQ.out.1.xc.cell (i := 3) rfl
                  have x4 := HQ.out.1.xc.cell (i := 4) rfl
                  have x5 := HQ.out.1.xc.cell (i := 5) rfl
                  have u0 := HQ.out.2.1.cell (i := 0) rfl
                  have u1 := HQ.out.2.1.cell (i := 1) rfl
                  have u2 := HQ.out.2.1.cell (i := 2) rfl
                  go_upto_region 14 with (go_at_call 11; refine (tr_begin_no lo n q r L cr a M c wv dn _ (by have := HQ.out.1.1.2.2.2.1.len; omega) (by omega) HQ.out.1.2.2.2.2.1 HQ.out.1.2.2.1 HQ.out.1.2.2.2.1 HNO.out).mono ?_; rintro e w2 ⟨v, rfl, r2, cr2, a2, c2, rfl, k1, k2, k3, k4⟩; have H2 := Lib.hid (HQ.out.fresh k4); have HK1 := Lib.hid k1; have HK2 := Lib.hid k2; have HK3 := Lib.hid k3; clear k1 k2 k3 k4; have y0 := H2.out.1.xc.cell (i := 0) rfl; have y1 := H2.out.1.xc.cell (i := 1) rfl; have y2 := H2.out.1.xc.cell (i := 2) rfl; have y3 := H2.out.1.xc.cell (i := 3) rfl; have y4 := H2.out.1.xc.cell (i := 4) rfl; have y5 := H2.out.1.xc.cell (i := 5) rfl; have fr0 := H2.out.1.xc.free 0; have fr1 := H2.out.1.xc.free 1; have fr2 := H2.out.1.xc.free 2; have fr3 := H2.out.1.xc.free 3; have fr4 := H2.out.1.xc.free 4; have fr5 := H2.out.1.xc.free 5)
                  clear x0 x1 x2 x3 x4 x5 u0 u1 u2
                  have H3 := Lib.hid (H2.out.put (wv2 := wv) (dx2 := dn) HK1.out HK2.out HK3.out)
                  clear y0 y1 y2 y3 y4 y5 fr0 fr1 fr2 fr3 fr4 fr5
                  revert H3
                  generalize (((((w2.setCell ⟨X, 0, none⟩ (.slice r2 L.length cr2)).setCell ⟨X, 1, none⟩ (.int .i64 n)).setCell ⟨X, 2, none⟩ (.int .i64 q)).setCell ⟨X, 3, none⟩ (.slice a2 M.length c2)).setCell ⟨X, 4, none⟩ (.int .i64 wv)).setCell ⟨X, 5, none⟩ (.int .i64 dn) = W3
                  intro H3
                  have u0 := H3.out.2.1.cell (i := 0) rfl
                  have u1 := H3.out.2.1.cell (i := 1) rfl
                  have u2 := H3.out.2.1.cell (i := 2) rfl
                  go_wp2_with (go_at_call 12; refine (HPB.out _ H3.out.1.1).mono ?_; rintro e w4 ⟨rfl, rfl⟩; have H4 := H3)
                  go_meet
                  exact ⟨false, on, who, dn, L, V, _, _, _, M, _, wv, rfl, rfl, by omega, by omega, H4, HV, HWV⟩
                · have hon : on = false := by cases on; rfl; exact absurd (Or.inl rfl) hA
                  subst hon
                  obtain ⟨x, Ls, hLx⟩ : ∃ x Ls, L = x :: Ls := by
                    cases L with
                    | nil => exact absurd (Or.inr rfl) hA
                    | cons x Ls => exact ⟨x, Ls, rfl⟩
                  obtain rfl : wv = -1 := HWV.out
                  have HLX := Lib.hid hLx
                  have HBX : Hid (0 ≤ lHas M (x : Int) ∧ lHas M (x : Int) ≤ 2000000000) := Lib.hid (by rw [HV.out.2.1]; exact HQ.out.1.1.2.2.2.2.bound _)
                  have HV2 := Lib.hid (RV.give HV.out (x : Int) q (HQ.out.1.1.2.2.2.2.bound _) (by omega))
                  obtain ⟨V2, hV2⟩ : ∃ V2, pSet V (x : Int) (min (pHas V (x : Int) + q) 2000000000) = V2 := ⟨_, rfl⟩
                  have HVE := Lib.hid hV2
                  rw [hV2] at HV2
                  obtain ⟨d2, hd2⟩ : ∃ d2, dn + 1 = d2 := ⟨_, rfl⟩
                  have HD2 := Lib.hid hd2
                  have hd2l : d2 ≤ j + 1 := by omega
                  clear hA hLx hV2 hd2
                  obtain ⟨M2, hM2⟩ : ∃ M2, lSet n M (x : Int) (lHas M (x : Int) + q) = M2 := ⟨_, rfl⟩
                  have HM2 := Lib.hid hM2
                  have hM2l : M2.length ≤ j + 1 := by rw [← hM2]; exact Nat.le_trans (lSet_le _ _ _ _) (by omega)
                  clear hM2
                  have x0 := HQ.out.1.xc.cell (i := 0) rfl
                  have x1 := HQ.out.1.xc.cell (i := 1) rfl
                  have x2 := HQ.out.1.xc.cell (i := 2) rfl
                  have x3 := HQ.out.1.xc.cell (i := 3) rfl
                  have x4 := HQ.out.1.xc.cell (i := 4) rfl
                  have x5 := HQ.out.1.xc.cell (i := 5) rfl
                  have u0 := HQ.out.2.1.cell (i := 0) rfl
                  have u1 := HQ.out.2.1.cell (i := 1) rfl
                  have u2 := HQ.out.2.1.cell (i := 2) rfl
                  go_upto_region 14 with (go_at_call 11; refine (tr_begin_some lo n q r L cr a M c dn x Ls _ (by have := HQ.out.1.1.2.2.2.1.len; omega) (by omega) HQ.out.1.2.2.2.2.1 HQ.out.1.2.2.1 HQ.out.1.2.2.2.1 HLX.out (by omega) (by omega) HBX.out).mono ?_; rintro e w2 ⟨v, rfl, r2, cr2, a2, c2, rfl, k1, k2, k3, k4⟩; rw [HM2.out] at k2 k3; rw [HM2.out, HD2.out]; have H2 := Lib.hid (HQ.out.fresh k4); have HK1 := Lib.hid k1; have HK2 := Lib.hid k2; have HK3 := Lib.hid k3; clear k1 k2 k3 k4; have y0 := H2.out.1.xc.cell (i := 0) rfl; have y1 := H2.out.1.xc.cell (i := 1) rfl; have y2 := H2.out.1.xc.cell (i := 2) rfl; have y3 := H2.out.1.xc.cell (i := 3) rfl; have y4 := H2.out.1.xc.cell (i := 4) rfl; have y5 := H2.out.1.xc.cell (i := 5) rfl; have fr0 := H2.out.1.xc.free 0; have fr1 := H2.out.1.xc.free 1; have fr2 := H2.out.1.xc.free 2; have fr3 := H2.out.1.xc.free 3; have fr4 := H2.out.1.xc.free 4; have fr5 := H2.out.1.xc.free 5)
                  clear x0 x1 x2 x3 x4 x5 u0 u1 u2
                  have H3 := Lib.hid (H2.out.put (wv2 := (x : Int)) (dx2 := d2) HK1.out HK2.out HK3.out)
                  clear y0 y1 y2 y3 y4 y5 fr0 fr1 fr2 fr3 fr4 fr5
                  revert H3
                  generalize (((((w2.setCell ⟨X, 0, none⟩ (.slice r2 Ls.length cr2)).setCell ⟨X, 1, none⟩ (.int .i64 n)).setCell ⟨X, 2, none⟩ (.int .i64 q)).setCell ⟨X, 3, none⟩ (.slice a2 M2.length c2)).setCell ⟨X, 4, none⟩ (.int .i64 (x : Int))).setCell ⟨X, 5, none⟩ (.int .i64 d2) = W3
                  intro H3
                  have u0 := H3.out.2.1.cell (i := 0) rfl
                  have u1 := H3.out.2.1.cell (i := 1) rfl
                  have u2 := H3.out.2.1.cell (i := 2) rfl
                  go_wp2_with (go_at_call 12; refine (t_begin_some t b R I p h n q who dn V _ x Ls (by omega) (by rw [← HLX.out]; exact H3.out.1.1)).mono ?_; rintro e w4 ⟨rfl, k1, k2⟩; rw [HVE.out, HD2.out] at k1; have H4 := Lib.hid (H3.out.tur k1 k2 (by simp)); clear k1 k2)
                  go_meet
                  exact ⟨false, true, x, d2, Ls, V2, _, _, _, M2, _, (x : Int), rfl, rfl, by omega, by omega, H4, (Lib.hid (by rw [← HM2.out]; exact HV2.out)), (Lib.hid rfl)⟩
              · skip
                by_cases ek2 : kd = 2
                · subst ek2
                  cases on with
                  | false =>
                    obtain rfl : wv = -1 := HWV.out
                    have x0 := HQ.out.1.xc.cell (i := 0) rfl
                    have x1 := HQ.out.1.xc.cell (i := 1) rfl
                    have x2 := HQ.out.1.xc.cell (i := 2) rfl
                    have x3 := HQ.out.1.xc.cell (i := 3) rfl
                    have x4 := HQ.out.1.xc.cell (i := 4) rfl
                    have x5 := HQ.out.1.xc.cell (i := 5) rfl
                    have u0 := HQ.out.2.1.cell (i := 0) rfl
                    have u1 := HQ.out.2.1.cell (i := 1) rfl
                    have u2 := HQ.out.2.1.cell (i := 2) rfl
                    go_upto_region 19 with (go_at_call 13; refine (tr_pay_off lo n q r L cr a M c (-1) dn nn _ (by have := HQ.out.1.1.2.2.2.1.len; omega) (by omega) HQ.out.1.2.2.2.2.1 HQ.out.1.2.2.1 HQ.out.1.2.2.2.1 (by decide)).mono ?_; rintro e w2 ⟨v, rfl, r2, cr2, a2, c2, rfl, k1, k2, k3, k4⟩; have H2 := Lib.hid (HQ.out.fresh k4); have HK1 := Lib.hid k1; have HK2 := Lib.hid k2; have HK3 := Lib.hid k3; clear k1 k2 k3 k4; have y0 := H2.out.1.xc.cell (i := 0) rfl; have y1 := H2.out.1.xc.cell (i := 1) rfl; have y2 := H2.out.1.xc.cell (i := 2) rfl; have y3 := H2.out.1.xc.cell (i := 3) rfl; have y4 := H2.out.1.xc.cell (i := 4) rfl; have y5 := H2.out.1.xc.cell (i := 5) rfl; have fr0 := H2.out.1.xc.free 0; have fr1 := H2.out.1.xc.free 1; have fr2 := H2.out.1.xc.free 2; have fr3 := H2.out.1.xc.free 3; have fr4 := H2.out.1.xc.free 4; have fr5 := H2.out.1.xc.free 5)
                    clear x0 x1 x2 x3 x4 x5 u0 u1 u2
                    have H3 := Lib.hid (H2.out.put (wv2 := (-1)) (dx2 := dn) HK1.out HK2.out HK3.out)
                    clear y0 y1 y2 y3 y4 y5 fr0 fr1 fr2 fr3 fr4 fr5
                    revert H3
                    generalize (((((w2.setCell ⟨X, 0, none⟩ (.slice r2 L.length cr2)).setCell ⟨X, 1, none⟩ (.int .i64 n)).setCell ⟨X, 2, none⟩ (.int .i64 q)).setCell ⟨X, 3, none⟩ (.slice a2 M.length c2)).setCell ⟨X, 4, none⟩ (.int .i64 (-1))).setCell ⟨X, 5, none⟩ (.int .i64 dn) = W3
                    intro H3
                    have u0 := H3.out.2.1.cell (i := 0) rfl
                    have u1 := H3.out.2.1.cell (i := 1) rfl
                    have u2 := H3.out.2.1.cell (i := 2) rfl
                    go_wp2_with (go_at_call 14; refine (t_pay_off t b R I p h n q who dn L V _ nn H3.out.1.1).mono ?_; rintro e w4 ⟨rfl, rfl⟩; have H4 := H3)
                    go_meet
                    exact ⟨false, false, who, dn, L, V, _, _, _, M, _, (-1), rfl, rfl, by omega, by omega, H4, HV, (Lib.hid rfl)⟩
                  | true =>
                    obtain rfl : wv = (who : Int) := HWV.out
                    have hwn := (HQ.out.1.1.2.1 rfl).1
                    have hVl := HQ.out.1.1.2.2.2.2.2.2.1
                    have hpb := HQ.out.1.1.2.2.2.2.bound (who : Int)
                    by_cases hcan : max nn 0 ≤ lHas M (who : Int)
                    · have HC : Hid (pCan V (who : Int) nn = true) := Lib.hid (by unfold pCan; rw [decide_eq_true_eq, ← HV.out.2.1]; omega)
                      have HPP : Hid (pPay V (who : Int) nn = pSet V (who : Int) (lHas M (who : Int) - max nn 0)) := Lib.hid (by unfold pPay; rw [HC.out, if_pos rfl, HV.out.2.1])
                      have hbb : 0 ≤ lHas M (who : Int) ∧ lHas M (who : Int) ≤ 2000000000 := by rw [HV.out.2.1]; exact hpb
                      have HBX := Lib.hid hbb
                      have HCN := Lib.hid hcan
                      have HV3 := Lib.hid (HV.out.set (who : Int) (lHas M (who : Int) - max nn 0) (by omega))
                      clear hcan hbb hpb
                      obtain ⟨M2, hM2⟩ : ∃ M2, lSet n M (who : Int) (lHas M (who : Int) - max nn 0) = M2 := ⟨_, rfl⟩
                      have HM2 := Lib.hid hM2
                      have hM2l : M2.length ≤ j + 1 := by rw [← hM2]; exact Nat.le_trans (lSet_le _ _ _ _) (by omega)
                      clear hM2
                      have x0 := HQ.out.1.xc.cell (i := 0) rfl
                      have x1 := HQ.out.1.xc.cell (i := 1) rfl
                      have x2 := HQ.out.1.xc.cell (i := 2) rfl
                      have x3 := HQ.out.1.xc.cell (i := 3) rfl
                      have x4 := HQ.out.1.xc.cell (i := 4) rfl
                      have x5 := HQ.out.1.xc.cell (i := 5) rfl
                      have u0 := HQ.out.2.1.cell (i := 0) rfl
                      have u1 := HQ.out.2.1.cell (i := 1) rfl
                      have u2 := HQ.out.2.1.cell (i := 2) rfl
                      go_upto_region 19 with (go_at_call 13; refine (tr_pay_yes lo n q r L cr a M c who dn nn (max nn 0) _ (by have := HQ.out.1.1.2.2.2.1.len; omega) (by omega) HQ.out.1.2.2.2.2.1 HQ.out.1.2.2.1 HQ.out.1.2.2.2.1 rfl ⟨by omega, by omega⟩ HCN.out HBX.out).mono ?_; rintro e w2 ⟨v, rfl, r2, cr2, a2, c2, rfl, k1, k2, k3, k4⟩; rw [HM2.out] at k2 k3; rw [HM2.out]; have H2 := Lib.hid (HQ.out.fresh k4); have HK1 := Lib.hid k1; have HK2 := Lib.hid k2; have HK3 := Lib.hid k3; clear k1 k2 k3 k4; have y0 := H2.out.1.xc.cell (i := 0) rfl; have y1 := H2.out.1.xc.cell (i := 1) rfl; have y2 := H2.out.1.xc.cell (i := 2) rfl; have y3 := H2.out.1.xc.cell (i := 3) rfl; have y4 := H2.out.1.xc.cell (i := 4) rfl; have y5 := H2.out.1.xc.cell (i := 5) rfl; have fr0 := H2.out.1.xc.free 0; have fr1 := H2.out.1.xc.free 1; have fr2 := H2.out.1.xc.free 2; have fr3 := H2.out.1.xc.free 3; have fr4 := H2.out.1.xc.free 4; have fr5 := H2.out.1.xc.free 5)
                      clear x0 x1 x2 x3 x4 x5 u0 u1 u2
                      have H3 := Lib.hid (H2.out.put (wv2 := (who : Int)) (dx2 := dn) HK1.out HK2.out HK3.out)
                      clear y0 y1 y2 y3 y4 y5 fr0 fr1 fr2 fr3 fr4 fr5
                      revert H3
                      generalize (((((w2.setCell ⟨X, 0, none⟩ (.slice r2 L.length cr2)).setCell ⟨X, 1, none⟩ (.int .i64 n)).setCell ⟨X, 2, none⟩ (.int .i64 q)).setCell ⟨X, 3, none⟩ (.slice a2 M2.length c2)).setCell ⟨X, 4, none⟩ (.int .i64 (who : Int))).setCell ⟨X, 5, none⟩ (.int .i64 dn) = W3
                      intro H3
                      have u0 := H3.out.2.1.cell (i := 0) rfl
                      have u1 := H3.out.2.1.cell (i := 1) rfl
                      have u2 := H3.out.2.1.cell (i := 2) rfl
                      go_wp2_with (go_at_call 14; refine (t_pay_on t b R I p h n q who dn L V _ nn H3.out.1.1).mono ?_; rintro e w4 ⟨rfl, k1, k2⟩; rw [HC.out]; rw [HPP.out] at k1; have H4 := Lib.hid (H3.out.tur k1 k2 (by simp)); clear k1 k2)
                      go_meet
                      exact ⟨true, true, who, dn, L, _, _, _, _, M2, _, (who : Int), rfl, rfl, by omega, by omega, H4, (Lib.hid (by rw [← HM2.out]; exact HV3.out)), (Lib.hid rfl)⟩
                    · have HC : Hid (pCan V (who : Int) nn = false) := Lib.hid (by unfold pCan; rw [decide_eq_false_iff_not, ← HV.out.2.1]; omega)
                      have HPP : Hid (pPay V (who : Int) nn = V) := Lib.hid (by unfold pPay; rw [HC.out]; rfl)
                      have HNO : Hid ((who : Int) < 0 ∨ (n : Int) ≤ (who : Int) ∨ lHas M (who : Int) < max nn 0) := Lib.hid (by omega)
                      clear hcan hpb
                      have x0 := HQ.out.1.xc.cell (i := 0) rfl
                      have x1 := HQ.out.1.xc.cell (i := 1) rfl
                      have x2 := HQ.out.1.xc.cell (i := 2) rfl
                      have x3 := HQ.out.1.xc.cell (i := 3) rfl
                      have x4 := HQ.out.1.xc.cell (i := 4) rfl
                      have x5 := HQ.out.1.xc.cell (i := 5) rfl
                      have u0 := HQ.out.2.1.cell (i := 0) rfl
                      have u1 := HQ.out.2.1.cell (i := 1) rfl
                      have u2 := HQ.out.2.1.cell (i := 2) rfl
                      go_upto_region 19 with (go_at_call 13; refine (tr_pay_no lo n q r L cr a M c who dn nn (max nn 0) _ (by have := HQ.out.1.1.2.2.2.1.len; omega) (by omega) HQ.out.1.2.2.2.2.1 HQ.out.1.2.2.1 HQ.out.1.2.2.2.1 rfl HNO.out).mono ?_; rintro e w2 ⟨v, rfl, r2, cr2, a2, c2, rfl, k1, k2, k3, k4⟩; have H2 := Lib.hid (HQ.out.fresh k4); have HK1 := Lib.hid k1; have HK2 := Lib.hid k2; have HK3 := Lib.hid k3; clear k1 k2 k3 k4; have y0 := H2.out.1.xc.cell (i := 0) rfl; have y1 := H2.out.1.xc.cell (i := 1) rfl; have y2 := H2.out.1.xc.cell (i := 2) rfl; have y3 := H2.out.1.xc.cell (i := 3) rfl; have y4 := H2.out.1.xc.cell (i := 4) rfl; have y5 := H2.out.1.xc.cell (i := 5) rfl; have fr0 := H2.out.1.xc.free 0; have fr1 := H2.out.1.xc.free 1; have fr2 := H2.out.1.xc.free 2; have fr3 := H2.out.1.xc.free 3; have fr4 := H2.out.1.xc.free 4; have fr5 := H2.out.1.xc.free 5)
                      clear x0 x1 x2 x3 x4 x5 u0 u1 u2
                      have H3 := Lib.hid (H2.out.put (wv2 := (who : Int)) (dx2 := dn) HK1.out HK2.out HK3.out)
                      clear y0 y1 y2 y3 y4 y5 fr0 fr1 fr2 fr3 fr4 fr5
                      revert H3
                      generalize (((((w2.setCell ⟨X, 0, none⟩ (.slice r2 L.length cr2)).setCell ⟨X, 1, none⟩ (.int .i64 n)).setCell ⟨X, 2, none⟩ (.int .i64 q)).setCell ⟨X, 3, none⟩ (.slice a2 M.length c2)).setCell ⟨X, 4, none⟩ (.int .i64 (who : Int))).setCell ⟨X, 5, none⟩ (.int .i64 dn) = W3
                      intro H3
                      have u0 := H3.out.2.1.cell (i := 0) rfl
                      have u1 := H3.out.2.1.cell (i := 1) rfl
                      have u2 := H3.out.2.1.cell (i := 2) rfl
                      go_wp2_with (go_at_call 14; refine (t_pay_on t b R I p h n q who dn L V _ nn H3.out.1.1).mono ?_; rintro e w4 ⟨rfl, k1, k2⟩; rw [HC.out]; rw [HPP.out] at k1; have H4 := Lib.hid (H3.out.tur k1 k2 (by simp)); clear k1 k2)
                      go_meet
                      exact ⟨false, true, who, dn, L, V, _, _, _, M, _, (who : Int), rfl, rfl, by omega, by omega, H4, HV, (Lib.hid rfl)⟩
                · skip
                  by_cases ek3 : kd = 3
                  · subst ek3
                    cases on with
                    | false =>
                      obtain rfl : wv = -1 := HWV.out
                      have x0 := HQ.out.1.xc.cell (i := 0) rfl
                      have x1 := HQ.out.1.xc.cell (i := 1) rfl
                      have x2 := HQ.out.1.xc.cell (i := 2) rfl
                      have x3 := HQ.out.1.xc.cell (i := 3) rfl
                      have x4 := HQ.out.1.xc.cell (i := 4) rfl
                      have x5 := HQ.out.1.xc.cell (i := 5) rfl
                      have u0 := HQ.out.2.1.cell (i := 0) rfl
                      have u1 := HQ.out.2.1.cell (i := 1) rfl
                      have u2 := HQ.out.2.1.cell (i := 2) rfl
                      go_upto_region 23 with (go_at_call 15; refine (tr_end_off lo n q r L cr a M c (-1) dn true _ (by have := HQ.out.1.1.2.2.2.1.len; omega) (by omega) HQ.out.1.2.2.2.2.1 HQ.out.1.2.2.1 HQ.out.1.2.2.2.1 (by decide)).mono ?_; rintro e w2 ⟨v, rfl, r2, cr2, a2, c2, rfl, k1, k2, k3, k4⟩; have H2 := Lib.hid (HQ.out.fresh k4); have HK1 := Lib.hid k1; have HK2 := Lib.hid k2; have HK3 := Lib.hid k3; clear k1 k2 k3 k4; have y0 := H2.out.1.xc.cell (i := 0) rfl; have y1 := H2.out.1.xc.cell (i := 1) rfl; have y2 := H2.out.1.xc.cell (i := 2) rfl; have y3 := H2.out.1.xc.cell (i := 3) rfl; have y4 := H2.out.1.xc.cell (i := 4) rfl; have y5 := H2.out.1.xc.cell (i := 5) rfl; have fr0 := H2.out.1.xc.free 0; have fr1 := H2.out.1.xc.free 1; have fr2 := H2.out.1.xc.free 2; have fr3 := H2.out.1.xc.free 3; have fr4 := H2.out.1.xc.free 4; have fr5 := H2.out.1.xc.free 5)
                      clear x0 x1 x2 x3 x4 x5 u0 u1 u2
                      have H3 := Lib.hid (H2.out.put (wv2 := (-1)) (dx2 := dn) HK1.out HK2.out HK3.out)
                      clear y0 y1 y2 y3 y4 y5 fr0 fr1 fr2 fr3 fr4 fr5
                      revert H3
                      generalize (((((w2.setCell ⟨X, 0, none⟩ (.slice r2 L.length cr2)).setCell ⟨X, 1, none⟩ (.int .i64 n)).setCell ⟨X, 2, none⟩ (.int .i64 q)).setCell ⟨X, 3, none⟩ (.slice a2 M.length c2)).setCell ⟨X, 4, none⟩ (.int .i64 (-1))).setCell ⟨X, 5, none⟩ (.int .i64 dn) = W3
                      intro H3
                      have u0 := H3.out.2.1.cell (i := 0) rfl
                      have u1 := H3.out.2.1.cell (i := 1) rfl
                      have u2 := H3.out.2.1.cell (i := 2) rfl
                      go_wp2_with (go_at_call 16; refine (t_end_off t b R I p h n q who dn L V _ true H3.out.1.1).mono ?_; rintro e w4 ⟨rfl, rfl⟩; have H4 := H3)
                      go_meet
                      exact ⟨false, false, who, dn, L, V, _, _, _, M, _, (-1), rfl, rfl, by omega, by omega, H4, HV, (Lib.hid rfl)⟩
                    | true =>
                      obtain rfl : wv = (who : Int) := HWV.out
                      have hwn := (HQ.out.1.1.2.1 rfl).1
                      have HWL := Lib.hid (HQ.out.1.1.2.1 rfl).2
                      obtain ⟨L2, hL2⟩ : ∃ L2, L ++ [who] = L2 := ⟨_, rfl⟩
                      have HL2 := Lib.hid hL2
                      clear hL2
                      have x0 := HQ.out.1.xc.cell (i := 0) rfl
                      have x1 := HQ.out.1.xc.cell (i := 1) rfl
                      have x2 := HQ.out.1.xc.cell (i := 2) rfl
                      have x3 := HQ.out.1.xc.cell (i := 3) rfl
                      have x4 := HQ.out.1.xc.cell (i := 4) rfl
                      have x5 := HQ.out.1.xc.cell (i := 5) rfl
                      have u0 := HQ.out.2.1.cell (i := 0) rfl
                      have u1 := HQ.out.2.1.cell (i := 1) rfl
                      have u2 := HQ.out.2.1.cell (i := 2) rfl
                      go_upto_region 23 with (go_at_call 15; refine (tr_end_again lo n q r L cr a M c who dn _ (by have := HQ.out.1.1.2.2.2.1.len; omega) (by omega) HQ.out.1.2.2.2.2.1 HQ.out.1.2.2.1 HQ.out.1.2.2.2.1 hwn HWL.out).mono ?_; rintro e w2 ⟨v, rfl, r2, cr2, a2, c2, rfl, k1, k2, k3, k4⟩; rw [HL2.out] at k1; rw [HL2.out]; have H2 := Lib.hid (HQ.out.fresh k4); have HK1 := Lib.hid k1; have HK2 := Lib.hid k2; have HK3 := Lib.hid k3; clear k1 k2 k3 k4; have y0 := H2.out.1.xc.cell (i := 0) rfl; have y1 := H2.out.1.xc.cell (i := 1) rfl; have y2 := H2.out.1.xc.cell (i := 2) rfl; have y3 := H2.out.1.xc.cell (i := 3) rfl; have y4 := H2.out.1.xc.cell (i := 4) rfl; have y5 := H2.out.1.xc.cell (i := 5) rfl; have fr0 := H2.out.1.xc.free 0; have fr1 := H2.out.1.xc.free 1; have fr2 := H2.out.1.xc.free 2; have fr3 := H2.out.1.xc.free 3; have fr4 := H2.out.1.xc.free 4; have fr5 := H2.out.1.xc.free 5)
                      clear x0 x1 x2 x3 x4 x5 u0 u1 u2
                      have H3 := Lib.hid (H2.out.put (wv2 := (-1)) (dx2 := dn) HK1.out HK2.out HK3.out)
                      clear y0 y1 y2 y3 y4 y5 fr0 fr1 fr2 fr3 fr4 fr5
                      revert H3
                      generalize (((((w2.setCell ⟨X, 0, none⟩ (.slice r2 L2.length cr2)).setCell ⟨X, 1, none⟩ (.int .i64 n)).setCell ⟨X, 2, none⟩ (.int .i64 q)).setCell ⟨X, 3, none⟩ (.slice a2 M.length c2)).setCell ⟨X, 4, none⟩ (.int .i64 (-1))).setCell ⟨X, 5, none⟩ (.int .i64 dn) = W3
                      intro H3
                      have u0 := H3.out.2.1.cell (i := 0) rfl
                      have u1 := H3.out.2.1.cell (i := 1) rfl
                      have u2 := H3.out.2.1.cell (i := 2) rfl
                      go_wp2_with (go_at_call 16; refine (t_end_again t b R I p h n q who dn L V _ H3.out.1.1).mono ?_; rintro e w4 ⟨rfl, k1, k2⟩; rw [HL2.out] at k1; have H4 := Lib.hid (H3.out.tur k1 k2 (by simp)); clear k1 k2)
                      go_meet
                      exact ⟨true, false, who, dn, L2, V, _, _, _, M, _, (-1), rfl, rfl, by omega, by omega, H4, HV, (Lib.hid rfl)⟩
                  · skip
                    by_cases ek4 : kd = 4
                    · subst ek4
                      cases on with
                      | false =>
                        obtain rfl : wv = -1 := HWV.out
                        have x0 := HQ.out.1.xc.cell (i := 0) rfl
                        have x1 := HQ.out.1.xc.cell (i := 1) rfl
                        have x2 := HQ.out.1.xc.cell (i := 2) rfl
                        have x3 := HQ.out.1.xc.cell (i := 3) rfl
                        have x4 := HQ.out.1.xc.cell (i := 4) rfl
                        have x5 := HQ.out.1.xc.cell (i := 5) rfl
                        have u0 := HQ.out.2.1.cell (i := 0) rfl
                        have u1 := HQ.out.2.1.cell (i := 1) rfl
                        have u2 := HQ.out.2.1.cell (i := 2) rfl
                        go_upto_region 23 with (go_at_call 15; refine (tr_end_off lo n q r L cr a M c (-1) dn false _ (by have := HQ.out.1.1.2.2.2.1.len; omega) (by omega) HQ.out.1.2.2.2.2.1 HQ.out.1.2.2.1 HQ.out.1.2.2.2.1 (by decide)).mono ?_; rintro e w2 ⟨v, rfl, r2, cr2, a2, c2, rfl, k1, k2, k3, k4⟩; have H2 := Lib.hid (HQ.out.fresh k4); have HK1 := Lib.hid k1; have HK2 := Lib.hid k2; have HK3 := Lib.hid k3; clear k1 k2 k3 k4; have y0 := H2.out.1.xc.cell (i := 0) rfl; have y1 := H2.out.1.xc.cell (i := 1) rfl; have y2 := H2.out.1.xc.cell (i := 2) rfl; have y3 := H2.out.1.xc.cell (i := 3) rfl; have y4 := H2.out.1.xc.cell (i := 4) rfl; have y5 := H2.out.1.xc.cell (i := 5) rfl; have fr0 := H2.out.1.xc.free 0; have fr1 := H2.out.1.xc.free 1; have fr2 := H2.out.1.xc.free 2; have fr3 := H2.out.1.xc.free 3; have fr4 := H2.out.1.xc.free 4; have fr5 := H2.out.1.xc.free 5)
                        clear x0 x1 x2 x3 x4 x5 u0 u1 u2
                        have H3 := Lib.hid (H2.out.put (wv2 := (-1)) (dx2 := dn) HK1.out HK2.out HK3.out)
                        clear y0 y1 y2 y3 y4 y5 fr0 fr1 fr2 fr3 fr4 fr5
                        revert H3
                        generalize (((((w2.setCell ⟨X, 0, none⟩ (.slice r2 L.length cr2)).setCell ⟨X, 1, none⟩ (.int .i64 n)).setCell ⟨X, 2, none⟩ (.int .i64 q)).setCell ⟨X, 3, none⟩ (.slice a2 M.length c2)).setCell ⟨X, 4, none⟩ (.int .i64 (-1))).setCell ⟨X, 5, none⟩ (.int .i64 dn) = W3
                        intro H3
                        have u0 := H3.out.2.1.cell (i := 0) rfl
                        have u1 := H3.out.2.1.cell (i := 1) rfl
                        have u2 := H3.out.2.1.cell (i := 2) rfl
                        go_wp2_with (go_at_call 16; refine (t_end_off t b R I p h n q who dn L V _ false H3.out.1.1).mono ?_; rintro e w4 ⟨rfl, rfl⟩; have H4 := H3)
                        go_meet
                        exact ⟨false, false, who, dn, L, V, _, _, _, M, _, (-1), rfl, rfl, by omega, by omega, H4, HV, (Lib.hid rfl)⟩
                      | true =>
                        obtain rfl : wv = (who : Int) := HWV.out
                        have hwn := (HQ.out.1.1.2.1 rfl).1
                        have HWL := Lib.hid (HQ.out.1.1.2.1 rfl).2
                        have HV3 := Lib.hid (HV.out.set (who : Int) 0 (by omega))
                        obtain ⟨M2, hM2⟩ : ∃ M2, lSet n M (who : Int) 0 = M2 := ⟨_, rfl⟩
                        have HM2 := Lib.hid hM2
                        have hM2l : M2.length ≤ j + 1 := by rw [← hM2]; exact Nat.le_trans (lSet_le _ _ _ _) (by omega)
                        clear hM2
                        have x0 := HQ.out.1.xc.cell (i := 0) rfl
                        have x1 := HQ.out.1.xc.cell (i := 1) rfl
                        have x2 := HQ.out.1.xc.cell (i := 2) rfl
                        have x3 := HQ.out.1.xc.cell (i := 3) rfl
                        have x4 := HQ.out.1.xc.cell (i := 4) rfl
                        have x5 := HQ.out.1.xc.cell (i := 5) rfl
                        have u0 := HQ.out.2.1.cell (i := 0) rfl
                        have u1 := HQ.out.2.1.cell (i := 1) rfl
                        have u2 := HQ.out.2.1.cell (i := 2) rfl
                        go_upto_region 23 with (go_at_call 15; refine (tr_end_clear lo n q r L cr a M c who dn _ (by have := HQ.out.1.1.2.2.2.1.len; omega) (by omega) HQ.out.1.2.2.2.2.1 HQ.out.1.2.2.1 HQ.out.1.2.2.2.1).mono ?_; rintro e w2 ⟨v, rfl, r2, cr2, a2, c2, rfl, k1, k2, k3, k4⟩; rw [HM2.out] at k2 k3; rw [HM2.out]; have H2 := Lib.hid (HQ.out.fresh k4); have HK1 := Lib.hid k1; have HK2 := Lib.hid k2; have HK3 := Lib.hid k3; clear k1 k2 k3 k4; have y0 := H2.out.1.xc.cell (i := 0) rfl; have y1 := H2.out.1.xc.cell (i := 1) rfl; have y2 := H2.out.1.xc.cell (i := 2) rfl; have y3 := H2.out.1.xc.cell (i := 3) rfl; have y4 := H2.out.1.xc.cell (i := 4) rfl; have y5 := H2.out.1.xc.cell (i := 5) rfl; have fr0 := H2.out.1.xc.free 0; have fr1 := H2.out.1.xc.free 1; have fr2 := H2.out.1.xc.free 2; have fr3 := H2.out.1.xc.free 3; have fr4 := H2.out.1.xc.free 4; have fr5 := H2.out.1.xc.free 5)
                        clear x0 x1 x2 x3 x4 x5 u0 u1 u2
                        have H3 := Lib.hid (H2.out.put (wv2 := (-1)) (dx2 := dn) HK1.out HK2.out HK3.out)
                        clear y0 y1 y2 y3 y4 y5 fr0 fr1 fr2 fr3 fr4 fr5
                        revert H3
                        generalize (((((w2.setCell ⟨X, 0, none⟩ (.slice r2 L.length cr2)).setCell ⟨X, 1, none⟩ (.int .i64 n)).setCell ⟨X, 2, none⟩ (.int .i64 q)).setCell ⟨X, 3, none⟩ (.slice a2 M2.length c2)).setCell ⟨X, 4, none⟩ (.int .i64 (-1))).setCell ⟨X, 5, none⟩ (.int .i64 dn) = W3
                        intro H3
                        have u0 := H3.out.2.1.cell (i := 0) rfl
                        have u1 := H3.out.2.1.cell (i := 1) rfl
                        have u2 := H3.out.2.1.cell (i := 2) rfl
                        go_wp2_with (go_at_call 16; refine (t_end_clear t b R I p h n q who dn L V _ H3.out.1.1).mono ?_; rintro e w4 ⟨rfl, k1, k2⟩; have H4 := Lib.hid (H3.out.tur k1 k2 (by simp)); clear k1 k2)
                        go_meet
                        exact ⟨true, false, who, dn, L, _, _, _, _, M2, _, (-1), rfl, rfl, by omega, by omega, H4, (Lib.hid (by rw [← HM2.out]; exact HV3.out)), (Lib.hid rfl)⟩
                    · skip
                      by_cases ek5 : kd = 5
                      · subst ek5
                        cases htw : tW on who L id with
                        | false =>
                          have HTF := Lib.hid htw
                          clear htw
                          have x0 := HQ.out.1.xc.cell (i := 0) rfl
                          have x1 := HQ.out.1.xc.cell (i := 1) rfl
                          have x2 := HQ.out.1.xc.cell (i := 2) rfl
                          have x3 := HQ.out.1.xc.cell (i := 3) rfl
                          have x4 := HQ.out.1.xc.cell (i := 4) rfl
                          have x5 := HQ.out.1.xc.cell (i := 5) rfl
                          have u0 := HQ.out.2.1.cell (i := 0) rfl
                          have u1 := HQ.out.2.1.cell (i := 1) rfl
                          have u2 := HQ.out.2.1.cell (i := 2) rfl
                          go_upto_region 26 with (go_at_call 17; refine (tr_leave_no lo n q r L cr a M c wv dn on who id _ (by have := HQ.out.1.1.2.2.2.1.len; omega) (by omega) HQ.out.1.2.2.2.2.1 HQ.out.1.2.2.1 HQ.out.1.2.2.2.1 HWV.out HTF.out).mono ?_; rintro e w2 ⟨v, rfl, r2, cr2, a2, c2, rfl, k1, k2, k3, k4⟩; have H2 := Lib.hid (HQ.out.fresh k4); have HK1 := Lib.hid k1; have HK2 := Lib.hid k2; have HK3 := Lib.hid k3; clear k1 k2 k3 k4; have y0 := H2.out.1.xc.cell (i := 0) rfl; have y1 := H2.out.1.xc.cell (i := 1) rfl; have y2 := H2.out.1.xc.cell (i := 2) rfl; have y3 := H2.out.1.xc.cell (i := 3) rfl; have y4 := H2.out.1.xc.cell (i := 4) rfl; have y5 := H2.out.1.xc.cell (i := 5) rfl; have fr0 := H2.out.1.xc.free 0; have fr1 := H2.out.1.xc.free 1; have fr2 := H2.out.1.xc.free 2; have fr3 := H2.out.1.xc.free 3; have fr4 := H2.out.1.xc.free 4; have fr5 := H2.out.1.xc.free 5)
                          clear x0 x1 x2 x3 x4 x5 u0 u1 u2
                          have H3 := Lib.hid (H2.out.put (wv2 := wv) (dx2 := dn) HK1.out HK2.out HK3.out)
                          clear y0 y1 y2 y3 y4 y5 fr0 fr1 fr2 fr3 fr4 fr5
                          revert H3
                          generalize (((((w2.setCell ⟨X, 0, none⟩ (.slice r2 L.length cr2)).setCell ⟨X, 1, none⟩ (.int .i64 n)).setCell ⟨X, 2, none⟩ (.int .i64 q)).setCell ⟨X, 3, none⟩ (.slice a2 M.length c2)).setCell ⟨X, 4, none⟩ (.int .i64 wv)).setCell ⟨X, 5, none⟩ (.int .i64 dn) = W3
                          intro H3
                          have u0 := H3.out.2.1.cell (i := 0) rfl
                          have u1 := H3.out.2.1.cell (i := 1) rfl
                          have u2 := H3.out.2.1.cell (i := 2) rfl
                          go_wp2_with (go_at_call 18; refine (t_leave_no t b R I p h n q on who dn L V _ id H3.out.1.1 HTF.out).mono ?_; rintro e w4 ⟨rfl, q4, rfl⟩; have H4 := Lib.hid (H3.out.fresh (below_drewN (Below.refl _ _) q4)))
                          go_meet
                          exact ⟨false, on, who, dn, L, V, _, _, _, M, _, wv, rfl, rfl, by omega, by omega, H4, HV, HWV⟩
                        | true =>
                          have HTT := Lib.hid htw
                          by_cases hin : isIn L id = true
                          · obtain ⟨x, rfl⟩ : ∃ x : Nat, id = (x : Int) := ⟨id.toNat, by unfold isIn at hin; rw [decide_eq_true_eq] at hin; omega⟩
                            have hxL : x ∈ L := by rw [isIn_nat] at hin; simpa using hin
                            have HHX := Lib.hid hxL
                            have HND := Lib.hid HQ.out.1.1.2.2.2.1.2.1
                            have HNE : Hid (wv ≠ (x : Int)) := Lib.hid (by
                              have h1 := HWV.out
                              have h2 := HQ.out.1.1.2.1
                              cases on with
                              | false => rw [h1]; first | (simp; done) | (simp; omega)
                              | true => rw [h1]; simp only [if_true]; intro e; have : who = x := by omega
                                        subst this; exact (h2 rfl).2 hxL)
                            have HV3 := Lib.hid (HV.out.set (x : Int) 0 (by omega))
                            clear htw hin hxL
                            obtain ⟨L2, hL2⟩ : ∃ L2, L.erase x = L2 := ⟨_, rfl⟩
                            have HL2 := Lib.hid hL2
                            clear hL2
                            obtain ⟨M2, hM2⟩ : ∃ M2, lSet n M (x : Int) 0 = M2 := ⟨_, rfl⟩
                            have HM2 := Lib.hid hM2
                            have hM2l : M2.length ≤ j + 1 := by rw [← hM2]; exact Nat.le_trans (lSet_le _ _ _ _) (by omega)
                            clear hM2
                            have x0 := HQ.out.1.xc.cell (i := 0) rfl
                            have x1 := HQ.out.1.xc.cell (i := 1) rfl
                            have x2 := HQ.out.1.xc.cell (i := 2) rfl
                            have x3 := HQ.out.1.xc.cell (i := 3) rfl
                            have x4 := HQ.out.1.xc.cell (i := 4) rfl
                            have x5 := HQ.out.1.xc.cell (i := 5) rfl
                            have u0 := HQ.out.2.1.cell (i := 0) rfl
                            have u1 := HQ.out.2.1.cell (i := 1) rfl
                            have u2 := HQ.out.2.1.cell (i := 2) rfl
                            go_upto_region 26 with (go_at_call 17; refine (tr_leave_row lo n q r L cr a M c wv dn on who x _ (by have := HQ.out.1.1.2.2.2.1.len; omega) (by omega) HQ.out.1.2.2.2.2.1 HQ.out.1.2.2.1 HQ.out.1.2.2.2.1 HWV.out HTT.out HHX.out HND.out HNE.out).mono ?_; rintro e w2 ⟨v, rfl, r2, cr2, a2, c2, rfl, k1, k2, k3, k4⟩; rw [HL2.out] at k1; rw [HM2.out] at k2 k3; rw [HL2.out, HM2.out]; have H2 := Lib.hid (HQ.out.fresh k4); have HK1 := Lib.hid k1; have HK2 := Lib.hid k2; have HK3 := Lib.hid k3; clear k1 k2 k3 k4; have y0 := H2.out.1.xc.cell (i := 0) rfl; have y1 := H2.out.1.xc.cell (i := 1) rfl; have y2 := H2.out.1.xc.cell (i := 2) rfl; have y3 := H2.out.1.xc.cell (i := 3) rfl; have y4 := H2.out.1.xc.cell (i := 4) rfl; have y5 := H2.out.1.xc.cell (i := 5) rfl; have fr0 := H2.out.1.xc.free 0; have fr1 := H2.out.1.xc.free 1; have fr2 := H2.out.1.xc.free 2; have fr3 := H2.out.1.xc.free 3; have fr4 := H2.out.1.xc.free 4; have fr5 := H2.out.1.xc.free 5)
                            clear x0 x1 x2 x3 x4 x5 u0 u1 u2
                            have H3 := Lib.hid (H2.out.put (wv2 := wv) (dx2 := dn) HK1.out HK2.out HK3.out)
                            clear y0 y1 y2 y3 y4 y5 fr0 fr1 fr2 fr3 fr4 fr5
                            revert H3
                            generalize (((((w2.setCell ⟨X, 0, none⟩ (.slice r2 L2.length cr2)).setCell ⟨X, 1, none⟩ (.int .i64 n)).setCell ⟨X, 2, none⟩ (.int .i64 q)).setCell ⟨X, 3, none⟩ (.slice a2 M2.length c2)).setCell ⟨X, 4, none⟩ (.int .i64 wv)).setCell ⟨X, 5, none⟩ (.int .i64 dn) = W3
                            intro H3
                            have u0 := H3.out.2.1.cell (i := 0) rfl
                            have u1 := H3.out.2.1.cell (i := 1) rfl
                            have u2 := H3.out.2.1.cell (i := 2) rfl
                            go_wp2_with (go_at_call 18; refine (t_leave_row t b R I p h n q on who dn L V _ x HHX.out H3.out.1.1).mono ?_; rintro e w4 ⟨rfl, k1, k2⟩; rw [HL2.out] at k1; have H4 := Lib.hid (H3.out.tur k1 k2 (by simp)); clear k1 k2)
                            go_meet
                            exact ⟨true, on, who, dn, L2, _, _, _, _, M2, _, wv, rfl, rfl, by omega, by omega, H4, (Lib.hid (by rw [← HM2.out]; exact HV3.out)), HWV⟩
                          · have hA : on = true ∧ (who : Int) = id := by
                              unfold tW at htw
                              simp [hin] at htw
                              exact htw
                            obtain ⟨hA1, hA2⟩ := hA
                            subst hA1
                            subst hA2
                            obtain rfl : wv = (who : Int) := HWV.out
                            have HWL := Lib.hid (HQ.out.1.1.2.1 rfl).2
                            have HV3 := Lib.hid (HV.out.set (who : Int) 0 (by omega))
                            clear htw hin
                            obtain ⟨M2, hM2⟩ : ∃ M2, lSet n M (who : Int) 0 = M2 := ⟨_, rfl⟩
                            have HM2 := Lib.hid hM2
                            have hM2l : M2.length ≤ j + 1 := by rw [← hM2]; exact Nat.le_trans (lSet_le _ _ _ _) (by omega)
                            clear hM2
                            have x0 := HQ.out.1.xc.cell (i := 0) rfl
                            have x1 := HQ.out.1.xc.cell (i := 1) rfl
                            have x2 := HQ.out.1.xc.cell (i := 2) rfl
                            have x3 := HQ.out.1.xc.cell (i := 3) rfl
                            have x4 := HQ.out.1.xc.cell (i := 4) rfl
                            have x5 := HQ.out.1.xc.cell (i := 5) rfl
                            have u0 := HQ.out.2.1.cell (i := 0) rfl
                            have u1 := HQ.out.2.1.cell (i := 1) rfl
                            have u2 := HQ.out.2.1.cell (i := 2) rfl
                            go_upto_region 26 with (go_at_call 17; refine (tr_leave_turn lo n q r L cr a M c who dn _ (by have := HQ.out.1.1.2.2.2.1.len; omega) (by omega) HQ.out.1.2.2.2.2.1 HQ.out.1.2.2.1 HQ.out.1.2.2.2.1).mono ?_; rintro e w2 ⟨v, rfl, r2, cr2, a2, c2, rfl, k1, k2, k3, k4⟩; rw [HM2.out] at k2 k3; rw [HM2.out]; have H2 := Lib.hid (HQ.out.fresh k4); have HK1 := Lib.hid k1; have HK2 := Lib.hid k2; have HK3 := Lib.hid k3; clear k1 k2 k3 k4; have y0 := H2.out.1.xc.cell (i := 0) rfl; have y1 := H2.out.1.xc.cell (i := 1) rfl; have y2 := H2.out.1.xc.cell (i := 2) rfl; have y3 := H2.out.1.xc.cell (i := 3) rfl; have y4 := H2.out.1.xc.cell (i := 4) rfl; have y5 := H2.out.1.xc.cell (i := 5) rfl; have fr0 := H2.out.1.xc.free 0; have fr1 := H2.out.1.xc.free 1; have fr2 := H2.out.1.xc.free 2; have fr3 := H2.out.1.xc.free 3; have fr4 := H2.out.1.xc.free 4; have fr5 := H2.out.1.xc.free 5)
                            clear x0 x1 x2 x3 x4 x5 u0 u1 u2
                            have H3 := Lib.hid (H2.out.put (wv2 := (-1)) (dx2 := dn) HK1.out HK2.out HK3.out)
                            clear y0 y1 y2 y3 y4 y5 fr0 fr1 fr2 fr3 fr4 fr5
                            revert H3
                            generalize (((((w2.setCell ⟨X, 0, none⟩ (.slice r2 L.length cr2)).setCell ⟨X, 1, none⟩ (.int .i64 n)).setCell ⟨X, 2, none⟩ (.int .i64 q)).setCell ⟨X, 3, none⟩ (.slice a2 M2.length c2)).setCell ⟨X, 4, none⟩ (.int .i64 (-1))).setCell ⟨X, 5, none⟩ (.int .i64 dn) = W3
                            intro H3
                            have u0 := H3.out.2.1.cell (i := 0) rfl
                            have u1 := H3.out.2.1.cell (i := 1) rfl
                            have u2 := H3.out.2.1.cell (i := 2) rfl
                            go_wp2_with (go_at_call 18; refine (t_leave_turn t b R I p h n q who dn L V _ HWL.out H3.out.1.1).mono ?_; rintro e w4 ⟨rfl, k1, k2⟩; have H4 := Lib.hid (H3.out.tur k1 k2 (by simp)); clear k1 k2)
                            go_meet
                            exact ⟨true, false, who, dn, L, _, _, _, _, M2, _, (-1), rfl, rfl, by omega, by omega, H4, (Lib.hid (by rw [← HM2.out]; exact HV3.out)), (Lib.hid rfl)⟩
                      · skip
                        go_wp2_with fail
                        go_meet
                        exact ⟨false, on, who, dn, L, V, _, _, _, M, _, wv, rfl, rfl, by omega, by omega, HQ, HV, HWV⟩
          case rest =>
            clear HQ HV hMj hdn HWV
            obtain ⟨z, on, who, dn, L, V, r, cr, a, M, c, wv, rfl, rfl, hdn, hMj, HQ, HV, HWV⟩ := hcut
            have hLl := HQ.out.1.1.2.2.2.1.len
            have hn0 := HQ.out.1.1.2.2.2.1.1.2.1
            have x0 := HQ.out.1.xc.cell (i := 0) rfl
            have x1 := HQ.out.1.xc.cell (i := 1) rfl
            have x2 := HQ.out.1.xc.cell (i := 2) rfl
            have x3 := HQ.out.1.xc.cell (i := 3) rfl
            have x4 := HQ.out.1.xc.cell (i := 4) rfl
            have x5 := HQ.out.1.xc.cell (i := 5) rfl
            have u1 := HQ.out.2.1.cell (i := 1) rfl
            have hzz : (z != z) = false := by cases z <;> rfl
            have HLB : Hid (L.length ≤ 1024 ∧ M.length ≤ 1000) := Lib.hid ⟨by omega, by omega⟩
            clear hLl hn0
            go_wp2_with (first
              | (go_at_call 19; refine (told_any t b R I p h n q on who dn L V lo r cr a M c wv a1 _ HLB.out.1 HLB.out.2 HQ.out.1.2.2.2.2.1 HWV.out HQ.out.1.1 HQ.out.1.2.2.1 HQ.out.1.2.2.2.1 HV.out.2.1).mono ?_; rintro e w5 ⟨rfl, k5⟩; have HQ5 := Lib.hid (HQ.out.fresh k5); clear k5 HQ x0 x1 x2 x3 x4 x5 u1; have x0 := HQ5.out.1.xc.cell (i := 0) rfl; have x1 := HQ5.out.1.xc.cell (i := 1) rfl; have x2 := HQ5.out.1.xc.cell (i := 2) rfl; have x3 := HQ5.out.1.xc.cell (i := 3) rfl; have x4 := HQ5.out.1.xc.cell (i := 4) rfl; have x5 := HQ5.out.1.xc.cell (i := 5) rfl; have u1 := HQ5.out.2.1.cell (i := 1) rfl)
              | (go_at_call 19; refine (told_any t b R I p h n q on who dn L V lo r cr a M c wv id _ HLB.out.1 HLB.out.2 HQ5.out.1.2.2.2.2.1 HWV.out HQ5.out.1.1 HQ5.out.1.2.2.1 HQ5.out.1.2.2.2.1 HV.out.2.1).mono ?_; rintro e w6 ⟨rfl, k6⟩; have HS6 := Lib.hid (HQ5.out.fresh k6).1; clear k6))
            refine ⟨?_, ?measure⟩
            case measure => simp [intOf]; omega
            first
              | exact ⟨j + 1, on, who, dn, L, V, r, cr, a, M, c, wv, by go_num, by omega, by omega, by omega, by omega, HS6, HV, HWV⟩
              | ((repeat apply Exists.intro); exact ⟨⟨j + 1, on, who, dn, L, V, r, cr, a, M, c, wv, by go_num, by omega, by omega, by omega, by omega, HS6, HV, HWV⟩, rfl⟩)
        · go_wp2_with (go_at_call 20; refine (lives_any _).mono ?_; rintro e w9 ⟨rfl, hb⟩)
          go_ret
          exact ⟨rfl, (HS.out.fresh hb).2.2.2.2.2.2.1⟩
      · go_wp2_with (go_at_call 20; refine (lives_any _).mono ?_; rintro e w9 ⟨rfl, hb⟩)
        go_ret
        exact ⟨rfl, (HS.out.fresh hb).2.2.2.2.2.2.1⟩

set_option maxRecDepth 100000 in
theorem lifted (os : Os) (started : os.Started) (H : Type) (enc : TypeId × Value → H) :
    ReturnsInHanded {} Try.checked os 3 .any (Rows.turnsPlaySpec.pre6 enc Try.prog Try.f3 Rows.turnsPlayRow.domain false) (Rows.turnsPlaySpec.post enc Try.prog Try.f3 false true false false) := by
  refine returnsInHanded_of_change (C := Try.checked) ownKn started (by kernel_rfl) Try.func3
    (ChangeSpec.witness6 (enc := enc) (C := Try.checked) false ⟨#[], #[.agg #[.int .i64 0, .int .i64 0, .slice none 0 0], .int .i64 0], []⟩ 8 (by kernel_rfl) (by kernel_rfl) (by kernel_rfl) (by kernel_rfl)) ?_
  intro W base args ds gs before hval0 hW hcnd _
  have hval : ∀ (j : Nat) t v, Try.f3.params[j]? = some t → args[j]? = some v → Value.okWide Try.prog W .any base t v := hval0
  have hW' := hW
  obtain ⟨p, q, hA0, hV, rfl, hfz, hnd⟩ := hW
  have hA : DataW.TrodAll enc Try.prog W 0 (fun _ => true) true Try.f3.params.toList args.toList ds p := hA0
  rw [Try.params3] at hA hval
  obtain ⟨v0, vs0, d0, ds0, p0, q0, hargs, rfl, rfl, h0, r0⟩ := trodAll_cons hA
  obtain ⟨v1, vs1, d1, ds1, p1, q1, rfl, rfl, rfl, h1, r1⟩ := trodAll_cons r0
  obtain ⟨rfl, rfl, rfl⟩ := trodAll_nil r1
  obtain rfl : args = #[v0, v1] := by cases args; simp_all
  obtain ⟨rfl, rfl⟩ := trodVars_none hV
  have k0 := h0
  have lt0 : ∀ x ∈ p0, x.block < W.heap.size := by obtain ⟨m, hm⟩ := k0; exact DataW.trod_lt m _ _ _ hm
  obtain ⟨u0_0, u0_1, u0_2, y0_0, y0_1, y0_2, nn0, rfl, _, _, g0_0, g0_1, g0_2⟩ := open_flat3 Try.underlying24 (by kernel_rfl) (by kernel_rfl) (hval 0 24 v0 rfl rfl) h0
  obtain ⟨a0_Most, rfl, w0_Most⟩ := fld_int Try.underlying3 g0_0
  obtain ⟨a0_Quantum, rfl, w0_Quantum⟩ := fld_int Try.underlying3 g0_1
  obtain ⟨a0_Acts, len0_Acts, cap0_Acts, rfl, w0_Acts⟩ := fld_recs (k := .i64) Try.underlying22 Try.underlying35 (by kernel_rfl) (by kernel_rfl) (by intro j f h; obtain rfl | rfl | rfl | hj : j = 0 ∨ j = 1 ∨ j = 2 ∨ 3 ≤ j := (by omega); all_goals (first | (simp at h; subst h; exact Try.underlying3) | (rw [Array.getElem?_eq_none (by simpa using hj)] at h; cases h))) (by decide) g0_2
  have k1 := h1
  have lt1 : ∀ x ∈ p1, x.block < W.heap.size := by obtain ⟨m, hm⟩ := k1; exact DataW.trod_lt m _ _ _ hm
  obtain ⟨a1, rfl, rfl, rfl, w1⟩ := open_int Try.underlying3 (hval 1 3 v1 rfl rfl) h1
  clear hA0 hval0
  refine (walk a0_Most a0_Quantum a0_Acts len0_Acts cap0_Acts a1 W w0_Most w0_Quantum w0_Acts w1).mono fun e W' ⟨he, bel⟩ => ?_
  subst he
  exact ⟨_, rfl, _, _, _, [], _, [], hW', trodAll_mk1 (shut_bool Try.underlying4 _), (trodAll_cons_mk (Below.trod laidOut (by kernel_rfl) (of_decide_eq_true (by kernel_rfl)) k0 bel lt0) (trodAll_cons_mk (Below.trod laidOut (by kernel_rfl) (of_decide_eq_true (by kernel_rfl)) k1 bel lt1) trodAll_mk0)), rfl, bel.frame _, fun h => by cases h⟩

theorem over : Rows.turnsPlayRow.holds Try.pinned (OpenSpec.ofChange Rows.turnsPlaySpec) :=
  OpenClaim.holds_of_wide 3 Try.f3 rfl rfl rfl rfl rfl rfl rfl ⟨rfl, rfl, rfl, rfl, rfl⟩ rfl rfl rfl rfl rfl (by kernel_rfl) Try.func3 (by kernel_rfl)
    (of_decide_eq_true (by kernel_rfl)) (by unfold Func.isWrapper; first | (rw [if_pos (by decide +kernel)]; kernel_rfl) | (rw [if_neg (by decide +kernel)]; exact ⟨rfl, rfl⟩))
    (fun os started H enc _ => lifted os started H enc)

/-- The statement. -/
theorem proved : Rows.TurnsPlaySaid := over
#print axioms proved
end Go.Proofs.Yticdpcbmnahenaa.turnsPlay
