/- Events: two rows that grow side by side, in whatever order. -/
import Derived.Test.YtdchedkhlfmpeaaDoorEv11
import Derived.WalkKit
import Derived.ProofKit
import Derived.Handy
import Derived.WalkLawsBesides
import Derived.WalkSpells
import Derived.Lib.Hide
import Derived.Lib.SliceRun
import Derived.Deep.RegionLaw
import Derived.RegionTactic
import Derived.ChangeAlike
import Derived.WalkSmall
import Derived.Deep.QuietTactic
import Derived.BigQuiet
import Derived.OwnWalk
import Derived.Outline
import Derived.Deep.CutRange
import Derived.Deep.CutBlock
import Derived.LoopTactic
namespace Go.Proofs.YtdchedkhlfmpeaaDoor
open Go.ChangeShapes Go.WideShapes Go.ChangeAt Go.RowKit
set_option linter.unusedSimpArgs false
set_option linter.unusedVariables false

/-- The places of the operations are apart. -/
def Dis (i1 a1 i2 a2 s1 s2 s8 : Nat) : Prop := i1 ≠ a1 ∧ i1 ≠ i2 ∧ i1 ≠ a2 ∧ i1 ≠ s1 ∧ i1 ≠ s2 ∧ i1 ≠ s8 ∧ a1 ≠ i2 ∧ a1 ≠ a2 ∧ a1 ≠ s1 ∧ a1 ≠ s2 ∧ a1 ≠ s8 ∧ i2 ≠ a2 ∧ i2 ≠ s1 ∧ i2 ≠ s2 ∧ i2 ≠ s8 ∧ a2 ≠ s1 ∧ a2 ≠ s2 ∧ a2 ≠ s8 ∧ s1 ≠ s2 ∧ s1 ≠ s8 ∧ s2 ≠ s8
/-- What holds while two rows grow: the new elements are made (i1, i2), the rows grow (a1, a2), they are stored (s1, s2), and so is a flag (s8). -/
structure DD (w0 : World) (B F X : Nat) (x : Ev) (id sc fr : Int) (rd tk : ByteArray) (eo eo2 : Bool) (st : Int) (r1 : Option Addr) (n1 c1 : Nat) (L1 : List Value) (r2 : Option Addr) (n2 c2 : Nat) (L2 : List Value) (r3 : Option Addr) (n3 c3 : Nat) (L3 : List Value) (N1 N2 : List Value) (G : Nat → Option Value) (i1 a1 i2 a2 s1 s2 s8 : Nat) (env : Nat → Value) (L : Nat → Bool) (w : World) : Prop where
  g : ∀ k v, G k = some v → L k = true → env k = v
  ev : Blk w X x.c 46
  blk : Blk w F [.int .i64 id, .int .i64 sc, .int .i64 fr, if L s1 = true then env a1 else .slice r1 n1 c1, if L s2 = true then env a2 else .slice r2 n2 c2, .slice r3 n3 c3, .string rd, .string tk, .bool (if L s8 = true then eo2 else eo), .int .i64 st] 58
  b1 : L i1 = true → L a1 = false → ∃ y, env i1 = .slice (some ⟨y, 0, none⟩) 1 1 ∧ Blk w y N1 90
  b2 : L i2 = true → L a2 = false → ∃ y, env i2 = .slice (some ⟨y, 0, none⟩) 1 1 ∧ Blk w y N2 92
  p1 : L a1 = false → RM w B r1 n1 c1 4 L1 90
  q1 : L a1 = true → ∃ g c, env a1 = .slice (some ⟨g, 0, none⟩) (n1 + 1) c ∧ RM w B (some ⟨g, 0, none⟩) (n1 + 1) c 4 (L1 ++ N1) 90
  p2 : L a2 = false → RM w B r2 n2 c2 9 L2 92
  q2 : L a2 = true → ∃ g c, env a2 = .slice (some ⟨g, 0, none⟩) (n2 + 1) c ∧ RM w B (some ⟨g, 0, none⟩) (n2 + 1) c 9 (L2 ++ N2) 92
  m3 : RM w B r3 n3 c3 6 L3 44
  be : Below B w0 w
  FB : B ≤ F
  le : B ≤ w.heap.size
theorem DD.pure {w0 : World} {B F X : Nat} {x : Ev} {id sc fr : Int} {rd tk : ByteArray} {eo eo2 : Bool} {st : Int} {r1 : Option Addr} {n1 c1 : Nat} {L1 : List Value} {r2 : Option Addr} {n2 c2 : Nat} {L2 : List Value} {r3 : Option Addr} {n3 c3 : Nat} {L3 : List Value} {N1 N2 : List Value} {G : Nat → Option Value} {i1 a1 i2 a2 s1 s2 s8 : Nat} {env : Nat → Value} {L : Nat → Bool} {w : World} (h : DD w0 B F X x id sc fr rd tk eo eo2 st r1 n1 c1 L1 r2 n2 c2 L2 r3 n3 c3 L3 N1 N2 G i1 a1 i2 a2 s1 s2 s8 env L w) (hd : Dis i1 a1 i2 a2 s1 s2 s8) (k : Nat) (hk : k ≠ i1 ∧ k ≠ a1 ∧ k ≠ i2 ∧ k ≠ a2 ∧ k ≠ s1 ∧ k ≠ s2 ∧ k ≠ s8) (v : Value) (hv : G k = some v) : DD w0 B F X x id sc fr rd tk eo eo2 st r1 n1 c1 L1 r2 n2 c2 L2 r3 n3 c3 L3 N1 N2 G i1 a1 i2 a2 s1 s2 s8 (upd env k v) (doneL L k) w := by
  obtain ⟨v1, v2, v3, v4, v5, v6, v7⟩ := hk
  obtain ⟨u1, u2, u3, u4, u5, u6, u7, u8, u9, u10, u11, u12, u13, u14, u15, u16, u17, u18, u19, u20, u21⟩ := hd
  exact ⟨(fun k2 v2 h1 h2 => by
    by_cases e : k2 = k
    · subst e; rw [upd_same]; rw [hv] at h1; exact Option.some.inj h1
    · rw [upd_other _ _ e]; rw [doneL_other L e] at h2; exact h.g k2 v2 h1 h2),
   (h.ev),
   (by
    rw [doneL_other L (show s1 ≠ k by first | assumption | (apply Ne.symm; assumption)), doneL_other L (show s2 ≠ k by first | assumption | (apply Ne.symm; assumption)), doneL_other L (show s8 ≠ k by first | assumption | (apply Ne.symm; assumption)), upd_other env _ (show a1 ≠ k by first | assumption | (apply Ne.symm; assumption)), upd_other env _ (show a2 ≠ k by first | assumption | (apply Ne.symm; assumption))]
    exact h.blk),
   (fun h1 h2 => by
    rw [doneL_other L (show i1 ≠ k by first | assumption | (apply Ne.symm; assumption))] at h1; rw [doneL_other L (show a1 ≠ k by first | assumption | (apply Ne.symm; assumption))] at h2; rw [upd_other env _ (show i1 ≠ k by first | assumption | (apply Ne.symm; assumption))]
    obtain ⟨y, e1, e2⟩ := h.b1 h1 h2
    exact ⟨y, e1, e2⟩),
   (fun h1 h2 => by
    rw [doneL_other L (show i2 ≠ k by first | assumption | (apply Ne.symm; assumption))] at h1; rw [doneL_other L (show a2 ≠ k by first | assumption | (apply Ne.symm; assumption))] at h2; rw [upd_other env _ (show i2 ≠ k by first | assumption | (apply Ne.symm; assumption))]
    obtain ⟨y, e1, e2⟩ := h.b2 h1 h2
    exact ⟨y, e1, e2⟩),
   (fun h1 => by
    rw [doneL_other L (show a1 ≠ k by first | assumption | (apply Ne.symm; assumption))] at h1
    exact h.p1 h1),
   (fun h1 => by
    rw [doneL_other L (show a1 ≠ k by first | assumption | (apply Ne.symm; assumption))] at h1; rw [upd_other env _ (show a1 ≠ k by first | assumption | (apply Ne.symm; assumption))]
    obtain ⟨y, c, e1, e2⟩ := h.q1 h1
    exact ⟨y, c, e1, e2⟩),
   (fun h1 => by
    rw [doneL_other L (show a2 ≠ k by first | assumption | (apply Ne.symm; assumption))] at h1
    exact h.p2 h1),
   (fun h1 => by
    rw [doneL_other L (show a2 ≠ k by first | assumption | (apply Ne.symm; assumption))] at h1; rw [upd_other env _ (show a2 ≠ k by first | assumption | (apply Ne.symm; assumption))]
    obtain ⟨y, c, e1, e2⟩ := h.q2 h1
    exact ⟨y, c, e1, e2⟩),
   (h.m3),
   (h.be),
   (h.FB),
   (h.le)⟩
theorem DD.mk1 {w0 : World} {B F X : Nat} {x : Ev} {id sc fr : Int} {rd tk : ByteArray} {eo eo2 : Bool} {st : Int} {r1 : Option Addr} {n1 c1 : Nat} {L1 : List Value} {r2 : Option Addr} {n2 c2 : Nat} {L2 : List Value} {r3 : Option Addr} {n3 c3 : Nat} {L3 : List Value} {N1 N2 : List Value} {G : Nat → Option Value} {i1 a1 i2 a2 s1 s2 s8 : Nat} {env : Nat → Value} {L : Nat → Bool} {w : World} (h : DD w0 B F X x id sc fr rd tk eo eo2 st r1 n1 c1 L1 r2 n2 c2 L2 r3 n3 c3 L3 N1 N2 G i1 a1 i2 a2 s1 s2 s8 env L w) (hd : Dis i1 a1 i2 a2 s1 s2 s8) (hg : G i1 = none) : DD w0 B F X x id sc fr rd tk eo eo2 st r1 n1 c1 L1 r2 n2 c2 L2 r3 n3 c3 L3 N1 N2 G i1 a1 i2 a2 s1 s2 s8 (upd env i1 (.slice (some ⟨w.heap.size, 0, none⟩) 1 1)) (doneL L i1) (w.alloc (.cells N1.toArray 90)) := by
  obtain ⟨u1, u2, u3, u4, u5, u6, u7, u8, u9, u10, u11, u12, u13, u14, u15, u16, u17, u18, u19, u20, u21⟩ := hd
  exact ⟨(fun k2 v2 h1 h2 => by
    by_cases e : k2 = i1
    · subst e; rw [upd_same]; rw [hg] at h1; cases h1
    · rw [upd_other _ _ e]; rw [doneL_other L e] at h2; exact h.g k2 v2 h1 h2),
   ((h.ev).alloc _),
   (by
    rw [doneL_other L (show s1 ≠ i1 by first | assumption | (apply Ne.symm; assumption)), doneL_other L (show s2 ≠ i1 by first | assumption | (apply Ne.symm; assumption)), doneL_other L (show s8 ≠ i1 by first | assumption | (apply Ne.symm; assumption)), upd_other env _ (show a1 ≠ i1 by first | assumption | (apply Ne.symm; assumption)), upd_other env _ (show a2 ≠ i1 by first | assumption | (apply Ne.symm; assumption))]
    exact h.blk.alloc _),
   (fun h1 h2 => by
    rw [upd_same]
    exact ⟨w.heap.size, rfl, Blk.newA w N1.toArray 90⟩),
   (fun h1 h2 => by
    rw [doneL_other L (show i2 ≠ i1 by first | assumption | (apply Ne.symm; assumption))] at h1; rw [doneL_other L (show a2 ≠ i1 by first | assumption | (apply Ne.symm; assumption))] at h2; rw [upd_other env _ (show i2 ≠ i1 by first | assumption | (apply Ne.symm; assumption))]
    obtain ⟨y, e1, e2⟩ := h.b2 h1 h2
    exact ⟨y, e1, (e2).alloc _⟩),
   (fun h1 => by
    rw [doneL_other L (show a1 ≠ i1 by first | assumption | (apply Ne.symm; assumption))] at h1
    exact (h.p1 h1).chg (l := []) ((Chg.refl [] w).alloc _) (by simp)),
   (fun h1 => by
    rw [doneL_other L (show a1 ≠ i1 by first | assumption | (apply Ne.symm; assumption))] at h1; rw [upd_other env _ (show a1 ≠ i1 by first | assumption | (apply Ne.symm; assumption))]
    obtain ⟨y, c, e1, e2⟩ := h.q1 h1
    exact ⟨y, c, e1, (e2).chg (l := []) ((Chg.refl [] w).alloc _) (by simp)⟩),
   (fun h1 => by
    rw [doneL_other L (show a2 ≠ i1 by first | assumption | (apply Ne.symm; assumption))] at h1
    exact (h.p2 h1).chg (l := []) ((Chg.refl [] w).alloc _) (by simp)),
   (fun h1 => by
    rw [doneL_other L (show a2 ≠ i1 by first | assumption | (apply Ne.symm; assumption))] at h1; rw [upd_other env _ (show a2 ≠ i1 by first | assumption | (apply Ne.symm; assumption))]
    obtain ⟨y, c, e1, e2⟩ := h.q2 h1
    exact ⟨y, c, e1, (e2).chg (l := []) ((Chg.refl [] w).alloc _) (by simp)⟩),
   ((h.m3).chg (l := []) ((Chg.refl [] w).alloc _) (by simp)),
   (h.be.alloc h.le _),
   (h.FB),
   (by rw [World.size_alloc]; exact Nat.le_succ_of_le h.le)⟩
theorem DD.mk2 {w0 : World} {B F X : Nat} {x : Ev} {id sc fr : Int} {rd tk : ByteArray} {eo eo2 : Bool} {st : Int} {r1 : Option Addr} {n1 c1 : Nat} {L1 : List Value} {r2 : Option Addr} {n2 c2 : Nat} {L2 : List Value} {r3 : Option Addr} {n3 c3 : Nat} {L3 : List Value} {N1 N2 : List Value} {G : Nat → Option Value} {i1 a1 i2 a2 s1 s2 s8 : Nat} {env : Nat → Value} {L : Nat → Bool} {w : World} (h : DD w0 B F X x id sc fr rd tk eo eo2 st r1 n1 c1 L1 r2 n2 c2 L2 r3 n3 c3 L3 N1 N2 G i1 a1 i2 a2 s1 s2 s8 env L w) (hd : Dis i1 a1 i2 a2 s1 s2 s8) (hg : G i2 = none) : DD w0 B F X x id sc fr rd tk eo eo2 st r1 n1 c1 L1 r2 n2 c2 L2 r3 n3 c3 L3 N1 N2 G i1 a1 i2 a2 s1 s2 s8 (upd env i2 (.slice (some ⟨w.heap.size, 0, none⟩) 1 1)) (doneL L i2) (w.alloc (.cells N2.toArray 92)) := by
  obtain ⟨u1, u2, u3, u4, u5, u6, u7, u8, u9, u10, u11, u12, u13, u14, u15, u16, u17, u18, u19, u20, u21⟩ := hd
  exact ⟨(fun k2 v2 h1 h2 => by
    by_cases e : k2 = i2
    · subst e; rw [upd_same]; rw [hg] at h1; cases h1
    · rw [upd_other _ _ e]; rw [doneL_other L e] at h2; exact h.g k2 v2 h1 h2),
   ((h.ev).alloc _),
   (by
    rw [doneL_other L (show s1 ≠ i2 by first | assumption | (apply Ne.symm; assumption)), doneL_other L (show s2 ≠ i2 by first | assumption | (apply Ne.symm; assumption)), doneL_other L (show s8 ≠ i2 by first | assumption | (apply Ne.symm; assumption)), upd_other env _ (show a1 ≠ i2 by first | assumption | (apply Ne.symm; assumption)), upd_other env _ (show a2 ≠ i2 by first | assumption | (apply Ne.symm; assumption))]
    exact h.blk.alloc _),
   (fun h1 h2 => by
    rw [doneL_other L (show i1 ≠ i2 by first | assumption | (apply Ne.symm; assumption))] at h1; rw [doneL_other L (show a1 ≠ i2 by first | assumption | (apply Ne.symm; assumption))] at h2; rw [upd_other env _ (show i1 ≠ i2 by first | assumption | (apply Ne.symm; assumption))]
    obtain ⟨y, e1, e2⟩ := h.b1 h1 h2
    exact ⟨y, e1, (e2).alloc _⟩),
   (fun h1 h2 => by
    rw [upd_same]
    exact ⟨w.heap.size, rfl, Blk.newA w N2.toArray 92⟩),
   (fun h1 => by
    rw [doneL_other L (show a1 ≠ i2 by first | assumption | (apply Ne.symm; assumption))] at h1
    exact (h.p1 h1).chg (l := []) ((Chg.refl [] w).alloc _) (by simp)),
   (fun h1 => by
    rw [doneL_other L (show a1 ≠ i2 by first | assumption | (apply Ne.symm; assumption))] at h1; rw [upd_other env _ (show a1 ≠ i2 by first | assumption | (apply Ne.symm; assumption))]
    obtain ⟨y, c, e1, e2⟩ := h.q1 h1
    exact ⟨y, c, e1, (e2).chg (l := []) ((Chg.refl [] w).alloc _) (by simp)⟩),
   (fun h1 => by
    rw [doneL_other L (show a2 ≠ i2 by first | assumption | (apply Ne.symm; assumption))] at h1
    exact (h.p2 h1).chg (l := []) ((Chg.refl [] w).alloc _) (by simp)),
   (fun h1 => by
    rw [doneL_other L (show a2 ≠ i2 by first | assumption | (apply Ne.symm; assumption))] at h1; rw [upd_other env _ (show a2 ≠ i2 by first | assumption | (apply Ne.symm; assumption))]
    obtain ⟨y, c, e1, e2⟩ := h.q2 h1
    exact ⟨y, c, e1, (e2).chg (l := []) ((Chg.refl [] w).alloc _) (by simp)⟩),
   ((h.m3).chg (l := []) ((Chg.refl [] w).alloc _) (by simp)),
   (h.be.alloc h.le _),
   (h.FB),
   (by rw [World.size_alloc]; exact Nat.le_succ_of_le h.le)⟩
theorem DD.app1 {w0 : World} {B F X : Nat} {x : Ev} {id sc fr : Int} {rd tk : ByteArray} {eo eo2 : Bool} {st : Int} {r1 : Option Addr} {n1 c1 : Nat} {L1 : List Value} {r2 : Option Addr} {n2 c2 : Nat} {L2 : List Value} {r3 : Option Addr} {n3 c3 : Nat} {L3 : List Value} {N1 N2 : List Value} {G : Nat → Option Value} {i1 a1 i2 a2 s1 s2 s8 : Nat} {env : Nat → Value} {L : Nat → Bool} {w : World} (h : DD w0 B F X x id sc fr rd tk eo eo2 st r1 n1 c1 L1 r2 n2 c2 L2 r3 n3 c3 L3 N1 N2 G i1 a1 i2 a2 s1 s2 s8 env L w) (hd : Dis i1 a1 i2 a2 s1 s2 s8) (hg : G a1 = none) (hs0 : L s1 = false) (hL : L a1 = false) {g' c' : Nat} {w' : World} (hr : RM w' B (some ⟨g', 0, none⟩) (n1 + 1) c' 4 (L1 ++ N1) 90) (k : Chg (rvB r1) w w') : DD w0 B F X x id sc fr rd tk eo eo2 st r1 n1 c1 L1 r2 n2 c2 L2 r3 n3 c3 L3 N1 N2 G i1 a1 i2 a2 s1 s2 s8 (upd env a1 (.slice (some ⟨g', 0, none⟩) (n1 + 1) c')) (doneL L a1) w' := by
  have hr0 := h.p1 hL
  obtain ⟨u1, u2, u3, u4, u5, u6, u7, u8, u9, u10, u11, u12, u13, u14, u15, u16, u17, u18, u19, u20, u21⟩ := hd
  exact ⟨(fun k2 v2 h1 h2 => by
    by_cases e : k2 = a1
    · subst e; rw [upd_same]; rw [hg] at h1; cases h1
    · rw [upd_other _ _ e]; rw [doneL_other L e] at h2; exact h.g k2 v2 h1 h2),
   ((h.ev).chg k (rm_ty hr0 (h.ev) (by decide))),
   (by
    have hb := h.blk.chg k (rm_ty hr0 h.blk (by decide))
    rw [hs0] at hb
    rw [doneL_other L (show s1 ≠ a1 by first | assumption | (apply Ne.symm; assumption)), doneL_other L (show s2 ≠ a1 by first | assumption | (apply Ne.symm; assumption)), doneL_other L (show s8 ≠ a1 by first | assumption | (apply Ne.symm; assumption)), upd_other env _ (show a2 ≠ a1 by first | assumption | (apply Ne.symm; assumption)), hs0]
    exact hb),
   (fun h1 h2 => by rw [doneL_same] at h2; cases h2),
   (fun h1 h2 => by
    rw [doneL_other L (show i2 ≠ a1 by first | assumption | (apply Ne.symm; assumption))] at h1; rw [doneL_other L (show a2 ≠ a1 by first | assumption | (apply Ne.symm; assumption))] at h2; rw [upd_other env _ (show i2 ≠ a1 by first | assumption | (apply Ne.symm; assumption))]
    obtain ⟨y, e1, e2⟩ := h.b2 h1 h2
    exact ⟨y, e1, (e2).chg k (rm_ty hr0 (e2) (by decide))⟩),
   (fun h1 => by rw [doneL_same] at h1; cases h1),
   (fun h1 => by
    rw [upd_same]
    exact ⟨g', c', rfl, hr⟩),
   (fun h1 => by
    rw [doneL_other L (show a2 ≠ a1 by first | assumption | (apply Ne.symm; assumption))] at h1
    exact (h.p2 h1).chg k (rm_ne (h.p2 h1) hr0 (by decide))),
   (fun h1 => by
    rw [doneL_other L (show a2 ≠ a1 by first | assumption | (apply Ne.symm; assumption))] at h1; rw [upd_other env _ (show a2 ≠ a1 by first | assumption | (apply Ne.symm; assumption))]
    obtain ⟨y, c, e1, e2⟩ := h.q2 h1
    exact ⟨y, c, e1, (e2).chg k (rm_ne (e2) hr0 (by decide))⟩),
   ((h.m3).chg k (rm_ne (h.m3) hr0 (by decide))),
   (k.onto h.be h.le (fun y hy => (hr0.lt y hy).1)),
   (h.FB),
   (Nat.le_trans h.le k.size)⟩
theorem DD.app2 {w0 : World} {B F X : Nat} {x : Ev} {id sc fr : Int} {rd tk : ByteArray} {eo eo2 : Bool} {st : Int} {r1 : Option Addr} {n1 c1 : Nat} {L1 : List Value} {r2 : Option Addr} {n2 c2 : Nat} {L2 : List Value} {r3 : Option Addr} {n3 c3 : Nat} {L3 : List Value} {N1 N2 : List Value} {G : Nat → Option Value} {i1 a1 i2 a2 s1 s2 s8 : Nat} {env : Nat → Value} {L : Nat → Bool} {w : World} (h : DD w0 B F X x id sc fr rd tk eo eo2 st r1 n1 c1 L1 r2 n2 c2 L2 r3 n3 c3 L3 N1 N2 G i1 a1 i2 a2 s1 s2 s8 env L w) (hd : Dis i1 a1 i2 a2 s1 s2 s8) (hg : G a2 = none) (hs0 : L s2 = false) (hL : L a2 = false) {g' c' : Nat} {w' : World} (hr : RM w' B (some ⟨g', 0, none⟩) (n2 + 1) c' 9 (L2 ++ N2) 92) (k : Chg (rvB r2) w w') : DD w0 B F X x id sc fr rd tk eo eo2 st r1 n1 c1 L1 r2 n2 c2 L2 r3 n3 c3 L3 N1 N2 G i1 a1 i2 a2 s1 s2 s8 (upd env a2 (.slice (some ⟨g', 0, none⟩) (n2 + 1) c')) (doneL L a2) w' := by
  have hr0 := h.p2 hL
  obtain ⟨u1, u2, u3, u4, u5, u6, u7, u8, u9, u10, u11, u12, u13, u14, u15, u16, u17, u18, u19, u20, u21⟩ := hd
  exact ⟨(fun k2 v2 h1 h2 => by
    by_cases e : k2 = a2
    · subst e; rw [upd_same]; rw [hg] at h1; cases h1
    · rw [upd_other _ _ e]; rw [doneL_other L e] at h2; exact h.g k2 v2 h1 h2),
   ((h.ev).chg k (rm_ty hr0 (h.ev) (by decide))),
   (by
    have hb := h.blk.chg k (rm_ty hr0 h.blk (by decide))
    rw [hs0] at hb
    rw [doneL_other L (show s1 ≠ a2 by first | assumption | (apply Ne.symm; assumption)), doneL_other L (show s2 ≠ a2 by first | assumption | (apply Ne.symm; assumption)), doneL_other L (show s8 ≠ a2 by first | assumption | (apply Ne.symm; assumption)), upd_other env _ (show a1 ≠ a2 by first | assumption | (apply Ne.symm; assumption)), hs0]
    exact hb),
   (fun h1 h2 => by
    rw [doneL_other L (show i1 ≠ a2 by first | assumption | (apply Ne.symm; assumption))] at h1; rw [doneL_other L (show a1 ≠ a2 by first | assumption | (apply Ne.symm; assumption))] at h2; rw [upd_other env _ (show i1 ≠ a2 by first | assumption | (apply Ne.symm; assumption))]
    obtain ⟨y, e1, e2⟩ := h.b1 h1 h2
    exact ⟨y, e1, (e2).chg k (rm_ty hr0 (e2) (by decide))⟩),
   (fun h1 h2 => by rw [doneL_same] at h2; cases h2),
   (fun h1 => by
    rw [doneL_other L (show a1 ≠ a2 by first | assumption | (apply Ne.symm; assumption))] at h1
    exact (h.p1 h1).chg k (rm_ne (h.p1 h1) hr0 (by decide))),
   (fun h1 => by
    rw [doneL_other L (show a1 ≠ a2 by first | assumption | (apply Ne.symm; assumption))] at h1; rw [upd_other env _ (show a1 ≠ a2 by first | assumption | (apply Ne.symm; assumption))]
    obtain ⟨y, c, e1, e2⟩ := h.q1 h1
    exact ⟨y, c, e1, (e2).chg k (rm_ne (e2) hr0 (by decide))⟩),
   (fun h1 => by rw [doneL_same] at h1; cases h1),
   (fun h1 => by
    rw [upd_same]
    exact ⟨g', c', rfl, hr⟩),
   ((h.m3).chg k (rm_ne (h.m3) hr0 (by decide))),
   (k.onto h.be h.le (fun y hy => (hr0.lt y hy).1)),
   (h.FB),
   (Nat.le_trans h.le k.size)⟩
theorem blk_ty {w : World} {b : Nat} {cs ds : List Value} {T U : TypeId} (h : Blk w b cs T) (k : Blk w b ds U) : T = U := by
  unfold Blk at *
  rw [h] at k
  have := Option.some.inj k
  injection this
theorem DD.st1 {w0 : World} {B F X : Nat} {x : Ev} {id sc fr : Int} {rd tk : ByteArray} {eo eo2 : Bool} {st : Int} {r1 : Option Addr} {n1 c1 : Nat} {L1 : List Value} {r2 : Option Addr} {n2 c2 : Nat} {L2 : List Value} {r3 : Option Addr} {n3 c3 : Nat} {L3 : List Value} {N1 N2 : List Value} {G : Nat → Option Value} {i1 a1 i2 a2 s1 s2 s8 : Nat} {env : Nat → Value} {L : Nat → Bool} {w : World} (h : DD w0 B F X x id sc fr rd tk eo eo2 st r1 n1 c1 L1 r2 n2 c2 L2 r3 n3 c3 L3 N1 N2 G i1 a1 i2 a2 s1 s2 s8 env L w) (hd : Dis i1 a1 i2 a2 s1 s2 s8) (hg : G s1 = none) : DD w0 B F X x id sc fr rd tk eo eo2 st r1 n1 c1 L1 r2 n2 c2 L2 r3 n3 c3 L3 N1 N2 G i1 a1 i2 a2 s1 s2 s8 (upd env s1 undef) (doneL L s1) (w.setCell ⟨F, 3, none⟩ (env a1)) := by
  have kc : Chg [F] w (w.setCell ⟨F, 3, none⟩ (env a1)) := (Chg.refl [F] w).set (Or.inl (by simp)) _ _
  obtain ⟨u1, u2, u3, u4, u5, u6, u7, u8, u9, u10, u11, u12, u13, u14, u15, u16, u17, u18, u19, u20, u21⟩ := hd
  exact ⟨(fun k2 v2 h1 h2 => by
    by_cases e : k2 = s1
    · subst e; rw [upd_same]; rw [hg] at h1; cases h1
    · rw [upd_other _ _ e]; rw [doneL_other L e] at h2; exact h.g k2 v2 h1 h2),
   ((h.ev).other (fun e0 => by subst e0; exact absurd (blk_ty (h.ev) h.blk) (by decide)) _ _),
   (by
    have hb := h.blk.set 3 (env a1)
    rw [doneL_other L (show s2 ≠ s1 by first | assumption | (apply Ne.symm; assumption)), doneL_other L (show s8 ≠ s1 by first | assumption | (apply Ne.symm; assumption)), doneL_same, if_pos rfl, upd_other env _ (show a1 ≠ s1 by first | assumption | (apply Ne.symm; assumption)), upd_other env _ (show a2 ≠ s1 by first | assumption | (apply Ne.symm; assumption))]
    exact hb),
   (fun h1 h2 => by
    rw [doneL_other L (show i1 ≠ s1 by first | assumption | (apply Ne.symm; assumption))] at h1; rw [doneL_other L (show a1 ≠ s1 by first | assumption | (apply Ne.symm; assumption))] at h2; rw [upd_other env _ (show i1 ≠ s1 by first | assumption | (apply Ne.symm; assumption))]
    obtain ⟨y, e1, e2⟩ := h.b1 h1 h2
    exact ⟨y, e1, (e2).other (fun e0 => by subst e0; exact absurd (blk_ty (e2) h.blk) (by decide)) _ _⟩),
   (fun h1 h2 => by
    rw [doneL_other L (show i2 ≠ s1 by first | assumption | (apply Ne.symm; assumption))] at h1; rw [doneL_other L (show a2 ≠ s1 by first | assumption | (apply Ne.symm; assumption))] at h2; rw [upd_other env _ (show i2 ≠ s1 by first | assumption | (apply Ne.symm; assumption))]
    obtain ⟨y, e1, e2⟩ := h.b2 h1 h2
    exact ⟨y, e1, (e2).other (fun e0 => by subst e0; exact absurd (blk_ty (e2) h.blk) (by decide)) _ _⟩),
   (fun h1 => by
    rw [doneL_other L (show a1 ≠ s1 by first | assumption | (apply Ne.symm; assumption))] at h1
    exact (h.p1 h1).chg kc (fun g hg hm => by simp at hm; subst hm; exact rm_ty (h.p1 h1) h.blk (by decide) hg)),
   (fun h1 => by
    rw [doneL_other L (show a1 ≠ s1 by first | assumption | (apply Ne.symm; assumption))] at h1; rw [upd_other env _ (show a1 ≠ s1 by first | assumption | (apply Ne.symm; assumption))]
    obtain ⟨y, c, e1, e2⟩ := h.q1 h1
    exact ⟨y, c, e1, (e2).chg kc (fun g hg hm => by simp at hm; subst hm; exact rm_ty (e2) h.blk (by decide) hg)⟩),
   (fun h1 => by
    rw [doneL_other L (show a2 ≠ s1 by first | assumption | (apply Ne.symm; assumption))] at h1
    exact (h.p2 h1).chg kc (fun g hg hm => by simp at hm; subst hm; exact rm_ty (h.p2 h1) h.blk (by decide) hg)),
   (fun h1 => by
    rw [doneL_other L (show a2 ≠ s1 by first | assumption | (apply Ne.symm; assumption))] at h1; rw [upd_other env _ (show a2 ≠ s1 by first | assumption | (apply Ne.symm; assumption))]
    obtain ⟨y, c, e1, e2⟩ := h.q2 h1
    exact ⟨y, c, e1, (e2).chg kc (fun g hg hm => by simp at hm; subst hm; exact rm_ty (e2) h.blk (by decide) hg)⟩),
   ((h.m3).chg kc (fun g hg hm => by simp at hm; subst hm; exact rm_ty (h.m3) h.blk (by decide) hg)),
   (kc.onto h.be h.le (by simp; exact h.FB)),
   (h.FB),
   (Nat.le_trans h.le kc.size)⟩
theorem DD.st2 {w0 : World} {B F X : Nat} {x : Ev} {id sc fr : Int} {rd tk : ByteArray} {eo eo2 : Bool} {st : Int} {r1 : Option Addr} {n1 c1 : Nat} {L1 : List Value} {r2 : Option Addr} {n2 c2 : Nat} {L2 : List Value} {r3 : Option Addr} {n3 c3 : Nat} {L3 : List Value} {N1 N2 : List Value} {G : Nat → Option Value} {i1 a1 i2 a2 s1 s2 s8 : Nat} {env : Nat → Value} {L : Nat → Bool} {w : World} (h : DD w0 B F X x id sc fr rd tk eo eo2 st r1 n1 c1 L1 r2 n2 c2 L2 r3 n3 c3 L3 N1 N2 G i1 a1 i2 a2 s1 s2 s8 env L w) (hd : Dis i1 a1 i2 a2 s1 s2 s8) (hg : G s2 = none) : DD w0 B F X x id sc fr rd tk eo eo2 st r1 n1 c1 L1 r2 n2 c2 L2 r3 n3 c3 L3 N1 N2 G i1 a1 i2 a2 s1 s2 s8 (upd env s2 undef) (doneL L s2) (w.setCell ⟨F, 4, none⟩ (env a2)) := by
  have kc : Chg [F] w (w.setCell ⟨F, 4, none⟩ (env a2)) := (Chg.refl [F] w).set (Or.inl (by simp)) _ _
  obtain ⟨u1, u2, u3, u4, u5, u6, u7, u8, u9, u10, u11, u12, u13, u14, u15, u16, u17, u18, u19, u20, u21⟩ := hd
  exact ⟨(fun k2 v2 h1 h2 => by
    by_cases e : k2 = s2
    · subst e; rw [upd_same]; rw [hg] at h1; cases h1
    · rw [upd_other _ _ e]; rw [doneL_other L e] at h2; exact h.g k2 v2 h1 h2),
   ((h.ev).other (fun e0 => by subst e0; exact absurd (blk_ty (h.ev) h.blk) (by decide)) _ _),
   (by
    have hb := h.blk.set 4 (env a2)
    rw [doneL_other L (show s1 ≠ s2 by first | assumption | (apply Ne.symm; assumption)), doneL_other L (show s8 ≠ s2 by first | assumption | (apply Ne.symm; assumption)), doneL_same, if_pos rfl, upd_other env _ (show a1 ≠ s2 by first | assumption | (apply Ne.symm; assumption)), upd_other env _ (show a2 ≠ s2 by first | assumption | (apply Ne.symm; assumption))]
    exact hb),
   (fun h1 h2 => by
    rw [doneL_other L (show i1 ≠ s2 by first | assumption | (apply Ne.symm; assumption))] at h1; rw [doneL_other L (show a1 ≠ s2 by first | assumption | (apply Ne.symm; assumption))] at h2; rw [upd_other env _ (show i1 ≠ s2 by first | assumption | (apply Ne.symm; assumption))]
    obtain ⟨y, e1, e2⟩ := h.b1 h1 h2
    exact ⟨y, e1, (e2).other (fun e0 => by subst e0; exact absurd (blk_ty (e2) h.blk) (by decide)) _ _⟩),
   (fun h1 h2 => by
    rw [doneL_other L (show i2 ≠ s2 by first | assumption | (apply Ne.symm; assumption))] at h1; rw [doneL_other L (show a2 ≠ s2 by first | assumption | (apply Ne.symm; assumption))] at h2; rw [upd_other env _ (show i2 ≠ s2 by first | assumption | (apply Ne.symm; assumption))]
    obtain ⟨y, e1, e2⟩ := h.b2 h1 h2
    exact ⟨y, e1, (e2).other (fun e0 => by subst e0; exact absurd (blk_ty (e2) h.blk) (by decide)) _ _⟩),
   (fun h1 => by
    rw [doneL_other L (show a1 ≠ s2 by first | assumption | (apply Ne.symm; assumption))] at h1
    exact (h.p1 h1).chg kc (fun g hg hm => by simp at hm; subst hm; exact rm_ty (h.p1 h1) h.blk (by decide) hg)),
   (fun h1 => by
    rw [doneL_other L (show a1 ≠ s2 by first | assumption | (apply Ne.symm; assumption))] at h1; rw [upd_other env _ (show a1 ≠ s2 by first | assumption | (apply Ne.symm; assumption))]
    obtain ⟨y, c, e1, e2⟩ := h.q1 h1
    exact ⟨y, c, e1, (e2).chg kc (fun g hg hm => by simp at hm; subst hm; exact rm_ty (e2) h.blk (by decide) hg)⟩),
   (fun h1 => by
    rw [doneL_other L (show a2 ≠ s2 by first | assumption | (apply Ne.symm; assumption))] at h1
    exact (h.p2 h1).chg kc (fun g hg hm => by simp at hm; subst hm; exact rm_ty (h.p2 h1) h.blk (by decide) hg)),
   (fun h1 => by
    rw [doneL_other L (show a2 ≠ s2 by first | assumption | (apply Ne.symm; assumption))] at h1; rw [upd_other env _ (show a2 ≠ s2 by first | assumption | (apply Ne.symm; assumption))]
    obtain ⟨y, c, e1, e2⟩ := h.q2 h1
    exact ⟨y, c, e1, (e2).chg kc (fun g hg hm => by simp at hm; subst hm; exact rm_ty (e2) h.blk (by decide) hg)⟩),
   ((h.m3).chg kc (fun g hg hm => by simp at hm; subst hm; exact rm_ty (h.m3) h.blk (by decide) hg)),
   (kc.onto h.be h.le (by simp; exact h.FB)),
   (h.FB),
   (Nat.le_trans h.le kc.size)⟩
theorem DD.st8 {w0 : World} {B F X : Nat} {x : Ev} {id sc fr : Int} {rd tk : ByteArray} {eo eo2 : Bool} {st : Int} {r1 : Option Addr} {n1 c1 : Nat} {L1 : List Value} {r2 : Option Addr} {n2 c2 : Nat} {L2 : List Value} {r3 : Option Addr} {n3 c3 : Nat} {L3 : List Value} {N1 N2 : List Value} {G : Nat → Option Value} {i1 a1 i2 a2 s1 s2 s8 : Nat} {env : Nat → Value} {L : Nat → Bool} {w : World} (h : DD w0 B F X x id sc fr rd tk eo eo2 st r1 n1 c1 L1 r2 n2 c2 L2 r3 n3 c3 L3 N1 N2 G i1 a1 i2 a2 s1 s2 s8 env L w) (hd : Dis i1 a1 i2 a2 s1 s2 s8) (hg : G s8 = none) : DD w0 B F X x id sc fr rd tk eo eo2 st r1 n1 c1 L1 r2 n2 c2 L2 r3 n3 c3 L3 N1 N2 G i1 a1 i2 a2 s1 s2 s8 (upd env s8 undef) (doneL L s8) (w.setCell ⟨F, 8, none⟩ (.bool eo2)) := by
  have kc : Chg [F] w (w.setCell ⟨F, 8, none⟩ (.bool eo2)) := (Chg.refl [F] w).set (Or.inl (by simp)) _ _
  obtain ⟨u1, u2, u3, u4, u5, u6, u7, u8, u9, u10, u11, u12, u13, u14, u15, u16, u17, u18, u19, u20, u21⟩ := hd
  exact ⟨(fun k2 v2 h1 h2 => by
    by_cases e : k2 = s8
    · subst e; rw [upd_same]; rw [hg] at h1; cases h1
    · rw [upd_other _ _ e]; rw [doneL_other L e] at h2; exact h.g k2 v2 h1 h2),
   ((h.ev).other (fun e0 => by subst e0; exact absurd (blk_ty (h.ev) h.blk) (by decide)) _ _),
   (by
    have hb := h.blk.set 8 (.bool eo2)
    rw [doneL_other L (show s1 ≠ s8 by first | assumption | (apply Ne.symm; assumption)), doneL_other L (show s2 ≠ s8 by first | assumption | (apply Ne.symm; assumption)), doneL_same, if_pos rfl, upd_other env _ (show a1 ≠ s8 by first | assumption | (apply Ne.symm; assumption)), upd_other env _ (show a2 ≠ s8 by first | assumption | (apply Ne.symm; assumption))]
    exact hb),
   (fun h1 h2 => by
    rw [doneL_other L (show i1 ≠ s8 by first | assumption | (apply Ne.symm; assumption))] at h1; rw [doneL_other L (show a1 ≠ s8 by first | assumption | (apply Ne.symm; assumption))] at h2; rw [upd_other env _ (show i1 ≠ s8 by first | assumption | (apply Ne.symm; assumption))]
    obtain ⟨y, e1, e2⟩ := h.b1 h1 h2
    exact ⟨y, e1, (e2).other (fun e0 => by subst e0; exact absurd (blk_ty (e2) h.blk) (by decide)) _ _⟩),
   (fun h1 h2 => by
    rw [doneL_other L (show i2 ≠ s8 by first | assumption | (apply Ne.symm; assumption))] at h1; rw [doneL_other L (show a2 ≠ s8 by first | assumption | (apply Ne.symm; assumption))] at h2; rw [upd_other env _ (show i2 ≠ s8 by first | assumption | (apply Ne.symm; assumption))]
    obtain ⟨y, e1, e2⟩ := h.b2 h1 h2
    exact ⟨y, e1, (e2).other (fun e0 => by subst e0; exact absurd (blk_ty (e2) h.blk) (by decide)) _ _⟩),
   (fun h1 => by
    rw [doneL_other L (show a1 ≠ s8 by first | assumption | (apply Ne.symm; assumption))] at h1
    exact (h.p1 h1).chg kc (fun g hg hm => by simp at hm; subst hm; exact rm_ty (h.p1 h1) h.blk (by decide) hg)),
   (fun h1 => by
    rw [doneL_other L (show a1 ≠ s8 by first | assumption | (apply Ne.symm; assumption))] at h1; rw [upd_other env _ (show a1 ≠ s8 by first | assumption | (apply Ne.symm; assumption))]
    obtain ⟨y, c, e1, e2⟩ := h.q1 h1
    exact ⟨y, c, e1, (e2).chg kc (fun g hg hm => by simp at hm; subst hm; exact rm_ty (e2) h.blk (by decide) hg)⟩),
   (fun h1 => by
    rw [doneL_other L (show a2 ≠ s8 by first | assumption | (apply Ne.symm; assumption))] at h1
    exact (h.p2 h1).chg kc (fun g hg hm => by simp at hm; subst hm; exact rm_ty (h.p2 h1) h.blk (by decide) hg)),
   (fun h1 => by
    rw [doneL_other L (show a2 ≠ s8 by first | assumption | (apply Ne.symm; assumption))] at h1; rw [upd_other env _ (show a2 ≠ s8 by first | assumption | (apply Ne.symm; assumption))]
    obtain ⟨y, c, e1, e2⟩ := h.q2 h1
    exact ⟨y, c, e1, (e2).chg kc (fun g hg hm => by simp at hm; subst hm; exact rm_ty (e2) h.blk (by decide) hg)⟩),
   ((h.m3).chg kc (fun g hg hm => by simp at hm; subst hm; exact rm_ty (h.m3) h.blk (by decide) hg)),
   (kc.onto h.be h.le (by simp; exact h.FB)),
   (h.FB),
   (Nat.le_trans h.le kc.size)⟩
end Go.Proofs.YtdchedkhlfmpeaaDoor
