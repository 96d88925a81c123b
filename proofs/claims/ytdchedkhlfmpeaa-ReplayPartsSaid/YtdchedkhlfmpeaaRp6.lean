/- Replay: what a round works on. -/
import Derived.Test.YtdchedkhlfmpeaaRp5
import Derived.Test.YtdchedkhlfmpeaaTkWalks
import Derived.Test.YtdchedkhlfmpeaaMapI
import Derived.WalkKit
import Derived.ProofKit
import Derived.Handy
import Derived.WalkLawsBesides
import Derived.WalkSpells
import Derived.Lib.Hide
import Derived.Lib.SliceRun
import Derived.Deep.RegionLaw
import Derived.RegionTactic
import Derived.ChangeAlike
import Derived.WalkSmall
import Derived.Deep.QuietTactic
import Derived.BigQuiet
import Derived.OwnWalk
import Derived.Outline
import Derived.Deep.CutRange
import Derived.Deep.CutBlock
import Derived.LoopTactic
namespace Go.Proofs.Ytdchedkhlfmpeaa
open Go.ChangeShapes Go.WideShapes Go.ChangeAt Go.RowKit
set_option linter.unusedSimpArgs false
set_option linter.unusedVariables false

theorem run_mapUpdate_first64 {P : Program} {w : World} (mty kt et : TypeId) (r clock : Nat) (k : Int) (val : Value) (hm : P.underlying mty = some (.map kt et)) (hk : P.underlying kt = some (.int .i64)) (hb : w.heap[r]? = some (.map #[] clock)) :
    (Instr.mapUpdate mty (.map (some r)) (.int .i64 k) val).run P w = .ok () { w with heap := w.heap.setIfInBounds r (.map #[{ key := .int .i64 k, val := val, born := clock }] (clock + 1)) } := by
  have hf : Instr.findNow (.int .i64) (.int .i64 k) ([] : List MapEntry) 0 = some none := rfl
  have hc : (Instr.checkKey false 10000 kt (.int .i64 k)).run P w = .ok () w := MapKept.run_checkKey (k := .int .i64 k) hk (by simp [MapKept.IsKey]) false 9999
  simp [Instr.mapUpdate, run_underlying hm, MapKept.run_getObj_map hb, hc, MapKept.run_findKey hk hf, MapKept.run_setObj_map _ hb, Result.andThen]
/-- A map's block written anew. -/
def putMp (w : World) (r : Nat) (es : Array MapEntry) (c : Nat) : World := { w with heap := w.heap.setIfInBounds r (.map es c) }
theorem putMp_chg (w : World) (b : Nat) (es : Array MapEntry) (c : Nat) : Chg [b] w (putMp w b es c) :=
  ⟨rfl, rfl, rfl, by simp [putMp], fun k hk hn => by unfold putMp; simp at hn; simp [Ne.symm hn]⟩
theorem rm_keep {W W' : World} {B n c sz g : Nat} {L : List Value} {T U : TypeId} {cs : List Value} (h : RM W B (some ⟨g, 0, none⟩) n c sz L T) (k : Chg [B] W W') (hb : Blk W B cs U) (hne : T ≠ U) : RM W' B (some ⟨g, 0, none⟩) n c sz L T := h.chg k (by
  have h2 := rm_ty h hb hne
  intro y hy hm
  simp at hm
  subst hm
  exact h2 hy)
/-- What round works on. -/
def RD (w0 W : World) (M mb B R : Nat) (t : Int) (rc : List Value) (a : Option Addr) (L : List Ev) : Prop :=
  Blk W M [.int .i64 t, .map (some mb)] 120 ∧ EL W a L ∧ Chg [M, mb] w0 W ∧ Blk W B [.int .i64 0, .slice none 0 0, .slice none 0 0, .slice none 0 0, .int .i64 0, .bool false] 92 ∧ Blk W R rc 92 ∧ ¬ M = mb ∧ ¬ B = M ∧ ¬ R = M ∧ ¬ B = R ∧ M < w0.heap.size ∧ w0.heap.size ≤ B ∧ w0.heap.size ≤ R ∧ (∀ g ∈ rvB a, g ≠ M ∧ g ≠ mb ∧ g < w0.heap.size) ∧ mb < w0.heap.size
theorem RD.fresh {w0 W W' : World} {M mb B R : Nat} {t : Int} {rc : List Value} {a : Option Addr} {L : List Ev} (h : RD w0 W M mb B R t rc a L) (k : Chg [] W W') : RD w0 W' M mb B R t rc a L := by
  obtain ⟨h1, h2, h3, h4, h5, h6⟩ := h
  exact ⟨h1.chg k (by simp), h2.chg k (by simp), h3.trans k (by simp), h4.chg k (by simp), h5.chg k (by simp), h6⟩
theorem RD.round {w0 W W' : World} {M mb B R : Nat} {t : Int} {rc rc' : List Value} {a : Option Addr} {L : List Ev} (h : RD w0 W M mb B R t rc a L) (k : Chg [R] W W') (hr : Blk W' R rc' 92) : RD w0 W' M mb B R t rc' a L := by
  obtain ⟨h1, h2, h3, h4, h5, h6, h7, h8, h9, h10, h11, h12, h13, h14⟩ := h
  refine ⟨h1.chg k (by simp; exact fun e => h8 e.symm), h2.chg k (fun g hg => by have := (h13 g hg).2.2; simp; omega), h3.trans k (by intro x hx; simp at hx; subst hx; exact Or.inr h12), h4.chg k (by simpa using h9), hr, h6, h7, h8, h9, h10, h11, h12, h13, h14⟩
theorem RD.map {w0 W W' : World} {M mb B R : Nat} {t : Int} {rc : List Value} {a : Option Addr} {L : List Ev} (h : RD w0 W M mb B R t rc a L) (k : Chg [mb] W W') : RD w0 W' M mb B R t rc a L := by
  obtain ⟨h1, h2, h3, h4, h5, h6, h7, h8, h9, h10, h11, h12, h13, h14⟩ := h
  exact ⟨h1.chg k (by simpa using h6), h2.chg k (fun g hg => by simp; exact (h13 g hg).2.1), h3.trans k (by simp), h4.chg k (by simp; omega), h5.chg k (by simp; omega), h6, h7, h8, h9, h10, h11, h12, h13, h14⟩
theorem RD.openr {w0 V w4 : World} {M mb B R : Nat} {t : Int} {rc : List Value} {a : Option Addr} {L : List Ev} {news : Array Value} {U U2 : TypeId} {g k sz : Nat} {Lx : List Value} (h : RD w0 V M mb B R t rc a L) (q1 : RM w4 B (some ⟨g, 0, none⟩) 1 k sz Lx U2) (q2 : g ∈ rvB none ∨ (V.alloc (.cells news U)).heap.size ≤ g) (q3 : Chg (rvB none) (V.alloc (.cells news U)) w4) (i : Nat) :
    RD w0 (w4.setCell ⟨R, i, none⟩ (.slice (some ⟨g, 0, none⟩) 1 k)) M mb B R t (rc.set i (.slice (some ⟨g, 0, none⟩) 1 k)) a L ∧ RM (w4.setCell ⟨R, i, none⟩ (.slice (some ⟨g, 0, none⟩) 1 k)) B (some ⟨g, 0, none⟩) 1 k sz Lx U2 := by
  have kk : Chg [R] w4 (w4.setCell ⟨R, i, none⟩ (.slice (some ⟨g, 0, none⟩) 1 k)) := (Chg.refl [R] w4).set (Or.inl (by simp)) _ _
  have ka : Chg [] V w4 := ((Chg.refl [] V).alloc (.cells news U)).trans q3 (by simp [rvB])
  have f := h.fresh ka
  have hR := h.2.2.2.2.1.lt
  have hg : V.heap.size < g := by
    rcases q2 with q | q
    · simp [rvB] at q
    · simp at q; omega
  exact ⟨f.round kk (f.2.2.2.2.1.set i _), q1.chg kk (by intro y hy; simp [rvB] at hy; subst hy; simp; omega)⟩
end Go.Proofs.Ytdchedkhlfmpeaa
