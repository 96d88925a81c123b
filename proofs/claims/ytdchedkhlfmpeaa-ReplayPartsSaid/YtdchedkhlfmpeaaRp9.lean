/- Replay: the events of lives; rows of rounds. -/
import Derived.Test.YtdchedkhlfmpeaaRp7
import Derived.Test.YtdchedkhlfmpeaaRp8
import Derived.Test.YtdchedkhlfmpeaaEv18
import Derived.WalkKit
import Derived.ProofKit
import Derived.Handy
import Derived.WalkLawsBesides
import Derived.WalkSpells
import Derived.Lib.Hide
import Derived.Lib.SliceRun
import Derived.Deep.RegionLaw
import Derived.RegionTactic
import Derived.ChangeAlike
import Derived.WalkSmall
import Derived.Deep.QuietTactic
import Derived.BigQuiet
import Derived.OwnWalk
import Derived.Outline
import Derived.Deep.CutRange
import Derived.Deep.CutBlock
import Derived.LoopTactic
namespace Go.Proofs.Ytdchedkhlfmpeaa
open Go.ChangeShapes Go.WideShapes Go.ChangeAt Go.RowKit
set_option linter.unusedSimpArgs false
set_option linter.unusedVariables false

def rp1 : Ev := ⟨1, 0, 0, 3, ⟨#[]⟩, 0, 0, 0, 0, 0, 0, 0⟩
def rp2 : Ev := ⟨2, 0, 0, 0, ⟨#[]⟩, 0, 0, 0, 0, 0, 0, 0⟩
def rp3 : Ev := ⟨1, 0, 0, 5, ⟨#[]⟩, 0, 0, 0, 0, 0, 0, 0⟩
def rp4 : Ev := ⟨4, 0, 2, 0, ⟨#[111, 107]⟩, 0, 0, 0, 0, 0, 0, 0⟩
theorem rp_ok : ∀ x ∈ [rp1, rp2, rp3, rp4], x.ok := by
  intro x hx
  simp only [List.mem_cons, List.not_mem_nil, or_false] at hx
  have mx : ∀ n : Nat, n ≤ 1000 → n ≤ maxLen := fun n h => by unfold maxLen; omega
  rcases hx with rfl | rfl | rfl | rfl
  all_goals
    refine ⟨mx _ (by decide), fun k z hz => ?_⟩
    simp only [rp1, rp2, rp3, rp4, Ev.c, List.mem_cons, List.not_mem_nil, or_false, Value.int.injEq, reduceCtorEq, false_or] at hz
    rcases hz with ⟨rfl, rfl⟩ | ⟨rfl, rfl⟩ | ⟨rfl, rfl⟩ | ⟨rfl, rfl⟩ | ⟨rfl, rfl⟩ | ⟨rfl, rfl⟩ | ⟨rfl, rfl⟩ | ⟨rfl, rfl⟩ | ⟨rfl, rfl⟩ | ⟨rfl, rfl⟩ | ⟨rfl, rfl⟩ <;> decide
theorem infoRd : (Try.prog.info? 92).map (fun i => (i.zero, i.size, i.bytes)) = some (some (.agg #[.int .i64 0, .slice none 0 0, .slice none 0 0, .slice none 0 0, .int .i64 0, .bool false]), 6, 96) := by kernel_rfl
theorem rd_one (t : Int) (a b c : Option Addr) (n1 n2 n3 c1 c2 c3 : Nat) (d : Int) (f : Bool) : ∀ v ∈ [Value.int .i64 t, .slice a n1 c1, .slice b n2 c2, .slice c n3 c3, .int .i64 d, .bool f], v.oneCell' = true := by
  intro v hv
  simp only [List.mem_cons, List.not_mem_nil, or_false] at hv
  rcases hv with rfl | rfl | rfl | rfl | rfl | rfl <;> rfl
theorem RR.two {W : World} {B : Nat} {r : Option Addr} {n c : Nat} {d0 d1 : List Ev} (h : RR W B r n c [d0, d1]) (h0 : d0.length = 2) (h1 : d1.length = 2) : ∃ gr qa ca qb cb, r = some ⟨gr, 0, none⟩ ∧ Rn W gr c 1 [.slice (some ⟨qa, 0, none⟩) 2 ca, .slice (some ⟨qb, 0, none⟩) 2 cb] 22 ∧ Rn W qa ca 12 (evs d0) 47 ∧ Rn W qb cb 12 (evs d1) 47 ∧ B ≤ gr ∧ B ≤ qa ∧ B ≤ qb := by
  obtain ⟨Q, k1, k2, k3, k4, _⟩ := h
  match Q, k2 with
  | [qa, qb], _ =>
    simp at k3
    obtain ⟨g, rfl, hg, hr⟩ := k1.row (by omega)
    have a1 := k4 0 qa d0 rfl rfl
    have a2 := k4 1 qb d1 rfl rfl
    obtain ⟨x, y, z⟩ := qa
    obtain ⟨x2, y2, z2⟩ := qb
    rw [h0] at a1
    rw [h1] at a2
    obtain ⟨rfl, a1⟩ := a1
    obtain ⟨rfl, a2⟩ := a2
    obtain ⟨ga, e1, hga, ra⟩ := a1.row (by simp)
    obtain ⟨gb, e2, hgb, rb⟩ := a2.row (by simp)
    dsimp only at e1 e2 hga hgb ra rb
    subst e1 e2
    exact ⟨g, ga, z, gb, z2, rfl, hr, ra, rb, hg, hga, hgb⟩
theorem chk_rp : (Ev.chk [rp1, rp2, rp3, rp4]).2 = [[rp1, rp2], [rp3, rp4]] := by kernel_rfl
/-- The rows of the rounds. -/
def S2T (W : World) (gr cr qa ca qb cb : Nat) : Prop := Rn W gr cr 1 [.slice (some ⟨qa, 0, none⟩) 2 ca, .slice (some ⟨qb, 0, none⟩) 2 cb] 22 ∧ Rn W qa ca 12 (evs [rp1, rp2]) 47 ∧ Rn W qb cb 12 (evs [rp3, rp4]) 47
theorem S2T.chg {W W' : World} {gr cr qa ca qb cb : Nat} (h : S2T W gr cr qa ca qb cb) {l : List Nat} (k : Chg l W W') (h1 : gr ∉ l) (h2 : qa ∉ l) (h3 : qb ∉ l) : S2T W' gr cr qa ca qb cb := ⟨h.1.chg k h1, h.2.1.chg k h2, h.2.2.chg k h3⟩
end Go.Proofs.Ytdchedkhlfmpeaa
