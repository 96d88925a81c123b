/- Log: words of a line, numbers, ticks. -/
import Derived.Test.YtfhhkmjjifbfeaaDoorBlk
import Derived.Test.YtfhhkmjjifbfeaaDoorShelf
import Derived.Test.YtfhhkmjjifbfeaaDoorTx3
import Derived.Lib.AtoiAll
import Derived.WalkKit
import Derived.ProofKit
import Derived.Handy
import Derived.WalkLawsBesides
import Derived.WalkSpells
import Derived.Lib.Hide
import Derived.Lib.SliceRun
import Derived.Deep.RegionLaw
import Derived.RegionTactic
import Derived.ChangeAlike
import Derived.WalkSmall
import Derived.Deep.QuietTactic
import Derived.BigQuiet
import Derived.OwnWalk
import Derived.Outline
import Derived.Deep.CutRange
import Derived.Deep.CutBlock
import Derived.LoopTactic
namespace Go.Proofs.YtfhhkmjjifbfeaaDoor
open Go.ChangeShapes Go.WideShapes Go.ChangeAt Go.RowKit
set_option linter.unusedSimpArgs false
set_option linter.unusedVariables false

/-- What strconv and strings stand on. -/
def NI (w : World) : Prop := (∃ m, w.cell? ⟨2, 0, none⟩ = some (.int .i64 m)) ∧ (∃ T p, w.cell? ⟨5, 0, none⟩ = some (.iface T p)) ∧ (∃ T p, w.cell? ⟨6, 0, none⟩ = some (.iface T p))
theorem NI.below {w w' : World} (h : NI w) (k : Below w.heap.size w w') : NI w' := by
  obtain ⟨⟨m, h1⟩, ⟨T, p, h2⟩, ⟨T', p', h3⟩⟩ := h
  have l1 := World.block_lt_of_cell? _ _ h1
  have l2 := World.block_lt_of_cell? _ _ h2
  have l3 := World.block_lt_of_cell? _ _ h3
  dsimp only at l1 l2 l3
  exact ⟨⟨m, (k.cell l1).trans h1⟩, ⟨T, p, (k.cell l2).trans h2⟩, ⟨T', p', (k.cell l3).trans h3⟩⟩
/-- The number of a word; none is zero. -/
def Lo.num (l : List UInt8) : Int := match Lib.atoiAll l with | .ok v => v | _ => 0
theorem lo_atoi (s : ByteArray) (hs : s.size ≤ 1000000) (w : World) (hn : NI w) :
    Calls Tryd.prog 30 #[.string s] w fun e w' => ∃ v x, e = .returned (.tuple #[.int .i64 v, x]) ∧ ((x = .nilIface ∧ Lo.num s.data.toList = v) ∨ ((∃ T p, x = .iface T p) ∧ Lo.num s.data.toList = 0)) ∧ Below w.heap.size w w' := by
  obtain ⟨-, ⟨T, p, h2⟩, ⟨T', p', h3⟩⟩ := hn
  cases h : Lib.atoiAll s.data.toList with
  | ok v =>
    refine (Tryd.strconv_Atoi_ok s (by omega) v h w).mono ?_
    rintro e w' ⟨rfl, h1⟩
    refine ⟨v, _, rfl, Or.inl ⟨rfl, by unfold Lo.num; rw [h]⟩, ?_⟩
    rcases h1 with rfl | ⟨t, rfl⟩
    · exact Below.refl _ _
    · refine ⟨rfl, rfl, rfl, ?_, fun j hj => Lib.bytesWorld_at_old w _ t j hj⟩
      have := (Array.getElem?_eq_some_iff.1 (Lib.bytesWorld_at_new w 5 t)).1
      omega
  | «syntax» =>
    refine (Tryd.strconv_Atoi_syntax s (by omega) h _ w h2 (Or.inr ⟨_, _, rfl⟩)).mono ?_
    rintro e w' ⟨N, rfl, _, _, h1⟩
    exact ⟨_, _, rfl, Or.inr ⟨⟨_, _, rfl⟩, by unfold Lo.num; rw [h]⟩, h1⟩
  | range =>
    refine (Tryd.strconv_Atoi_range s (by omega) h _ w h3 (Or.inr ⟨_, _, rfl⟩)).mono ?_
    rintro e w' ⟨N, rfl, _, _, h1⟩
    exact ⟨_, _, rfl, Or.inr ⟨⟨_, _, rfl⟩, by unfold Lo.num; rw [h]⟩, h1⟩
/-- The word of that number; empty, if there is none. -/
def Lo.at (L : List ByteArray) (i : Nat) : ByteArray := L.getD i { data := #[] }
set_option maxRecDepth 20000 in
set_option maxHeartbeats 16000000 in
theorem lo_at (bk : Nat) (L : List ByteArray) (n : Nat) (hn : L.length = n) (hn2 : n ≤ 1000000) (iz : Int) (i : Nat) (hz : iz = (i : Int)) (X : ByteArray) (hX : Lo.at L i = X) (T : TypeId) (w : World) (hb : Blk w bk (L.map Value.string) T) :
    Calls Tryd.prog 31 #[.slice (some ⟨bk, 0, none⟩) n n, .int .i64 iz] w fun e w' => e = .returned (.string X) ∧ Below w.heap.size w w' := by
  subst hz
  unfold Lo.at at hX
  by_cases h : i < n
  · have hc : w.cell? ⟨bk, i, none⟩ = some (.string X) := hb.cell (by
      rw [List.getElem?_map, List.getElem?_eq_getElem (by omega : i < L.length)]
      rw [List.getD_eq_getElem?_getD, List.getElem?_eq_getElem (by omega : i < L.length)] at hX
      rw [← hX]; rfl)
    have i1 : ¬ (n : Int) ≤ (i : Int) := by omega
    have i2 : (i : Int) < (n : Int) := by omega
    have i3 : (0 : Int) ≤ (i : Int) := by omega
    clear hb hX
    go_enter Tryd.func31, Tryd.ntmps31
    go_wp2_with fail
    go_ret
    exact ⟨rfl, Below.refl _ _⟩
  · have i1 : (n : Int) ≤ (i : Int) := by omega
    have hx : X = { data := #[] } := by
      rw [← hX, List.getD_eq_getElem?_getD, List.getElem?_eq_none (by omega)]; rfl
    subst hx
    clear hb hX
    go_enter Tryd.func31, Tryd.ntmps31
    go_wp2_with fail
    go_ret
    exact ⟨rfl, Below.refl _ _⟩
set_option maxRecDepth 20000 in
set_option maxHeartbeats 16000000 in
theorem lo_number (bk : Nat) (L : List ByteArray) (n : Nat) (hn : L.length = n) (hn2 : n ≤ 1000000) (hl : ∀ s ∈ L, s.size ≤ 1000000) (iz : Int) (i : Nat) (hz : iz = (i : Int)) (v : Int) (hv : Lo.num (Lo.at L i).data.toList = v) (T : TypeId) (w : World) (hb : Blk w bk (L.map Value.string) T) (hni : NI w) :
    Calls Tryd.prog 16 #[.slice (some ⟨bk, 0, none⟩) n n, .int .i64 iz] w fun e w' => e = .returned (.int .i64 v) ∧ Below w.heap.size w w' := by
  obtain ⟨X, hX⟩ : ∃ X, Lo.at L i = X := ⟨_, rfl⟩
  rw [hX] at hv
  have hxs : X.size ≤ 1000000 := by
    rw [← hX]; unfold Lo.at
    rw [List.getD_eq_getElem?_getD]
    cases h : L[i]? with
    | none => decide
    | some y => exact hl y (List.mem_of_getElem? h)
  have HH := Lib.hid (And.intro hn (And.intro hz (And.intro hX (And.intro hb (And.intro hni (And.intro hxs hv))))))
  clear hn hz hX hb hni hxs hv hl
  go_enter Tryd.func16, Tryd.ntmps16
  go_upto_region 2 with (first
    | (go_at_call 31; (with_reducible refine (lo_at bk L n HH.out.1 hn2 iz i HH.out.2.1 X HH.out.2.2.1 T _ HH.out.2.2.2.1).mono ?_); rintro e1 V1 ⟨rfl, q3⟩; have HB := Lib.hid q3; clear q3)
    | (go_at_call 30; (with_reducible refine (lo_atoi X HH.out.2.2.2.2.2.1 _ (HH.out.2.2.2.2.1.below HB.out)).mono ?_); rintro e1 V2 ⟨v1, x1, rfl, q4, q3⟩; have HC := Lib.hid (HB.out.trans (q3.mono HB.out.size)); clear q3))
  rcases q4 with ⟨rfl, q4⟩ | ⟨⟨T1, p1, rfl⟩, q4⟩
  · have HV : Hid (v1 = v) := Lib.hid (by rw [← q4, ← HH.out.2.2.2.2.2.2])
    clear q4
    go_wp2_with fail
    go_ret
    exact ⟨by rw [HV.out]; rfl, HC.out⟩
  · have HV : Hid (0 = v) := Lib.hid (by rw [← q4, ← HH.out.2.2.2.2.2.2])
    clear q4
    go_wp2_with fail
    go_ret
    exact ⟨by rw [← HV.out]; rfl, HC.out⟩
set_option maxRecDepth 20000 in
set_option maxHeartbeats 16000000 in
theorem lo_ticks (s : ByteArray) (hs : s.size ≤ 1000000) (v : Int) (hv : (Tx.parse s.data.toList).1 = v) (w : World) :
    Calls Tryd.prog 15 #[.string s] w fun e w' => e = .returned (.int .i64 v) ∧ Below w.heap.size w w' := by
  obtain ⟨er, her⟩ : ∃ er, (Tx.parse s.data.toList).2 = er := ⟨_, rfl⟩
  have hp : Tx.parse s.data.toList = (v, er) := by rw [← hv, ← her]
  have HH := Lib.hid (And.intro hp (show s.size ≤ maxLen by unfold maxLen; omega))
  clear hp hv her
  go_enter Tryd.func15, Tryd.ntmps15
  go_wp2_with (go_at_call 29; (with_reducible refine (tx_parse s _ rfl HH.out.2 v er HH.out.1 _).mono ?_); rintro e1 V1 ⟨rfl, q3⟩; have HB := Lib.hid q3; clear q3)
  go_ret
  exact ⟨rfl, HB.out⟩
end Go.Proofs.YtfhhkmjjifbfeaaDoor
