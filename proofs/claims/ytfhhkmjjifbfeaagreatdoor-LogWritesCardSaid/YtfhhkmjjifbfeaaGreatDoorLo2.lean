/- Log: words with blanks between. -/
import Derived.Test.YtfhhkmjjifbfeaaGreatDoorLe5
import Derived.Test.YtfhhkmjjifbfeaaGreatDoorShelf
import Derived.WalkKit
import Derived.ProofKit
import Derived.Handy
import Derived.WalkLawsBesides
import Derived.WalkSpells
import Derived.Lib.Hide
import Derived.Lib.SliceRun
import Derived.Deep.RegionLaw
import Derived.RegionTactic
import Derived.ChangeAlike
import Derived.WalkSmall
import Derived.Deep.QuietTactic
import Derived.BigQuiet
import Derived.OwnWalk
import Derived.Outline
import Derived.Deep.CutRange
import Derived.Deep.CutBlock
import Derived.LoopTactic
namespace Go.Proofs.YtfhhkmjjifbfeaaGreatDoor
open Go.ChangeShapes Go.WideShapes Go.ChangeAt Go.RowKit
set_option linter.unusedSimpArgs false
set_option linter.unusedVariables false

theorem lo_join_len : ∀ (L : List (List UInt8)), (∀ l ∈ L, l.length ≤ 20000) → (Lib.join L [32]).length ≤ 20001 * L.length
  | [], _ => by simp [Lib.join]
  | [x], h => by
    have := h x (by simp)
    simp [Lib.join]
    omega
  | x :: y :: L, h => by
    have h1 := h x (by simp)
    have h2 := lo_join_len (y :: L) (fun l hl => h l (List.mem_cons_of_mem _ hl))
    have e : Lib.join (x :: y :: L) [32] = x ++ ([32] ++ Lib.join (y :: L) [32]) := by simp [Lib.join, List.intercalate]
    rw [e, List.length_append, List.length_append]
    simp only [List.length_cons, List.length_nil] at h2 ⊢
    omega
theorem lo_join (bk : Nat) (L : List (List UInt8)) (n : Nat) (hn : L.length = n) (hn2 : n ≤ 20) (hl : ∀ l ∈ L, l.length ≤ 20000) (T : TypeId) (w : World) (hb : Blk w bk (L.map fun l => .string (Le.t l)) T) :
    Calls Tryz.prog 37 #[.slice (some ⟨bk, 0, none⟩) n n, .string { data := #[32] }] w fun e w' => e = .returned (.string (Le.t (Lib.join L [32]))) ∧ Below w.heap.size w w' := by
  have hm : (L.map Le.t).map (·.data.toList) = L := by
    rw [List.map_map]
    conv => rhs; rw [← List.map_id L]
    exact List.map_congr_left fun l _ => Le.t_list l
  have hlen := lo_join_len L hl
  have h := Tryz.strings_Join bk 0 n (L.map Le.t) { data := #[32] } w (fun j x hj => by
    rw [Nat.zero_add]
    refine hb.cell ?_
    rw [List.getElem?_map] at hj ⊢
    obtain ⟨l, h1, h2⟩ := Option.map_eq_some_iff.1 hj
    rw [h1, ← h2]; rfl) hb.lt (by simp; omega) (by simp; omega) (by
      show (Lib.join _ [32]).length ≤ _
      rw [hm]; omega)
  rw [List.length_map, hn] at h
  refine h.mono ?_
  rintro e w' ⟨rfl, b⟩
  refine ⟨?_, b⟩
  show Ending.returned (.string ⟨(Lib.join _ [32]).toArray⟩) = _
  rw [hm]; rfl
set_option maxRecDepth 20000 in
set_option maxHeartbeats 16000000 in
theorem lo_words (bk : Nat) (L : List (List UInt8)) (n : Nat) (hn : L.length = n) (hn2 : n ≤ 20) (hl : ∀ l ∈ L, l.length ≤ 20000) (X : ByteArray) (hX : Le.t (Lib.join L [32]) = X) (T : TypeId) (w : World) (hb : Blk w bk (L.map fun l => .string (Le.t l)) T) :
    Calls Tryz.prog 22 #[.slice (some ⟨bk, 0, none⟩) n n] w fun e w' => e = .returned (.string X) ∧ Below w.heap.size w w' := by
  have HH := Lib.hid (And.intro hn (And.intro hl (And.intro hX hb)))
  clear hn hl hX hb
  go_enter Tryz.func22, Tryz.ntmps22
  go_wp2_with (go_at_call 37; (with_reducible refine (lo_join bk L n HH.out.1 hn2 HH.out.2.1 T _ HH.out.2.2.2).mono ?_); rintro e1 V1 ⟨rfl, q3⟩; have HB := Lib.hid q3; clear q3)
  go_ret
  exact ⟨by rw [← HH.out.2.2.1]; rfl, HB.out⟩
end Go.Proofs.YtfhhkmjjifbfeaaGreatDoor
