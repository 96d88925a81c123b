/- Faults: a builder of texts. -/
import Derived.Test.YtlofcccabdocgaaDoorFa2
import Derived.Test.YtlofcccabdocgaaDoorRm
import Derived.Test.YtlofcccabdocgaaDoorShelf
import Derived.Test.YtlofcccabdocgaaDoorBytes
import Derived.Lib.Builder
import Derived.Deep.Upon
import Derived.WalkKit
import Derived.ProofKit
import Derived.Handy
import Derived.WalkLawsBesides
import Derived.WalkSpells
import Derived.Lib.Hide
import Derived.Lib.SliceRun
import Derived.Deep.RegionLaw
import Derived.RegionTactic
import Derived.ChangeAlike
import Derived.WalkSmall
import Derived.Deep.QuietTactic
import Derived.BigQuiet
import Derived.OwnWalk
import Derived.Outline
import Derived.Deep.CutRange
import Derived.Deep.CutBlock
import Derived.LoopTactic
namespace Go.Proofs.YtlofcccabdocgaaDoor
open Go.ChangeShapes Go.WideShapes Go.ChangeAt Go.RowKit
set_option linter.unusedSimpArgs false
set_option linter.unusedVariables false

theorem rn_ty {w : World} {g c sz : Nat} {L : List Value} {T : TypeId} {cs : List Value} {U : TypeId} (h : Rn w g c sz L T) (k : Blk w g cs U) : T = U := by
  obtain ⟨r, _, _, h⟩ := h
  unfold Blk at *
  rw [h] at k
  have := Option.some.inj k
  injection this
theorem rm_ty {w : World} {B : Nat} {r : Option Addr} {n c sz : Nat} {L : List Value} {T : TypeId} {g : Nat} {cs : List Value} {U : TypeId} (h : RM w B r n c sz L T) (k : Blk w g cs U) (hne : T ≠ U) : g ∉ rvB r := fun hg => by
  obtain ⟨_, _, h2 | ⟨g2, h2, _, h4⟩⟩ := h
  · rw [h2.1] at hg; simp [rvB] at hg
  · rw [h2, rvB_some] at hg; simp at hg; subst hg; exact hne (rn_ty h4 k)
theorem rm_ne {w : World} {B : Nat} {r : Option Addr} {n c sz : Nat} {L : List Value} {T : TypeId} {B' : Nat} {r' : Option Addr} {n' c' sz' : Nat} {L' : List Value} {T' : TypeId} (h : RM w B r n c sz L T) (k : RM w B' r' n' c' sz' L' T') (hne : T ≠ T') : ∀ g ∈ rvB r, g ∉ rvB r' := fun g hg => by
  obtain ⟨_, _, k2 | ⟨g2, k2, _, k4⟩⟩ := k
  · rw [k2.1]; simp [rvB]
  · obtain ⟨rest, _, _, hb⟩ := k4
    rw [k2, rvB_some]; simp
    intro e; subst e
    exact rm_ty h hb hne hg
theorem infoB8 : (Tryd.prog.info? 5).map (fun i => (i.zero, i.size, i.bytes)) = some (some (.int .u8 0), 1, 1) := by kernel_rfl
theorem bv_bc (s : ByteArray) : byteCells s = bv s := rfl
theorem wp_append_rb (w : World) {o : Oper} {a : Act} {K : Act → World → Prop} {Q : Exit → Act → World → Prop}
    (s x : Operand) (hop : o.op = Op.call { callee := Callee.builtin Builtin.append, args := #[s, x], argTypes := #[63, 9] })
    (base : Nat) (r : Option Addr) (m cap : Nat) (L : List Value) (hs : a.eval s = .slice r m cap) (hown : RM w base r m cap 1 L 5) (t : ByteArray) (hx : a.eval x = .string t) (h63 : m + t.size ≤ 1000000)
    (hK : ∀ r' cap' w', RM w' base r' (m + t.size) cap' 1 (L ++ bv t) 5 → (∀ g ∈ rvB r', g ∈ rvB r ∨ w.heap.size ≤ g) → Chg (rvB r) w w' → K (a.put o.dst (.slice r' (m + t.size) cap')) w') :
    Oper.wp Tryd.prog o a w K Q := by
  by_cases h0 : t.size = 0
  · have hbv : bv t = [] := List.length_eq_zero_iff.1 (by rw [bv_length]; exact h0)
    have hle : m ≤ cap := by
      obtain ⟨hl, _, ⟨_, h2, h3⟩ | ⟨g, _, _, h4⟩⟩ := hown
      · omega
      · have := h4.len; omega
    obtain ⟨i, hi, hzz⟩ := Option.map_eq_some_iff.1 infoB8
    simp only [Prod.mk.injEq] at hzz
    obtain ⟨hz, hs1, hb1⟩ := hzz
    have hsrc : Src Tryd.prog i.size 9 (.string t) 0 [] w := by
      have := Src.ofString (P := Tryd.prog) w Tryd.underlying9 t
      rw [h0, bv_bc, hbv] at this
      rw [hs1]; exact this
    have hrun := run_append_nothing (P := Tryd.prog) w 63 9 o.type 5 i Tryd.underlying63 hi r m cap hle (.string t) hsrc
    unfold Oper.wp
    simp [execOp, hop, resolve, invoke, builtin, hs, hx, hrun, Result.andThen]
    have hk := hK r cap w (by rw [hbv, List.append_nil, h0]; exact hown) (fun g hg => Or.inl hg) (Chg.refl _ _)
    rw [h0] at hk
    exact hk
  · refine wp_append_rm w s x 63 9 hop 5 (.int .u8 0) 1 1 Tryd.underlying63 infoB8 rfl base r m cap L hs hown (.string t) hx t.size (by omega) (bv t) (by
      have := Src.ofString (P := Tryd.prog) w Tryd.underlying9 t
      rw [bv_bc] at this
      exact this) h63 (by omega) fun g' cap' w' h1 h2 h3 => hK _ cap' w' h1 (fun g hg => by rw [rvB_some] at hg; simp at hg; subst hg; exact h2) h3
/-- A builder in block bb, its text S. -/
def BD (W : World) (B bb : Nat) (p : Value) (r : Option Addr) (n c : Nat) (S : ByteArray) : Prop := Blk W bb [p, .slice r n c] 65 ∧ RM W B r n c 1 (bv S) 5 ∧ n = S.size ∧ B ≤ bb ∧ (p = .pointer none ∨ p = .pointer (some ⟨bb, 0, none⟩))
theorem BD.same {W W' : World} {B bb : Nat} {p : Value} {r : Option Addr} {n c : Nat} {S : ByteArray} (h : BD W B bb p r n c S) (k : Chg [] W W') : BD W' B bb p r n c S := ⟨h.1.chg k (by simp), h.2.1.chg k (by simp), h.2.2⟩
theorem sizeB : (Tryd.prog.info? 65).map (·.size) = some 2 := by kernel_rfl
theorem liesB : liesAt Tryd.prog Tryd.prog.depth 65 (2 / Tryd.prog.cellsOf 65) 0 65 1 = true := by kernel_rfl
set_option maxRecDepth 20000 in
set_option maxHeartbeats 16000000 in
theorem le_cc_used (b : Nat) (w : World) (h0 : w.cell? ⟨b, 0, none⟩ = some (.pointer (some ⟨b, 0, none⟩))) :
    Calls Tryd.prog 40 #[.pointer (some ⟨b, 0, none⟩)] w fun e w' => e = .returned (.tuple #[]) ∧ w' = w := by
  obtain ⟨j, hj, _⟩ := Option.map_eq_some_iff.1 sizeB
  go_enter Tryd.func40, Tryd.ntmps40
  go_wp2
  rw [Lib.run_neq_ptr_same w _ Tryd.underlying62 hj]
  go_wp2
  go_end0
  exact ⟨rfl, rfl⟩
set_option maxRecDepth 20000 in
set_option maxHeartbeats 16000000 in
theorem le_cc_fresh (b : Nat) (w : World) (h0 : w.cell? ⟨b, 0, none⟩ = some (.pointer none)) (hsh : w.shape? b = some (65, 2)) (hfz : w.frozen? ⟨b, 0, none⟩ = false) :
    Calls Tryd.prog 40 #[.pointer (some ⟨b, 0, none⟩)] w fun e w' => e = .returned (.tuple #[]) ∧ w' = w.setCell ⟨b, 0, none⟩ (.pointer (some ⟨b, 0, none⟩)) := by
  obtain ⟨j, hj, hjs⟩ := Option.map_eq_some_iff.1 sizeB
  go_enter Tryd.func40, Tryd.ntmps40
  go_wp2
  rw [Lib.run_to_unsafe w ⟨b, 0, none⟩ Tryd.underlying62 Tryd.underlying81 hj (by rw [hjs]; decide) hsh (Nat.zero_lt_succ 1)]
  simp only [Result.andThen]
  rw [Oper.upon_value]
  go_wp2
  rw [run_callFunc_extern Tryd.func48 (by kernel_rfl) (by kernel_rfl) (by kernel_rfl) (e := Extern.AbiNoEscape.same) (by kernel_rfl)]
  rw [Lib.run_noEscape]
  simp only [Result.andThen]
  rw [Oper.upon_value]
  go_wp2
  rw [Lib.run_from_unsafe w ⟨b, 0, none⟩ Tryd.underlying81 Tryd.underlying62 hj hsh liesB]
  simp only [Result.andThen]
  rw [Oper.upon_value]
  go_wp2
  go_end0
  exact ⟨rfl, rfl⟩
theorem BD.notb {W : World} {B bb : Nat} {p : Value} {r : Option Addr} {n c : Nat} {S : ByteArray} (h : BD W B bb p r n c S) : bb ∉ rvB r := rm_ty h.2.1 h.1 (by decide)
theorem le_cc {W : World} {B bb : Nat} {p : Value} {r : Option Addr} {n c : Nat} {S : ByteArray} (h : BD W B bb p r n c S) :
    Calls Tryd.prog 40 #[.pointer (some ⟨bb, 0, none⟩)] W fun e w' => e = .returned (.tuple #[]) ∧ BD w' B bb (.pointer (some ⟨bb, 0, none⟩)) r n c S ∧ Chg [bb] W w' := by
  have hb := h.1
  rcases h.2.2.2.2 with e | e
  · subst e
    refine (le_cc_fresh bb W (hb.cell (i := 0) rfl) (by unfold Blk at hb; simp [World.shape?, hb]) (hb.free 0)).mono ?_
    rintro e w' ⟨rfl, rfl⟩
    have k : Chg [bb] W (W.setCell ⟨bb, 0, none⟩ (.pointer (some ⟨bb, 0, none⟩))) := (Chg.refl [bb] W).set (Or.inl (by simp)) _ _
    exact ⟨rfl, ⟨hb.set 0 _, h.2.1.chg k (fun g hg e => by simp at e; subst e; exact h.notb hg), h.2.2.1, h.2.2.2.1, Or.inr rfl⟩, k⟩
  · subst e
    refine (le_cc_used bb W (hb.cell (i := 0) rfl)).mono ?_
    rintro e w' ⟨rfl, rfl⟩
    exact ⟨rfl, h, Chg.refl _ _⟩
theorem wpList_append_rb (w : World) {ops : Array Oper} {rest : List Oper} {o : Oper} {a : Act} {Q : Exit → Act → World → Prop}
    (hg : o.guard = none) (s x : Operand) (hop : o.op = Op.call { callee := Callee.builtin Builtin.append, args := #[s, x], argTypes := #[63, 9] })
    (base : Nat) (r : Option Addr) (m cap : Nat) (L : List Value) (hs : a.eval s = .slice r m cap) (hown : RM w base r m cap 1 L 5) (t : ByteArray) (hx : a.eval x = .string t) (h63 : m + t.size ≤ 1000000)
    (hK : ∀ r' cap' w', RM w' base r' (m + t.size) cap' 1 (L ++ bv t) 5 → (∀ g ∈ rvB r', g ∈ rvB r ∨ w.heap.size ≤ g) → Chg (rvB r) w w' → wpList Tryd.prog ops Q rest (a.put o.dst (.slice r' (m + t.size) cap')) w') :
    wpList Tryd.prog ops Q (o :: rest) a w :=
  wpList_plain hg fun K hK' => wp_append_rb w s x hop base r m cap L hs hown t hx h63 fun r' c' w' h1 h2 h3 => hK' _ _ (hK r' c' w' h1 h2 h3)
set_option maxRecDepth 20000 in
set_option maxHeartbeats 16000000 in
theorem le_wstr (B bb : Nat) (p : Value) (r : Option Addr) (n c : Nat) (S s X : ByteArray) (hX : S ++ s = X) (hsz : n + s.size ≤ 1000000) (w : World) (hBw : B ≤ w.heap.size) (h : BD w B bb p r n c S) :
    Calls Tryd.prog 29 #[.pointer (some ⟨bb, 0, none⟩), .string s] w fun e w' => ∃ (p' : Value) (r' : Option Addr) (n' c' : Nat) (v : Value), e = .returned v ∧ BD w' B bb p' r' n' c' X ∧ Chg (bb :: rvB r) w w' ∧ (∀ g ∈ rvB r', g ∈ rvB r ∨ w.heap.size ≤ g) := by
  have H0 := Lib.hid (And.intro h hX)
  clear h hX
  go_enter Tryd.func29, Tryd.ntmps29
  go_upto_region 2 with (go_at_call 40; refine (le_cc H0.out.1).mono ?_; rintro e1 W1 ⟨rfl, q1, q2⟩; have H1 := Lib.hid (And.intro q1 q2); clear q1 q2)
  have c1 := H1.out.1.1.cell (i := 1) rfl
  have f1 := H1.out.1.1.free 1
  go_wp2_with (at_builtin; refine wpList_append_rb _ rfl (.tmp 12) (.tmp 13) rfl B r n c (bv S) rfl H1.out.1.2.1 s rfl hsz ?_; intro r4 c4 w4 q1 q2 q3; have HN : Hid (RM w4 B r4 (n + s.size) c4 1 (bv S ++ bv s) 5 ∧ (∀ g ∈ rvB r4, g ∈ rvB r ∨ W1.heap.size ≤ g) ∧ Chg (rvB r) W1 w4 ∧ Blk w4 bb [.pointer (some ⟨bb, 0, none⟩), .slice r n c] 65) := Lib.hid ⟨q1, q2, q3, H1.out.1.1.chg q3 H1.out.1.notb⟩; have c1m := HN.out.2.2.2.cell (i := 1) rfl; have f1m := HN.out.2.2.2.free 1; clear q1 q2 q3)
  go_ret2
  have hnb : bb ∉ rvB r4 := rm_ty HN.out.1 HN.out.2.2.2 (by decide)
  have k : Chg [bb] w4 (w4.setCell ⟨bb, 1, none⟩ (.slice r4 (n + s.size) c4)) := (Chg.refl [bb] w4).set (Or.inl (by simp)) _ _
  refine ⟨.pointer (some ⟨bb, 0, none⟩), r4, n + s.size, c4, _, rfl, ⟨HN.out.2.2.2.set 1 _, ?_, ?_, H0.out.1.2.2.2.1, Or.inr rfl⟩, ?_, ?_⟩
  · rw [← H0.out.2, bv_append]
    exact HN.out.1.chg k (fun g hg e => by simp at e; subst e; exact hnb hg)
  · rw [← H0.out.2, ByteArray.size_append, H0.out.1.2.2.1]
  · exact ((H1.out.2.mono (by simp)).trans (HN.out.2.2.1.mono (fun x hx => List.mem_cons_of_mem _ hx)) (fun x hx => Or.inl hx)).trans (k.mono (by simp)) (fun x hx => Or.inl hx)
  · intro g hg
    rcases HN.out.2.1 g hg with h | h
    · exact Or.inl h
    · exact Or.inr (Nat.le_trans H1.out.2.size h)
theorem BD.isB {W : World} {B bb : Nat} {p : Value} {r : Option Addr} {n c : Nat} {S : ByteArray} (h : BD W B bb p r n c S) : Lib.IsBuilder 65 5 B bb (Lib.byteCells S.data.toList) W := by
  have hl : (Lib.byteCells S.data.toList).length = n := by rw [show Lib.byteCells S.data.toList = bv S from rfl, bv_length, h.2.2.1]
  have key : Lib.BuilderAt 65 5 B bb p (Lib.byteCells S.data.toList) W := by
    refine ⟨h.2.2.2.1, .slice r n c, h.1, ?_, ?_⟩
    · rw [hl]
      obtain ⟨h0, h1, ⟨h2, h3, h4⟩ | ⟨g, h2, h3, rest, h4, h5, h6⟩⟩ := h.2.1
      · subst h2 h3 h4
        exact ⟨by simpa using hl, Or.inl ⟨rfl, rfl⟩⟩
      · subst h2
        have hbl : (bv S).length = n := hl
        refine ⟨by simpa using hl, Or.inr ⟨g, c, (bv S ++ rest).toArray, rfl, h3, h6, by omega, by unfold maxLen; omega, by simp; omega, ?_⟩⟩
        rw [Nat.mul_one, ← hbl]
        show (bv S ++ rest).take (bv S).length = bv S
        rw [List.take_left]
    · intro e
      have := h.notb
      cases r with
      | none => cases e
      | some a =>
        unfold Value.ownBlock at e
        injection e with e
        exact this (by unfold rvB; simp [e])
  rcases h.2.2.2.2 with e | e
  · rw [e] at key; exact Or.inl key
  · rw [e] at key; exact Or.inr key
theorem le_bstr {W : World} {B bb : Nat} {p : Value} {r : Option Addr} {n c : Nat} {S : ByteArray} (h : BD W B bb p r n c S) (hB : B ≤ W.heap.size) :
    Calls Tryd.prog 30 #[.pointer (some ⟨bb, 0, none⟩)] W fun e w' => e = .returned (.string S) ∧ Below B W w' := by
  refine (Tryd.Builder_String_any B bb S.data.toList W h.isB hB).mono ?_
  rintro e w' ⟨rfl, b⟩
  exact ⟨by simp, b⟩
end Go.Proofs.YtlofcccabdocgaaDoor
