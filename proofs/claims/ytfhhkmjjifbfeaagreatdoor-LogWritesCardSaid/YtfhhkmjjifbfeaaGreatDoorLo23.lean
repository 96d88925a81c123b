/- Log: Write. -/
import Derived.Test.YtfhhkmjjifbfeaaGreatDoorLoC
import Derived.Test.YtfhhkmjjifbfeaaGreatDoorBytes
import Derived.Test.YtfhhkmjjifbfeaaGreatDoorShelf
import Derived.Test.YtfhhkmjjifbfeaaGreatDoorRm
import Derived.Lib.Builder
import Derived.Deep.Upon
import Derived.WalkKit
import Derived.ProofKit
import Derived.Handy
import Derived.WalkLawsBesides
import Derived.WalkSpells
import Derived.Lib.Hide
import Derived.Lib.SliceRun
import Derived.Deep.RegionLaw
import Derived.RegionTactic
import Derived.ChangeAlike
import Derived.WalkSmall
import Derived.Deep.QuietTactic
import Derived.BigQuiet
import Derived.OwnWalk
import Derived.Outline
import Derived.Deep.CutRange
import Derived.Deep.CutBlock
import Derived.LoopTactic
namespace Go.Proofs.YtfhhkmjjifbfeaaGreatDoor
open Go.ChangeShapes Go.WideShapes Go.ChangeAt Go.RowKit
set_option linter.unusedSimpArgs false
set_option linter.unusedVariables false

theorem rn_ty {w : World} {g c sz : Nat} {L : List Value} {T : TypeId} {cs : List Value} {U : TypeId} (h : Rn w g c sz L T) (k : Blk w g cs U) : T = U := by
  obtain ⟨r, _, _, h⟩ := h
  unfold Blk at *
  rw [h] at k
  have := Option.some.inj k
  injection this
theorem rm_ty {w : World} {B : Nat} {r : Option Addr} {n c sz : Nat} {L : List Value} {T : TypeId} {g : Nat} {cs : List Value} {U : TypeId} (h : RM w B r n c sz L T) (k : Blk w g cs U) (hne : T ≠ U) : g ∉ rvB r := fun hg => by
  obtain ⟨_, _, h2 | ⟨g2, h2, _, h4⟩⟩ := h
  · rw [h2.1] at hg; simp [rvB] at hg
  · rw [h2, rvB_some] at hg; simp at hg; subst hg; exact hne (rn_ty h4 k)
theorem rm_ne {w : World} {B : Nat} {r : Option Addr} {n c sz : Nat} {L : List Value} {T : TypeId} {B' : Nat} {r' : Option Addr} {n' c' sz' : Nat} {L' : List Value} {T' : TypeId} (h : RM w B r n c sz L T) (k : RM w B' r' n' c' sz' L' T') (hne : T ≠ T') : ∀ g ∈ rvB r, g ∉ rvB r' := fun g hg => by
  obtain ⟨_, _, k2 | ⟨g2, k2, _, k4⟩⟩ := k
  · rw [k2.1]; simp [rvB]
  · obtain ⟨rest, _, _, hb⟩ := k4
    rw [k2, rvB_some]; simp
    intro e; subst e
    exact rm_ty h hb hne hg
theorem infoB8 : (Tryz.prog.info? 5).map (fun i => (i.zero, i.size, i.bytes)) = some (some (.int .u8 0), 1, 1) := by kernel_rfl
theorem bv_bc (s : ByteArray) : byteCells s = bv s := rfl
theorem wp_append_rb (w : World) {o : Oper} {a : Act} {K : Act → World → Prop} {Q : Exit → Act → World → Prop}
    (s x : Operand) (hop : o.op = Op.call { callee := Callee.builtin Builtin.append, args := #[s, x], argTypes := #[56, 9] })
    (base : Nat) (r : Option Addr) (m cap : Nat) (L : List Value) (hs : a.eval s = .slice r m cap) (hown : RM w base r m cap 1 L 5) (t : ByteArray) (hx : a.eval x = .string t) (h63 : m + t.size ≤ 1000000)
    (hK : ∀ r' cap' w', RM w' base r' (m + t.size) cap' 1 (L ++ bv t) 5 → (∀ g ∈ rvB r', g ∈ rvB r ∨ w.heap.size ≤ g) → Chg (rvB r) w w' → K (a.put o.dst (.slice r' (m + t.size) cap')) w') :
    Oper.wp Tryz.prog o a w K Q := by
  by_cases h0 : t.size = 0
  · have hbv : bv t = [] := List.length_eq_zero_iff.1 (by rw [bv_length]; exact h0)
    have hle : m ≤ cap := by
      obtain ⟨hl, _, ⟨_, h2, h3⟩ | ⟨g, _, _, h4⟩⟩ := hown
      · omega
      · have := h4.len; omega
    obtain ⟨i, hi, hzz⟩ := Option.map_eq_some_iff.1 infoB8
    simp only [Prod.mk.injEq] at hzz
    obtain ⟨hz, hs1, hb1⟩ := hzz
    have hsrc : Src Tryz.prog i.size 9 (.string t) 0 [] w := by
      have := Src.ofString (P := Tryz.prog) w Tryz.underlying9 t
      rw [h0, bv_bc, hbv] at this
      rw [hs1]; exact this
    have hrun := run_append_nothing (P := Tryz.prog) w 56 9 o.type 5 i Tryz.underlying56 hi r m cap hle (.string t) hsrc
    unfold Oper.wp
    simp [execOp, hop, resolve, invoke, builtin, hs, hx, hrun, Result.andThen]
    have hk := hK r cap w (by rw [hbv, List.append_nil, h0]; exact hown) (fun g hg => Or.inl hg) (Chg.refl _ _)
    rw [h0] at hk
    exact hk
  · refine wp_append_rm w s x 56 9 hop 5 (.int .u8 0) 1 1 Tryz.underlying56 infoB8 rfl base r m cap L hs hown (.string t) hx t.size (by omega) (bv t) (by
      have := Src.ofString (P := Tryz.prog) w Tryz.underlying9 t
      rw [bv_bc] at this
      exact this) h63 (by omega) fun g' cap' w' h1 h2 h3 => hK _ cap' w' h1 (fun g hg => by rw [rvB_some] at hg; simp at hg; subst hg; exact h2) h3
/-- A builder in block bb, its text S. -/
def BD (W : World) (B bb : Nat) (p : Value) (r : Option Addr) (n c : Nat) (S : ByteArray) : Prop := Blk W bb [p, .slice r n c] 58 ∧ RM W B r n c 1 (bv S) 5 ∧ n = S.size ∧ B ≤ bb ∧ (p = .pointer none ∨ p = .pointer (some ⟨bb, 0, none⟩))
theorem BD.same {W W' : World} {B bb : Nat} {p : Value} {r : Option Addr} {n c : Nat} {S : ByteArray} (h : BD W B bb p r n c S) (k : Chg [] W W') : BD W' B bb p r n c S := ⟨h.1.chg k (by simp), h.2.1.chg k (by simp), h.2.2⟩
theorem sizeB : (Tryz.prog.info? 58).map (·.size) = some 2 := by kernel_rfl
theorem liesB : liesAt Tryz.prog Tryz.prog.depth 58 (2 / Tryz.prog.cellsOf 58) 0 58 1 = true := by kernel_rfl
set_option maxRecDepth 20000 in
set_option maxHeartbeats 16000000 in
theorem le_cc_used (b : Nat) (w : World) (h0 : w.cell? ⟨b, 0, none⟩ = some (.pointer (some ⟨b, 0, none⟩))) :
    Calls Tryz.prog 51 #[.pointer (some ⟨b, 0, none⟩)] w fun e w' => e = .returned (.tuple #[]) ∧ w' = w := by
  obtain ⟨j, hj, _⟩ := Option.map_eq_some_iff.1 sizeB
  go_enter Tryz.func51, Tryz.ntmps51
  go_wp2
  rw [Lib.run_neq_ptr_same w _ Tryz.underlying55 hj]
  go_wp2
  go_end0
  exact ⟨rfl, rfl⟩
set_option maxRecDepth 20000 in
set_option maxHeartbeats 16000000 in
theorem le_cc_fresh (b : Nat) (w : World) (h0 : w.cell? ⟨b, 0, none⟩ = some (.pointer none)) (hsh : w.shape? b = some (58, 2)) (hfz : w.frozen? ⟨b, 0, none⟩ = false) :
    Calls Tryz.prog 51 #[.pointer (some ⟨b, 0, none⟩)] w fun e w' => e = .returned (.tuple #[]) ∧ w' = w.setCell ⟨b, 0, none⟩ (.pointer (some ⟨b, 0, none⟩)) := by
  obtain ⟨j, hj, hjs⟩ := Option.map_eq_some_iff.1 sizeB
  go_enter Tryz.func51, Tryz.ntmps51
  go_wp2
  rw [Lib.run_to_unsafe w ⟨b, 0, none⟩ Tryz.underlying55 Tryz.underlying85 hj (by rw [hjs]; decide) hsh (Nat.zero_lt_succ 1)]
  simp only [Result.andThen]
  rw [Oper.upon_value]
  go_wp2
  rw [run_callFunc_extern Tryz.func61 (by kernel_rfl) (by kernel_rfl) (by kernel_rfl) (e := Extern.AbiNoEscape.same) (by kernel_rfl)]
  rw [Lib.run_noEscape]
  simp only [Result.andThen]
  rw [Oper.upon_value]
  go_wp2
  rw [Lib.run_from_unsafe w ⟨b, 0, none⟩ Tryz.underlying85 Tryz.underlying55 hj hsh liesB]
  simp only [Result.andThen]
  rw [Oper.upon_value]
  go_wp2
  go_end0
  exact ⟨rfl, rfl⟩
theorem BD.notb {W : World} {B bb : Nat} {p : Value} {r : Option Addr} {n c : Nat} {S : ByteArray} (h : BD W B bb p r n c S) : bb ∉ rvB r := rm_ty h.2.1 h.1 (by decide)
theorem le_cc {W : World} {B bb : Nat} {p : Value} {r : Option Addr} {n c : Nat} {S : ByteArray} (h : BD W B bb p r n c S) :
    Calls Tryz.prog 51 #[.pointer (some ⟨bb, 0, none⟩)] W fun e w' => e = .returned (.tuple #[]) ∧ BD w' B bb (.pointer (some ⟨bb, 0, none⟩)) r n c S ∧ Chg [bb] W w' := by
  have hb := h.1
  rcases h.2.2.2.2 with e | e
  · subst e
    refine (le_cc_fresh bb W (hb.cell (i := 0) rfl) (by unfold Blk at hb; simp [World.shape?, hb]) (hb.free 0)).mono ?_
    rintro e w' ⟨rfl, rfl⟩
    have k : Chg [bb] W (W.setCell ⟨bb, 0, none⟩ (.pointer (some ⟨bb, 0, none⟩))) := (Chg.refl [bb] W).set (Or.inl (by simp)) _ _
    exact ⟨rfl, ⟨hb.set 0 _, h.2.1.chg k (fun g hg e => by simp at e; subst e; exact h.notb hg), h.2.2.1, h.2.2.2.1, Or.inr rfl⟩, k⟩
  · subst e
    refine (le_cc_used bb W (hb.cell (i := 0) rfl)).mono ?_
    rintro e w' ⟨rfl, rfl⟩
    exact ⟨rfl, h, Chg.refl _ _⟩
theorem wpList_append_rb (w : World) {ops : Array Oper} {rest : List Oper} {o : Oper} {a : Act} {Q : Exit → Act → World → Prop}
    (hg : o.guard = none) (s x : Operand) (hop : o.op = Op.call { callee := Callee.builtin Builtin.append, args := #[s, x], argTypes := #[56, 9] })
    (base : Nat) (r : Option Addr) (m cap : Nat) (L : List Value) (hs : a.eval s = .slice r m cap) (hown : RM w base r m cap 1 L 5) (t : ByteArray) (hx : a.eval x = .string t) (h63 : m + t.size ≤ 1000000)
    (hK : ∀ r' cap' w', RM w' base r' (m + t.size) cap' 1 (L ++ bv t) 5 → (∀ g ∈ rvB r', g ∈ rvB r ∨ w.heap.size ≤ g) → Chg (rvB r) w w' → wpList Tryz.prog ops Q rest (a.put o.dst (.slice r' (m + t.size) cap')) w') :
    wpList Tryz.prog ops Q (o :: rest) a w :=
  wpList_plain hg fun K hK' => wp_append_rb w s x hop base r m cap L hs hown t hx h63 fun r' c' w' h1 h2 h3 => hK' _ _ (hK r' c' w' h1 h2 h3)
set_option maxRecDepth 20000 in
set_option maxHeartbeats 16000000 in
theorem le_wstr (B bb : Nat) (p : Value) (r : Option Addr) (n c : Nat) (S s X : ByteArray) (hX : S ++ s = X) (hsz : n + s.size ≤ 1000000) (w : World) (hBw : B ≤ w.heap.size) (h : BD w B bb p r n c S) :
    Calls Tryz.prog 33 #[.pointer (some ⟨bb, 0, none⟩), .string s] w fun e w' => ∃ (p' : Value) (r' : Option Addr) (n' c' : Nat) (v : Value), e = .returned v ∧ BD w' B bb p' r' n' c' X ∧ Chg (bb :: rvB r) w w' ∧ (∀ g ∈ rvB r', g ∈ rvB r ∨ w.heap.size ≤ g) := by
  have H0 := Lib.hid (And.intro h hX)
  clear h hX
  go_enter Tryz.func33, Tryz.ntmps33
  go_upto_region 2 with (go_at_call 51; refine (le_cc H0.out.1).mono ?_; rintro e1 W1 ⟨rfl, q1, q2⟩; have H1 := Lib.hid (And.intro q1 q2); clear q1 q2)
  have c1 := H1.out.1.1.cell (i := 1) rfl
  have f1 := H1.out.1.1.free 1
  go_wp2_with (at_builtin; refine wpList_append_rb _ rfl (.tmp 12) (.tmp 13) rfl B r n c (bv S) rfl H1.out.1.2.1 s rfl hsz ?_; intro r4 c4 w4 q1 q2 q3; have HN : Hid (RM w4 B r4 (n + s.size) c4 1 (bv S ++ bv s) 5 ∧ (∀ g ∈ rvB r4, g ∈ rvB r ∨ W1.heap.size ≤ g) ∧ Chg (rvB r) W1 w4 ∧ Blk w4 bb [.pointer (some ⟨bb, 0, none⟩), .slice r n c] 58) := Lib.hid ⟨q1, q2, q3, H1.out.1.1.chg q3 H1.out.1.notb⟩; have c1m := HN.out.2.2.2.cell (i := 1) rfl; have f1m := HN.out.2.2.2.free 1; clear q1 q2 q3)
  go_ret2
  have hnb : bb ∉ rvB r4 := rm_ty HN.out.1 HN.out.2.2.2 (by decide)
  have k : Chg [bb] w4 (w4.setCell ⟨bb, 1, none⟩ (.slice r4 (n + s.size) c4)) := (Chg.refl [bb] w4).set (Or.inl (by simp)) _ _
  refine ⟨.pointer (some ⟨bb, 0, none⟩), r4, n + s.size, c4, _, rfl, ⟨HN.out.2.2.2.set 1 _, ?_, ?_, H0.out.1.2.2.2.1, Or.inr rfl⟩, ?_, ?_⟩
  · rw [← H0.out.2, bv_append]
    exact HN.out.1.chg k (fun g hg e => by simp at e; subst e; exact hnb hg)
  · rw [← H0.out.2, ByteArray.size_append, H0.out.1.2.2.1]
  · exact ((H1.out.2.mono (by simp)).trans (HN.out.2.2.1.mono (fun x hx => List.mem_cons_of_mem _ hx)) (fun x hx => Or.inl hx)).trans (k.mono (by simp)) (fun x hx => Or.inl hx)
  · intro g hg
    rcases HN.out.2.1 g hg with h | h
    · exact Or.inl h
    · exact Or.inr (Nat.le_trans H1.out.2.size h)
theorem BD.isB {W : World} {B bb : Nat} {p : Value} {r : Option Addr} {n c : Nat} {S : ByteArray} (h : BD W B bb p r n c S) : Lib.IsBuilder 58 5 B bb (Lib.byteCells S.data.toList) W := by
  have hl : (Lib.byteCells S.data.toList).length = n := by rw [show Lib.byteCells S.data.toList = bv S from rfl, bv_length, h.2.2.1]
  have key : Lib.BuilderAt 58 5 B bb p (Lib.byteCells S.data.toList) W := by
    refine ⟨h.2.2.2.1, .slice r n c, h.1, ?_, ?_⟩
    · rw [hl]
      obtain ⟨h0, h1, ⟨h2, h3, h4⟩ | ⟨g, h2, h3, rest, h4, h5, h6⟩⟩ := h.2.1
      · subst h2 h3 h4
        exact ⟨by simpa using hl, Or.inl ⟨rfl, rfl⟩⟩
      · subst h2
        have hbl : (bv S).length = n := hl
        refine ⟨by simpa using hl, Or.inr ⟨g, c, (bv S ++ rest).toArray, rfl, h3, h6, by omega, by unfold maxLen; omega, by simp; omega, ?_⟩⟩
        rw [Nat.mul_one, ← hbl]
        show (bv S ++ rest).take (bv S).length = bv S
        rw [List.take_left]
    · intro e
      have := h.notb
      cases r with
      | none => cases e
      | some a =>
        unfold Value.ownBlock at e
        injection e with e
        exact this (by unfold rvB; simp [e])
  rcases h.2.2.2.2 with e | e
  · rw [e] at key; exact Or.inl key
  · rw [e] at key; exact Or.inr key
theorem le_bstr {W : World} {B bb : Nat} {p : Value} {r : Option Addr} {n c : Nat} {S : ByteArray} (h : BD W B bb p r n c S) (hB : B ≤ W.heap.size) :
    Calls Tryz.prog 34 #[.pointer (some ⟨bb, 0, none⟩)] W fun e w' => e = .returned (.string S) ∧ Below B W w' := by
  refine (Tryz.Builder_String_any B bb S.data.toList W h.isB hB).mono ?_
  rintro e w' ⟨rfl, b⟩
  exact ⟨by simp, b⟩
theorem Lo.wr_bad {L : List Ev} {x : Ev} (hx : x ∈ L) (hg : Lo.good x = false) : Lo.wr L = ({ data := #[] }, 2) := by
  unfold Lo.wr
  rw [if_neg (fun h => by rw [h x hx] at hg; cases hg)]
theorem Lo.wr_good {L : List Ev} (h : ∀ x ∈ L, Lo.good x = true) : Lo.wr L = (Le.t (Lo.cat L), 0) := by
  unfold Lo.wr
  rw [if_pos h]
theorem Lo.t_app (a b : List UInt8) : Le.t a ++ Le.t b = Le.t (a ++ b) := by
  refine Le.t_of ?_
  rw [ByteArray.data_append, Array.toList_append, Le.t_list, Le.t_list]
/-- What a round of Write keeps. -/
structure WS (w W : World) (X : Nat) (p : Value) (rb : Option Addr) (nb cb : Nat) (S : ByteArray) : Prop where
  bd : BD W X X p rb nb cb S
  be : Below X w W
  le : X ≤ W.heap.size
theorem WS.below {w W W' : World} {X : Nat} {p : Value} {rb : Option Addr} {nb cb : Nat} {S : ByteArray} (h : WS w W X p rb nb cb S) (k : Below W.heap.size W W') : WS w W' X p rb nb cb S := ⟨h.bd.same (Chg.of_fresh k), h.be.trans (k.mono h.le), Nat.le_trans h.le k.size⟩
set_option maxRecDepth 20000 in
set_option maxHeartbeats 16000000 in
theorem lo_write (a : Option Addr) (len cap : Nat) (L : List Ev) (hl : L.length = len) (hlm : len ≤ 1000) (hb24 : ∀ x ∈ L, x.b.size ≤ 24) (T : ByteArray) (te : Int) (hT : Lo.wr L = (T, te)) (w : World) (HE : EL w a L) (htab : Lib.TabIs Tryz.prog w "internal/strconv.uint64pow10" .u64 Lib.pow10Tab) (hwi : WI w) (hsi : SI w) :
    Calls Tryz.prog 18 #[.slice a len cap] w fun r w' => r = .returned (.tuple #[.string T, .int .i64 te]) ∧ Below w.heap.size w w' := by
  obtain ⟨X, hX⟩ : ∃ X, w.heap.size = X := ⟨_, rfl⟩
  have k0 : Below w.heap.size w (w.alloc (.cells #[.pointer none, .slice none 0 0] 58)) := (Below.refl _ _).alloc (Nat.le_refl _) _
  have HS : Hid (WS w (w.alloc (.cells #[.pointer none, .slice none 0 0] 58)) X (.pointer none) none 0 0 (Le.t (Lo.cat (L.take 0)))) := Lib.hid ⟨⟨by rw [← hX]; exact Blk.newA _ _ _, RM.nil _ _ _ _ (by rw [World.size_alloc]; omega), rfl, Nat.le_refl _, Or.inl rfl⟩, by rw [← hX]; exact k0, by rw [World.size_alloc]; omega⟩
  have HG := Lib.hid (And.intro hwi (And.intro hsi (And.intro htab hX)))
  have HL := Lib.hid (And.intro hl (And.intro hb24 (And.intro HE hT)))
  clear hl HE hb24 hT htab hwi hsi k0
  go_enter Tryz.func18, Tryz.ntmps18
  go_upto_region 2 with fail
  revert HS
  clear hX
  generalize (w.alloc (.cells #[.pointer none, .slice none 0 0] 58)) = W1
  intro HS
  go_wp2_with fail
  go_loopw [11] (fun z wr => ∃ (j : Nat) (p : Value) (rb : Option Addr) (nb cb : Nat), z = .int .i64 j ∧ j ≤ len ∧ Hid (WS w wr X p rb nb cb (Le.t (Lo.cat (L.take j))) ∧ ∀ x ∈ L.take j, Lo.good x = true)) (fun z _ => len - (intOf z).toNat)
  case atStart => exact ⟨0, _, _, _, _, rfl, by omega, Lib.hid ⟨HS.out, by simp⟩⟩
  case round =>
    clear HS
    obtain ⟨j, p, rb, nb, cb, rfl, hj, HB⟩ := hrel
    have j0 : (0 : Int) ≤ (j : Int) := by omega
    by_cases hjn : j < len
    · have i1 : (j : Int) < (len : Int) := by omega
      have w1 : IntKind.i64.wrap ((j : Int) + 1) = (j : Int) + 1 := IntWalk.i64_in _ (by omega)
      obtain ⟨⟨k, i, n, t, b, e, s0, s1, s2, s3, s4, s5⟩, es⟩ : ∃ x, L[j]? = some x := ⟨_, List.getElem?_eq_getElem (by rw [HL.out.1]; exact hjn)⟩
      have hxm := List.mem_of_getElem? es
      have hok : Ev.ok ⟨k, i, n, t, b, e, s0, s1, s2, s3, s4, s5⟩ := HL.out.2.2.1.ok _ hxm
      have hbb : b.size ≤ 24 := HL.out.2.1 _ hxm
      obtain ⟨hb, ga, o, rfl, hgw, e0, e1, e2, e3, e4, e5, e6, e7, e8, e9, e10, e11⟩ := (HL.out.2.2.1.below (by rw [HG.out.2.2.2]; exact HB.out.1.be)).get es
      obtain ⟨S1, hS1⟩ : ∃ S1, Le.t (Lo.cat (L.take j)) = S1 := ⟨_, rfl⟩
      have hlen1 : S1.size ≤ 251 * 1000 := by
        rw [← hS1, Le.t_size]
        have h := Lo.cat_len (L.take j) (fun x hx => ⟨HL.out.2.2.1.ok x (List.mem_of_mem_take hx), HL.out.2.1 x (List.mem_of_mem_take hx)⟩)
        have h4 : (L.take j).length ≤ 1000 := by rw [List.length_take]; omega
        have h5 : 251 * (L.take j).length ≤ 251 * 1000 := Nat.mul_le_mul_left _ h4
        omega
      have hnb : nb = S1.size := by rw [← hS1]; exact HB.out.1.bd.2.2.1
      rw [hS1] at HB
      obtain ⟨R, er, hp⟩ : ∃ R er, Lo.pr ⟨k, i, n, t, b, e, s0, s1, s2, s3, s4, s5⟩ = (R, er) := ⟨_, _, rfl⟩
      have HV := Lib.hid (And.intro es (And.intro hok (And.intro hbb (And.intro hp (And.intro hS1 (show b.size ≤ 4000 by omega))))))
      have hnx : X ≤ wr.heap.size := HB.out.1.le
      have HJ : Hid (WS w (wr.alloc (.cells #[.int .i64 k, .int .i64 i, .int .i64 n, .int .i64 t, .string b, .int .i64 e, .int .i64 s0, .int .i64 s1, .int .i64 s2, .int .i64 s3, .int .i64 s4, .int .i64 s5] 26)) X p rb nb cb S1 ∧ Blk (wr.alloc (.cells #[.int .i64 k, .int .i64 i, .int .i64 n, .int .i64 t, .string b, .int .i64 e, .int .i64 s0, .int .i64 s1, .int .i64 s2, .int .i64 s3, .int .i64 s4, .int .i64 s5] 26)) wr.heap.size [.int .i64 k, .int .i64 i, .int .i64 n, .int .i64 t, .string b, .int .i64 e, .int .i64 s0, .int .i64 s1, .int .i64 s2, .int .i64 s3, .int .i64 s4, .int .i64 s5] 26) := Lib.hid ⟨HB.out.1.below ((Below.refl _ _).alloc (Nat.le_refl _) _), Blk.newA _ _ _⟩
      have HB2 := Lib.hid HB.out.2
      clear hxm hok hbb hb es hS1 hp hnx HB
      go_upto_region 5 with fail
      clear e0 e1 e2 e3 e4 e5 e6 e7 e8 e9 e10 e11 hgw
      revert HJ
      generalize (wr.alloc (.cells #[.int .i64 k, .int .i64 i, .int .i64 n, .int .i64 t, .string b, .int .i64 e, .int .i64 s0, .int .i64 s1, .int .i64 s2, .int .i64 s3, .int .i64 s4, .int .i64 s5] 26)) = V1
      generalize wr.heap.size = X3
      intro HJ
      have y0 := HJ.out.2.cell (i := 0) rfl
      have y1 := HJ.out.2.cell (i := 1) rfl
      have y2 := HJ.out.2.cell (i := 2) rfl
      have y3 := HJ.out.2.cell (i := 3) rfl
      have y4 := HJ.out.2.cell (i := 4) rfl
      have y5 := HJ.out.2.cell (i := 5) rfl
      have y6 := HJ.out.2.cell (i := 6) rfl
      have y7 := HJ.out.2.cell (i := 7) rfl
      have y8 := HJ.out.2.cell (i := 8) rfl
      have y9 := HJ.out.2.cell (i := 9) rfl
      have y10 := HJ.out.2.cell (i := 10) rfl
      have y11 := HJ.out.2.cell (i := 11) rfl
      go_upto_region 6 with (go_at_call 7; (with_reducible refine (lo_print12 k i n t b e s0 s1 s2 s3 s4 s5 HV.out.2.1 HV.out.2.2.2.2.2 R er HV.out.2.2.2.1 _ (tab_below (by rw [HG.out.2.2.2]; exact HJ.out.1.be) HG.out.2.2.1) (HG.out.1.below (by rw [HG.out.2.2.2]; exact HJ.out.1.be)) (HG.out.2.1.below (by rw [HG.out.2.2.2]; exact HJ.out.1.be))).mono ?_); rintro r9 V3 ⟨rfl, bb⟩; have HJ3 := Lib.hid (HJ.out.1.below bb); clear bb)
      clear y0 y1 y2 y3 y4 y5 y6 y7 y8 y9 y10 y11
      by_cases hg : Lo.good ⟨k, i, n, t, b, e, s0, s1, s2, s3, s4, s5⟩ = true
      · obtain ⟨hR, her⟩ : R = Le.t (Lo.line ⟨k, i, n, t, b, e, s0, s1, s2, s3, s4, s5⟩) ∧ er = 0 := by
          have h := HV.out.2.2.2.1
          unfold Lo.pr at h
          rw [if_pos hg] at h
          exact ⟨(Prod.mk.inj h).1.symm, (Prod.mk.inj h).2.symm⟩
        subst her
        obtain ⟨S3, hS3⟩ : ∃ S3, R ++ { data := #[10] } = S3 := ⟨_, rfl⟩
        obtain ⟨S4, hS4⟩ : ∃ S4, Le.t (Lo.cat (L.take (j + 1))) = S4 := ⟨_, rfl⟩
        have hS3l : S3 = Le.t (Lo.line ⟨k, i, n, t, b, e, s0, s1, s2, s3, s4, s5⟩ ++ [10]) := by rw [← hS3, hR]; exact Lo.t_app _ [10]
        have hS134 : S1 ++ S3 = S4 := by rw [← hS4, take_snocE HV.out.1, Lo.cat_snoc, ← HV.out.2.2.2.2.1, hS3l]; exact Lo.t_app _ _
        have hrs : R.size ≤ 250 := by rw [hR, Le.t_size]; exact Lo.line_sz _ HV.out.2.1 HV.out.2.2.1
        have hsz : nb + S3.size ≤ 1000000 := by
          rw [← hS3, ByteArray.size_append]
          have h1 : ({ data := #[10] } : ByteArray).size = 1 := rfl
          omega
        have HGD : Hid (∀ x ∈ L.take (j + 1), Lo.good x = true) := Lib.hid (fun x hx => by
          rw [take_snocE HV.out.1] at hx
          rcases List.mem_append.1 hx with h | h
          · exact HB2.out x h
          · rw [List.mem_singleton.1 h]; exact hg)
        have HT := Lib.hid (And.intro hS3 (And.intro hS134 (And.intro hS4 hsz)))
        clear hS3 hS4 hS3l hS134 hsz hg hR
        go_wp2_with (go_at_call 33; (refine (le_wstr X X p rb nb cb S1 _ (Le.t (Lo.cat (L.take (j + 1)))) (by rw [HT.out.2.2.1, ← HT.out.2.1, ← HT.out.1]) (by rw [HT.out.1]; exact HT.out.2.2.2) _ HJ3.out.le HJ3.out.bd).mono ?_); rintro r9 V4 ⟨p4, rb4, nb4, cb4, v4, rfl, q1, q2, q3⟩; have HJ4 : Hid (WS w V4 X p4 rb4 nb4 cb4 (Le.t (Lo.cat (L.take (j + 1))))) := Lib.hid ⟨q1, q2.onto HJ3.out.be HJ3.out.le (fun y hy => by
            rcases List.mem_cons.1 hy with e | e
            · omega
            · exact (HJ3.out.bd.2.1.lt y e).1), Nat.le_trans HJ3.out.le q2.size⟩; clear q1 q2 q3)
        all_goals first | (show False; omega) | skip
        go_roundw
        case rel => exact ⟨j + 1, _, _, _, _, by go_num, by omega, Lib.hid ⟨HJ4.out, HGD.out⟩⟩
        case measure => simp [intOf]; omega
      · have hgf : Lo.good ⟨k, i, n, t, b, e, s0, s1, s2, s3, s4, s5⟩ = false := by simpa using hg
        obtain ⟨hR, her⟩ : R = { data := #[] } ∧ er = 2 := by
          have h := HV.out.2.2.2.1
          unfold Lo.pr at h
          rw [if_neg hg] at h
          exact ⟨(Prod.mk.inj h).1.symm, (Prod.mk.inj h).2.symm⟩
        subst hR her
        have HZ : Hid (({ data := #[] } : ByteArray) = T ∧ (2 : Int) = te) := Lib.hid (by
          have h := (Lo.wr_bad (List.mem_of_getElem? HV.out.1) hgf).symm.trans HL.out.2.2.2
          exact Prod.mk.inj h)
        clear hg hgf
        go_wp2_with fail
        go_ret2
        exact ⟨by rw [← HZ.out.1, ← HZ.out.2] <;> rfl, by rw [HG.out.2.2.2]; exact HJ3.out.be⟩
    · obtain rfl : j = len := by omega
      have i1 : ¬ (j : Int) < (j : Int) := by omega
      have HF : Hid (WS w wr X p rb nb cb T ∧ (0 : Int) = te) := Lib.hid (by
        have h := HB.out
        rw [List.take_of_length_le (by rw [HL.out.1]; exact Nat.le_refl _)] at h
        have h2 := (Lo.wr_good h.2).symm.trans HL.out.2.2.2
        obtain ⟨h3, h4⟩ := Prod.mk.inj h2
        rw [h3] at h
        exact ⟨h.1, h4⟩)
      clear HB
      go_wp2_with (go_at_call 34; (with_reducible refine (le_bstr HF.out.1.bd HF.out.1.le).mono ?_); rintro r9 V5 ⟨rfl, bb⟩; have HE5 : Hid (Below X w V5) := Lib.hid (HF.out.1.be.trans bb); clear bb)
      go_ret2
      exact ⟨by rw [← HF.out.2] <;> rfl, by rw [HG.out.2.2.2]; exact HE5.out⟩
end Go.Proofs.YtfhhkmjjifbfeaaGreatDoor
