/- Several texts in one. -/
import Derived.Test.YtbdjcppkfihonaaHdB
import Derived.Deep.RegionLaw
import Derived.WalkKit
import Derived.ProofKit
import Derived.Handy
import Derived.WalkLawsBesides
import Derived.WalkSpells
import Derived.Lib.Hide
import Derived.RegionTactic
import Derived.ChangeAlike
import Derived.WalkSmall
import Derived.Deep.QuietTactic
import Derived.BigQuiet
import Derived.OwnWalk
import Derived.Outline
import Derived.Deep.CutRange
import Derived.Deep.CutBlock
import Derived.LoopTactic
/- Hold: a look at a new window, by the first end of a match. -/
namespace Go.Proofs.Ytbdjcppkfihonaa
open Go.ChangeShapes Go.WideShapes Go.ChangeAt Go.RowKit
set_option linter.unusedSimpArgs false
set_option linter.unusedVariables false

theorem tk_step {T : List UInt8} {K : Nat} (h : K < T.length) : T.drop K = T[K] :: T.drop (K + 1) ∧ T.take K ++ [T[K]] = T.take (K + 1) :=
  ⟨List.drop_eq_getElem_cons h, by rw [List.take_add_one, List.getElem?_eq_getElem h]; rfl⟩
/-- What is told behind the first k bytes. -/
def Hd.F (Ls : List (List (Bool × BitVec 256))) (T : List UInt8) (k : Nat) : Nat × Bool := Ar.fs (Ar.dn Ls (Ar.stk Ls (lgT T) k)) Ls.length
theorem at_take {Ls : List (List (Bool × BitVec 256))} {T : List UInt8} {K : Nat} : Hd.at Ls (T.take (K + 1)) K = Hd.F Ls T (K + 1) := by
  unfold Hd.at Hd.F
  rw [stk_congr (K + 1) fun j hj => ?_]
  unfold lgT
  rw [List.getElem?_take, if_pos hj]
/-- A byte comes and nothing is told. -/
theorem look_step {Ls : List (List (Bool × BitVec 256))} {W : Nat} {T : List UInt8} {K f : Nat} (hK : K < T.length) (hW : K < W) (hF : (Hd.F Ls T (K + 1)).2 = false) :
    Hd.look Ls W (f + 1) (T.take K) K (T.drop K) K = Hd.look Ls W f (T.take (K + 1)) (K + 1) (T.drop (K + 1)) (K + 1) := by
  have hl : (T.take K).length = K := by rw [List.length_take]; omega
  have hl2 : (T.take (K + 1)).length = K + 1 := by rw [List.length_take]; omega
  rw [(tk_step hK).1, look_read (by omega) hl.symm (by omega), (tk_step hK).2]
  obtain ⟨q, hq⟩ : ∃ q, Hd.at Ls (T.take (K + 1)) K = (q, false) := ⟨(Hd.F Ls T (K + 1)).1, by rw [at_take, ← hF]⟩
  rw [look_on (by omega) hq]
theorem look_tell {Ls : List (List (Bool × BitVec 256))} {W : Nat} {T : List UInt8} {K f q : Nat} (hK : K < T.length) (hW : K < W) (hF : Hd.F Ls T (K + 1) = (q, true)) :
    Hd.look Ls W (f + 1) (T.take K) K (T.drop K) K = ⟨[], 0, T.drop (K + 1), true, false, q, K + 1, K + 1⟩ := by
  have hl : (T.take K).length = K := by rw [List.length_take]; omega
  have hl2 : (T.take (K + 1)).length = K + 1 := by rw [List.length_take]; omega
  rw [(tk_step hK).1, look_read (by omega) hl.symm (by omega), (tk_step hK).2, look_hit (by omega) (by rw [at_take]; exact hF), List.drop_eq_nil_of_le (by omega)]
theorem look_some {Ls : List (List (Bool × BitVec 256))} {W : Nat} {T : List UInt8} {m q : Nat} (hm : m ≤ T.length) (hmW : m ≤ W) (hF : Hd.F Ls T m = (q, true)) (hn : ∀ j, 1 ≤ j → j < m → (Hd.F Ls T j).2 = false) :
    ∀ d K f, m = K + 1 + d → T.length - K < f → Hd.look Ls W f (T.take K) K (T.drop K) K = ⟨[], 0, T.drop m, true, false, q, m, m⟩
  | 0, K, f, hd, hf => by
    obtain ⟨f', rfl⟩ : ∃ f', f = f' + 1 := ⟨f - 1, by omega⟩
    have e : m = K + 1 := by omega
    subst e
    exact look_tell (by omega) (by omega) hF
  | d + 1, K, f, hd, hf => by
    obtain ⟨f', rfl⟩ : ∃ f', f = f' + 1 := ⟨f - 1, by omega⟩
    rw [look_step (by omega) (by omega) (hn (K + 1) (by omega) (by omega))]
    exact look_some hm hmW hF hn d (K + 1) f' (by omega) (by omega)
theorem look_none {Ls : List (List (Bool × BitVec 256))} {W : Nat} {T : List UInt8} {M : Nat} (hM : min T.length W = M) (hn : ∀ j, 1 ≤ j → j ≤ M → (Hd.F Ls T j).2 = false) :
    ∀ d K f, M = K + d → T.length - K < f → Hd.look Ls W f (T.take K) K (T.drop K) K = ⟨T.take M, M, T.drop M, false, decide (W < T.length), 0, 0, M⟩
  | 0, K, f, hd, hf => by
    obtain ⟨f', rfl⟩ : ∃ f', f = f' + 1 := ⟨f - 1, by omega⟩
    have e : M = K := by omega
    subst e
    have hl : (T.take M).length = M := by rw [List.length_take]; omega
    by_cases h : M < T.length
    · rw [(tk_step h).1, look_full (by omega) (by omega), decide_eq_true (by omega)]
    · rw [List.drop_eq_nil_of_le (by omega), look_end (by omega), decide_eq_false (by omega)]
  | d + 1, K, f, hd, hf => by
    obtain ⟨f', rfl⟩ : ∃ f', f = f' + 1 := ⟨f - 1, by omega⟩
    rw [look_step (by omega) (by omega) (hn (K + 1) (by omega) (by omega))]
    exact look_none hM hn d (K + 1) f' (by omega) (by omega)
/-- A look of a window that holds nothing, at the bytes T of a ring: what Find finds in as many of them as there may be. -/
theorem look_find {Ls : List (List (Bool × BitVec 256))} {W : Nat} {T : List UInt8} {M q m : Nat} {is : Bool} (hM : min T.length W = M) (h : Ar.fi (Hd.F Ls T) M = (q, m, is)) :
    Hd.look Ls W (T.length + 1) [] 0 T 0 = if is then ⟨[], 0, T.drop m, true, false, q, m, m⟩ else ⟨T.take M, M, T.drop M, false, decide (W < T.length), 0, 0, M⟩ := by
  obtain ⟨h1, h2⟩ := fi_spec _ _ _ _ _ h
  cases is with
  | true =>
    obtain ⟨a1, a2, a3, a4⟩ := h1 rfl
    rw [if_pos rfl]
    exact look_some (by omega) (by omega) a3 a4 (m - 1) 0 (T.length + 1) (by omega) (by omega)
  | false =>
    obtain ⟨a1, a2, a3⟩ := h2 rfl
    rw [if_neg (by simp)]
    exact look_none hM a3 M 0 (T.length + 1) (by omega) (by omega)
theorem fi_congr {F G : Nat → Nat × Bool} : ∀ n, (∀ j, j ≤ n → F j = G j) → Ar.fi F n = Ar.fi G n
  | 0, _ => rfl
  | n + 1, h => by rw [Ar.fi, Ar.fi, fi_congr n (fun j hj => h j (by omega)), h (n + 1) (by omega)]
/-- The same told of the text cut to M bytes. -/
theorem F_take {Ls : List (List (Bool × BitVec 256))} {T : List UInt8} {M j : Nat} (hj : j ≤ M) : Hd.F Ls (T.take M) j = Hd.F Ls T j := by
  unfold Hd.F
  rw [stk_congr j fun i hi => ?_]
  unfold lgT
  rw [List.getElem?_take, if_pos (by omega)]
/-- Lists of items, kept: what changes holds no items, and isn't the lists' own row. -/
theorem LL.chg {w w' : World} {gl : Nat} {Ls : List (List (Bool × BitVec 256))} (h : LL w (some ⟨gl, 0, none⟩) Ls) {L : List Nat} (k : Chg L w w') (hgl : Ls ≠ [] → gl ∉ L) (hL : ∀ y ∈ L, ∀ b, w.cell? ⟨y, 0, none⟩ ≠ some (.bool b)) : LL w' (some ⟨gl, 0, none⟩) Ls := fun i l hi => by
  obtain ⟨h0, g, o, ai, ci, ha, hlt, cp, hk⟩ := h i l hi
  injection ha with ha
  injection ha with ha1 ha2
  subst ha1 ha2
  refine ⟨h0, gl, 0, ai, ci, rfl, Nat.lt_of_lt_of_le hlt k.size, by rw [← cp]; exact k.cell hlt (hgl (by rintro rfl; simp at hi)), ?_, hk.2⟩
  rcases hk.1 with e | ⟨bb, e, h1, h2⟩
  · exact Or.inl e
  · cases l with
    | nil => exact Or.inl rfl
    | cons y l =>
      obtain ⟨r, X⟩ := y
      have hb0 : w.cell? ⟨bb, 0, none⟩ = some (.bool r) := h2 0 (.bool r) (by simp [its, Cs.it])
      have hne : bb ∉ L := fun e => hL bb e r hb0
      refine Or.inr ⟨bb, e, Nat.lt_of_lt_of_le h1 k.size, fun i v hi => ?_⟩
      rw [← h2 i v hi]
      exact k.cell h1 hne
theorem AX.nb {w : World} {ap : Option Addr} {xs : List Nat} {Ls : List (List (Bool × BitVec 256))} {f : Nat → BitVec 64} {fed : Nat} (h : AX w ap xs Ls f fed) : ∀ y ∈ xs, ∀ b, w.cell? ⟨y, 0, none⟩ ≠ some (.bool b) := by
  intro y hy b hb
  rcases h with ⟨_, _, rfl⟩ | ⟨x, gs, cs, bb, ca, A, n, rfl, rfl, ⟨h1, h2⟩, h3, h4, h5⟩
  · cases hy
  · unfold axB at hy
    split at hy
    · simp at hy; subst hy; rw [h1.c0] at hb; cases hb
    · rename_i hn
      simp at hy
      rcases hy with rfl | rfl
      · rw [h1.c0] at hb; cases hb
      · rw [h1.cg (by omega)] at hb; cases hb
end Go.Proofs.Ytbdjcppkfihonaa
/- Hold: window, ring and the lists of the document, apart. -/
namespace Go.Proofs.Ytbdjcppkfihonaa
open Go.ChangeShapes Go.WideShapes Go.ChangeAt Go.RowKit
set_option linter.unusedSimpArgs false
set_option linter.unusedVariables false

theorem pk_most9 (S : ByteArray) (n : Nat) (h : S.size ≤ n) : pk S 0 n = S := by
  rw [pk_zero, show clN n S.size = S.size by (unfold clN; rw [if_neg (by omega)]; omega), cut_whole]
set_option maxRecDepth 20000 in
theorem new_any0 (n : Nat) (x : Int) (w : World) (hn : min (max x 1) 4096 = (n : Int)) :
    Calls Try.prog 34 #[.int .i64 x] w fun e w' => e = .returned (.pointer (some ⟨w.heap.size + 1, 0, none⟩)) ∧ RAt w' (w.heap.size + 1) w.heap.size n 0 ByteArray.empty ∧ w'.cell? ⟨w.heap.size, 0, none⟩ = some (.int .u8 0) ∧ Below w.heap.size w w' := by
  have hmk : ∀ W, (Instr.makeSlice 85 (.int .i64 n) (.int .i64 n)).run Try.prog W = .ok (.slice (some ⟨W.heap.size, 0, none⟩) n n) (W.alloc (.cells (List.replicate n (.int .u8 0)).toArray 5)) := fun W =>
    run_make_blk W _ _ _ Try.underlying85 1 info5 rfl n n (Nat.le_refl _) (by omega) (by omega)
  have n1 : 1 ≤ n ∧ n ≤ 4096 := by omega
  go_enter Try.func34, Try.ntmps34
  go_wp2
  go_ret
  have hB : Blk ((w.alloc (Obj.cells (Array.replicate n (Value.int IntKind.u8 0)) 5)).alloc (Obj.cells #[.slice (some ⟨w.heap.size, 0, none⟩) n n, .int .i64 0, .int .i64 0] 110)) w.heap.size (List.replicate n (.int .u8 0)) 5 := by
    have := (Blk.newA w (Array.replicate n (Value.int IntKind.u8 0)) 5).alloc (Obj.cells #[.slice (some ⟨w.heap.size, 0, none⟩) n n, .int .i64 0, .int .i64 0] 110)
    rw [Array.toList_replicate] at this
    exact this
  refine ⟨rfl, ⟨n1.1, n1.2, by omega, by simp, by omega, ?_, List.replicate n (.int .u8 0), by simp, hB, fun i hi => absurd hi (by simp)⟩, hB.cell (i := 0) (by rw [List.getElem?_replicate]; rw [if_pos (by omega)]), ((Below.refl _ _).alloc (Nat.le_refl _) _).alloc (by simp) _⟩
  have := Blk.newA (w.alloc (Obj.cells (Array.replicate n (Value.int IntKind.u8 0)) 5)) #[.slice (some ⟨w.heap.size, 0, none⟩) n n, .int .i64 0, .int .i64 0] 110
  simpa using this
theorem RAt.c0 {w : World} {b g n f : Nat} {S : ByteArray} (h : RAt w b g n f S) : w.cell? ⟨b, 0, none⟩ = some (.slice (some ⟨g, 0, none⟩) n n) := by
  obtain ⟨h1, h2, h3, h4, h5, h6, R, h7, h8, h9⟩ := h
  exact h6.cell (i := 0) rfl
/-- A window (its text is none), a ring, and the document's lists, apart from both. -/
def FL (B : Nat) (w0 w : World) (h b g n W gl : Nat) (pv : Value) (ap : Option Addr) (xs : List Nat) (Ls Lz : List (List (Bool × BitVec 256))) (K f : Nat) (R : ByteArray) : Prop :=
  LS B w0 w h b g n W pv ap xs Ls none 0 0 ByteArray.empty K f R ∧ LL w (some ⟨gl, 0, none⟩) Lz ∧ (Lz ≠ [] → gl ≠ h ∧ gl ≠ b ∧ gl ≠ g ∧ gl ∉ xs ∧ gl < w.heap.size) ∧ (∀ v, w.cell? ⟨g, 0, none⟩ ≠ some (.bool v))
theorem FL.below {B : Nat} {w0 w : World} {h b g n W gl : Nat} {pv : Value} {ap : Option Addr} {xs : List Nat} {Ls Lz : List (List (Bool × BitVec 256))} {K f : Nat} {R : ByteArray} (H : FL B w0 w h b g n W gl pv ap xs Ls Lz K f R) {w' : World} (k : Below w.heap.size w w') : FL B w0 w' h b g n W gl pv ap xs Ls Lz K f R :=
  ⟨H.1.below k, H.2.1.below k, fun z => ⟨(H.2.2.1 z).1, (H.2.2.1 z).2.1, (H.2.2.1 z).2.2.1, (H.2.2.1 z).2.2.2.1, Nat.lt_of_lt_of_le (H.2.2.1 z).2.2.2.2 k.size⟩, fun v => by rw [Chg.cell (l := []) (Chg.of_fresh k) H.1.2.2.1.lts.2 (by simp)]; exact H.2.2.2 v⟩
theorem fl_new {B : Nat} {w0 w : World} {h b g n W gl : Nat} {pv : Value} {Ls Lz : List (List (Bool × BitVec 256))} {K f : Nat} {R : ByteArray} (H : LS B w0 w h b g n W pv none [] Ls none 0 0 ByteArray.empty K f R) (hc : w.cell? ⟨g, 0, none⟩ = some (.int .u8 0)) {w' : World} (k : Below w.heap.size w w') (hl : LL w' (some ⟨gl, 0, none⟩) Lz) (hgl : w.heap.size ≤ gl) : FL B w0 w' h b g n W gl pv none [] Ls Lz K f R := by
  have h1 := H.1.o.lt
  have h2 := H.2.2.1.lts
  refine ⟨H.below k, hl, fun z => ⟨by omega, by omega, by omega, by simp, by
    obtain ⟨l, hl0⟩ : ∃ l, Lz[0]? = some l := ⟨_, List.getElem?_eq_getElem (List.length_pos_iff.2 z)⟩
    obtain ⟨_, g1, o1, ai, ci, ha, hlt, _⟩ := hl 0 l hl0
    injection ha with ha; injection ha with ha1 ha2; omega⟩, fun v => ?_⟩
  rw [Chg.cell (l := []) (Chg.of_fresh k) h2.2 (by simp), hc]
  intro e; cases e
theorem fl_begin {B : Nat} {w0 w : World} {h b g n W gl : Nat} {pv : Value} {ap : Option Addr} {xs : List Nat} {Ls Lz : List (List (Bool × BitVec 256))} {K f : Nat} {R : ByteArray} (H : FL B w0 w h b g n W gl pv ap xs Ls Lz K f R) (ss : List ByteArray) (k : Nat) (hk : ss.length = k) (hk8 : k ≤ 8) (gg c : Nat) (hs : ∀ s ∈ ss, s.size ≤ 1000000) (he : (Ar.nw ss k).2 = 0) (hI : TX w (some ⟨gg, 0, none⟩) ss) (Ls' : List (List (Bool × BitVec 256))) (hL : ss.map Ar.pat = Ls') :
    Calls Try.prog 42 #[.pointer (some ⟨h, 0, none⟩), .slice (some ⟨gg, 0, none⟩) k c] w fun r w' => ∃ x gp cp xs', r = .returned (.int .i64 0) ∧ FL B w0 w' h b g n W gl (.slice (some ⟨gp, 0, none⟩) k cp) (some ⟨x, 0, none⟩) xs' Ls' Lz 0 f R :=
  (hd_begin_yes h W 0 0 K none ap ByteArray.empty pv ss k hk hk8 gg c hs he w H.1.1 hI).mono fun r w' ⟨x, gp, cp, xs', q0, q1, q2, q3, q4, q5, q6⟩ => by
    have hsp := H.1.2.2.2.1
    have hB := H.1.2.2.2.2.1
    have hg := H.2.2.1
    rw [hL] at q2
    refine ⟨x, gp, cp, xs', q0, ⟨q1, q2, H.1.2.2.1.chg q6 (by simp; exact fun e => hsp.1 e.symm) (by simp; exact fun e => hsp.2.1 e.symm), hsp, ⟨hB.1, hB.2.1, hB.2.2.1, fun y hy => Nat.le_trans H.1.2.2.2.2.2.2 (q5 y hy), hB.2.2.2.2⟩, q6.onto H.1.2.2.2.2.2.1 H.1.2.2.2.2.2.2 (fun y hy => by simp at hy; omega), Nat.le_trans H.1.2.2.2.2.2.2 q6.size⟩, H.2.1.chg q6 (fun z => by simp; exact (hg z).1) (fun y hy v => by simp at hy; rw [hy, H.1.1.o.cell (i := 0) rfl]; intro e; cases e), fun z => ⟨(hg z).1, (hg z).2.1, (hg z).2.2.1, fun e => by have := q5 _ e; have := hg z; omega, Nat.lt_of_lt_of_le (hg z).2.2.2.2 q6.size⟩, fun v => ?_⟩
    rw [q6.cell H.1.2.2.1.lts.2 (by simp; exact fun e => hsp.2.1 e.symm)]
    exact H.2.2.2 v
/-- As FL, without what the ring's row begins with. -/
def FM (B : Nat) (w0 w : World) (h b g n W gl : Nat) (pv : Value) (ap : Option Addr) (xs : List Nat) (Ls Lz : List (List (Bool × BitVec 256))) (K f : Nat) (R : ByteArray) : Prop :=
  LS B w0 w h b g n W pv ap xs Ls none 0 0 ByteArray.empty K f R ∧ LL w (some ⟨gl, 0, none⟩) Lz ∧ (Lz ≠ [] → gl ≠ h ∧ gl ≠ b ∧ gl ≠ g ∧ gl ∉ xs ∧ gl < w.heap.size)
theorem fl_put {B : Nat} {w0 w : World} {h b g n W gl : Nat} {pv : Value} {ap : Option Addr} {xs : List Nat} {Ls Lz : List (List (Bool × BitVec 256))} {K f : Nat} {R : ByteArray} (H : FL B w0 w h b g n W gl pv ap xs Ls Lz K f R) (s : ByteArray) (hs : s.size ≤ 100000) :
    Calls Try.prog 36 #[.pointer (some ⟨b, 0, none⟩), .string s] w fun e w' => e = .returned (.int .i64 (min s.size (n - R.size) : Nat)) ∧ FM B w0 w' h b g n W gl pv ap xs Ls Lz K f (R ++ s.extract 0 (min s.size (n - R.size))) :=
  (put_any b g n f R s w hs H.1.2.2.1).mono fun e w' ⟨he, q1, q2⟩ => by
    have hsp := H.1.2.2.2.1
    have hB := H.1.2.2.2.2.1
    have hg := H.2.2.1
    have ot := H.1.2.2.1.ots
    refine ⟨he, ⟨H.1.1.chg q2 (by simp; exact ⟨hsp.1, hsp.2.1⟩) (fun x hx => by simp; exact hsp.2.2 x hx), H.1.2.1.chg q2 (fun x hx => by simp at hx; rcases hx with e | e; rw [e]; exact ot.1; rw [e]; exact ot.2), q1, hsp, hB, q2.onto H.1.2.2.2.2.2.1 H.1.2.2.2.2.2.2 (fun x hx => by simp at hx; rcases hx with e | e <;> omega), Nat.le_trans H.1.2.2.2.2.2.2 q2.size⟩, H.2.1.chg q2 (fun z => by simp; exact ⟨(hg z).2.1, (hg z).2.2.1⟩) (fun y hy v => ?_), fun z => ⟨(hg z).1, (hg z).2.1, (hg z).2.2.1, (hg z).2.2.2.1, Nat.lt_of_lt_of_le (hg z).2.2.2.2 q2.size⟩⟩
    simp at hy
    rcases hy with e | e
    · rw [e, H.1.2.2.1.c0]; intro e; cases e
    · rw [e]; exact H.2.2.2 v
theorem fm_look {B : Nat} {w0 w : World} {h b g n W gl : Nat} {pv : Value} {ap : Option Addr} {xs : List Nat} {Ls Lz : List (List (Bool × BitVec 256))} {f : Nat} {R : ByteArray} (H : FM B w0 w h b g n W gl pv ap xs Ls Lz 0 f R) (S2 Q2 : List UInt8) (K2 : Nat) (hit full : Bool) (arm gone rd : Nat) (hres : Hd.look Ls W (R.size + 1) [] 0 R.data.toList 0 = ⟨S2, K2, Q2, hit, full, arm, gone, rd⟩) :
    Calls Try.prog 39 #[.pointer (some ⟨h, 0, none⟩), .pointer (some ⟨b, 0, none⟩)] w fun e w' => e = .returned (.agg #[.bool hit, .bool full, .int .i64 arm, .int .i64 gone, .int .i64 rd]) ∧ ∃ t' m' ct' S' f' R', LS B w0 w' h b g n W pv ap xs Ls t' m' ct' S' K2 f' R' ∧ LL w' (some ⟨gl, 0, none⟩) Lz ∧ S'.data.toList = S2 ∧ R'.data.toList = Q2 ∧ S'.size = m' := by
  have hl := H.1.2.2.1.lts
  have hs := H.1.2.2.2.1
  have hB := H.1.2.2.2.2.1
  have hw := H.1.2.2.2.2.2.2
  have hg := H.2.2
  have hres2 : Hd.look Ls W ((0 - 0) + R.size + 1) ByteArray.empty.data.toList 0 R.data.toList 0 = ⟨S2, K2, Q2, hit, full, arm, gone, rd⟩ := by
    rw [show (0 - 0) + R.size + 1 = R.size + 1 by omega]; exact hres
  refine (hd_look h b g n f W 0 0 0 none ap ByteArray.empty R pv xs Ls _ hres2 ⟨hs.1, hs.2.1⟩ hs.2.2 w H.1.1 H.1.2.1 H.1.2.2.1).mono fun e w' ⟨he, t', m', ct', S', f', R', q1, q2, q3, q4, q5, q6, q7⟩ => ?_
  have htb : ∀ x, x ∉ tvB none 0 := fun x hx => by simp [tvB] at hx
  refine ⟨he, t', m', ct', S', f', R', ⟨q1, by rw [q2]; exact q3, q4, ⟨hs.1, hs.2.1, fun x hx => ?_⟩, ⟨hB.1, hB.2.1, hB.2.2.1, hB.2.2.2.1, fun x hx => ?_⟩, q7.onto H.1.2.2.2.2.2.1 hw (fun x hx => ?_), Nat.le_trans hw q7.size⟩, H.2.1.chg q7 (fun z e => ?_) (fun y hy v => ?_), q2, q5, q1.tv.1⟩
  · rcases q6 x hx with e | e
    · exact absurd e (htb x)
    · omega
  · rcases q6 x hx with e | e
    · exact absurd e (htb x)
    · omega
  · simp at hx
    rcases hx with e | e | e | e
    · omega
    · omega
    · exact hB.2.2.2.1 x e
    · exact absurd e (htb x)
  · simp at e
    rcases e with e | e | e | e
    · exact (hg z).1 e
    · exact (hg z).2.1 e
    · exact (hg z).2.2.2.1 e
    · exact htb _ e
  · simp at hy
    rcases hy with e | e | e | e
    · rw [e, H.1.1.o.cell (i := 0) rfl]; intro e; cases e
    · rw [e, H.1.2.2.1.c0]; intro e; cases e
    · exact H.1.2.1.nb y e v
    · exact absurd e (htb _)
theorem ls_peek {B : Nat} {w0 w : World} {h b g n W : Nat} {pv : Value} {ap : Option Addr} {xs : List Nat} {Ls : List (List (Bool × BitVec 256))} {t : Option Addr} {m ct : Nat} {S : ByteArray} {K f : Nat} {R : ByteArray} (H : LS B w0 w h b g n W pv ap xs Ls t m ct S K f R) (k : Nat) (hk : R.size ≤ k) : Calls Try.prog 46 #[.pointer (some ⟨b, 0, none⟩), .int .i64 0, .int .i64 k] w fun e w' => e = .returned (.string R) ∧ LS B w0 w' h b g n W pv ap xs Ls t m ct S K f R :=
  (peek_any b g n f R 0 k w H.2.2.1).mono fun e w' ⟨he, q⟩ => ⟨by rw [he, pk_most9 R k hk], H.below q⟩
end Go.Proofs.Ytbdjcppkfihonaa
/- Hold: helpers of HoldFinds. -/
namespace Go.Proofs.Ytbdjcppkfihonaa
open Go.ChangeShapes Go.WideShapes Go.ChangeAt Go.RowKit
set_option linter.unusedSimpArgs false
set_option linter.unusedVariables false

theorem cut_list (s : ByteArray) (W : Nat) : (cutT s W).data.toList = s.data.toList.take (min s.size W) ∧ (cutT s W).size = min s.size W := by
  unfold cutT
  split
  · rename_i h
    refine ⟨?_, by rw [ByteArray.size_extract]; omega⟩
    rw [ByteArray.data_extract, Array.toList_extract, List.extract_eq_take_drop, List.drop_zero]
    congr 1; omega
  · rename_i h
    refine ⟨?_, by omega⟩
    rw [List.take_of_length_le (by rw [bl_size]; omega)]
theorem ring_whole (s : ByteArray) (h : s.size ≤ 32) : ByteArray.empty ++ s.extract 0 (min s.size (32 - ByteArray.empty.size)) = s := by
  have e : min s.size (32 - ByteArray.empty.size) = s.size := by rw [show ByteArray.empty.size = 0 from rfl]; omega
  rw [e, cut_whole, ByteArray.empty_append]
theorem ba_ext {A B : ByteArray} (h : A.data.toList = B.data.toList) : A = B := by
  apply ByteArray.ext
  rw [← Array.toArray_toList (xs := A.data), h, Array.toArray_toList]
/-- What is gone, what is held and what the ring holds yet make up the text. -/
theorem all_there {s S R : ByteArray} {t : List UInt8} (ht : s.data.toList = t) (k j : Nat) (hS : S.data.toList = (t.drop k).take (j - k)) (hR : R.data.toList = t.drop j) (hkj : k ≤ j) : s.extract 0 k ++ S ++ R = s := by
  apply ba_ext
  rw [ByteArray.data_append, ByteArray.data_append, Array.toList_append, Array.toList_append, hS, hR, ByteArray.data_extract, Array.toList_extract, List.extract_eq_take_drop, List.drop_zero, ht, Nat.sub_zero]
  have e1 : t.drop j = (t.drop k).drop (j - k) := by rw [List.drop_drop]; congr 1; omega
  rw [e1, List.append_assoc, List.take_append_drop, List.take_append_drop]
theorem ls_peek2 {B : Nat} {w0 w : World} {h b g n W : Nat} {pv : Value} {ap : Option Addr} {xs : List Nat} {Ls : List (List (Bool × BitVec 256))} {t : Option Addr} {m ct : Nat} {S : ByteArray} {K f : Nat} {R : ByteArray} (H : LS B w0 w h b g n W pv ap xs Ls t m ct S K f R) (k : Nat) (hk : R.size ≤ k) (ki : Int) (hki : ki = k) : Calls Try.prog 46 #[.pointer (some ⟨b, 0, none⟩), .int .i64 0, .int .i64 ki] w fun e w' => e = .returned (.string R) ∧ Below w.heap.size w w' := by
  subst hki
  exact (peek_any b g n f R 0 k w H.2.2.1).mono fun e w' ⟨he, q⟩ => ⟨by rw [he, pk_most9 R k hk], q⟩
/-- A look at a new window, as Find tells it. -/
theorem look_cut {Ls : List (List (Bool × BitVec 256))} {W N M m q mm : Nat} {is : Bool} {t : List UInt8} (hN : t.length = N) (hL : Ls.length = m) (hM : min N W = M) (h : Ar.fi (fun k => Ar.fs (Ar.dn Ls (Ar.stk Ls (lgT (t.take M)) k)) m) M = (q, mm, is)) :
    (is = true → 1 ≤ mm ∧ mm ≤ M ∧ Hd.look Ls W (N + 1) [] 0 t 0 = ⟨[], 0, t.drop mm, true, false, q, mm, mm⟩) ∧ (is = false → q = 0 ∧ mm = 0 ∧ Hd.look Ls W (N + 1) [] 0 t 0 = ⟨t.take M, M, t.drop M, false, decide (W < N), 0, 0, M⟩) := by
  subst hN
  have h2 : Ar.fi (Hd.F Ls t) M = (q, mm, is) := by
    rw [← h]
    refine fi_congr M fun j hj => ?_
    rw [← F_take hj]
    unfold Hd.F
    rw [hL]
  have h3 := look_find hM h2
  obtain ⟨a1, a2⟩ := fi_spec _ _ _ _ _ h2
  constructor
  · intro e
    rw [e, if_pos rfl] at h3
    exact ⟨(a1 e).1, (a1 e).2.1, h3⟩
  · intro e
    rw [e, if_neg (by simp)] at h3
    exact ⟨(a2 e).1, (a2 e).2.1, h3⟩
end Go.Proofs.Ytbdjcppkfihonaa
