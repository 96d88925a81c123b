/- Several texts in one. -/
import Derived.Test.YtbdjcppkfihonaaRw
import Derived.Deep.AppendSrc
import Derived.Test.YtbdjcppkfihonaaHdB
import Derived.Deep.RegionLaw
import Derived.WalkKit
import Derived.ProofKit
import Derived.Handy
import Derived.WalkLawsBesides
import Derived.WalkSpells
import Derived.Lib.Hide
import Derived.RegionTactic
import Derived.ChangeAlike
import Derived.WalkSmall
import Derived.Deep.QuietTactic
import Derived.BigQuiet
import Derived.OwnWalk
import Derived.Outline
import Derived.Deep.CutRange
import Derived.Deep.CutBlock
import Derived.LoopTactic
/- A row of records of one's own (sz cells each), known whole, and what an append leaves of it. Generic: names no function of the seat. -/
namespace Go.Proofs.Ytbdjcppkfihonaa
open Go.RowKit
set_option linter.unusedSimpArgs false
set_option linter.unusedVariables false

/-- The row L stands at the head of block g, with room up to cap behind it. -/
def Rn (w : World) (g cap sz : Nat) (L : List Value) (T : TypeId) : Prop := ∃ rest : List Value, L.length + rest.length = cap * sz ∧ cap ≤ 9223372036854775807 ∧ Blk w g (L ++ rest) T
theorem Rn.lt {w : World} {g cap sz : Nat} {L : List Value} {T : TypeId} (h : Rn w g cap sz L T) : g < w.heap.size := by
  obtain ⟨r, _, _, h⟩ := h; exact h.lt
theorem Rn.len {w : World} {g cap sz : Nat} {L : List Value} {T : TypeId} (h : Rn w g cap sz L T) : L.length ≤ cap * sz := by
  obtain ⟨r, h, _, _⟩ := h; omega
theorem Rn.chg {w w' : World} {g cap sz : Nat} {L : List Value} {T : TypeId} (h : Rn w g cap sz L T) {l : List Nat} (k : Chg l w w') (hg : g ∉ l) : Rn w' g cap sz L T := by
  obtain ⟨r, h1, h2, h3⟩ := h; exact ⟨r, h1, h2, h3.chg k hg⟩
theorem Rn.cell {w : World} {g cap sz : Nat} {L : List Value} {T : TypeId} (h : Rn w g cap sz L T) {j : Nat} {v : Value} (hj : L[j]? = some v) : w.cell? ⟨g, j, none⟩ = some v := by
  obtain ⟨r, h1, h2, h3⟩ := h
  have hl : j < L.length := by
    rcases Nat.lt_or_ge j L.length with h | h
    · exact h
    · rw [List.getElem?_eq_none h] at hj; cases hj
  exact h3.cell (by rw [List.getElem?_append_left hl]; exact hj)
theorem Rn.src {w : World} {g cap sz : Nat} {L : List Value} {T : TypeId} (h : Rn w g cap sz L T) (j : Nat) (u : Value) (hj : L[j]? = some u) : w.cell? ((⟨g, 0, none⟩ : Addr).add j) = some u := by
  have e2 : (({ block := g, off := 0, spot := none } : Addr).add j) = ⟨g, j, none⟩ := by simp [Addr.add]; omega
  rw [e2]
  exact h.cell hj
theorem Rn.empty (w : World) (sz : Nat) (T : TypeId) : Rn (w.alloc (.cells #[] T)) w.heap.size 0 sz [] T := ⟨[], by simp, by omega, Blk.newA w #[] T⟩
theorem wpList_append_rn {P : Program} (w : World) {ops : Array Oper} {rest : List Oper} {o : Oper} {a : Act} {Q : Exit → Act → World → Prop}
    (hg : o.guard = none) (s x : Operand) (t tx : TypeId) (hop : o.op = Op.call { callee := Callee.builtin Builtin.append, args := #[s, x], argTypes := #[t, tx] })
    (e : TypeId) (z : Value) (sz by_ : Nat) (ht : P.underlying t = some (.slice e)) (hinfo : (P.info? e).map (fun i => (i.zero, i.size, i.bytes)) = some (some z, sz, by_)) (hz1 : z.cells.size = sz)
    (g m cap : Nat) (L : List Value) (hs : a.eval s = .slice (some ⟨g, 0, none⟩) m cap) (hm : L.length = m * sz) (hown : Rn w g cap sz L e) (xv : Value) (hx : a.eval x = xv) (n : Nat) (news : List Value) (hsrc : Src P sz tx xv n news w)
    (h63 : m + n ≤ 1000000) (hby : by_ ≤ 1000)
    (hK : ∀ g' cap' w', Rn w' g' cap' sz (L ++ news) e → (g' = g ∨ w.heap.size ≤ g') → Chg [g] w w' → wpList P ops Q rest (a.put o.dst (.slice (some ⟨g', 0, none⟩) (m + n) cap')) w') :
    wpList P ops Q (o :: rest) a w := by
  refine wpList_plain hg fun K hK' => ?_
  obtain ⟨i, hi, hzz⟩ := Option.map_eq_some_iff.1 hinfo
  simp only [Prod.mk.injEq] at hzz
  obtain ⟨hz, hs1, hb1⟩ := hzz
  have hnl : news.length = n * sz := hsrc.newsLen
  obtain ⟨r, h1, h2, h3⟩ := hown
  by_cases hroom : m + n ≤ cap
  · have hmul : (m + n) * sz ≤ cap * sz := Nat.mul_le_mul_right _ hroom
    rw [Nat.add_mul] at hmul
    have hrun := run_append_room_src (P := P) (w := w) t tx o.type e i ht hi g 0 m cap xv n news (by rw [hs1]; exact hsrc) hroom (fun j hj => by
      have hlt : m * sz + j < (L ++ r).length := by rw [List.length_append]; omega
      rw [hs1, Nat.zero_add, h3.cell (List.getElem?_eq_getElem hlt)]; rfl) (fun j hj => by rw [hs1]; exact h3.free _)
    unfold Oper.wp
    simp [execOp, hop, resolve, invoke, builtin, hs, hx, hrun, Result.andThen]
    refine hK' _ _ (hK g cap _ ?_ (Or.inl rfl) ?_)
    · obtain ⟨k1, k2⟩ := rw_cells news (m * sz) h3 (by rw [List.length_append]; omega)
      refine ⟨r.drop news.length, by rw [List.length_append, List.length_drop]; omega, h2, ?_⟩
      rw [hs1]
      rw [← hm] at k1 ⊢
      rw [List.take_left, ← List.drop_drop, List.drop_left] at k1
      exact k1
    · rw [hs1]
      exact (rw_cells news (m * sz) h3 (by rw [List.length_append]; omega)).2
  · have hgr : cap < m + n := by omega
    have hold : (Builtin.firstCells i.size m (.slice (some ⟨g, 0, none⟩) m cap)).run P w.drew = .ok L.toArray w.drew := by
      rw [hs1]
      exact run_firstCells_some _ sz m ⟨g, 0, none⟩ m cap L (by omega) (fun j v hj => by
        have hl : j < L.length := by
          rcases Nat.lt_or_ge j L.length with h | h
          · exact h
          · rw [List.getElem?_eq_none h] at hj; cases hj
        have := h3.cell (i := j) (v := v) (by rw [List.getElem?_append_left hl]; exact hj)
        have e2 : (({ block := g, off := 0, spot := none } : Addr).add j) = ⟨g, j, none⟩ := by simp [Addr.add]; omega
        rw [e2]; simpa using this)
    have hbb : (m + n) * i.bytes ≤ 140737488355328 := by
      rw [hb1]
      calc (m + n) * by_ ≤ 1000000 * 1000 := Nat.mul_le_mul h63 hby
        _ ≤ 140737488355328 := by decide
    have hrun := run_append_grow_src (P := P) (w := w) t tx o.type e i z ht hi hz (some ⟨g, 0, none⟩) m cap L hold xv n news (by rw [hs1]; exact hsrc) hgr (by omega) (growslice_fits hgr hbb)
    unfold Oper.wp
    simp [execOp, hop, resolve, invoke, builtin, hs, hx, hrun, Result.andThen]
    have hge := grownCap_ge w (m + n) cap e
    have hle := grownCap_le_maxLen w (m + n) cap e (by unfold maxLen; omega)
    have hk := hK w.heap.size (grownCap w (m + n) cap e) _ ?_ (Or.inr (Nat.le_refl _)) (((Chg.refl [g] w).drew).alloc (.cells ((L ++ news).toArray ++ Builtin.zeroCells z.cells (grownCap w (m + n) cap e - (m + n))) e))
    · exact hK' _ _ (by simpa using hk)
    refine ⟨(Builtin.zeroCells z.cells (grownCap w (m + n) cap e - (m + n))).toList, ?_, by unfold maxLen at hle; omega, ?_⟩
    · have ez : ∀ k, (Builtin.zeroCells z.cells k).toList.length = k * sz := fun k => by rw [Array.length_toList, size_zeroCells, hz1]
      rw [List.length_append, ez, hm, hnl, ← Nat.add_mul, ← Nat.add_mul]
      congr 1
      omega
    · have := Blk.newA w.drew ((L ++ news).toArray ++ Builtin.zeroCells z.cells (grownCap w (m + n) cap e - (m + n))) e
      rw [Array.toList_append] at this
      exact this
end Go.Proofs.Ytbdjcppkfihonaa
/- Hold: a look at a new window, by the first end of a match. -/
namespace Go.Proofs.Ytbdjcppkfihonaa
open Go.ChangeShapes Go.WideShapes Go.ChangeAt Go.RowKit
set_option linter.unusedSimpArgs false
set_option linter.unusedVariables false

theorem tk_step {T : List UInt8} {K : Nat} (h : K < T.length) : T.drop K = T[K] :: T.drop (K + 1) ∧ T.take K ++ [T[K]] = T.take (K + 1) :=
  ⟨List.drop_eq_getElem_cons h, by rw [List.take_add_one, List.getElem?_eq_getElem h]; rfl⟩
/-- What is told behind the first k bytes. -/
def Hd.F (Ls : List (List (Bool × BitVec 256))) (T : List UInt8) (k : Nat) : Nat × Bool := Ar.fs (Ar.dn Ls (Ar.stk Ls (lgT T) k)) Ls.length
theorem at_take {Ls : List (List (Bool × BitVec 256))} {T : List UInt8} {K : Nat} : Hd.at Ls (T.take (K + 1)) K = Hd.F Ls T (K + 1) := by
  unfold Hd.at Hd.F
  rw [stk_congr (K + 1) fun j hj => ?_]
  unfold lgT
  rw [List.getElem?_take, if_pos hj]
/-- A byte comes and nothing is told. -/
theorem look_step {Ls : List (List (Bool × BitVec 256))} {W : Nat} {T : List UInt8} {K f : Nat} (hK : K < T.length) (hW : K < W) (hF : (Hd.F Ls T (K + 1)).2 = false) :
    Hd.look Ls W (f + 1) (T.take K) K (T.drop K) K = Hd.look Ls W f (T.take (K + 1)) (K + 1) (T.drop (K + 1)) (K + 1) := by
  have hl : (T.take K).length = K := by rw [List.length_take]; omega
  have hl2 : (T.take (K + 1)).length = K + 1 := by rw [List.length_take]; omega
  rw [(tk_step hK).1, look_read (by omega) hl.symm (by omega), (tk_step hK).2]
  obtain ⟨q, hq⟩ : ∃ q, Hd.at Ls (T.take (K + 1)) K = (q, false) := ⟨(Hd.F Ls T (K + 1)).1, by rw [at_take, ← hF]⟩
  rw [look_on (by omega) hq]
theorem look_tell {Ls : List (List (Bool × BitVec 256))} {W : Nat} {T : List UInt8} {K f q : Nat} (hK : K < T.length) (hW : K < W) (hF : Hd.F Ls T (K + 1) = (q, true)) :
    Hd.look Ls W (f + 1) (T.take K) K (T.drop K) K = ⟨[], 0, T.drop (K + 1), true, false, q, K + 1, K + 1⟩ := by
  have hl : (T.take K).length = K := by rw [List.length_take]; omega
  have hl2 : (T.take (K + 1)).length = K + 1 := by rw [List.length_take]; omega
  rw [(tk_step hK).1, look_read (by omega) hl.symm (by omega), (tk_step hK).2, look_hit (by omega) (by rw [at_take]; exact hF), List.drop_eq_nil_of_le (by omega)]
theorem look_some {Ls : List (List (Bool × BitVec 256))} {W : Nat} {T : List UInt8} {m q : Nat} (hm : m ≤ T.length) (hmW : m ≤ W) (hF : Hd.F Ls T m = (q, true)) (hn : ∀ j, 1 ≤ j → j < m → (Hd.F Ls T j).2 = false) :
    ∀ d K f, m = K + 1 + d → T.length - K < f → Hd.look Ls W f (T.take K) K (T.drop K) K = ⟨[], 0, T.drop m, true, false, q, m, m⟩
  | 0, K, f, hd, hf => by
    obtain ⟨f', rfl⟩ : ∃ f', f = f' + 1 := ⟨f - 1, by omega⟩
    have e : m = K + 1 := by omega
    subst e
    exact look_tell (by omega) (by omega) hF
  | d + 1, K, f, hd, hf => by
    obtain ⟨f', rfl⟩ : ∃ f', f = f' + 1 := ⟨f - 1, by omega⟩
    rw [look_step (by omega) (by omega) (hn (K + 1) (by omega) (by omega))]
    exact look_some hm hmW hF hn d (K + 1) f' (by omega) (by omega)
theorem look_none {Ls : List (List (Bool × BitVec 256))} {W : Nat} {T : List UInt8} {M : Nat} (hM : min T.length W = M) (hn : ∀ j, 1 ≤ j → j ≤ M → (Hd.F Ls T j).2 = false) :
    ∀ d K f, M = K + d → T.length - K < f → Hd.look Ls W f (T.take K) K (T.drop K) K = ⟨T.take M, M, T.drop M, false, decide (W < T.length), 0, 0, M⟩
  | 0, K, f, hd, hf => by
    obtain ⟨f', rfl⟩ : ∃ f', f = f' + 1 := ⟨f - 1, by omega⟩
    have e : M = K := by omega
    subst e
    have hl : (T.take M).length = M := by rw [List.length_take]; omega
    by_cases h : M < T.length
    · rw [(tk_step h).1, look_full (by omega) (by omega), decide_eq_true (by omega)]
    · rw [List.drop_eq_nil_of_le (by omega), look_end (by omega), decide_eq_false (by omega)]
  | d + 1, K, f, hd, hf => by
    obtain ⟨f', rfl⟩ : ∃ f', f = f' + 1 := ⟨f - 1, by omega⟩
    rw [look_step (by omega) (by omega) (hn (K + 1) (by omega) (by omega))]
    exact look_none hM hn d (K + 1) f' (by omega) (by omega)
/-- A look of a window that holds nothing, at the bytes T of a ring: what Find finds in as many of them as there may be. -/
theorem look_find {Ls : List (List (Bool × BitVec 256))} {W : Nat} {T : List UInt8} {M q m : Nat} {is : Bool} (hM : min T.length W = M) (h : Ar.fi (Hd.F Ls T) M = (q, m, is)) :
    Hd.look Ls W (T.length + 1) [] 0 T 0 = if is then ⟨[], 0, T.drop m, true, false, q, m, m⟩ else ⟨T.take M, M, T.drop M, false, decide (W < T.length), 0, 0, M⟩ := by
  obtain ⟨h1, h2⟩ := fi_spec _ _ _ _ _ h
  cases is with
  | true =>
    obtain ⟨a1, a2, a3, a4⟩ := h1 rfl
    rw [if_pos rfl]
    exact look_some (by omega) (by omega) a3 a4 (m - 1) 0 (T.length + 1) (by omega) (by omega)
  | false =>
    obtain ⟨a1, a2, a3⟩ := h2 rfl
    rw [if_neg (by simp)]
    exact look_none hM a3 M 0 (T.length + 1) (by omega) (by omega)
theorem fi_congr {F G : Nat → Nat × Bool} : ∀ n, (∀ j, j ≤ n → F j = G j) → Ar.fi F n = Ar.fi G n
  | 0, _ => rfl
  | n + 1, h => by rw [Ar.fi, Ar.fi, fi_congr n (fun j hj => h j (by omega)), h (n + 1) (by omega)]
/-- The same told of the text cut to M bytes. -/
theorem F_take {Ls : List (List (Bool × BitVec 256))} {T : List UInt8} {M j : Nat} (hj : j ≤ M) : Hd.F Ls (T.take M) j = Hd.F Ls T j := by
  unfold Hd.F
  rw [stk_congr j fun i hi => ?_]
  unfold lgT
  rw [List.getElem?_take, if_pos (by omega)]
/-- Lists of items, kept: what changes holds no items, and isn't the lists' own row. -/
theorem LL.chg {w w' : World} {gl : Nat} {Ls : List (List (Bool × BitVec 256))} (h : LL w (some ⟨gl, 0, none⟩) Ls) {L : List Nat} (k : Chg L w w') (hgl : Ls ≠ [] → gl ∉ L) (hL : ∀ y ∈ L, ∀ b, w.cell? ⟨y, 0, none⟩ ≠ some (.bool b)) : LL w' (some ⟨gl, 0, none⟩) Ls := fun i l hi => by
  obtain ⟨h0, g, o, ai, ci, ha, hlt, cp, hk⟩ := h i l hi
  injection ha with ha
  injection ha with ha1 ha2
  subst ha1 ha2
  refine ⟨h0, gl, 0, ai, ci, rfl, Nat.lt_of_lt_of_le hlt k.size, by rw [← cp]; exact k.cell hlt (hgl (by rintro rfl; simp at hi)), ?_, hk.2⟩
  rcases hk.1 with e | ⟨bb, e, h1, h2⟩
  · exact Or.inl e
  · cases l with
    | nil => exact Or.inl rfl
    | cons y l =>
      obtain ⟨r, X⟩ := y
      have hb0 : w.cell? ⟨bb, 0, none⟩ = some (.bool r) := h2 0 (.bool r) (by simp [its, Cs.it])
      have hne : bb ∉ L := fun e => hL bb e r hb0
      refine Or.inr ⟨bb, e, Nat.lt_of_lt_of_le h1 k.size, fun i v hi => ?_⟩
      rw [← h2 i v hi]
      exact k.cell h1 hne
theorem AX.nb {w : World} {ap : Option Addr} {xs : List Nat} {Ls : List (List (Bool × BitVec 256))} {f : Nat → BitVec 64} {fed : Nat} (h : AX w ap xs Ls f fed) : ∀ y ∈ xs, ∀ b, w.cell? ⟨y, 0, none⟩ ≠ some (.bool b) := by
  intro y hy b hb
  rcases h with ⟨_, _, rfl⟩ | ⟨x, gs, cs, bb, ca, A, n, rfl, rfl, ⟨h1, h2⟩, h3, h4, h5⟩
  · cases hy
  · unfold axB at hy
    split at hy
    · simp at hy; subst hy; rw [h1.c0] at hb; cases hb
    · rename_i hn
      simp at hy
      rcases hy with rfl | rfl
      · rw [h1.c0] at hb; cases hb
      · rw [h1.cg (by omega)] at hb; cases hb
end Go.Proofs.Ytbdjcppkfihonaa
/- Hold: window, ring and the lists of the document, apart. -/
namespace Go.Proofs.Ytbdjcppkfihonaa
open Go.ChangeShapes Go.WideShapes Go.ChangeAt Go.RowKit
set_option linter.unusedSimpArgs false
set_option linter.unusedVariables false

theorem pk_most9 (S : ByteArray) (n : Nat) (h : S.size ≤ n) : pk S 0 n = S := by
  rw [pk_zero, show clN n S.size = S.size by (unfold clN; rw [if_neg (by omega)]; omega), cut_whole]
set_option maxRecDepth 20000 in
theorem new_any0 (n : Nat) (x : Int) (w : World) (hn : min (max x 1) 4096 = (n : Int)) :
    Calls Try.prog 34 #[.int .i64 x] w fun e w' => e = .returned (.pointer (some ⟨w.heap.size + 1, 0, none⟩)) ∧ RAt w' (w.heap.size + 1) w.heap.size n 0 ByteArray.empty ∧ w'.cell? ⟨w.heap.size, 0, none⟩ = some (.int .u8 0) ∧ Below w.heap.size w w' := by
  have hmk : ∀ W, (Instr.makeSlice 85 (.int .i64 n) (.int .i64 n)).run Try.prog W = .ok (.slice (some ⟨W.heap.size, 0, none⟩) n n) (W.alloc (.cells (List.replicate n (.int .u8 0)).toArray 5)) := fun W =>
    run_make_blk W _ _ _ Try.underlying85 1 info5 rfl n n (Nat.le_refl _) (by omega) (by omega)
  have n1 : 1 ≤ n ∧ n ≤ 4096 := by omega
  go_enter Try.func34, Try.ntmps34
  go_wp2
  go_ret
  have hB : Blk ((w.alloc (Obj.cells (Array.replicate n (Value.int IntKind.u8 0)) 5)).alloc (Obj.cells #[.slice (some ⟨w.heap.size, 0, none⟩) n n, .int .i64 0, .int .i64 0] 110)) w.heap.size (List.replicate n (.int .u8 0)) 5 := by
    have := (Blk.newA w (Array.replicate n (Value.int IntKind.u8 0)) 5).alloc (Obj.cells #[.slice (some ⟨w.heap.size, 0, none⟩) n n, .int .i64 0, .int .i64 0] 110)
    rw [Array.toList_replicate] at this
    exact this
  refine ⟨rfl, ⟨n1.1, n1.2, by omega, by simp, by omega, ?_, List.replicate n (.int .u8 0), by simp, hB, fun i hi => absurd hi (by simp)⟩, hB.cell (i := 0) (by rw [List.getElem?_replicate]; rw [if_pos (by omega)]), ((Below.refl _ _).alloc (Nat.le_refl _) _).alloc (by simp) _⟩
  have := Blk.newA (w.alloc (Obj.cells (Array.replicate n (Value.int IntKind.u8 0)) 5)) #[.slice (some ⟨w.heap.size, 0, none⟩) n n, .int .i64 0, .int .i64 0] 110
  simpa using this
theorem RAt.c0 {w : World} {b g n f : Nat} {S : ByteArray} (h : RAt w b g n f S) : w.cell? ⟨b, 0, none⟩ = some (.slice (some ⟨g, 0, none⟩) n n) := by
  obtain ⟨h1, h2, h3, h4, h5, h6, R, h7, h8, h9⟩ := h
  exact h6.cell (i := 0) rfl
/-- A window (its text is none), a ring, and the document's lists, apart from both. -/
def FL (B : Nat) (w0 w : World) (h b g n W gl : Nat) (pv : Value) (ap : Option Addr) (xs : List Nat) (Ls Lz : List (List (Bool × BitVec 256))) (K f : Nat) (R : ByteArray) : Prop :=
  LS B w0 w h b g n W pv ap xs Ls none 0 0 ByteArray.empty K f R ∧ LL w (some ⟨gl, 0, none⟩) Lz ∧ (Lz ≠ [] → gl ≠ h ∧ gl ≠ b ∧ gl ≠ g ∧ gl ∉ xs ∧ gl < w.heap.size) ∧ (∀ v, w.cell? ⟨g, 0, none⟩ ≠ some (.bool v))
theorem FL.below {B : Nat} {w0 w : World} {h b g n W gl : Nat} {pv : Value} {ap : Option Addr} {xs : List Nat} {Ls Lz : List (List (Bool × BitVec 256))} {K f : Nat} {R : ByteArray} (H : FL B w0 w h b g n W gl pv ap xs Ls Lz K f R) {w' : World} (k : Below w.heap.size w w') : FL B w0 w' h b g n W gl pv ap xs Ls Lz K f R :=
  ⟨H.1.below k, H.2.1.below k, fun z => ⟨(H.2.2.1 z).1, (H.2.2.1 z).2.1, (H.2.2.1 z).2.2.1, (H.2.2.1 z).2.2.2.1, Nat.lt_of_lt_of_le (H.2.2.1 z).2.2.2.2 k.size⟩, fun v => by rw [Chg.cell (l := []) (Chg.of_fresh k) H.1.2.2.1.lts.2 (by simp)]; exact H.2.2.2 v⟩
theorem fl_new {B : Nat} {w0 w : World} {h b g n W gl : Nat} {pv : Value} {Ls Lz : List (List (Bool × BitVec 256))} {K f : Nat} {R : ByteArray} (H : LS B w0 w h b g n W pv none [] Ls none 0 0 ByteArray.empty K f R) (hc : w.cell? ⟨g, 0, none⟩ = some (.int .u8 0)) {w' : World} (k : Below w.heap.size w w') (hl : LL w' (some ⟨gl, 0, none⟩) Lz) (hgl : w.heap.size ≤ gl) : FL B w0 w' h b g n W gl pv none [] Ls Lz K f R := by
  have h1 := H.1.o.lt
  have h2 := H.2.2.1.lts
  refine ⟨H.below k, hl, fun z => ⟨by omega, by omega, by omega, by simp, by
    obtain ⟨l, hl0⟩ : ∃ l, Lz[0]? = some l := ⟨_, List.getElem?_eq_getElem (List.length_pos_iff.2 z)⟩
    obtain ⟨_, g1, o1, ai, ci, ha, hlt, _⟩ := hl 0 l hl0
    injection ha with ha; injection ha with ha1 ha2; omega⟩, fun v => ?_⟩
  rw [Chg.cell (l := []) (Chg.of_fresh k) h2.2 (by simp), hc]
  intro e; cases e
theorem fl_begin {B : Nat} {w0 w : World} {h b g n W gl : Nat} {pv : Value} {ap : Option Addr} {xs : List Nat} {Ls Lz : List (List (Bool × BitVec 256))} {K f : Nat} {R : ByteArray} (H : FL B w0 w h b g n W gl pv ap xs Ls Lz K f R) (ss : List ByteArray) (k : Nat) (hk : ss.length = k) (hk8 : k ≤ 8) (gg c : Nat) (hs : ∀ s ∈ ss, s.size ≤ 1000000) (he : (Ar.nw ss k).2 = 0) (hI : TX w (some ⟨gg, 0, none⟩) ss) (Ls' : List (List (Bool × BitVec 256))) (hL : ss.map Ar.pat = Ls') :
    Calls Try.prog 42 #[.pointer (some ⟨h, 0, none⟩), .slice (some ⟨gg, 0, none⟩) k c] w fun r w' => ∃ x gp cp xs', r = .returned (.int .i64 0) ∧ FL B w0 w' h b g n W gl (.slice (some ⟨gp, 0, none⟩) k cp) (some ⟨x, 0, none⟩) xs' Ls' Lz 0 f R :=
  (hd_begin_yes h W 0 0 K none ap ByteArray.empty pv ss k hk hk8 gg c hs he w H.1.1 hI).mono fun r w' ⟨x, gp, cp, xs', q0, q1, q2, q3, q4, q5, q6⟩ => by
    have hsp := H.1.2.2.2.1
    have hB := H.1.2.2.2.2.1
    have hg := H.2.2.1
    rw [hL] at q2
    refine ⟨x, gp, cp, xs', q0, ⟨q1, q2, H.1.2.2.1.chg q6 (by simp; exact fun e => hsp.1 e.symm) (by simp; exact fun e => hsp.2.1 e.symm), hsp, ⟨hB.1, hB.2.1, hB.2.2.1, fun y hy => Nat.le_trans H.1.2.2.2.2.2.2 (q5 y hy), hB.2.2.2.2⟩, q6.onto H.1.2.2.2.2.2.1 H.1.2.2.2.2.2.2 (fun y hy => by simp at hy; omega), Nat.le_trans H.1.2.2.2.2.2.2 q6.size⟩, H.2.1.chg q6 (fun z => by simp; exact (hg z).1) (fun y hy v => by simp at hy; rw [hy, H.1.1.o.cell (i := 0) rfl]; intro e; cases e), fun z => ⟨(hg z).1, (hg z).2.1, (hg z).2.2.1, fun e => by have := q5 _ e; have := hg z; omega, Nat.lt_of_lt_of_le (hg z).2.2.2.2 q6.size⟩, fun v => ?_⟩
    rw [q6.cell H.1.2.2.1.lts.2 (by simp; exact fun e => hsp.2.1 e.symm)]
    exact H.2.2.2 v
/-- As FL, without what the ring's row begins with. -/
def FM (B : Nat) (w0 w : World) (h b g n W gl : Nat) (pv : Value) (ap : Option Addr) (xs : List Nat) (Ls Lz : List (List (Bool × BitVec 256))) (K f : Nat) (R : ByteArray) : Prop :=
  LS B w0 w h b g n W pv ap xs Ls none 0 0 ByteArray.empty K f R ∧ LL w (some ⟨gl, 0, none⟩) Lz ∧ (Lz ≠ [] → gl ≠ h ∧ gl ≠ b ∧ gl ≠ g ∧ gl ∉ xs ∧ gl < w.heap.size)
theorem fl_put {B : Nat} {w0 w : World} {h b g n W gl : Nat} {pv : Value} {ap : Option Addr} {xs : List Nat} {Ls Lz : List (List (Bool × BitVec 256))} {K f : Nat} {R : ByteArray} (H : FL B w0 w h b g n W gl pv ap xs Ls Lz K f R) (s : ByteArray) (hs : s.size ≤ 100000) :
    Calls Try.prog 36 #[.pointer (some ⟨b, 0, none⟩), .string s] w fun e w' => e = .returned (.int .i64 (min s.size (n - R.size) : Nat)) ∧ FM B w0 w' h b g n W gl pv ap xs Ls Lz K f (R ++ s.extract 0 (min s.size (n - R.size))) :=
  (put_any b g n f R s w hs H.1.2.2.1).mono fun e w' ⟨he, q1, q2⟩ => by
    have hsp := H.1.2.2.2.1
    have hB := H.1.2.2.2.2.1
    have hg := H.2.2.1
    have ot := H.1.2.2.1.ots
    refine ⟨he, ⟨H.1.1.chg q2 (by simp; exact ⟨hsp.1, hsp.2.1⟩) (fun x hx => by simp; exact hsp.2.2 x hx), H.1.2.1.chg q2 (fun x hx => by simp at hx; rcases hx with e | e; rw [e]; exact ot.1; rw [e]; exact ot.2), q1, hsp, hB, q2.onto H.1.2.2.2.2.2.1 H.1.2.2.2.2.2.2 (fun x hx => by simp at hx; rcases hx with e | e <;> omega), Nat.le_trans H.1.2.2.2.2.2.2 q2.size⟩, H.2.1.chg q2 (fun z => by simp; exact ⟨(hg z).2.1, (hg z).2.2.1⟩) (fun y hy v => ?_), fun z => ⟨(hg z).1, (hg z).2.1, (hg z).2.2.1, (hg z).2.2.2.1, Nat.lt_of_lt_of_le (hg z).2.2.2.2 q2.size⟩⟩
    simp at hy
    rcases hy with e | e
    · rw [e, H.1.2.2.1.c0]; intro e; cases e
    · rw [e]; exact H.2.2.2 v
theorem fm_look {B : Nat} {w0 w : World} {h b g n W gl : Nat} {pv : Value} {ap : Option Addr} {xs : List Nat} {Ls Lz : List (List (Bool × BitVec 256))} {f : Nat} {R : ByteArray} (H : FM B w0 w h b g n W gl pv ap xs Ls Lz 0 f R) (S2 Q2 : List UInt8) (K2 : Nat) (hit full : Bool) (arm gone rd : Nat) (hres : Hd.look Ls W (R.size + 1) [] 0 R.data.toList 0 = ⟨S2, K2, Q2, hit, full, arm, gone, rd⟩) :
    Calls Try.prog 39 #[.pointer (some ⟨h, 0, none⟩), .pointer (some ⟨b, 0, none⟩)] w fun e w' => e = .returned (.agg #[.bool hit, .bool full, .int .i64 arm, .int .i64 gone, .int .i64 rd]) ∧ ∃ t' m' ct' S' f' R', LS B w0 w' h b g n W pv ap xs Ls t' m' ct' S' K2 f' R' ∧ LL w' (some ⟨gl, 0, none⟩) Lz ∧ S'.data.toList = S2 ∧ R'.data.toList = Q2 ∧ S'.size = m' := by
  have hl := H.1.2.2.1.lts
  have hs := H.1.2.2.2.1
  have hB := H.1.2.2.2.2.1
  have hw := H.1.2.2.2.2.2.2
  have hg := H.2.2
  have hres2 : Hd.look Ls W ((0 - 0) + R.size + 1) ByteArray.empty.data.toList 0 R.data.toList 0 = ⟨S2, K2, Q2, hit, full, arm, gone, rd⟩ := by
    rw [show (0 - 0) + R.size + 1 = R.size + 1 by omega]; exact hres
  refine (hd_look h b g n f W 0 0 0 none ap ByteArray.empty R pv xs Ls _ hres2 ⟨hs.1, hs.2.1⟩ hs.2.2 w H.1.1 H.1.2.1 H.1.2.2.1).mono fun e w' ⟨he, t', m', ct', S', f', R', q1, q2, q3, q4, q5, q6, q7⟩ => ?_
  have htb : ∀ x, x ∉ tvB none 0 := fun x hx => by simp [tvB] at hx
  refine ⟨he, t', m', ct', S', f', R', ⟨q1, by rw [q2]; exact q3, q4, ⟨hs.1, hs.2.1, fun x hx => ?_⟩, ⟨hB.1, hB.2.1, hB.2.2.1, hB.2.2.2.1, fun x hx => ?_⟩, q7.onto H.1.2.2.2.2.2.1 hw (fun x hx => ?_), Nat.le_trans hw q7.size⟩, H.2.1.chg q7 (fun z e => ?_) (fun y hy v => ?_), q2, q5, q1.tv.1⟩
  · rcases q6 x hx with e | e
    · exact absurd e (htb x)
    · omega
  · rcases q6 x hx with e | e
    · exact absurd e (htb x)
    · omega
  · simp at hx
    rcases hx with e | e | e | e
    · omega
    · omega
    · exact hB.2.2.2.1 x e
    · exact absurd e (htb x)
  · simp at e
    rcases e with e | e | e | e
    · exact (hg z).1 e
    · exact (hg z).2.1 e
    · exact (hg z).2.2.2.1 e
    · exact htb _ e
  · simp at hy
    rcases hy with e | e | e | e
    · rw [e, H.1.1.o.cell (i := 0) rfl]; intro e; cases e
    · rw [e, H.1.2.2.1.c0]; intro e; cases e
    · exact H.1.2.1.nb y e v
    · exact absurd e (htb _)
theorem ls_peek {B : Nat} {w0 w : World} {h b g n W : Nat} {pv : Value} {ap : Option Addr} {xs : List Nat} {Ls : List (List (Bool × BitVec 256))} {t : Option Addr} {m ct : Nat} {S : ByteArray} {K f : Nat} {R : ByteArray} (H : LS B w0 w h b g n W pv ap xs Ls t m ct S K f R) (k : Nat) (hk : R.size ≤ k) : Calls Try.prog 46 #[.pointer (some ⟨b, 0, none⟩), .int .i64 0, .int .i64 k] w fun e w' => e = .returned (.string R) ∧ LS B w0 w' h b g n W pv ap xs Ls t m ct S K f R :=
  (peek_any b g n f R 0 k w H.2.2.1).mono fun e w' ⟨he, q⟩ => ⟨by rw [he, pk_most9 R k hk], H.below q⟩
end Go.Proofs.Ytbdjcppkfihonaa
/- Hold: helpers of HoldFinds. -/
namespace Go.Proofs.Ytbdjcppkfihonaa
open Go.ChangeShapes Go.WideShapes Go.ChangeAt Go.RowKit
set_option linter.unusedSimpArgs false
set_option linter.unusedVariables false

theorem cut_list (s : ByteArray) (W : Nat) : (cutT s W).data.toList = s.data.toList.take (min s.size W) ∧ (cutT s W).size = min s.size W := by
  unfold cutT
  split
  · rename_i h
    refine ⟨?_, by rw [ByteArray.size_extract]; omega⟩
    rw [ByteArray.data_extract, Array.toList_extract, List.extract_eq_take_drop, List.drop_zero]
    congr 1; omega
  · rename_i h
    refine ⟨?_, by omega⟩
    rw [List.take_of_length_le (by rw [bl_size]; omega)]
theorem ring_whole (s : ByteArray) (h : s.size ≤ 32) : ByteArray.empty ++ s.extract 0 (min s.size (32 - ByteArray.empty.size)) = s := by
  have e : min s.size (32 - ByteArray.empty.size) = s.size := by rw [show ByteArray.empty.size = 0 from rfl]; omega
  rw [e, cut_whole, ByteArray.empty_append]
theorem ba_ext {A B : ByteArray} (h : A.data.toList = B.data.toList) : A = B := by
  apply ByteArray.ext
  rw [← Array.toArray_toList (xs := A.data), h, Array.toArray_toList]
/-- What is gone, what is held and what the ring holds yet make up the text. -/
theorem all_there {s S R : ByteArray} {t : List UInt8} (ht : s.data.toList = t) (k j : Nat) (hS : S.data.toList = (t.drop k).take (j - k)) (hR : R.data.toList = t.drop j) (hkj : k ≤ j) : s.extract 0 k ++ S ++ R = s := by
  apply ba_ext
  rw [ByteArray.data_append, ByteArray.data_append, Array.toList_append, Array.toList_append, hS, hR, ByteArray.data_extract, Array.toList_extract, List.extract_eq_take_drop, List.drop_zero, ht, Nat.sub_zero]
  have e1 : t.drop j = (t.drop k).drop (j - k) := by rw [List.drop_drop]; congr 1; omega
  rw [e1, List.append_assoc, List.take_append_drop, List.take_append_drop]
theorem ls_peek2 {B : Nat} {w0 w : World} {h b g n W : Nat} {pv : Value} {ap : Option Addr} {xs : List Nat} {Ls : List (List (Bool × BitVec 256))} {t : Option Addr} {m ct : Nat} {S : ByteArray} {K f : Nat} {R : ByteArray} (H : LS B w0 w h b g n W pv ap xs Ls t m ct S K f R) (k : Nat) (hk : R.size ≤ k) (ki : Int) (hki : ki = k) : Calls Try.prog 46 #[.pointer (some ⟨b, 0, none⟩), .int .i64 0, .int .i64 ki] w fun e w' => e = .returned (.string R) ∧ Below w.heap.size w w' := by
  subst hki
  exact (peek_any b g n f R 0 k w H.2.2.1).mono fun e w' ⟨he, q⟩ => ⟨by rw [he, pk_most9 R k hk], q⟩
/-- A look at a new window, as Find tells it. -/
theorem look_cut {Ls : List (List (Bool × BitVec 256))} {W N M m q mm : Nat} {is : Bool} {t : List UInt8} (hN : t.length = N) (hL : Ls.length = m) (hM : min N W = M) (h : Ar.fi (fun k => Ar.fs (Ar.dn Ls (Ar.stk Ls (lgT (t.take M)) k)) m) M = (q, mm, is)) :
    (is = true → 1 ≤ mm ∧ mm ≤ M ∧ Hd.look Ls W (N + 1) [] 0 t 0 = ⟨[], 0, t.drop mm, true, false, q, mm, mm⟩) ∧ (is = false → q = 0 ∧ mm = 0 ∧ Hd.look Ls W (N + 1) [] 0 t 0 = ⟨t.take M, M, t.drop M, false, decide (W < N), 0, 0, M⟩) := by
  subst hN
  have h2 : Ar.fi (Hd.F Ls t) M = (q, mm, is) := by
    rw [← h]
    refine fi_congr M fun j hj => ?_
    rw [← F_take hj]
    unfold Hd.F
    rw [hL]
  have h3 := look_find hM h2
  obtain ⟨a1, a2⟩ := fi_spec _ _ _ _ _ h2
  constructor
  · intro e
    rw [e, if_pos rfl] at h3
    exact ⟨(a1 e).1, (a1 e).2.1, h3⟩
  · intro e
    rw [e, if_neg (by simp)] at h3
    exact ⟨(a2 e).1, (a2 e).2.1, h3⟩
end Go.Proofs.Ytbdjcppkfihonaa
/- Hold: looks one behind the other, however bytes come (no program). -/
namespace Go.Proofs.Ytbdjcppkfihonaa
open Go.ChangeShapes Go.WideShapes Go.ChangeAt Go.RowKit
set_option linter.unusedSimpArgs false
set_option linter.unusedVariables false


variable {Ls : List (List (Bool × BitVec 256))}
theorem at_app {S Q : List UInt8} {K : Nat} (h : K < S.length) : Hd.at Ls S K = Hd.F Ls (S ++ Q) (K + 1) := by
  unfold Hd.at Hd.F
  rw [stk_congr (K + 1) fun j hj => ?_]
  unfold lgT
  rw [List.getElem?_append_left (by omega)]
theorem F_app {T U : List UInt8} {j : Nat} (hj : j ≤ T.length) : Hd.F Ls (T ++ U) j = Hd.F Ls T j := by
  have h := F_take (Ls := Ls) (T := T ++ U) (M := T.length) hj
  rw [List.take_left] at h
  exact h.symm
/-- The first match behind what was looked at: which pattern, and its end. -/
def Hd.nx (Ls : List (List (Bool × BitVec 256))) (T : List UInt8) : Nat → Nat → Option (Nat × Nat)
  | 0, _ => none
  | d + 1, K => if (Hd.F Ls T (K + 1)).2 then some ((Hd.F Ls T (K + 1)).1, K + 1) else Hd.nx Ls T d (K + 1)
theorem nx_lt {T : List UInt8} : ∀ (d K q m : Nat), Hd.nx Ls T d K = some (q, m) → K < m ∧ m ≤ K + d
  | 0, K, q, m, h => by simp [Hd.nx] at h
  | d + 1, K, q, m, h => by
    rw [Hd.nx] at h
    split at h
    · injection h with h; injection h with h1 h2; omega
    · have := nx_lt d (K + 1) q m h; omega
theorem nx_some_app {T U : List UInt8} : ∀ (d d' K q m : Nat), Hd.nx Ls T d K = some (q, m) → K + d ≤ T.length → d ≤ d' → Hd.nx Ls (T ++ U) d' K = some (q, m)
  | 0, d', K, q, m, h, _, _ => by simp [Hd.nx] at h
  | d + 1, d', K, q, m, h, hK, hd => by
    obtain ⟨e, rfl⟩ : ∃ e, d' = e + 1 := ⟨d' - 1, by omega⟩
    rw [Hd.nx] at h ⊢
    rw [F_app (by omega)]
    split at h
    · rename_i hh; rw [if_pos hh]; exact h
    · rename_i hh; rw [if_neg hh]; exact nx_some_app d e (K + 1) q m h (by omega) (by omega)
theorem nx_none_app {T U : List UInt8} : ∀ (d d' K : Nat), Hd.nx Ls T d K = none → K + d ≤ T.length → Hd.nx Ls (T ++ U) (d + d') K = Hd.nx Ls (T ++ U) d' (K + d)
  | 0, d', K, h, _ => by rw [Nat.zero_add, Nat.add_zero]
  | d + 1, d', K, h, hK => by
    rw [show d + 1 + d' = (d + d') + 1 by omega, Hd.nx]
    rw [Hd.nx] at h
    rw [F_app (by omega)]
    split at h
    · cases h
    · rename_i hh; rw [if_neg hh, nx_none_app d d' (K + 1) h (by omega)]
      congr 1; omega
/-- A look: the first match, or all is looked at. -/
theorem look_nx {W : Nat} : ∀ (d : Nat) (S Q T : List UInt8) (K f rd : Nat), S ++ Q = T → T.length = K + d → K ≤ S.length → T.length ≤ W → d + 1 ≤ f →
    (∀ q m, Hd.nx Ls T d K = some (q, m) → ∃ S' Q' rd', Hd.look Ls W f S K Q rd = ⟨S', 0, Q', true, false, q, m, rd'⟩ ∧ S' ++ Q' = T.drop m) ∧
    (Hd.nx Ls T d K = none → ∃ rd', Hd.look Ls W f S K Q rd = ⟨T, T.length, [], false, false, 0, 0, rd'⟩)
  | 0, S, Q, T, K, f, rd, hT, hd, hK, hW, hf => by
    have hl : S.length + Q.length = T.length := by rw [← hT, List.length_append]
    have hQ : Q = [] := List.length_eq_zero_iff.1 (by omega)
    subst hQ
    rw [List.append_nil] at hT
    subst hT
    have e : K = S.length := by omega
    refine ⟨fun q m h => by simp [Hd.nx] at h, fun _ => ⟨rd, ?_⟩⟩
    rw [look_end (by omega), e]
  | d + 1, S, Q, T, K, f, rd, hT, hd, hK, hW, hf => by
    obtain ⟨f', rfl⟩ : ∃ f', f = f' + 1 := ⟨f - 1, by omega⟩
    have key : ∀ (S Q : List UInt8) (rd : Nat), S ++ Q = T → K < S.length →
        (∀ q m, Hd.nx Ls T (d + 1) K = some (q, m) → ∃ S' Q' rd', Hd.look Ls W (f' + 1) S K Q rd = ⟨S', 0, Q', true, false, q, m, rd'⟩ ∧ S' ++ Q' = T.drop m) ∧
        (Hd.nx Ls T (d + 1) K = none → ∃ rd', Hd.look Ls W (f' + 1) S K Q rd = ⟨T, T.length, [], false, false, 0, 0, rd'⟩) := by
      intro S Q rd hT hK2
      have ha : Hd.at Ls S K = Hd.F Ls T (K + 1) := by rw [← hT]; exact at_app hK2
      have hl : S.length + Q.length = T.length := by rw [← hT, List.length_append]
      rw [Hd.nx]
      by_cases hh : (Hd.F Ls T (K + 1)).2 = true
      · rw [if_pos hh]
        refine ⟨fun q m h => ?_, fun h => by cases h⟩
        injection h with h
        injection h with h1 h2
        subst h1
        subst h2
        refine ⟨S.drop (K + 1), Q, rd, ?_, ?_⟩
        · exact look_hit hK2 (by rw [ha, ← hh])
        · rw [← hT, List.drop_append_of_le_length (by omega)]
      · rw [if_neg hh]
        have hs : Hd.look Ls W (f' + 1) S K Q rd = Hd.look Ls W f' S (K + 1) Q rd := look_on (q := (Hd.F Ls T (K + 1)).1) hK2 (by rw [ha]; exact Prod.ext rfl (by simpa using hh))
        rw [hs]
        exact look_nx d S Q T (K + 1) f' rd hT (by omega) (by omega) hW (by omega)
    by_cases hKS : K < S.length
    · exact key S Q rd hT hKS
    · cases Q with
      | nil => rw [List.append_nil] at hT; subst hT; omega
      | cons b Q =>
        have e1 : S.length + (Q.length + 1) = T.length := by rw [← hT, List.length_append, List.length_cons]
        rw [look_read hKS (by omega) (by omega)]
        exact key (S ++ [b]) Q (rd + 1) (by rw [← hT]; simp) (by simp; omega)
/-- Looks till nothing is found: what was found, what is left, and how much of it was looked at. -/
def Hd.mx (Ls : List (List (Bool × BitVec 256))) : Nat → List UInt8 → Nat → List (Nat × Nat) × List UInt8 × Nat
  | 0, T, K => ([], T, K)
  | n + 1, T, K => match Hd.nx Ls T (T.length - K) K with
    | none => ([], T, T.length)
    | some (q, m) => ((q, m) :: (Hd.mx Ls n (T.drop m) 0).1, (Hd.mx Ls n (T.drop m) 0).2)
theorem ms_none {n K : Nat} {T : List UInt8} (h : Hd.nx Ls T (T.length - K) K = none) : Hd.mx Ls (n + 1) T K = ([], T, T.length) := by
  rw [Hd.mx, h]
theorem ms_some {n K q m : Nat} {T : List UInt8} (h : Hd.nx Ls T (T.length - K) K = some (q, m)) : Hd.mx Ls (n + 1) T K = ((q, m) :: (Hd.mx Ls n (T.drop m) 0).1, (Hd.mx Ls n (T.drop m) 0).2) := by
  rw [Hd.mx, h]
theorem ms_len : ∀ (n K : Nat) (T : List UInt8), (Hd.mx Ls n T K).2.1.length ≤ T.length ∧ (K ≤ T.length → (Hd.mx Ls n T K).2.2 ≤ (Hd.mx Ls n T K).2.1.length)
  | 0, K, T => ⟨Nat.le_refl _, fun h => h⟩
  | n + 1, K, T => by
    cases h : Hd.nx Ls T (T.length - K) K with
    | none => rw [ms_none h]; exact ⟨Nat.le_refl _, fun _ => Nat.le_refl _⟩
    | some x =>
      obtain ⟨q, m⟩ := x
      rw [ms_some h]
      have := ms_len n 0 (T.drop m)
      refine ⟨Nat.le_trans this.1 (by rw [List.length_drop]; omega), fun _ => this.2 (by omega)⟩
theorem ms_cnt : ∀ (n K : Nat) (T : List UInt8), (Hd.mx Ls n T K).1.length + (Hd.mx Ls n T K).2.1.length ≤ T.length
  | 0, K, T => by simp [Hd.mx]
  | n + 1, K, T => by
    cases h : Hd.nx Ls T (T.length - K) K with
    | none => rw [ms_none h]; simp
    | some x =>
      obtain ⟨q, m⟩ := x
      have hm := nx_lt _ _ _ _ h
      rw [ms_some h]
      have := ms_cnt n 0 (T.drop m)
      rw [List.length_drop] at this
      simp only [List.length_cons]
      omega
theorem ms_fuel : ∀ (n n' K : Nat) (T : List UInt8), T.length < n → T.length < n' → Hd.mx Ls n T K = Hd.mx Ls n' T K
  | 0, n', K, T, h, _ => by omega
  | n + 1, n', K, T, h, h' => by
    obtain ⟨k, rfl⟩ : ∃ k, n' = k + 1 := ⟨n' - 1, by omega⟩
    cases e : Hd.nx Ls T (T.length - K) K with
    | none => rw [ms_none e, ms_none e]
    | some x =>
      obtain ⟨q, m⟩ := x
      have := nx_lt _ _ _ _ e
      rw [ms_some e, ms_some e, ms_fuel n k 0 (T.drop m) (by rw [List.length_drop]; omega) (by rw [List.length_drop]; omega)]
/-- More bytes behind: the same is found, then what the rest and they come to. -/
theorem ms_app : ∀ (n K : Nat) (T U : List UInt8), K ≤ T.length → T.length + U.length < n → Hd.mx Ls n (T ++ U) K = ((Hd.mx Ls n T K).1 ++ (Hd.mx Ls n ((Hd.mx Ls n T K).2.1 ++ U) (Hd.mx Ls n T K).2.2).1, (Hd.mx Ls n ((Hd.mx Ls n T K).2.1 ++ U) (Hd.mx Ls n T K).2.2).2)
  | 0, K, T, U, _, h => by omega
  | n + 1, K, T, U, hK, h => by
    cases e : Hd.nx Ls T (T.length - K) K with
    | none =>
      rw [ms_none (n := n) e]
      have e2 : Hd.nx Ls (T ++ U) ((T ++ U).length - K) K = Hd.nx Ls (T ++ U) ((T ++ U).length - T.length) T.length := by
        have := nx_none_app (U := U) (T.length - K) U.length K e (by omega)
        rw [List.length_append, show T.length + U.length - K = T.length - K + U.length by omega, this]
        congr 1 <;> omega
      simp only [List.nil_append]
      cases e3 : Hd.nx Ls (T ++ U) ((T ++ U).length - T.length) T.length with
      | none => rw [ms_none (e2.trans e3), ms_none e3]
      | some x => obtain ⟨q, m⟩ := x; rw [ms_some (e2.trans e3), ms_some e3]
    | some x =>
      obtain ⟨q, m⟩ := x
      have hm := nx_lt _ _ _ _ e
      have e2 := nx_some_app (U := U) _ ((T ++ U).length - K) _ _ _ e (by omega) (by rw [List.length_append]; omega)
      have hd : (T.drop m).length + U.length < n := by rw [List.length_drop]; omega
      have hl := (ms_len (Ls := Ls) n 0 (T.drop m)).1
      rw [ms_some e, ms_some e2, List.drop_append_of_le_length (by omega), ms_app n 0 (T.drop m) U (by omega) hd]
      simp only [List.cons_append]
      rw [ms_fuel (n + 1) n _ ((Hd.mx Ls n (List.drop m T) 0).2.1 ++ U) (by rw [List.length_append]; omega) (by rw [List.length_append]; omega)]
end Go.Proofs.Ytbdjcppkfihonaa
/- Hold: two windows and their rings, apart. -/
namespace Go.Proofs.Ytbdjcppkfihonaa
open Go.ChangeShapes Go.WideShapes Go.ChangeAt Go.RowKit
set_option linter.unusedSimpArgs false
set_option linter.unusedVariables false


/-- Block b holds no tables. -/
def OT2 (w : World) (b : Nat) : Prop := ∀ T, (T = 137 ∨ T = 150) → ∀ cs, ¬ Blk w b cs T
/-- Block b holds no pairs. -/
def NP (w : World) (b : Nat) : Prop := ∀ cs, ¬ Blk w b cs 87
theorem blk_ty {w : World} {b : Nat} {cs cs2 : List Value} {U T : TypeId} (h : Blk w b cs U) (h2 : Blk w b cs2 T) : U = T := by
  unfold Blk at h h2
  rw [h] at h2
  have := Option.some.inj h2
  injection this with a b
theorem OT2.of {w : World} {b : Nat} {cs : List Value} {U : TypeId} (h : Blk w b cs U) (hU : U ≠ 137 ∧ U ≠ 150) : OT2 w b := by
  intro T hT cs2 h2
  have e := blk_ty h h2
  subst e
  rcases hT with e | e <;> simp [e] at hU
theorem NP.of {w : World} {b : Nat} {cs : List Value} {U : TypeId} (h : Blk w b cs U) (hU : U ≠ 87) : NP w b := fun cs2 h2 => hU (blk_ty h h2)
theorem AS.chg2 {w w' : World} {x gs cs ca n fed : Nat} {a : Option Addr} {A : List (List (Bool × BitVec 256) × Nat)} {f : Nat → BitVec 64} (h : AS w x gs cs a ca A n f fed) {l : List Nat} (k : Chg l w w') (hl : ∀ b ∈ l, OT2 w b) (hx : x ∉ l) (hg : 0 < n → gs ∉ l) : AS w' x gs cs a ca A n f fed := by
  obtain ⟨⟨h1, ⟨b, h2, h3⟩, h4, h5, h6⟩, h7⟩ := h
  refine ⟨⟨h1, ⟨b, h2, h3.chg k hx⟩, fun hn => (h4 hn).chg k (hg hn), fun i l2 p hi => ?_, h6⟩, fun hn => ?_⟩
  · have hn : 0 < n := by have := (List.getElem?_eq_some_iff.1 hi).1; omega
    obtain ⟨g0, e0, q0⟩ := h7 hn
    obtain ⟨g, o, e1, z1, z2, z3, z4, z5, z6⟩ := h5 i l2 p hi
    rw [e0] at e1
    injection e1 with e1; injection e1 with e1 e1b
    subst e1; subst e1b
    have hg0 : g0 ∉ l := fun e => by
      obtain ⟨r, _, _, q⟩ := q0
      exact hl g0 e _ (Or.inl rfl) _ q
    have hp : p ∉ l := fun e => hl p e _ (Or.inr rfl) _ z6
    exact ⟨g0, 0, e0, Nat.lt_of_lt_of_le z1 k.size, z2, z3, z4, (k.cell (p := ⟨g0, 0 + i, none⟩) z1 hg0).trans z5, Blk.chg z6 k hp⟩
  · obtain ⟨g0, e0, q0⟩ := h7 hn
    refine ⟨g0, e0, q0.chg k fun e => ?_⟩
    obtain ⟨r, _, _, q⟩ := q0
    exact hl g0 e _ (Or.inl rfl) _ q
theorem AX.chg2 {w w' : World} {ap : Option Addr} {xs : List Nat} {Ls : List (List (Bool × BitVec 256))} {f : Nat → BitVec 64} {fed : Nat} (h : AX w ap xs Ls f fed) {l : List Nat} (k : Chg l w w') (hl : ∀ b ∈ l, OT2 w b ∧ b ∉ xs) : AX w' ap xs Ls f fed := by
  rcases h with h | ⟨x, gs, cs, b, ca, A, n, h1, h2, h3, h4⟩
  · exact Or.inl h
  · have hxx : x ∈ xs := by rw [h2]; unfold axB; split <;> simp
    exact Or.inr ⟨x, gs, cs, b, ca, A, n, h1, h2, h3.chg2 k (fun b hb => (hl b hb).1) (fun e => (hl x e).2 hxx) (fun hn e => (hl gs e).2 (by rw [h2]; unfold axB; rw [if_neg (by omega)]; simp)), h4⟩
theorem AX.ot2 {w : World} {ap : Option Addr} {xs : List Nat} {Ls : List (List (Bool × BitVec 256))} {f : Nat → BitVec 64} {fed : Nat} (h : AX w ap xs Ls f fed) : ∀ b ∈ xs, OT2 w b ∧ NP w b := by
  rcases h with ⟨_, _, rfl⟩ | ⟨x, gs, cs, c, ca, A, n, h1, h2, h3, h4, h5, h6⟩
  · simp
  · obtain ⟨⟨q1, ⟨b2, q2, q3⟩, q4, q5, q6⟩, q7⟩ := h3
    rw [h2]
    intro b hb
    unfold axB at hb
    split at hb
    · simp at hb; subst hb; exact ⟨OT2.of q3 (by decide), NP.of q3 (by decide)⟩
    · rename_i hn
      simp at hb
      rcases hb with rfl | rfl
      · exact ⟨OT2.of q3 (by decide), NP.of q3 (by decide)⟩
      · obtain ⟨r, _, _, q⟩ := q4 (by omega)
        exact ⟨OT2.of q (by decide), NP.of q (by decide)⟩
theorem TV.ot2 {w : World} {t : Option Addr} {m ct : Nat} {S : ByteArray} (h : TV w t m ct S) : ∀ g ∈ tvB t ct, (OT2 w g ∧ NP w g) ∧ g < w.heap.size := by
  intro g hg
  unfold tvB at hg
  by_cases hc : ct = 0
  · rw [if_pos hc] at hg; simp at hg
  · rw [if_neg hc] at hg
    obtain ⟨h0, h1 | ⟨g2, h1, h2⟩⟩ := h
    · omega
    · rw [h1, rvB_some] at hg
      simp at hg
      subst hg
      have hl := h2.lt
      obtain ⟨r, _, _, q⟩ := h2
      exact ⟨⟨OT2.of q (by decide), NP.of q (by decide)⟩, hl⟩
theorem RAt.ot2 {w : World} {b g n f : Nat} {S : ByteArray} (h : RAt w b g n f S) : (OT2 w b ∧ NP w b) ∧ (OT2 w g ∧ NP w g) := by
  obtain ⟨h1, h2, h3, h4, h5, h6, R, h7, h8, h9⟩ := h
  exact ⟨⟨OT2.of h6 (by decide), NP.of h6 (by decide)⟩, ⟨OT2.of h8 (by decide), NP.of h8 (by decide)⟩⟩
/-- The blocks of a window and its ring that may change. -/
def LSD (h b g : Nat) (xs : List Nat) (t : Option Addr) (ct : Nat) : List Nat := h :: b :: g :: (xs ++ tvB t ct)
theorem LS.dom {B : Nat} {w0 w : World} {h b g n W : Nat} {pv : Value} {ap : Option Addr} {xs : List Nat} {Ls : List (List (Bool × BitVec 256))} {t : Option Addr} {m ct : Nat} {S : ByteArray} {K f : Nat} {R : ByteArray} (H : LS B w0 w h b g n W pv ap xs Ls t m ct S K f R) : ∀ y ∈ LSD h b g xs t ct, (OT2 w y ∧ NP w y) ∧ y < w.heap.size ∧ B ≤ y := by
  have hl := H.2.2.1.lts
  have hB := H.2.2.2.2.1
  intro y hy
  unfold LSD at hy
  rw [List.mem_cons, List.mem_cons, List.mem_cons, List.mem_append] at hy
  rcases hy with rfl | rfl | rfl | hy | hy
  · exact ⟨⟨OT2.of H.1.o (by decide), NP.of H.1.o (by decide)⟩, H.1.o.lt, hB.1⟩
  · exact ⟨H.2.2.1.ot2.1, hl.1, hB.2.1⟩
  · exact ⟨H.2.2.1.ot2.2, hl.2, hB.2.2.1⟩
  · exact ⟨H.2.1.ot2 y hy, H.2.1.lt y hy, hB.2.2.2.1 y hy⟩
  · exact ⟨(H.1.tv.ot2 y hy).1, (H.1.tv.ot2 y hy).2, hB.2.2.2.2 y hy⟩
theorem LS.chg {B : Nat} {w0 w : World} {h b g n W : Nat} {pv : Value} {ap : Option Addr} {xs : List Nat} {Ls : List (List (Bool × BitVec 256))} {t : Option Addr} {m ct : Nat} {S : ByteArray} {K f : Nat} {R : ByteArray} (H : LS B w0 w h b g n W pv ap xs Ls t m ct S K f R) {w' : World} {l : List Nat} (k : Chg l w w') (hl : ∀ y ∈ l, OT2 w y ∧ B ≤ y ∧ y ∉ LSD h b g xs t ct) : LS B w0 w' h b g n W pv ap xs Ls t m ct S K f R :=
  ⟨H.1.chg k (fun e => (hl _ e).2.2 (by simp [LSD])) (fun y hy e => (hl _ e).2.2 (by simp [LSD, hy])), H.2.1.chg2 k (fun y hy => ⟨(hl y hy).1, fun e => (hl y hy).2.2 (by simp [LSD, e])⟩), H.2.2.1.chg k (fun e => (hl _ e).2.2 (by simp [LSD])) (fun e => (hl _ e).2.2 (by simp [LSD])), H.2.2.2.1, H.2.2.2.2.1, k.onto H.2.2.2.2.2.1 H.2.2.2.2.2.2 (fun y hy => (hl y hy).2.1), Nat.le_trans H.2.2.2.2.2.2 k.size⟩
/-- Two windows, apart. -/
def TW (B : Nat) (w0 w : World) (h b g n W : Nat) (pv : Value) (ap : Option Addr) (xs : List Nat) (Ls : List (List (Bool × BitVec 256))) (t : Option Addr) (m ct : Nat) (S : ByteArray) (K f : Nat) (R : ByteArray) (h2 b2 g2 n2 W2 : Nat) (pv2 : Value) (ap2 : Option Addr) (xs2 : List Nat) (Ls2 : List (List (Bool × BitVec 256))) (t2 : Option Addr) (m2 ct2 : Nat) (S2 : ByteArray) (K2 f2 : Nat) (R2 : ByteArray) : Prop := LS B w0 w h b g n W pv ap xs Ls t m ct S K f R ∧ LS B w0 w h2 b2 g2 n2 W2 pv2 ap2 xs2 Ls2 t2 m2 ct2 S2 K2 f2 R2 ∧ ∀ y ∈ LSD h b g xs t ct, y ∉ LSD h2 b2 g2 xs2 t2 ct2
theorem TW.symm {B : Nat} {w0 w : World} {h b g n W : Nat} {pv : Value} {ap : Option Addr} {xs : List Nat} {Ls : List (List (Bool × BitVec 256))} {t : Option Addr} {m ct : Nat} {S : ByteArray} {K f : Nat} {R : ByteArray} {h2 b2 g2 n2 W2 : Nat} {pv2 : Value} {ap2 : Option Addr} {xs2 : List Nat} {Ls2 : List (List (Bool × BitVec 256))} {t2 : Option Addr} {m2 ct2 : Nat} {S2 : ByteArray} {K2 f2 : Nat} {R2 : ByteArray} (H : TW B w0 w h b g n W pv ap xs Ls t m ct S K f R h2 b2 g2 n2 W2 pv2 ap2 xs2 Ls2 t2 m2 ct2 S2 K2 f2 R2) : TW B w0 w h2 b2 g2 n2 W2 pv2 ap2 xs2 Ls2 t2 m2 ct2 S2 K2 f2 R2 h b g n W pv ap xs Ls t m ct S K f R := ⟨H.2.1, H.1, fun y hy e => H.2.2 y e hy⟩
/-- Rows of pairs stay. -/
def RK (w w' : World) : Prop := ∀ g cap L, Rn w g cap 2 L 87 → Rn w' g cap 2 L 87
theorem RK.of_below {w w' : World} (k : Below w.heap.size w w') : RK w w' := fun g cap L r => r.chg (Chg.of_fresh (l := []) k) (by simp)
theorem TW.below {B : Nat} {w0 w : World} {h b g n W : Nat} {pv : Value} {ap : Option Addr} {xs : List Nat} {Ls : List (List (Bool × BitVec 256))} {t : Option Addr} {m ct : Nat} {S : ByteArray} {K f : Nat} {R : ByteArray} {h2 b2 g2 n2 W2 : Nat} {pv2 : Value} {ap2 : Option Addr} {xs2 : List Nat} {Ls2 : List (List (Bool × BitVec 256))} {t2 : Option Addr} {m2 ct2 : Nat} {S2 : ByteArray} {K2 f2 : Nat} {R2 : ByteArray} (H : TW B w0 w h b g n W pv ap xs Ls t m ct S K f R h2 b2 g2 n2 W2 pv2 ap2 xs2 Ls2 t2 m2 ct2 S2 K2 f2 R2) {w' : World} (k : Below w.heap.size w w') : TW B w0 w' h b g n W pv ap xs Ls t m ct S K f R h2 b2 g2 n2 W2 pv2 ap2 xs2 Ls2 t2 m2 ct2 S2 K2 f2 R2 := ⟨H.1.below k, H.2.1.below k, H.2.2⟩
theorem TW.pairs {B : Nat} {w0 w : World} {h b g n W : Nat} {pv : Value} {ap : Option Addr} {xs : List Nat} {Ls : List (List (Bool × BitVec 256))} {t : Option Addr} {m ct : Nat} {S : ByteArray} {K f : Nat} {R : ByteArray} {h2 b2 g2 n2 W2 : Nat} {pv2 : Value} {ap2 : Option Addr} {xs2 : List Nat} {Ls2 : List (List (Bool × BitVec 256))} {t2 : Option Addr} {m2 ct2 : Nat} {S2 : ByteArray} {K2 f2 : Nat} {R2 : ByteArray} (H : TW B w0 w h b g n W pv ap xs Ls t m ct S K f R h2 b2 g2 n2 W2 pv2 ap2 xs2 Ls2 t2 m2 ct2 S2 K2 f2 R2) {w' : World} {g0 cap : Nat} {L : List Value} (r : Rn w g0 cap 2 L 87) (hB : B ≤ g0) (k : Chg [g0] w w') : TW B w0 w' h b g n W pv ap xs Ls t m ct S K f R h2 b2 g2 n2 W2 pv2 ap2 xs2 Ls2 t2 m2 ct2 S2 K2 f2 R2 := by
  have hot : OT2 w g0 := by
    obtain ⟨q, _, _, q3⟩ := r
    exact OT2.of q3 (by decide)
  refine ⟨H.1.chg k fun y hy => ?_, H.2.1.chg k fun y hy => ?_, H.2.2⟩
  · simp at hy
    subst hy
    refine ⟨hot, hB, fun e => ?_⟩
    obtain ⟨q, _, _, q3⟩ := r
    exact (H.1.dom _ e).1.2 _ q3
  · simp at hy
    subst hy
    refine ⟨hot, hB, fun e => ?_⟩
    obtain ⟨q, _, _, q3⟩ := r
    exact (H.2.1.dom _ e).1.2 _ q3
/-- The first one changes, the second one and pairs stay. -/
theorem TW.step {B : Nat} {w0 w : World} {h b g n W : Nat} {pv : Value} {ap : Option Addr} {xs : List Nat} {Ls : List (List (Bool × BitVec 256))} {t : Option Addr} {m ct : Nat} {S : ByteArray} {K f : Nat} {R : ByteArray} {h2 b2 g2 n2 W2 : Nat} {pv2 : Value} {ap2 : Option Addr} {xs2 : List Nat} {Ls2 : List (List (Bool × BitVec 256))} {t2 : Option Addr} {m2 ct2 : Nat} {S2 : ByteArray} {K2 f2 : Nat} {R2 : ByteArray} {pv3 : Value} {ap3 t3 : Option Addr} {xs3 : List Nat} {Ls3 : List (List (Bool × BitVec 256))} {m3 ct3 K3 f3 : Nat} {S3 R3 : ByteArray} (H : TW B w0 w h b g n W pv ap xs Ls t m ct S K f R h2 b2 g2 n2 W2 pv2 ap2 xs2 Ls2 t2 m2 ct2 S2 K2 f2 R2) {w' : World} (H1 : LS B w0 w' h b g n W pv3 ap3 xs3 Ls3 t3 m3 ct3 S3 K3 f3 R3) {l : List Nat} (kc : Chg l w w') (hl : ∀ y ∈ l, y ∈ LSD h b g xs t ct) (hd : ∀ y ∈ LSD h b g xs3 t3 ct3, y ∈ LSD h b g xs t ct ∨ w.heap.size ≤ y) : TW B w0 w' h b g n W pv3 ap3 xs3 Ls3 t3 m3 ct3 S3 K3 f3 R3 h2 b2 g2 n2 W2 pv2 ap2 xs2 Ls2 t2 m2 ct2 S2 K2 f2 R2 ∧ RK w w' := by
  refine ⟨⟨H1, H.2.1.chg kc (fun y hy => ⟨(H.1.dom y (hl y hy)).1.1, (H.1.dom y (hl y hy)).2.2, H.2.2 y (hl y hy)⟩), fun y hy e => ?_⟩, fun g0 cap L r => r.chg kc fun e => ?_⟩
  · rcases hd y hy with z | z
    · exact H.2.2 y z e
    · have := (H.2.1.dom y e).2.1; omega
  · obtain ⟨q, _, _, q3⟩ := r
    exact (H.1.dom g0 (hl g0 e)).1.2 _ q3
/-- A look of the first one, if neither is full by it. -/
theorem tw_look {B : Nat} {w0 w : World} {h b g n W : Nat} {pv : Value} {ap : Option Addr} {xs : List Nat} {Ls : List (List (Bool × BitVec 256))} {t : Option Addr} {m ct : Nat} {S : ByteArray} {K f : Nat} {R : ByteArray} {h2 b2 g2 n2 W2 : Nat} {pv2 : Value} {ap2 : Option Addr} {xs2 : List Nat} {Ls2 : List (List (Bool × BitVec 256))} {t2 : Option Addr} {m2 ct2 : Nat} {S2 : ByteArray} {K2 f2 : Nat} {R2 : ByteArray} (H : TW B w0 w h b g n W pv ap xs Ls t m ct S K f R h2 b2 g2 n2 W2 pv2 ap2 xs2 Ls2 t2 m2 ct2 S2 K2 f2 R2) (T : List UInt8) (hT : S.data.toList ++ R.data.toList = T) (hW : T.length ≤ W) :
    (∀ q e, Hd.nx Ls T (T.length - K) K = some (q, e) → Calls Try.prog 39 #[.pointer (some ⟨h, 0, none⟩), .pointer (some ⟨b, 0, none⟩)] w fun r w' => ∃ rd t' m' ct' S' f' R', r = .returned (.agg #[.bool true, .bool false, .int .i64 (q : Nat), .int .i64 (e : Nat), .int .i64 (rd : Nat)]) ∧ TW B w0 w' h b g n W pv ap xs Ls t' m' ct' S' 0 f' R' h2 b2 g2 n2 W2 pv2 ap2 xs2 Ls2 t2 m2 ct2 S2 K2 f2 R2 ∧ RK w w' ∧ S'.data.toList ++ R'.data.toList = T.drop e) ∧
    (Hd.nx Ls T (T.length - K) K = none → Calls Try.prog 39 #[.pointer (some ⟨h, 0, none⟩), .pointer (some ⟨b, 0, none⟩)] w fun r w' => ∃ rd t' m' ct' S' f' R', r = .returned (.agg #[.bool false, .bool false, .int .i64 0, .int .i64 0, .int .i64 (rd : Nat)]) ∧ TW B w0 w' h b g n W pv ap xs Ls t' m' ct' S' T.length f' R' h2 b2 g2 n2 W2 pv2 ap2 xs2 Ls2 t2 m2 ct2 S2 K2 f2 R2 ∧ RK w w' ∧ S'.data.toList = T ∧ R'.data.toList = []) := by
  have hm := H.1.1.tv.1
  have hK := H.1.1.km
  have hsz : S.data.toList.length = m := by rw [bl_size]; exact hm
  have hrz : R.data.toList.length = R.size := bl_size R
  have hTl : T.length = m + R.size := by rw [← hT, List.length_append, hsz, hrz]
  have key := look_nx (Ls := Ls) (W := W) (T.length - K) S.data.toList R.data.toList T K ((m - K) + R.size + 1) 0 hT (by omega) (by omega) hW (by omega)
  have hsp := H.1.2.2.2.1
  have go : ∀ res, Hd.look Ls W ((m - K) + R.size + 1) S.data.toList K R.data.toList 0 = res → Calls Try.prog 39 #[.pointer (some ⟨h, 0, none⟩), .pointer (some ⟨b, 0, none⟩)] w fun r w' => r = .returned (.agg #[.bool res.hit, .bool res.full, .int .i64 res.arm, .int .i64 res.gone, .int .i64 res.rd]) ∧ ∃ t' m' ct' S' f' R', TW B w0 w' h b g n W pv ap xs Ls t' m' ct' S' res.K f' R' h2 b2 g2 n2 W2 pv2 ap2 xs2 Ls2 t2 m2 ct2 S2 K2 f2 R2 ∧ RK w w' ∧ S'.data.toList = res.S ∧ R'.data.toList = res.Q := by
    intro res hres
    refine (hd_look h b g n f W m ct K t ap S R pv xs Ls res hres ⟨hsp.1, hsp.2.1⟩ hsp.2.2 w H.1.1 H.1.2.1 H.1.2.2.1).mono fun e w' ⟨he, t', m', ct', S', f', R', q1, q2, q3, q4, q5, q6, q7⟩ => ?_
    have hl := H.1.2.2.1.lts
    have hB := H.1.2.2.2.2.1
    have hw := H.1.2.2.2.2.2.2
    have L1 : LS B w0 w' h b g n W pv ap xs Ls t' m' ct' S' res.K f' R' := by
      refine ⟨q1, by rw [q2]; exact q3, q4, ⟨hsp.1, hsp.2.1, fun x hx => ?_⟩, ⟨hB.1, hB.2.1, hB.2.2.1, hB.2.2.2.1, fun x hx => ?_⟩, q7.onto H.1.2.2.2.2.2.1 hw (fun x hx => ?_), Nat.le_trans hw q7.size⟩
      · rcases q6 x hx with e | e
        · exact hsp.2.2 x e
        · omega
      · rcases q6 x hx with e | e
        · exact hB.2.2.2.2 x e
        · omega
      · simp at hx
        rcases hx with e | e | e | e
        · omega
        · omega
        · exact hB.2.2.2.1 x e
        · exact hB.2.2.2.2 x e
    have k := H.step L1 q7 (fun y hy => by
      simp at hy
      rcases hy with e | e | e | e <;> simp [LSD, e]) (fun y hy => by
      unfold LSD at hy ⊢
      rw [List.mem_cons, List.mem_cons, List.mem_cons, List.mem_append] at hy
      rcases hy with rfl | rfl | rfl | hy | hy
      · exact Or.inl (by simp)
      · exact Or.inl (by simp)
      · exact Or.inl (by simp)
      · exact Or.inl (by simp [hy])
      · rcases q6 y hy with e | e
        · exact Or.inl (by simp [e])
        · exact Or.inr e)
    exact ⟨he, t', m', ct', S', f', R', k.1, k.2, q2, q5⟩
  constructor
  · intro q e hn
    obtain ⟨S', Q', rd', k1, k2⟩ := key.1 q e hn
    refine (go _ k1).mono fun r w' ⟨he, t', m', ct', S2, f', R2, z1, z2, z3, z4⟩ => ?_
    exact ⟨rd', t', m', ct', S2, f', R2, he, z1, z2, by rw [z3, z4]; exact k2⟩
  · intro hn
    obtain ⟨rd', k1⟩ := key.2 hn
    refine (go _ k1).mono fun r w' ⟨he, t', m', ct', S2, f', R2, z1, z2, z3, z4⟩ => ?_
    exact ⟨rd', t', m', ct', S2, f', R2, he, z1, z2, z3, z4⟩
theorem tw_put {B : Nat} {w0 w : World} {h b g n W : Nat} {pv : Value} {ap : Option Addr} {xs : List Nat} {Ls : List (List (Bool × BitVec 256))} {t : Option Addr} {m ct : Nat} {S : ByteArray} {K f : Nat} {R : ByteArray} {h2 b2 g2 n2 W2 : Nat} {pv2 : Value} {ap2 : Option Addr} {xs2 : List Nat} {Ls2 : List (List (Bool × BitVec 256))} {t2 : Option Addr} {m2 ct2 : Nat} {S2 : ByteArray} {K2 f2 : Nat} {R2 : ByteArray} (H : TW B w0 w h b g n W pv ap xs Ls t m ct S K f R h2 b2 g2 n2 W2 pv2 ap2 xs2 Ls2 t2 m2 ct2 S2 K2 f2 R2) (s : ByteArray) (hs : s.size ≤ 100000) :
    Calls Try.prog 36 #[.pointer (some ⟨b, 0, none⟩), .string s] w fun e w' => e = .returned (.int .i64 (min s.size (n - R.size) : Nat)) ∧ TW B w0 w' h b g n W pv ap xs Ls t m ct S K f (R ++ s.extract 0 (min s.size (n - R.size))) h2 b2 g2 n2 W2 pv2 ap2 xs2 Ls2 t2 m2 ct2 S2 K2 f2 R2 ∧ RK w w' :=
  (put_any b g n f R s w hs H.1.2.2.1).mono fun e w' ⟨he, q1, q2⟩ => by
    have hsp := H.1.2.2.2.1
    have hB := H.1.2.2.2.2.1
    have ot := H.1.2.2.1.ots
    have L1 : LS B w0 w' h b g n W pv ap xs Ls t m ct S K f (R ++ s.extract 0 (min s.size (n - R.size))) := ⟨H.1.1.chg q2 (by simp; exact ⟨hsp.1, hsp.2.1⟩) (fun x hx => by simp; exact hsp.2.2 x hx), H.1.2.1.chg q2 (fun x hx => by simp at hx; rcases hx with e | e; rw [e]; exact ot.1; rw [e]; exact ot.2), q1, hsp, hB, q2.onto H.1.2.2.2.2.2.1 H.1.2.2.2.2.2.2 (fun x hx => by simp at hx; rcases hx with e | e <;> omega), Nat.le_trans H.1.2.2.2.2.2.2 q2.size⟩
    have k := H.step L1 q2 (fun y hy => by
      simp at hy
      rcases hy with e | e <;> simp [LSD, e]) (fun y hy => Or.inl hy)
    exact ⟨he, k.1, k.2⟩
theorem tw_text {B : Nat} {w0 w : World} {h b g n W : Nat} {pv : Value} {ap : Option Addr} {xs : List Nat} {Ls : List (List (Bool × BitVec 256))} {t : Option Addr} {m ct : Nat} {S : ByteArray} {K f : Nat} {R : ByteArray} {h2 b2 g2 n2 W2 : Nat} {pv2 : Value} {ap2 : Option Addr} {xs2 : List Nat} {Ls2 : List (List (Bool × BitVec 256))} {t2 : Option Addr} {m2 ct2 : Nat} {S2 : ByteArray} {K2 f2 : Nat} {R2 : ByteArray} (H : TW B w0 w h b g n W pv ap xs Ls t m ct S K f R h2 b2 g2 n2 W2 pv2 ap2 xs2 Ls2 t2 m2 ct2 S2 K2 f2 R2) : Calls Try.prog 43 #[.pointer (some ⟨h, 0, none⟩)] w fun e w' => e = .returned (.string S) ∧ TW B w0 w' h b g n W pv ap xs Ls t m ct S K f R h2 b2 g2 n2 W2 pv2 ap2 xs2 Ls2 t2 m2 ct2 S2 K2 f2 R2 ∧ RK w w' :=
  (hd_text H.1.1).mono fun e w' ⟨he, k⟩ => ⟨he, H.below k, RK.of_below k⟩
theorem tw_begin {B : Nat} {w0 w : World} {h b g n W : Nat} {pv : Value} {ap : Option Addr} {xs : List Nat} {Ls : List (List (Bool × BitVec 256))} {t : Option Addr} {m ct : Nat} {S : ByteArray} {K f : Nat} {R : ByteArray} {h2 b2 g2 n2 W2 : Nat} {pv2 : Value} {ap2 : Option Addr} {xs2 : List Nat} {Ls2 : List (List (Bool × BitVec 256))} {t2 : Option Addr} {m2 ct2 : Nat} {S2 : ByteArray} {K2 f2 : Nat} {R2 : ByteArray} (H : TW B w0 w h b g n W pv ap xs Ls t m ct S K f R h2 b2 g2 n2 W2 pv2 ap2 xs2 Ls2 t2 m2 ct2 S2 K2 f2 R2) (ss : List ByteArray) (k : Nat) (hk : ss.length = k) (hk8 : k ≤ 8) (gg c : Nat) (hs : ∀ s ∈ ss, s.size ≤ 1000000) (he : (Ar.nw ss k).2 = 0) (hI : TX w (some ⟨gg, 0, none⟩) ss) (Ls' : List (List (Bool × BitVec 256))) (hL : ss.map Ar.pat = Ls') :
    Calls Try.prog 42 #[.pointer (some ⟨h, 0, none⟩), .slice (some ⟨gg, 0, none⟩) k c] w fun r w' => ∃ x gp cp xs', r = .returned (.int .i64 0) ∧ TW B w0 w' h b g n W (.slice (some ⟨gp, 0, none⟩) k cp) (some ⟨x, 0, none⟩) xs' Ls' t m ct S 0 f R h2 b2 g2 n2 W2 pv2 ap2 xs2 Ls2 t2 m2 ct2 S2 K2 f2 R2 ∧ RK w w' :=
  (hd_begin_yes h W m ct K t ap S pv ss k hk hk8 gg c hs he w H.1.1 hI).mono fun r w' ⟨x, gp, cp, xs', q0, q1, q2, q3, q4, q5, q6⟩ => by
    have hsp := H.1.2.2.2.1
    have hB := H.1.2.2.2.2.1
    rw [hL] at q2
    have L1 : LS B w0 w' h b g n W (.slice (some ⟨gp, 0, none⟩) k cp) (some ⟨x, 0, none⟩) xs' Ls' t m ct S 0 f R := ⟨q1, q2, H.1.2.2.1.chg q6 (by simp; exact fun e => hsp.1 e.symm) (by simp; exact fun e => hsp.2.1 e.symm), hsp, ⟨hB.1, hB.2.1, hB.2.2.1, fun y hy => Nat.le_trans H.1.2.2.2.2.2.2 (q5 y hy), hB.2.2.2.2⟩, q6.onto H.1.2.2.2.2.2.1 H.1.2.2.2.2.2.2 (fun y hy => by simp at hy; omega), Nat.le_trans H.1.2.2.2.2.2.2 q6.size⟩
    have k := H.step L1 q6 (fun y hy => by
      simp at hy
      simp [LSD, hy]) (fun y hy => by
      unfold LSD at hy ⊢
      rw [List.mem_cons, List.mem_cons, List.mem_cons, List.mem_append] at hy
      rcases hy with rfl | rfl | rfl | hy | hy
      · exact Or.inl (by simp)
      · exact Or.inl (by simp)
      · exact Or.inl (by simp)
      · exact Or.inr (q5 y hy)
      · exact Or.inl (by simp [hy]))
    exact ⟨x, gp, cp, xs', q0, k.1, k.2⟩
theorem Rw.fr {w w' : World} {g cap : Nat} {L : List Value} {T : TypeId} (h : Rw w g cap L T) (k : Below w.heap.size w w') : Rw w' g cap L T := h.chg (Chg.of_fresh (l := []) k) (by simp)
theorem tw_begin2 {B : Nat} {w0 w : World} {h b g n W : Nat} {pv : Value} {ap : Option Addr} {xs : List Nat} {Ls : List (List (Bool × BitVec 256))} {t : Option Addr} {m ct : Nat} {S : ByteArray} {K f : Nat} {R : ByteArray} {h2 b2 g2 n2 W2 : Nat} {pv2 : Value} {ap2 : Option Addr} {xs2 : List Nat} {Ls2 : List (List (Bool × BitVec 256))} {t2 : Option Addr} {m2 ct2 : Nat} {S2 : ByteArray} {K2 f2 : Nat} {R2 : ByteArray} (H : TW B w0 w h b g n W pv ap xs Ls t m ct S K f R h2 b2 g2 n2 W2 pv2 ap2 xs2 Ls2 t2 m2 ct2 S2 K2 f2 R2) (ss : List ByteArray) (k : Nat) (hk : ss.length = k) (hk8 : k ≤ 8) (gg c : Nat) (hs : ∀ s ∈ ss, s.size ≤ 1000000) (he : (Ar.nw ss k).2 = 0) (hI : TX w (some ⟨gg, 0, none⟩) ss) (Ls' : List (List (Bool × BitVec 256))) (hL : ss.map Ar.pat = Ls') (g1 c1 : Nat) (hr : Rw w g1 c1 (ss.map .string) 9) (hsm : ∀ s ∈ ss, s.size ≤ maxLen) :
    Calls Try.prog 42 #[.pointer (some ⟨h, 0, none⟩), .slice (some ⟨gg, 0, none⟩) k c] w fun r w' => ∃ x gp cp xs', r = .returned (.int .i64 0) ∧ TW B w0 w' h b g n W (.slice (some ⟨gp, 0, none⟩) k cp) (some ⟨x, 0, none⟩) xs' Ls' t m ct S 0 f R h2 b2 g2 n2 W2 pv2 ap2 xs2 Ls2 t2 m2 ct2 S2 K2 f2 R2 ∧ TX w' (some ⟨g1, 0, none⟩) ss :=
  (hd_begin_yes h W m ct K t ap S pv ss k hk hk8 gg c hs he w H.1.1 hI).mono fun r w' ⟨x, gp, cp, xs', q0, q1, q2, q3, q4, q5, q6⟩ => by
    have hsp := H.1.2.2.2.1
    have hB := H.1.2.2.2.2.1
    rw [hL] at q2
    have L1 : LS B w0 w' h b g n W (.slice (some ⟨gp, 0, none⟩) k cp) (some ⟨x, 0, none⟩) xs' Ls' t m ct S 0 f R := ⟨q1, q2, H.1.2.2.1.chg q6 (by simp; exact fun e => hsp.1 e.symm) (by simp; exact fun e => hsp.2.1 e.symm), hsp, ⟨hB.1, hB.2.1, hB.2.2.1, fun y hy => Nat.le_trans H.1.2.2.2.2.2.2 (q5 y hy), hB.2.2.2.2⟩, q6.onto H.1.2.2.2.2.2.1 H.1.2.2.2.2.2.2 (fun y hy => by simp at hy; omega), Nat.le_trans H.1.2.2.2.2.2.2 q6.size⟩
    have k := H.step L1 q6 (fun y hy => by
      simp at hy
      simp [LSD, hy]) (fun y hy => by
      unfold LSD at hy ⊢
      rw [List.mem_cons, List.mem_cons, List.mem_cons, List.mem_append] at hy
      rcases hy with rfl | rfl | rfl | hy | hy
      · exact Or.inl (by simp)
      · exact Or.inl (by simp)
      · exact Or.inl (by simp)
      · exact Or.inr (q5 y hy)
      · exact Or.inl (by simp [hy]))
    refine ⟨x, gp, cp, xs', q0, k.1, TX.of_rw (hr.chg q6 ?_) hsm⟩
    simp
    intro e
    obtain ⟨_, _, _, q⟩ := hr
    rw [e] at q
    exact absurd (blk_ty q H.1.1.o) (by decide)
theorem tw_new {w0 w1 w2 w3 w4 : World} {h k W1 W2 n1 n2 : Nat} (h1 : HO w1 h W1 none 0 0 ByteArray.empty 0 (.slice none 0 0) none) (b1 : Below w0.heap.size w0 w1) (hh : w0.heap.size ≤ h) (h2 : HO w2 k W2 none 0 0 ByteArray.empty 0 (.slice none 0 0) none) (b2 : Below w1.heap.size w1 w2) (hk : w1.heap.size ≤ k)
    (h3 : RAt w3 (w2.heap.size + 1) w2.heap.size n1 0 ByteArray.empty) (b3 : Below w2.heap.size w2 w3) (h4 : RAt w4 (w3.heap.size + 1) w3.heap.size n2 0 ByteArray.empty) (b4 : Below w3.heap.size w3 w4) :
    TW w0.heap.size w0 w4 h (w2.heap.size + 1) w2.heap.size n1 W1 (.slice none 0 0) none [] [] none 0 0 ByteArray.empty 0 0 ByteArray.empty k (w3.heap.size + 1) w3.heap.size n2 W2 (.slice none 0 0) none [] [] none 0 0 ByteArray.empty 0 0 ByteArray.empty := by
  have z1 := b1.size
  have z2 := b2.size
  have z3 := b3.size
  have l1 := h1.o.lt
  have l2 := h2.o.lt
  have l3 := h3.lts
  have e12 : Below w0.heap.size w0 w2 := b1.trans (b2.mono z1)
  have A := ls_new (w0 := w0) (h1.below b2) e12 hh h3 b3
  have C := ls_new (w0 := w0) (h2.below b3) (e12.trans (b3.mono (by omega))) (by omega) h4 b4
  refine ⟨A.below b4, C, fun y hy e => ?_⟩
  simp [LSD, tvB] at hy e
  omega
/-- Pairs as cells. -/
def pz (l : List (Nat × Nat)) : List Value := l.flatMap fun x => [.int .i64 x.1, .int .i64 x.2]
theorem pz_append (l : List (Nat × Nat)) (a b : Nat) : pz (l ++ [(a, b)]) = pz l ++ [.int .i64 (a : Nat), .int .i64 (b : Nat)] := by simp [pz]
theorem pz_length (l : List (Nat × Nat)) : (pz l).length = l.length * 2 := by
  induction l with
  | nil => rfl
  | cons x l ih => simp [pz] at ih ⊢; omega
theorem pz_at (l : List (Nat × Nat)) (i a b : Nat) (h : l[i]? = some (a, b)) : (pz l)[i * 2]? = some (.int .i64 a) ∧ (pz l)[i * 2 + 1]? = some (.int .i64 b) := by
  induction l generalizing i with
  | nil => simp at h
  | cons x l ih =>
    cases i with
    | zero => simp at h; subst h; exact ⟨rfl, rfl⟩
    | succ i =>
      simp at h
      have := ih i h
      have e : pz (x :: l) = .int .i64 x.1 :: .int .i64 x.2 :: pz l := rfl
      rw [e, show (i + 1) * 2 = i * 2 + 2 by omega]
      exact this
theorem pz_two (w : World) (y z : Int) (T : TypeId) (j : Nat) (u : Value) (hj : [Value.int .i64 y, Value.int .i64 z][j]? = some u) : (w.alloc (.cells #[.int .i64 y, .int .i64 z] T)).cell? ((⟨w.heap.size, 0, none⟩ : Addr).add j) = some u := by
  have h := Blk.newA w #[.int .i64 y, .int .i64 z] T
  cases j with
  | zero => simp at hj; subst hj; exact h.cell (i := 0) rfl
  | succ j =>
    cases j with
    | zero => simp at hj; subst hj; exact h.cell (i := 1) rfl
    | succ j => simp at hj
theorem pz_two2 (w : World) (x : Nat) (hx : x = w.heap.size) (y z : Int) (T : TypeId) (j : Nat) (u : Value) (hj : [Value.int .i64 y, Value.int .i64 z][j]? = some u) : (w.alloc (.cells #[.int .i64 y, .int .i64 z] T)).cell? ((⟨x, 0, none⟩ : Addr).add j) = some u := by
  subst hx
  exact pz_two w y z T j u hj
theorem pz_one (y z : Int) : ∀ u ∈ [Value.int .i64 y, Value.int .i64 z], u.oneCell' = true := by
  intro u hu
  simp at hu
  rcases hu with rfl | rfl <;> rfl
theorem eqIn_pair (a b : Int) (w : World) : (Op.equalIn 10000 87 (.agg #[.int .i64 a, .int .i64 b]) (.agg #[.int .i64 a, .int .i64 b])).run Try.prog w = .ok true w := by
  have h : ∀ n m : Int, (Op.equalIn 9999 3 (.int .i64 n) (.int .i64 m)).run Try.prog w = .ok (n == m) w := fun n m => by
    rw [run_equalIn_int w 9998 3 .i64 .i64 n m Try.underlying3]
  show (Op.equalIn (9999 + 1) _ _ _).run _ _ = _
  rw [Op.equalIn]
  simp [go_sem, run_underlying Try.underlying87, Std.Legacy.Range.forIn_eq_forIn_range', Std.Legacy.Range.size, List.range', part, h]
theorem infopz : (Try.prog.info? 87).map (fun i => (i.zero, i.size, i.bytes)) = some (some (.agg #[.int .i64 0, .int .i64 0]), 2, 16) := by kernel_rfl
end Go.Proofs.Ytbdjcppkfihonaa
