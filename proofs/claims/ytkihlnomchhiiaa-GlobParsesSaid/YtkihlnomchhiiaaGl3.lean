/- Contracts of patterns as texts: the pattern of a text that is one. -/
import Derived.Test.YtkihlnomchhiiaaGl2
namespace Go.Proofs.Ytkihlnomchhiiaa
open Go.ChangeShapes Go.WideShapes Go.ChangeAt Go.RowKit
set_option linter.unusedSimpArgs false
set_option linter.unusedVariables false

theorem infoI : (Try.prog.info? 40).map (fun i => (i.zero, i.size, i.bytes)) = some (some (.agg #[.bool false, .int .u64 0, .int .u64 0, .int .u64 0, .int .u64 0]), 5, 40) := by kernel_rfl
/-- Items as cells. -/
def its : List (Bool × BitVec 256) → List Value
  | [] => []
  | x :: l => .bool x.1 :: .int .u64 (Cs.wd x.2 0) :: .int .u64 (Cs.wd x.2 1) :: .int .u64 (Cs.wd x.2 2) :: .int .u64 (Cs.wd x.2 3) :: its l
theorem its_append : ∀ l m, its (l ++ m) = its l ++ its m
  | [], m => rfl
  | x :: l, m => by simp [its, its_append l m]
theorem its_length : ∀ l, (its l).length = l.length * 5
  | [] => rfl
  | x :: l => by simp [its, its_length l]; omega
theorem info_split {P : Program} {e : TypeId} {z : Value} {a b : Nat} (h : (P.info? e).map (fun i => (i.zero, i.size, i.bytes)) = some (some z, a, b)) : ∃ i, P.info? e = some i ∧ i.zero = some z ∧ i.size = a ∧ i.bytes = b := by
  obtain ⟨i, hi, hz⟩ := Option.map_eq_some_iff.1 h
  simp only [Prod.mk.injEq] at hz
  exact ⟨i, hi, hz.1, hz.2.1, hz.2.2⟩
theorem new_cells (w : World) (cs : Array Value) (T : TypeId) (j : Nat) (u : Value) (hj : cs.toList[j]? = some u) : (w.alloc (.cells cs T)).cell? ((⟨w.heap.size, 0, none⟩ : Addr).add j) = some u := by
  have e2 : (({ block := w.heap.size, off := 0, spot := none } : Addr).add j) = ⟨w.heap.size, j, none⟩ := by simp [Addr.add]; omega
  rw [e2]
  exact (Blk.newA w cs T).cell hj
theorem one_item (r : Bool) (a b c d : Int) : ∀ u ∈ [Value.bool r, .int .u64 a, .int .u64 b, .int .u64 c, .int .u64 d], u.oneCell' = true := by
  intro u hu; simp at hu; rcases hu with rfl | rfl | rfl | rfl | rfl <;> rfl
theorem own_slice {w : World} {base : Nat} {e : TypeId} {size : Nat} {v : Value} {n : Nat} {xs : List Value} (h : w.ownsRow base e size v n xs) : ∃ a c, v = .slice a n c := by
  rcases h.2 with ⟨h1, h2⟩ | ⟨g, cap, cur, h1, _⟩
  · subst h2; exact ⟨none, 0, h1⟩
  · exact ⟨_, cap, h1⟩
/-- Whether items may be: a run has no set. -/
def okI (l : List (Bool × BitVec 256)) : Prop := ∀ x ∈ l, x.1 = true → x.2 = 0
def Cs.itxs (l : List (Bool × BitVec 256)) : List UInt8 := l.flatMap fun x => Cs.itx x.1 x.2
theorem itxs_cons (x : Bool × BitVec 256) (l : List (Bool × BitVec 256)) : Cs.itxs (x :: l) = Cs.itx x.1 x.2 ++ Cs.itxs l := by simp [Cs.itxs]
theorem itxs_append (l m : List (Bool × BitVec 256)) : Cs.itxs (l ++ m) = Cs.itxs l ++ Cs.itxs m := by simp [Cs.itxs]
set_option maxRecDepth 20000 in
set_option maxHeartbeats 1000000 in
theorem gl_parse (s : ByteArray) (l : List (Bool × BitVec 256)) (hs : s.size ≤ 1000000) (h : s.data.toList = Cs.itxs l) (hok : okI l) (hl : l.length ≤ 60) (w : World) :
    Calls Try.prog 7 #[.string s] w fun e w' => ∃ v, e = .returned (.tuple #[v, .int .i64 0, .int .i64 0]) ∧ w'.ownsRow w.heap.size 40 5 v l.length (its l) ∧ Below w.heap.size w w' := by
  obtain ⟨i0, hi, hz0, hz1, hz2⟩ := info_split infoI
  have HI := Lib.hid hi
  have HI0 := Lib.hid hz0
  have HI1 := Lib.hid hz1
  have HI2 := Lib.hid hz2
  obtain ⟨n, hn⟩ : ∃ n, s.size = n := ⟨_, rfl⟩
  have HP := Lib.hid (And.intro h (And.intro hok (And.intro hl hn)))
  have hn6 : n ≤ 1000000 := by omega
  clear hi hz0 hz1 hz2 h hok hl hs
  go_enter Try.func7, Try.ntmps7
  go_wp2
  go_loopw [5, 6] (fun v i wr => ∃ (k : Nat) (done todo : List (Bool × BitVec 256)), i = .int .i64 k ∧ k ≤ n ∧ Hid (l = done ++ todo ∧ s.data.toList.drop k = Cs.itxs todo) ∧ Hid (wr.ownsRow w.heap.size 40 5 v done.length (its done) ∧ Below w.heap.size w wr)) (fun _ i _ => n - (intOf i).toNat)
  case atStart => exact ⟨0, [], l, rfl, by omega, Lib.hid ⟨rfl, HP.out.1⟩, Lib.hid ⟨World.ownsRow_nil _ _ _ _, Below.refl _ _⟩⟩
  case round =>
    obtain ⟨k, done, todo, rfl, hk, HD, HB⟩ := hrel
    have j0 : (0 : Int) ≤ (k : Int) := by omega
    have hlen : s.data.toList.length = n := by rw [Array.length_toList]; exact hn
    cases todo with
    | nil =>
      have hkn : k = n := by
        have := congrArg List.length HD.out.2
        rw [List.length_drop, hlen] at this
        simp [Cs.itxs] at this
        omega
      have hD : Hid (l = done) := Lib.hid (by have := HD.out.1; simpa using this)
      clear hlen
      subst hkn
      go_wp2
      go_ret3
      exact ⟨u5, rfl, by rw [hD.out]; exact HB.out.1, HB.out.2⟩
    | cons x todo =>
      obtain ⟨r, X⟩ := x
      obtain ⟨j, hj⟩ : ∃ j, (Cs.itx r X).length = j := ⟨_, rfl⟩
      have hj1 : 1 ≤ j := by rw [← hj]; exact (itx_le r X).1
      have hkj : k + j ≤ n := by
        have := congrArg List.length HD.out.2
        rw [List.length_drop, hlen, itxs_cons, List.length_append, hj] at this
        omega
      have hkn : k < n := by omega
      obtain ⟨d, hd⟩ : ∃ d, done.length = d := ⟨_, rfl⟩
      have hd60 : d < 60 := by
        have := congrArg List.length HD.out.1
        rw [List.length_append, List.length_cons, hd] at this
        have := HP.out.2.2.1
        omega
      have hd6 : ((d : Int) == 60) = false := by rw [beq_eq_false_iff_ne]; omega
      obtain ⟨a, c, hv⟩ := own_slice HB.out.1
      rw [hd] at hv
      subst hv
      obtain ⟨u, hu⟩ : ∃ u, s.extract k n = u := ⟨_, rfl⟩
      have HU : Hid (u.data.toList = Cs.itx r X ++ Cs.itxs todo ∧ u.size ≤ 1000000 ∧ (r = true → X = 0)) := Lib.hid (by
        have e := ext_drop hn hu
        rw [HD.out.2, itxs_cons] at e
        refine ⟨e, ?_, HP.out.2.1 (r, X) (by rw [HD.out.1]; simp)⟩
        have e2 : u.data.toList.length ≤ n := by rw [ext_drop hn hu, List.length_drop, hlen]; omega
        rw [size_of rfl]; omega)
      have HD2 : Hid (l = (done ++ [(r, X)]) ++ todo ∧ s.data.toList.drop (k + j) = Cs.itxs todo) := Lib.hid ⟨by rw [HD.out.1]; simp, by rw [← List.drop_drop, HD.out.2, itxs_cons, ← hj, List.drop_left]⟩
      have HL := Lib.hid (And.intro hj hd)
      have w1 : IntKind.i64.wrap ((k : Int) + j) = (k : Int) + j := IntWalk.i64_in _ (by omega)
      clear hlen hj
      go_upto_region 9 with (go_at_call 20; refine (gl_read u r X _ HU.out.2.1 HU.out.1 HU.out.2.2 _).mono ?_; rintro e W1 ⟨rfl, hb1⟩; rw [HL.out.1]; unfold Cs.it; have HB1 : Hid (IB (W1.alloc (.cells #[.bool r, .int .u64 (Cs.wd X 0), .int .u64 (Cs.wd X 1), .int .u64 (Cs.wd X 2), .int .u64 (Cs.wd X 3)] 40)) W1.heap.size r X ∧ (W1.alloc (.cells #[.bool r, .int .u64 (Cs.wd X 0), .int .u64 (Cs.wd X 1), .int .u64 (Cs.wd X 2), .int .u64 (Cs.wd X 3)] 40)).ownsRow w.heap.size 40 5 (.slice a d c) d (its done) ∧ Below w.heap.size w (W1.alloc (.cells #[.bool r, .int .u64 (Cs.wd X 0), .int .u64 (Cs.wd X 1), .int .u64 (Cs.wd X 2), .int .u64 (Cs.wd X 3)] 40))) := Lib.hid ⟨IB.new W1 r X, by have := (own_below HB.out.1 hb1).alloc (.cells #[.bool r, .int .u64 (Cs.wd X 0), .int .u64 (Cs.wd X 1), .int .u64 (Cs.wd X 2), .int .u64 (Cs.wd X 3)] 40); rw [HL.out.2] at this; exact this, (HB.out.2.trans (hb1.mono HB.out.2.size)).alloc (by have := HB.out.2.size; have := hb1.size; omega) _⟩; clear hb1)
      clear HB
      revert HB1
      generalize W1.alloc (.cells #[.bool r, .int .u64 (Cs.wd X 0), .int .u64 (Cs.wd X 1), .int .u64 (Cs.wd X 2), .int .u64 (Cs.wd X 3)] 40) = V
      generalize W1.heap.size = D
      intro HB1
      have yb := Blk.cell HB1.out.1 (i := 0) rfl
      have y0 := Blk.cell HB1.out.1 (i := 1) rfl
      have y1 := Blk.cell HB1.out.1 (i := 2) rfl
      have y2 := Blk.cell HB1.out.1 (i := 3) rfl
      have y3 := Blk.cell HB1.out.1 (i := 4) rfl
      go_wp2_with (at_builtin; refine wpList_append_own _ rfl _ _ 23 rfl w.heap.size 40 i0 (.agg #[.bool false, .int .u64 0, .int .u64 0, .int .u64 0, .int .u64 0]) 5 40 Try.underlying23 HI.out HI0.out HI1.out HI2.out rfl (by decide) _ _ _ rfl (HB1.out.2.1.alloc _) ⟨V.heap.size, 0, none⟩ 1 1 [.bool r, .int .u64 (Cs.wd X 0), .int .u64 (Cs.wd X 1), .int .u64 (Cs.wd X 2), .int .u64 (Cs.wd X 3)] rfl rfl (new_cells _ _ _) (one_item _ _ _ _ _) (by unfold maxLen; omega) (by omega) (by have := HB1.out.2.2.size; simp; omega) ?_)
      intro v' w3 hown hgrow _
      have HN : Hid (w3.ownsRow w.heap.size 40 5 v' (done ++ [(r, X)]).length (its (done ++ [(r, X)])) ∧ Below w.heap.size w w3) := by
        have hs := HB1.out.2.2.size
        refine Lib.hid ⟨?_, (HB1.out.2.2.alloc hs _).grown hgrow (by simp; omega) (fun q hq => (HB1.out.2.1.lt q hq).1)⟩
        rw [its_append, List.length_append, HL.out.2]; exact hown
      clear hown hgrow
      go_wp2
      refine ⟨?_, ?measure⟩
      case measure => simp [intOf]; omega
      first
        | exact ⟨k + j, done ++ [(r, X)], todo, by go_num, by omega, HD2, HN⟩
        | ((repeat apply Exists.intro); exact ⟨⟨k + j, done ++ [(r, X)], todo, by go_num, by omega, HD2, HN⟩, rfl⟩)
end Go.Proofs.Ytkihlnomchhiiaa
