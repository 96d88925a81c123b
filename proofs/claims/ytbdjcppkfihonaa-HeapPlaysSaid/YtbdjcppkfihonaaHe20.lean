/- Heap: the document's Set. -/
import Derived.Test.YtbdjcppkfihonaaHe19
import Derived.WalkKit
import Derived.Deep.RegionLaw
import Derived.ProofKit
import Derived.Handy
import Derived.WalkLawsBesides
import Derived.WalkSpells
import Derived.Lib.Hide
import Derived.RegionTactic
import Derived.ChangeAlike
import Derived.WalkSmall
import Derived.Deep.QuietTactic
import Derived.BigQuiet
import Derived.OwnWalk
import Derived.Outline
import Derived.Deep.CutRange
import Derived.Deep.CutBlock
import Derived.LoopTactic
namespace Go.Proofs.Ytbdjcppkfihonaa
open Go.ChangeShapes Go.WideShapes Go.ChangeAt Go.RowKit
set_option linter.unusedSimpArgs false
set_option linter.unusedVariables false

theorem Rn.below' {w w' : World} {g cap sz : Nat} {L : List Value} {T : TypeId} (h : Rn w g cap sz L T) (k : Below w.heap.size w w') : Rn w' g cap sz L T := h.chg (Chg.of_fresh (l := []) k) (by simp)
theorem Rn.ins {w : World} {g c : Nat} {m : List (Int × Int)} {x : Int × Int} {j : Nat} {T : TypeId} (h : Rn w g c 2 (es (m.take j ++ [x]) ++ es (m.drop j)) T) : Rn w g c 2 (es (m.take j ++ x :: m.drop j)) T := by
  rw [← es_app, List.append_assoc] at h
  exact h
set_option maxRecDepth 20000 in
set_option maxHeartbeats 4000000 in
theorem rf_set_no (n c : Nat) (k : Int) (a : Option Addr) (id at_ : Int) (hid : ¬ (0 ≤ id ∧ id < k)) (w : World) : Calls Try.prog 16 #[.slice a n c, .int .i64 k, .int .i64 id, .int .i64 at_] w fun e w' => e = .returned (.tuple #[.slice a n c, .bool false]) ∧ w = w' := by
  by_cases h0 : id < 0
  · clear hid
    have hd : decide (id < 0) = true := by simpa using h0
    go_enter Try.func16, Try.ntmps16
    go_wp2
    go_ret2
    exact ⟨rfl, rfl⟩
  · have h1 : k ≤ id := by omega
    have hd : decide (id < 0) = false := by simpa using h0
    have hd2 : decide (k ≤ id) = true := by simpa using h1
    clear hid
    go_enter Try.func16, Try.ntmps16
    go_wp2
    go_ret2
    exact ⟨rfl, rfl⟩
set_option maxRecDepth 20000 in
set_option maxHeartbeats 4000000 in
theorem rf_set_never (l : List (Int × Int)) (n c : Nat) (hn : l.length = n) (hn6 : n ≤ 100000) (k : Int) (a : Option Addr) (id at_ : Int) (hid : 0 ≤ id ∧ id < k) (ha : at_ = 9223372036854775807) (w : World) (h : EA w a l) : Calls Try.prog 16 #[.slice a n c, .int .i64 k, .int .i64 id, .int .i64 at_] w fun e w' => ∃ g n' c', e = .returned (.tuple #[.slice (some ⟨g, 0, none⟩) n' c', .bool true]) ∧ Rn w' g c' 2 (es (He.cut l id)) 38 ∧ (He.cut l id).length = n' ∧ w.heap.size ≤ g ∧ Below w.heap.size w w' := by
  obtain ⟨h0, h1⟩ := hid
  have hd : decide (id < 0) = false := by simp; omega
  have hd2 : decide (k ≤ id) = false := by simp; omega
  have h2 : ¬ id < 0 := by omega
  have h3 : ¬ k ≤ id := by omega
  have H := Lib.hid (rf_cut5 l n c hn hn6 a id w h)
  subst ha
  clear hn h
  go_enter Try.func16, Try.ntmps16
  go_wp2_with (go_at_call 20; refine H.out.mono ?_; rintro e W1 ⟨g, n', c', rfl, q1, q2, q0, q3⟩; have HQ := Lib.hid (And.intro q1 (And.intro q2 (And.intro q0 q3))); clear q1 q2 q0 q3)
  go_ret2
  exact ⟨g, n', c', rfl, HQ.out⟩
set_option maxRecDepth 20000 in
set_option maxHeartbeats 8000000 in
theorem rf_set_some (l : List (Int × Int)) (n c : Nat) (hn : l.length = n) (hn6 : n ≤ 100000) (k : Int) (a : Option Addr) (id at_ : Int) (hid : 0 ≤ id ∧ id < k) (t : Int) (ht : Tk.own at_ = t) (ha : at_ ≠ 9223372036854775807) (m : List (Int × Int)) (hm : He.cut l id = m) (hs : He.srt m) (w : World) (h : EA w a l) : Calls Try.prog 16 #[.slice a n c, .int .i64 k, .int .i64 id, .int .i64 at_] w fun e w' => ∃ g n' c', e = .returned (.tuple #[.slice (some ⟨g, 0, none⟩) n' c', .bool true]) ∧ Rn w' g c' 2 (es (He.ins m (t, id))) 38 ∧ (He.ins m (t, id)).length = n' ∧ w.heap.size ≤ g ∧ Below w.heap.size w w' := by
  obtain ⟨h0, h1⟩ := hid
  have hd : decide (id < 0) = false := by simp; omega
  have hd2 : decide (k ≤ id) = false := by simp; omega
  have h2 : ¬ id < 0 := by omega
  have h3 : ¬ k ≤ id := by omega
  have hb : (at_ == 9223372036854775807) = false := by rw [beq_eq_false_iff_ne]; exact ha
  have hml : m.length ≤ n := by rw [← hm, ← hn]; exact List.length_filter_le _ _
  have H := Lib.hid (And.intro (rf_cut5 l n c hn hn6 a id w h) (And.intro hm (And.intro ht hs)))
  clear hn h hm ht hs
  go_enter Try.func16, Try.ntmps16
  go_wp2_with (first
    | (go_at_call 20; refine H.out.1.mono ?_; rintro e W1 ⟨g1, n1, c1, rfl, q1, q2, q0, q3⟩; rw [H.out.2.1] at q1 q2; have HQ := Lib.hid (And.intro q1 (And.intro q2 q3)); clear q1 q2 q0 q3)
    | (go_at_call 29; refine (rown_any _ _).mono ?_; rintro e W2 ⟨rfl, rfl⟩; rw [H.out.2.2.1]))
  have HB : Hid (Rn (W1.alloc (.cells #[.int .i64 t, .int .i64 id] 38)) g1 c1 2 (es m) 38 ∧ Blk (W1.alloc (.cells #[.int .i64 t, .int .i64 id] 38)) W1.heap.size [.int .i64 t, .int .i64 id] 38 ∧ Below w.heap.size w (W1.alloc (.cells #[.int .i64 t, .int .i64 id] 38))) := Lib.hid ⟨HQ.out.1.chg ((Chg.refl [] _).alloc _) (by simp), Blk.newA W1 _ _, HQ.out.2.2.alloc HQ.out.2.2.size _⟩
  have HZ : Hid (m.length = n1 ∧ He.srt m) := Lib.hid ⟨HQ.out.2.1, H.out.2.2.2⟩
  have hn1 : n1 ≤ 100000 := by have := HZ.out.1; omega
  revert HB
  generalize (W1.alloc (.cells #[.int .i64 t, .int .i64 id] 38)) = W2
  obtain ⟨X, hX⟩ : ∃ X, W1.heap.size = X := ⟨_, rfl⟩
  rw [hX]
  intro HB
  clear hX HQ
  go_wp2_with fail
  go_loopw [11] (fun iv wr => ∃ j : Nat, iv = .int .i64 j ∧ Hid (j ≤ He.pl m (t, id) ∧ Rn wr g1 c1 2 (es m) 38 ∧ Blk wr X [.int .i64 t, .int .i64 id] 38 ∧ Below w.heap.size w wr)) (fun iv _ => n1 - (intOf iv).toNat)
  case atStart => exact ⟨0, rfl, Lib.hid ⟨Nat.zero_le _, HB.out⟩⟩
  case round =>
    clear HB
    obtain ⟨j, rfl, HJ0⟩ := hrel
    have j0 : (0 : Int) ≤ (j : Int) := by omega
    have HR0 := Lib.hid HJ0.out.2
    have hp := pl_parts m (t, id) HZ.out.2
    by_cases hlt : j < n1
    · have jI : (j : Int) < (n1 : Int) := by omega
      obtain ⟨⟨x1, x2⟩, hx⟩ : ∃ x, m[j]? = some x := ⟨_, List.getElem?_eq_getElem (by rw [HZ.out.1]; exact hlt)⟩
      obtain ⟨b, hbv⟩ : ∃ b, decide (He.cmp (x1, x2) (t, id) < 0) = b := ⟨_, rfl⟩
      have hpj := hp.2 j _ hx
      have HX := Lib.hid (And.intro hx hbv)
      cases b with
      | true =>
        have HP2 : Hid (j + 1 ≤ He.pl m (t, id)) := Lib.hid (hpj.1 (of_decide_eq_true hbv))
        clear hp hpj hx hbv
        go_wp2_with fail
        refine wp_region_class (fun w' => Rn w' g1 c1 2 (es m) 38 ∧ Blk w' X [.int .i64 t, .int .i64 id] 38 ∧ Below w.heap.size w w') (by kernel_rfl) (by kernel_rfl) ⟨HR0.out.1.chg (Chg.refl [] _).drew (by simp), HR0.out.2.1.drew, HR0.out.2.2.drew⟩ ?_
        repeat (first
            | go_big_quiet_skip
            | (go_big_quiet_want
               unfold Oper.quiet
               apply Exists.intro
               refine ⟨fun wq hwq => ?_, ?_⟩
               · (obtain ⟨hq1, hq2, hq3⟩ := hwq
                  try (have d0 := hq1.cell (es_get m j x1 x2 HX.out.1).1; have d1 := hq1.cell (es_get m j x1 x2 HX.out.1).2)
                  have e1 := hq2.cell (i := 0) rfl
                  have e2 := hq2.cell (i := 1) rfl
                  unfold Oper.quietAt
                  go_simp
                  first
                    | exact ⟨rfl, hq1, hq2, hq3⟩
                    | exact rfl
                    | (go_at_call 51; refine (rf_before5 x1 x2 t id _ HX.out.2 _).mono ?_; rintro e w3 ⟨he, hb⟩; exact ⟨he, hq1.below' hb, Blk.chg hq2 (Chg.of_fresh (l := []) hb) (by simp), hq3.trans (hb.mono hq3.size)⟩))
               simp only [Act.put, List.setIfInBounds_toArray, List.set_cons_zero, List.set_cons_succ]
               go_big_quiet_on))
        refine wpQuiet_nil ?_
        intro w4 hw4
        have HB4 := Lib.hid hw4
        clear hw4
        go_wp2
        refine ⟨?_, ?measure⟩
        case measure => simp [intOf]; omega
        first
          | exact ⟨j + 1, by go_num, Lib.hid ⟨HP2.out, HB4.out⟩⟩
          | ((repeat apply Exists.intro); exact ⟨⟨j + 1, by go_num, Lib.hid ⟨HP2.out, HB4.out⟩⟩, rfl⟩)
      | false =>
        have HJ : Hid (He.pl m (t, id) = j) := Lib.hid (by
          have h1 := HJ0.out.1
          have h2 : ¬ j < He.pl m (t, id) := fun h => (of_decide_eq_false hbv) (hpj.2 h)
          omega)
        have HI : Hid (He.ins m (t, id) = m.take j ++ (t, id) :: m.drop j) := Lib.hid (by unfold He.ins; rw [HJ.out])
        clear hp hpj hx hbv
        go_wp2_with fail
        refine wp_region_class (fun w' => Rn w' g1 c1 2 (es m) 38 ∧ Blk w' X [.int .i64 t, .int .i64 id] 38 ∧ Below w.heap.size w w') (by kernel_rfl) (by kernel_rfl) ⟨HR0.out.1.chg (Chg.refl [] _).drew (by simp), HR0.out.2.1.drew, HR0.out.2.2.drew⟩ ?_
        repeat (first
            | go_big_quiet_skip
            | (go_big_quiet_want
               unfold Oper.quiet
               apply Exists.intro
               refine ⟨fun wq hwq => ?_, ?_⟩
               · (obtain ⟨hq1, hq2, hq3⟩ := hwq
                  try (have d0 := hq1.cell (es_get m j x1 x2 HX.out.1).1; have d1 := hq1.cell (es_get m j x1 x2 HX.out.1).2)
                  have e1 := hq2.cell (i := 0) rfl
                  have e2 := hq2.cell (i := 1) rfl
                  unfold Oper.quietAt
                  go_simp
                  first
                    | exact ⟨rfl, hq1, hq2, hq3⟩
                    | exact rfl
                    | (go_at_call 51; refine (rf_before5 x1 x2 t id _ HX.out.2 _).mono ?_; rintro e w3 ⟨he, hb⟩; exact ⟨he, hq1.below' hb, Blk.chg hq2 (Chg.of_fresh (l := []) hb) (by simp), hq3.trans (hb.mono hq3.size)⟩))
               simp only [Act.put, List.setIfInBounds_toArray, List.set_cons_zero, List.set_cons_succ]
               go_big_quiet_on))
        refine wpQuiet_nil ?_
        intro w4 hw4
        have HB4 := Lib.hid hw4
        clear hw4
        go_wp2_with fail
        clear HR0
        have HR0 := HB4
        clear HB4
        clear HJ0
        revert HR0
        generalize w4 = wr
        intro HR0
        have HL : Hid (Rn wr g1 c1 2 (es m) 38 ∧ m.length = n1 ∧ He.pl m (t, id) = j) := Lib.hid ⟨HR0.out.1, HZ.out.1, HJ.out⟩
        have hx0 := HR0.out.2.1.cell (i := 0) rfl
        have hx1 := HR0.out.2.1.cell (i := 1) rfl
        have hjn : j ≤ n1 := by have := (pl_parts m (t, id) HZ.out.2).1; rw [HZ.out.1, HJ.out] at this; exact this
        have hnc : n1 ≤ c1 := by have := HR0.out.1.len; rw [es_length, HZ.out.1] at this; omega
        have hjc : j ≤ c1 := by omega
        have hXl := HR0.out.2.1.lt
        obtain ⟨AD, hAD, hsrc⟩ : ∃ AD : Addr, (if c1 = j then some (⟨g1, 0, none⟩ : Addr) else some ⟨g1, j * 2, none⟩) = some AD ∧ ∀ W, Rn W g1 c1 2 (es m) 38 → ∀ i u, (es (m.drop j))[i]? = some u → W.cell? (AD.add i) = some u := by
          by_cases h : c1 = j
          · refine ⟨⟨g1, 0, none⟩, by simp [h], fun W _ i u hi => ?_⟩
            have h0 : (es (m.drop j)).length = 0 := by rw [es_length, List.length_drop, HZ.out.1]; omega
            rw [List.length_eq_zero_iff.1 h0] at hi
            simp at hi
          · exact ⟨⟨g1, j * 2, none⟩, by simp [h], fun W hW i u hi => es_src hW j i u hi (by rw [HZ.out.1]; omega)⟩
        have HN : Hid ((es (m.take j)).length = j * 2 ∧ (es (m.take j ++ [(t, id)])).length = (j + 1) * 2 ∧ (es (m.drop j)).length = (n1 - j) * 2 ∧ ∀ W, Rn W g1 c1 2 (es m) 38 → ∀ i u, (es (m.drop j))[i]? = some u → W.cell? (AD.add i) = some u) := Lib.hid ⟨by rw [es_length, List.length_take, HZ.out.1]; omega, by rw [es_length, List.length_append, List.length_take, HZ.out.1]; simp; omega, by rw [es_length, List.length_drop, HZ.out.1], hsrc⟩
        clear hsrc
        have BA : Below wr.heap.size wr ((wr.alloc (Obj.cells #[] 38)).drew) := ((Below.refl _ _).alloc (Nat.le_refl _) _).drew
        have BB : Below wr.heap.size wr (((wr.alloc (Obj.cells #[] 38)).alloc (Obj.cells #[Value.int IntKind.i64 t, Value.int IntKind.i64 id] 38)).drew) := (((Below.refl _ _).alloc (Nat.le_refl _) _).alloc (by simp) _).drew
        have BC : Below wr.heap.size wr (((wr.alloc (Obj.cells #[Value.int IntKind.i64 t, Value.int IntKind.i64 id] 38)).alloc (Obj.cells #[] 38)).drew) := (((Below.refl _ _).alloc (Nat.le_refl _) _).alloc (by simp) _).drew
        have hsr : ∀ W, Rn W g1 c1 2 (es m) 38 → Src Try.prog 2 25 (.slice (some ⟨g1, 0, none⟩) j c1) j (es (m.take j)) W := fun W hW =>
          Src.ofSlice _ Try.underlying25 _ _ _ _ HN.out.1 (fun i u hi => hW.src i u (by
            have hil : i < (es (m.take j)).length := (List.getElem?_eq_some_iff.1 hi).1
            rw [es_cut m j, List.getElem?_append_left hil]; exact hi)) (es_one _)
        have HA : Hid (Rn ((wr.alloc (Obj.cells #[] 38)).drew) wr.heap.size 0 2 [] 38 ∧ Src Try.prog 2 25 (.slice (some ⟨g1, 0, none⟩) j c1) j (es (m.take j)) ((wr.alloc (Obj.cells #[] 38)).drew) ∧ Below wr.heap.size wr ((wr.alloc (Obj.cells #[] 38)).drew)) := Lib.hid ⟨Rn.empty wr 2 38, hsr _ (HL.out.1.below' BA), BA⟩
        have HB : Hid (Rn (((wr.alloc (Obj.cells #[] 38)).alloc (Obj.cells #[Value.int IntKind.i64 t, Value.int IntKind.i64 id] 38)).drew) wr.heap.size 0 2 [] 38 ∧ Src Try.prog 2 25 (.slice (some ⟨g1, 0, none⟩) j c1) j (es (m.take j)) (((wr.alloc (Obj.cells #[] 38)).alloc (Obj.cells #[Value.int IntKind.i64 t, Value.int IntKind.i64 id] 38)).drew) ∧ Below wr.heap.size wr (((wr.alloc (Obj.cells #[] 38)).alloc (Obj.cells #[Value.int IntKind.i64 t, Value.int IntKind.i64 id] 38)).drew) ∧ Blk (((wr.alloc (Obj.cells #[] 38)).alloc (Obj.cells #[Value.int IntKind.i64 t, Value.int IntKind.i64 id] 38)).drew) (wr.heap.size + 1) [.int .i64 t, .int .i64 id] 38) := Lib.hid ⟨(Rn.empty wr 2 38).chg ((Chg.refl [] (wr.alloc (Obj.cells #[] 38))).alloc (Obj.cells #[Value.int IntKind.i64 t, Value.int IntKind.i64 id] 38)).drew (by simp), hsr _ (HL.out.1.below' BB), BB, by
          have h := Blk.newA (wr.alloc (Obj.cells #[] 38)) #[Value.int .i64 t, Value.int .i64 id] 38
          rw [World.size_alloc] at h
          exact h⟩
        have HC : Hid (Rn (((wr.alloc (Obj.cells #[Value.int IntKind.i64 t, Value.int IntKind.i64 id] 38)).alloc (Obj.cells #[] 38)).drew) (wr.heap.size + 1) 0 2 [] 38 ∧ Src Try.prog 2 25 (.slice (some ⟨g1, 0, none⟩) j c1) j (es (m.take j)) (((wr.alloc (Obj.cells #[Value.int IntKind.i64 t, Value.int IntKind.i64 id] 38)).alloc (Obj.cells #[] 38)).drew) ∧ Below wr.heap.size wr (((wr.alloc (Obj.cells #[Value.int IntKind.i64 t, Value.int IntKind.i64 id] 38)).alloc (Obj.cells #[] 38)).drew) ∧ Blk (((wr.alloc (Obj.cells #[Value.int IntKind.i64 t, Value.int IntKind.i64 id] 38)).alloc (Obj.cells #[] 38)).drew) wr.heap.size [.int .i64 t, .int .i64 id] 38) := Lib.hid ⟨by
          have h := Rn.empty (wr.alloc (Obj.cells #[Value.int IntKind.i64 t, Value.int IntKind.i64 id] 38)) 2 38
          rw [World.size_alloc] at h
          exact h, hsr _ (HL.out.1.below' BC), BC, (Blk.newA wr #[Value.int .i64 t, Value.int .i64 id] 38).alloc (Obj.cells #[] 38)⟩
        have y0 : (wr.alloc (Obj.cells #[] 38)).cell? ⟨X, 0, none⟩ = some (.int .i64 t) := (HR0.out.2.1.alloc _).cell (i := 0) rfl
        have y1 : (wr.alloc (Obj.cells #[] 38)).cell? ⟨X, 1, none⟩ = some (.int .i64 id) := (HR0.out.2.1.alloc _).cell (i := 1) rfl
        have yw : ∀ W, Below wr.heap.size wr W → W.cell? ⟨X, 0, none⟩ = some (.int .i64 t) ∧ W.cell? ⟨X, 1, none⟩ = some (.int .i64 id) := fun W hW => ⟨(HR0.out.2.1.below hW hXl).cell (i := 0) rfl, (HR0.out.2.1.below hW hXl).cell (i := 1) rfl⟩
        have HY := Lib.hid yw
        clear hsr BA BB BC yw
        go_wp2_with fail
        go_region_law (first
          | (refine step_append_rn rfl (.tmp 44) (.tmp 47) 25 25 rfl 38 (.agg #[.int .i64 0, .int .i64 0]) 2 16 Try.underlying25 infoE rfl wr.heap.size 0 0 [] rfl rfl HA.out.1 _ rfl j (es (m.take j)) HA.out.2.1 (by omega) (by omega) ?_
             intro g3 c3 w3 q1 q2 q3
             rw [List.nil_append] at q1
             have HR : Hid (Rn w3 g3 c3 2 (es (m.take j)) 38 ∧ Rn w3 g1 c1 2 (es m) 38 ∧ Below wr.heap.size wr w3 ∧ wr.heap.size ≤ g3) := Lib.hid ⟨q1, (HL.out.1.below' (HA.out.2.2)).chg q3 (by have := HL.out.1.lt; simp; omega), q3.onto HA.out.2.2 HA.out.2.2.size (by simp), (by rcases q2 with h | h <;> first | omega | (simp at h; omega))⟩
             have z0 := (HY.out w3 HR.out.2.2.1).1
             have z1 := (HY.out w3 HR.out.2.2.1).2
             clear q1 q2 q3)
          | (refine step_append_rn rfl (.tmp 44) (.tmp 47) 25 25 rfl 38 (.agg #[.int .i64 0, .int .i64 0]) 2 16 Try.underlying25 infoE rfl wr.heap.size 0 0 [] rfl rfl HB.out.1 _ rfl j (es (m.take j)) HB.out.2.1 (by omega) (by omega) ?_
             intro g3 c3 w3 q1 q2 q3
             rw [List.nil_append] at q1
             have HR : Hid (Rn w3 g3 c3 2 (es (m.take j)) 38 ∧ Rn w3 g1 c1 2 (es m) 38 ∧ Below wr.heap.size wr w3 ∧ wr.heap.size ≤ g3 ∧ Blk w3 (wr.heap.size + 1) [.int .i64 t, .int .i64 id] 38) := Lib.hid ⟨q1, (HL.out.1.below' (HB.out.2.2.1)).chg q3 (by have := HL.out.1.lt; simp; omega), q3.onto HB.out.2.2.1 HB.out.2.2.1.size (by simp), (by rcases q2 with h | h <;> first | omega | (simp at h; omega)), HB.out.2.2.2.chg q3 (by simp)⟩
             have z0 := (HY.out w3 HR.out.2.2.1).1
             have z1 := (HY.out w3 HR.out.2.2.1).2
             clear q1 q2 q3)
          | (refine step_append_rn rfl (.tmp 44) (.tmp 47) 25 25 rfl 38 (.agg #[.int .i64 0, .int .i64 0]) 2 16 Try.underlying25 infoE rfl (wr.heap.size + 1) 0 0 [] rfl rfl HC.out.1 _ rfl j (es (m.take j)) HC.out.2.1 (by omega) (by omega) ?_
             intro g3 c3 w3 q1 q2 q3
             rw [List.nil_append] at q1
             have HR : Hid (Rn w3 g3 c3 2 (es (m.take j)) 38 ∧ Rn w3 g1 c1 2 (es m) 38 ∧ Below wr.heap.size wr w3 ∧ wr.heap.size ≤ g3 ∧ Blk w3 wr.heap.size [.int .i64 t, .int .i64 id] 38) := Lib.hid ⟨q1, (HL.out.1.below' (HC.out.2.2.1)).chg q3 (by have := HL.out.1.lt; simp; omega), q3.onto HC.out.2.2.1 HC.out.2.2.1.size (by simp), (by rcases q2 with h | h <;> first | omega | (simp at h; omega)), HC.out.2.2.2.chg q3 (by simp)⟩
             have z0 := (HY.out w3 HR.out.2.2.1).1
             have z1 := (HY.out w3 HR.out.2.2.1).2
             clear q1 q2 q3)
          | (refine step_append_rn rfl (.tmp 48) (.tmp 50) 25 25 rfl 38 (.agg #[.int .i64 0, .int .i64 0]) 2 16 Try.underlying25 infoE rfl g3 j c3 (es (m.take j)) rfl HN.out.1 (HR.out.1.chg ((Chg.refl [] _).alloc _) (by simp)) _ rfl 1 [.int .i64 t, .int .i64 id] (Src.ofSlice _ Try.underlying25 _ _ _ _ rfl (fun i u hi => by rw [Addr.add_lit, Nat.zero_add]; exact (Blk.newA w3 #[.int .i64 t, .int .i64 id] 38).cell hi) (by intro v hv; simp at hv; rcases hv with rfl | rfl <;> rfl)) (by omega) (by omega) ?_
             intro g4 c4 w4 q1 q2 q3
             rw [← es_snoc] at q1
             have HS : Hid (Rn w4 g4 c4 2 (es (m.take j ++ [(t, id)])) 38 ∧ Rn w4 g1 c1 2 (es m) 38 ∧ Below wr.heap.size wr w4 ∧ wr.heap.size ≤ g4) := Lib.hid ⟨q1, (HL.out.1.below' (HR.out.2.2.1.alloc HR.out.2.2.1.size (Obj.cells #[Value.int IntKind.i64 t, Value.int IntKind.i64 id] 38))).chg q3 (by have := HL.out.1.lt; have := HR.out.2.2.2; simp; omega), q3.onto (HR.out.2.2.1.alloc HR.out.2.2.1.size (Obj.cells #[Value.int IntKind.i64 t, Value.int IntKind.i64 id] 38)) (HR.out.2.2.1.alloc HR.out.2.2.1.size (Obj.cells #[Value.int IntKind.i64 t, Value.int IntKind.i64 id] 38)).size (by have := HR.out.2.2.2; simp; omega), (by have h1 := HR.out.2.2.2; have h2 := (HR.out.2.2.1.alloc HR.out.2.2.1.size (Obj.cells #[Value.int IntKind.i64 t, Value.int IntKind.i64 id] 38)).size; rcases q2 with h | h <;> first | omega | (simp at h h2; omega) | (simp at h; omega))⟩
             clear q1 q2 q3)
          | (refine step_append_rn rfl (.tmp 48) (.tmp 50) 25 25 rfl 38 (.agg #[.int .i64 0, .int .i64 0]) 2 16 Try.underlying25 infoE rfl g3 j c3 (es (m.take j)) rfl HN.out.1 HR.out.1 _ rfl 1 [.int .i64 t, .int .i64 id] (Src.ofSlice _ Try.underlying25 _ _ _ _ rfl (fun i u hi => by rw [Addr.add_lit, Nat.zero_add]; exact HR.out.2.2.2.2.cell hi) (by intro v hv; simp at hv; rcases hv with rfl | rfl <;> rfl)) (by omega) (by omega) ?_
             intro g4 c4 w4 q1 q2 q3
             rw [← es_snoc] at q1
             have HS : Hid (Rn w4 g4 c4 2 (es (m.take j ++ [(t, id)])) 38 ∧ Rn w4 g1 c1 2 (es m) 38 ∧ Below wr.heap.size wr w4 ∧ wr.heap.size ≤ g4) := Lib.hid ⟨q1, (HL.out.1.below' HR.out.2.2.1).chg q3 (by have := HL.out.1.lt; have := HR.out.2.2.2.1; simp; omega), q3.onto HR.out.2.2.1 HR.out.2.2.1.size (by have := HR.out.2.2.2.1; simp; omega), (by have h1 := HR.out.2.2.2.1; have h2 := HR.out.2.2.1.size; rcases q2 with h | h <;> first | omega | (simp at h h2; omega) | (simp at h; omega))⟩
             clear q1 q2 q3)
          | (refine step_append_rn rfl (.tmp 51) (.tmp 54) 25 25 rfl 38 (.agg #[.int .i64 0, .int .i64 0]) 2 16 Try.underlying25 infoE rfl g4 (j + 1) c4 (es (m.take j ++ [(t, id)])) rfl HN.out.2.1 HS.out.1 _ rfl (n1 - j) (es (m.drop j)) (Src.ofSlice _ Try.underlying25 _ _ _ _ HN.out.2.2.1 (fun i u hi => HN.out.2.2.2 _ HS.out.2.1 i u hi) (es_one _)) (by omega) (by omega) ?_
             intro g5 c5 w5 q1 q2 q3
             have HT : Hid (Rn w5 g5 c5 2 (es (m.take j ++ [(t, id)]) ++ es (m.drop j)) 38 ∧ Below wr.heap.size wr w5 ∧ wr.heap.size ≤ g5) := Lib.hid ⟨q1, q3.onto HS.out.2.2.1 HS.out.2.2.1.size (by have := HS.out.2.2.2; simp; omega), (by have h1 := HS.out.2.2.2; have h2 := HS.out.2.2.1.size; rcases q2 with h | h <;> omega)⟩
             clear q1 q2 q3))
        all_goals
          go_wp2
          go_ret2
          exact ⟨g5, _, c5, rfl, by rw [HI.out]; exact HT.out.1.ins, by rw [(ins_perm m (t, id)).length_eq, List.length_cons, HZ.out.1]; omega, Nat.le_trans HR0.out.2.2.size HT.out.2.2, HR0.out.2.2.trans (HT.out.2.1.mono HR0.out.2.2.size)⟩
    · have jI : ¬ (j : Int) < (n1 : Int) := by omega
      have HJ : Hid (He.pl m (t, id) = j) := Lib.hid (by have h1 := HJ0.out.1; have h2 := hp.1; rw [HZ.out.1] at h2; omega)
      have HI : Hid (He.ins m (t, id) = m.take j ++ (t, id) :: m.drop j) := Lib.hid (by unfold He.ins; rw [HJ.out])
      clear hp
      go_wp2_with fail
      refine wp_region_class (fun w' => Rn w' g1 c1 2 (es m) 38 ∧ Blk w' X [.int .i64 t, .int .i64 id] 38 ∧ Below w.heap.size w w') (by kernel_rfl) (by kernel_rfl) ⟨HR0.out.1.chg (Chg.refl [] _).drew (by simp), HR0.out.2.1.drew, HR0.out.2.2.drew⟩ ?_
      repeat (first
          | go_big_quiet_skip
          | (go_big_quiet_want
             unfold Oper.quiet
             apply Exists.intro
             refine ⟨fun wq hwq => ?_, ?_⟩
             · (obtain ⟨hq1, hq2, hq3⟩ := hwq
                try (have d0 := hq1.cell (es_get m j x1 x2 HX.out.1).1; have d1 := hq1.cell (es_get m j x1 x2 HX.out.1).2)
                have e1 := hq2.cell (i := 0) rfl
                have e2 := hq2.cell (i := 1) rfl
                unfold Oper.quietAt
                go_simp
                first
                  | exact ⟨rfl, hq1, hq2, hq3⟩
                  | exact rfl
                  | (go_at_call 51; refine (rf_before5 x1 x2 t id _ HX.out.2 _).mono ?_; rintro e w3 ⟨he, hb⟩; exact ⟨he, hq1.below' hb, Blk.chg hq2 (Chg.of_fresh (l := []) hb) (by simp), hq3.trans (hb.mono hq3.size)⟩))
             simp only [Act.put, List.setIfInBounds_toArray, List.set_cons_zero, List.set_cons_succ]
             go_big_quiet_on))
      refine wpQuiet_nil ?_
      intro w4 hw4
      have HB4 := Lib.hid hw4
      clear hw4
      go_wp2_with fail
      clear HR0
      have HR0 := HB4
      clear HB4
      clear HJ0
      revert HR0
      generalize w4 = wr
      intro HR0
      have HL : Hid (Rn wr g1 c1 2 (es m) 38 ∧ m.length = n1 ∧ He.pl m (t, id) = j) := Lib.hid ⟨HR0.out.1, HZ.out.1, HJ.out⟩
      have hx0 := HR0.out.2.1.cell (i := 0) rfl
      have hx1 := HR0.out.2.1.cell (i := 1) rfl
      have hjn : j ≤ n1 := by have := (pl_parts m (t, id) HZ.out.2).1; rw [HZ.out.1, HJ.out] at this; exact this
      have hnc : n1 ≤ c1 := by have := HR0.out.1.len; rw [es_length, HZ.out.1] at this; omega
      have hjc : j ≤ c1 := by omega
      have hXl := HR0.out.2.1.lt
      obtain ⟨AD, hAD, hsrc⟩ : ∃ AD : Addr, (if c1 = j then some (⟨g1, 0, none⟩ : Addr) else some ⟨g1, j * 2, none⟩) = some AD ∧ ∀ W, Rn W g1 c1 2 (es m) 38 → ∀ i u, (es (m.drop j))[i]? = some u → W.cell? (AD.add i) = some u := by
        by_cases h : c1 = j
        · refine ⟨⟨g1, 0, none⟩, by simp [h], fun W _ i u hi => ?_⟩
          have h0 : (es (m.drop j)).length = 0 := by rw [es_length, List.length_drop, HZ.out.1]; omega
          rw [List.length_eq_zero_iff.1 h0] at hi
          simp at hi
        · exact ⟨⟨g1, j * 2, none⟩, by simp [h], fun W hW i u hi => es_src hW j i u hi (by rw [HZ.out.1]; omega)⟩
      have HN : Hid ((es (m.take j)).length = j * 2 ∧ (es (m.take j ++ [(t, id)])).length = (j + 1) * 2 ∧ (es (m.drop j)).length = (n1 - j) * 2 ∧ ∀ W, Rn W g1 c1 2 (es m) 38 → ∀ i u, (es (m.drop j))[i]? = some u → W.cell? (AD.add i) = some u) := Lib.hid ⟨by rw [es_length, List.length_take, HZ.out.1]; omega, by rw [es_length, List.length_append, List.length_take, HZ.out.1]; simp; omega, by rw [es_length, List.length_drop, HZ.out.1], hsrc⟩
      clear hsrc
      have BA : Below wr.heap.size wr ((wr.alloc (Obj.cells #[] 38)).drew) := ((Below.refl _ _).alloc (Nat.le_refl _) _).drew
      have BB : Below wr.heap.size wr (((wr.alloc (Obj.cells #[] 38)).alloc (Obj.cells #[Value.int IntKind.i64 t, Value.int IntKind.i64 id] 38)).drew) := (((Below.refl _ _).alloc (Nat.le_refl _) _).alloc (by simp) _).drew
      have BC : Below wr.heap.size wr (((wr.alloc (Obj.cells #[Value.int IntKind.i64 t, Value.int IntKind.i64 id] 38)).alloc (Obj.cells #[] 38)).drew) := (((Below.refl _ _).alloc (Nat.le_refl _) _).alloc (by simp) _).drew
      have hsr : ∀ W, Rn W g1 c1 2 (es m) 38 → Src Try.prog 2 25 (.slice (some ⟨g1, 0, none⟩) j c1) j (es (m.take j)) W := fun W hW =>
        Src.ofSlice _ Try.underlying25 _ _ _ _ HN.out.1 (fun i u hi => hW.src i u (by
          have hil : i < (es (m.take j)).length := (List.getElem?_eq_some_iff.1 hi).1
          rw [es_cut m j, List.getElem?_append_left hil]; exact hi)) (es_one _)
      have HA : Hid (Rn ((wr.alloc (Obj.cells #[] 38)).drew) wr.heap.size 0 2 [] 38 ∧ Src Try.prog 2 25 (.slice (some ⟨g1, 0, none⟩) j c1) j (es (m.take j)) ((wr.alloc (Obj.cells #[] 38)).drew) ∧ Below wr.heap.size wr ((wr.alloc (Obj.cells #[] 38)).drew)) := Lib.hid ⟨Rn.empty wr 2 38, hsr _ (HL.out.1.below' BA), BA⟩
      have HB : Hid (Rn (((wr.alloc (Obj.cells #[] 38)).alloc (Obj.cells #[Value.int IntKind.i64 t, Value.int IntKind.i64 id] 38)).drew) wr.heap.size 0 2 [] 38 ∧ Src Try.prog 2 25 (.slice (some ⟨g1, 0, none⟩) j c1) j (es (m.take j)) (((wr.alloc (Obj.cells #[] 38)).alloc (Obj.cells #[Value.int IntKind.i64 t, Value.int IntKind.i64 id] 38)).drew) ∧ Below wr.heap.size wr (((wr.alloc (Obj.cells #[] 38)).alloc (Obj.cells #[Value.int IntKind.i64 t, Value.int IntKind.i64 id] 38)).drew) ∧ Blk (((wr.alloc (Obj.cells #[] 38)).alloc (Obj.cells #[Value.int IntKind.i64 t, Value.int IntKind.i64 id] 38)).drew) (wr.heap.size + 1) [.int .i64 t, .int .i64 id] 38) := Lib.hid ⟨(Rn.empty wr 2 38).chg ((Chg.refl [] (wr.alloc (Obj.cells #[] 38))).alloc (Obj.cells #[Value.int IntKind.i64 t, Value.int IntKind.i64 id] 38)).drew (by simp), hsr _ (HL.out.1.below' BB), BB, by
        have h := Blk.newA (wr.alloc (Obj.cells #[] 38)) #[Value.int .i64 t, Value.int .i64 id] 38
        rw [World.size_alloc] at h
        exact h⟩
      have HC : Hid (Rn (((wr.alloc (Obj.cells #[Value.int IntKind.i64 t, Value.int IntKind.i64 id] 38)).alloc (Obj.cells #[] 38)).drew) (wr.heap.size + 1) 0 2 [] 38 ∧ Src Try.prog 2 25 (.slice (some ⟨g1, 0, none⟩) j c1) j (es (m.take j)) (((wr.alloc (Obj.cells #[Value.int IntKind.i64 t, Value.int IntKind.i64 id] 38)).alloc (Obj.cells #[] 38)).drew) ∧ Below wr.heap.size wr (((wr.alloc (Obj.cells #[Value.int IntKind.i64 t, Value.int IntKind.i64 id] 38)).alloc (Obj.cells #[] 38)).drew) ∧ Blk (((wr.alloc (Obj.cells #[Value.int IntKind.i64 t, Value.int IntKind.i64 id] 38)).alloc (Obj.cells #[] 38)).drew) wr.heap.size [.int .i64 t, .int .i64 id] 38) := Lib.hid ⟨by
        have h := Rn.empty (wr.alloc (Obj.cells #[Value.int IntKind.i64 t, Value.int IntKind.i64 id] 38)) 2 38
        rw [World.size_alloc] at h
        exact h, hsr _ (HL.out.1.below' BC), BC, (Blk.newA wr #[Value.int .i64 t, Value.int .i64 id] 38).alloc (Obj.cells #[] 38)⟩
      have y0 : (wr.alloc (Obj.cells #[] 38)).cell? ⟨X, 0, none⟩ = some (.int .i64 t) := (HR0.out.2.1.alloc _).cell (i := 0) rfl
      have y1 : (wr.alloc (Obj.cells #[] 38)).cell? ⟨X, 1, none⟩ = some (.int .i64 id) := (HR0.out.2.1.alloc _).cell (i := 1) rfl
      have yw : ∀ W, Below wr.heap.size wr W → W.cell? ⟨X, 0, none⟩ = some (.int .i64 t) ∧ W.cell? ⟨X, 1, none⟩ = some (.int .i64 id) := fun W hW => ⟨(HR0.out.2.1.below hW hXl).cell (i := 0) rfl, (HR0.out.2.1.below hW hXl).cell (i := 1) rfl⟩
      have HY := Lib.hid yw
      clear hsr BA BB BC yw
      go_wp2_with fail
      go_region_law (first
        | (refine step_append_rn rfl (.tmp 44) (.tmp 47) 25 25 rfl 38 (.agg #[.int .i64 0, .int .i64 0]) 2 16 Try.underlying25 infoE rfl wr.heap.size 0 0 [] rfl rfl HA.out.1 _ rfl j (es (m.take j)) HA.out.2.1 (by omega) (by omega) ?_
           intro g3 c3 w3 q1 q2 q3
           rw [List.nil_append] at q1
           have HR : Hid (Rn w3 g3 c3 2 (es (m.take j)) 38 ∧ Rn w3 g1 c1 2 (es m) 38 ∧ Below wr.heap.size wr w3 ∧ wr.heap.size ≤ g3) := Lib.hid ⟨q1, (HL.out.1.below' (HA.out.2.2)).chg q3 (by have := HL.out.1.lt; simp; omega), q3.onto HA.out.2.2 HA.out.2.2.size (by simp), (by rcases q2 with h | h <;> first | omega | (simp at h; omega))⟩
           have z0 := (HY.out w3 HR.out.2.2.1).1
           have z1 := (HY.out w3 HR.out.2.2.1).2
           clear q1 q2 q3)
        | (refine step_append_rn rfl (.tmp 44) (.tmp 47) 25 25 rfl 38 (.agg #[.int .i64 0, .int .i64 0]) 2 16 Try.underlying25 infoE rfl wr.heap.size 0 0 [] rfl rfl HB.out.1 _ rfl j (es (m.take j)) HB.out.2.1 (by omega) (by omega) ?_
           intro g3 c3 w3 q1 q2 q3
           rw [List.nil_append] at q1
           have HR : Hid (Rn w3 g3 c3 2 (es (m.take j)) 38 ∧ Rn w3 g1 c1 2 (es m) 38 ∧ Below wr.heap.size wr w3 ∧ wr.heap.size ≤ g3 ∧ Blk w3 (wr.heap.size + 1) [.int .i64 t, .int .i64 id] 38) := Lib.hid ⟨q1, (HL.out.1.below' (HB.out.2.2.1)).chg q3 (by have := HL.out.1.lt; simp; omega), q3.onto HB.out.2.2.1 HB.out.2.2.1.size (by simp), (by rcases q2 with h | h <;> first | omega | (simp at h; omega)), HB.out.2.2.2.chg q3 (by simp)⟩
           have z0 := (HY.out w3 HR.out.2.2.1).1
           have z1 := (HY.out w3 HR.out.2.2.1).2
           clear q1 q2 q3)
        | (refine step_append_rn rfl (.tmp 44) (.tmp 47) 25 25 rfl 38 (.agg #[.int .i64 0, .int .i64 0]) 2 16 Try.underlying25 infoE rfl (wr.heap.size + 1) 0 0 [] rfl rfl HC.out.1 _ rfl j (es (m.take j)) HC.out.2.1 (by omega) (by omega) ?_
           intro g3 c3 w3 q1 q2 q3
           rw [List.nil_append] at q1
           have HR : Hid (Rn w3 g3 c3 2 (es (m.take j)) 38 ∧ Rn w3 g1 c1 2 (es m) 38 ∧ Below wr.heap.size wr w3 ∧ wr.heap.size ≤ g3 ∧ Blk w3 wr.heap.size [.int .i64 t, .int .i64 id] 38) := Lib.hid ⟨q1, (HL.out.1.below' (HC.out.2.2.1)).chg q3 (by have := HL.out.1.lt; simp; omega), q3.onto HC.out.2.2.1 HC.out.2.2.1.size (by simp), (by rcases q2 with h | h <;> first | omega | (simp at h; omega)), HC.out.2.2.2.chg q3 (by simp)⟩
           have z0 := (HY.out w3 HR.out.2.2.1).1
           have z1 := (HY.out w3 HR.out.2.2.1).2
           clear q1 q2 q3)
        | (refine step_append_rn rfl (.tmp 48) (.tmp 50) 25 25 rfl 38 (.agg #[.int .i64 0, .int .i64 0]) 2 16 Try.underlying25 infoE rfl g3 j c3 (es (m.take j)) rfl HN.out.1 (HR.out.1.chg ((Chg.refl [] _).alloc _) (by simp)) _ rfl 1 [.int .i64 t, .int .i64 id] (Src.ofSlice _ Try.underlying25 _ _ _ _ rfl (fun i u hi => by rw [Addr.add_lit, Nat.zero_add]; exact (Blk.newA w3 #[.int .i64 t, .int .i64 id] 38).cell hi) (by intro v hv; simp at hv; rcases hv with rfl | rfl <;> rfl)) (by omega) (by omega) ?_
           intro g4 c4 w4 q1 q2 q3
           rw [← es_snoc] at q1
           have HS : Hid (Rn w4 g4 c4 2 (es (m.take j ++ [(t, id)])) 38 ∧ Rn w4 g1 c1 2 (es m) 38 ∧ Below wr.heap.size wr w4 ∧ wr.heap.size ≤ g4) := Lib.hid ⟨q1, (HL.out.1.below' (HR.out.2.2.1.alloc HR.out.2.2.1.size (Obj.cells #[Value.int IntKind.i64 t, Value.int IntKind.i64 id] 38))).chg q3 (by have := HL.out.1.lt; have := HR.out.2.2.2; simp; omega), q3.onto (HR.out.2.2.1.alloc HR.out.2.2.1.size (Obj.cells #[Value.int IntKind.i64 t, Value.int IntKind.i64 id] 38)) (HR.out.2.2.1.alloc HR.out.2.2.1.size (Obj.cells #[Value.int IntKind.i64 t, Value.int IntKind.i64 id] 38)).size (by have := HR.out.2.2.2; simp; omega), (by have h1 := HR.out.2.2.2; have h2 := (HR.out.2.2.1.alloc HR.out.2.2.1.size (Obj.cells #[Value.int IntKind.i64 t, Value.int IntKind.i64 id] 38)).size; rcases q2 with h | h <;> first | omega | (simp at h h2; omega) | (simp at h; omega))⟩
           clear q1 q2 q3)
        | (refine step_append_rn rfl (.tmp 48) (.tmp 50) 25 25 rfl 38 (.agg #[.int .i64 0, .int .i64 0]) 2 16 Try.underlying25 infoE rfl g3 j c3 (es (m.take j)) rfl HN.out.1 HR.out.1 _ rfl 1 [.int .i64 t, .int .i64 id] (Src.ofSlice _ Try.underlying25 _ _ _ _ rfl (fun i u hi => by rw [Addr.add_lit, Nat.zero_add]; exact HR.out.2.2.2.2.cell hi) (by intro v hv; simp at hv; rcases hv with rfl | rfl <;> rfl)) (by omega) (by omega) ?_
           intro g4 c4 w4 q1 q2 q3
           rw [← es_snoc] at q1
           have HS : Hid (Rn w4 g4 c4 2 (es (m.take j ++ [(t, id)])) 38 ∧ Rn w4 g1 c1 2 (es m) 38 ∧ Below wr.heap.size wr w4 ∧ wr.heap.size ≤ g4) := Lib.hid ⟨q1, (HL.out.1.below' HR.out.2.2.1).chg q3 (by have := HL.out.1.lt; have := HR.out.2.2.2.1; simp; omega), q3.onto HR.out.2.2.1 HR.out.2.2.1.size (by have := HR.out.2.2.2.1; simp; omega), (by have h1 := HR.out.2.2.2.1; have h2 := HR.out.2.2.1.size; rcases q2 with h | h <;> first | omega | (simp at h h2; omega) | (simp at h; omega))⟩
           clear q1 q2 q3)
        | (refine step_append_rn rfl (.tmp 51) (.tmp 54) 25 25 rfl 38 (.agg #[.int .i64 0, .int .i64 0]) 2 16 Try.underlying25 infoE rfl g4 (j + 1) c4 (es (m.take j ++ [(t, id)])) rfl HN.out.2.1 HS.out.1 _ rfl (n1 - j) (es (m.drop j)) (Src.ofSlice _ Try.underlying25 _ _ _ _ HN.out.2.2.1 (fun i u hi => HN.out.2.2.2 _ HS.out.2.1 i u hi) (es_one _)) (by omega) (by omega) ?_
           intro g5 c5 w5 q1 q2 q3
           have HT : Hid (Rn w5 g5 c5 2 (es (m.take j ++ [(t, id)]) ++ es (m.drop j)) 38 ∧ Below wr.heap.size wr w5 ∧ wr.heap.size ≤ g5) := Lib.hid ⟨q1, q3.onto HS.out.2.2.1 HS.out.2.2.1.size (by have := HS.out.2.2.2; simp; omega), (by have h1 := HS.out.2.2.2; have h2 := HS.out.2.2.1.size; rcases q2 with h | h <;> omega)⟩
           clear q1 q2 q3))
      all_goals
        go_wp2
        go_ret2
        exact ⟨g5, _, c5, rfl, by rw [HI.out]; exact HT.out.1.ins, by rw [(ins_perm m (t, id)).length_eq, List.length_cons, HZ.out.1]; omega, Nat.le_trans HR0.out.2.2.size HT.out.2.2, HR0.out.2.2.trans (HT.out.2.1.mono HR0.out.2.2.size)⟩
/-- Set, the number one of those that may be. -/
theorem rf_set5 (l : List (Int × Int)) (n c : Nat) (hn : l.length = n) (hn6 : n ≤ 100000) (k : Int) (a : Option Addr) (id at_ : Int) (hid : 0 ≤ id ∧ id < k) (hat : at_ ≤ 9223372036854775807) (hs : He.srt l) (m : List (Int × Int)) (hm : He.set l id at_ = m) (w : World) (h : EA w a l) : Calls Try.prog 16 #[.slice a n c, .int .i64 k, .int .i64 id, .int .i64 at_] w fun e w' => ∃ g n' c', e = .returned (.tuple #[.slice (some ⟨g, 0, none⟩) n' c', .bool true]) ∧ Rn w' g c' 2 (es m) 38 ∧ m.length = n' ∧ w.heap.size ≤ g ∧ Below w.heap.size w w' := by
  by_cases ha : at_ = 9223372036854775807
  · have e : He.cut l id = m := by rw [← hm]; unfold He.set; rw [if_pos ((own_nev hat).2 ha)]
    rw [← e]
    exact rf_set_never l n c hn hn6 k a id at_ hid ha w h
  · have e : He.ins (He.cut l id) (Tk.own at_, id) = m := by rw [← hm]; unfold He.set; rw [if_neg (fun h => ha ((own_nev hat).1 h))]
    rw [← e]
    exact rf_set_some l n c hn hn6 k a id at_ hid _ rfl ha _ rfl (List.Pairwise.sublist List.filter_sublist hs) w h
theorem Rn.ea {w : World} {g c : Nat} {l : List (Int × Int)} {T : TypeId} (h : Rn w g c 2 (es l) T) : EA w (some ⟨g, 0, none⟩) l :=
  ⟨fun x hx => by rw [rvB_some] at hx; simp at hx; rw [hx]; exact h.lt, fun j x1 x2 hj => ⟨g, 0, rfl, by rw [Nat.zero_add]; exact h.cell (es_get l j x1 x2 hj).1, by rw [Nat.zero_add]; exact h.cell (es_get l j x1 x2 hj).2⟩⟩
end Go.Proofs.Ytbdjcppkfihonaa
