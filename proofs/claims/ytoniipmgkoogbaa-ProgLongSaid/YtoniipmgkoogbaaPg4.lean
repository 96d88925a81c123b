/- Scripts: ops read; what is wrong of a script. -/
import Derived.Test.YtoniipmgkoogbaaPg3
import Derived.Lib.SliceRun
import Derived.Deep.RegionLaw
import Derived.WalkKit
import Derived.ProofKit
import Derived.Handy
import Derived.WalkLawsBesides
import Derived.WalkSpells
import Derived.Lib.Hide
import Derived.RegionTactic
import Derived.ChangeAlike
import Derived.WalkSmall
import Derived.Deep.QuietTactic
import Derived.BigQuiet
import Derived.OwnWalk
import Derived.Outline
import Derived.Deep.CutRange
import Derived.Deep.CutBlock
import Derived.LoopTactic
namespace Go.Proofs.Ytoniipmgkoogbaa
open Go.ChangeShapes Go.WideShapes Go.ChangeAt Go.RowKit
set_option linter.unusedSimpArgs false
set_option linter.unusedVariables false


/-- A slice (at a) of ops: the first L.length of them are L. -/
def OL (w : World) (a : Option Addr) (L : List Pg.Op) : Prop := ∀ (i : Nat) (k : Int) (tx : ByteArray) (n to1 : Int) (ar : List (ByteArray × Int)) (ot oe : Int), L[i]? = some ⟨k, tx, n, to1, ar, ot, oe⟩ → tx.size ≤ maxLen ∧ ar.length ≤ maxLen ∧ ∃ g o aa ac, a = some ⟨g, o, none⟩ ∧ g < w.heap.size ∧
  w.cell? ⟨g, o + i * 7, none⟩ = some (.int .i64 k) ∧ w.cell? ⟨g, o + i * 7 + 1, none⟩ = some (.string tx) ∧ w.cell? ⟨g, o + i * 7 + 2, none⟩ = some (.int .i64 n) ∧ w.cell? ⟨g, o + i * 7 + 3, none⟩ = some (.int .i64 to1) ∧ w.cell? ⟨g, o + i * 7 + 4, none⟩ = some (.slice aa ar.length ac) ∧ w.cell? ⟨g, o + i * 7 + 5, none⟩ = some (.int .i64 ot) ∧ w.cell? ⟨g, o + i * 7 + 6, none⟩ = some (.int .i64 oe) ∧ AL w aa ar
theorem OL.nil (w : World) (a : Option Addr) : OL w a [] := fun i k tx n to1 ar ot oe h => by simp at h
theorem OL.below {w w' : World} {a : Option Addr} {L : List Pg.Op} (h : OL w a L) (k : Below w.heap.size w w') : OL w' a L := fun i k1 tx n to1 ar ot oe hi => by
  obtain ⟨h0, h1, g, o, aa, ac, h2, h3, c0, c1, c2, c3, c4, c5, c6, hA⟩ := h i k1 tx n to1 ar ot oe hi
  have go : ∀ p v, w.cell? ⟨g, p, none⟩ = some v → w'.cell? ⟨g, p, none⟩ = some v := fun p v hv => by rw [← hv]; exact Chg.cell (l := []) (Chg.of_fresh k) h3 (by simp)
  exact ⟨h0, h1, g, o, aa, ac, h2, Nat.lt_of_lt_of_le h3 k.size, go _ _ c0, go _ _ c1, go _ _ c2, go _ _ c3, go _ _ c4, go _ _ c5, go _ _ c6, hA.below k⟩
theorem wOps_at (N : Nat) (o : Pg.Op) : ∀ (l : List Pg.Op) (i j : Nat), (∀ q o', q < j → l[q]? = some o' → Pg.wOp N o' = 0) → l[j]? = some o → Pg.wOp N o ≠ 0 → Pg.wOps N i l = (i + j, Pg.wOp N o)
  | [], i, j, _, h, _ => by simp at h
  | a :: l, i, 0, _, h, h2 => by
    simp at h
    subst h
    unfold Pg.wOps
    rw [if_pos h2]
    rfl
  | a :: l, i, j + 1, h0, h, h2 => by
    unfold Pg.wOps
    have ha := h0 0 a (by omega) (by simp)
    rw [if_neg (not_not_intro ha), wOps_at N o l (i + 1) j (fun q p' hq hp => h0 (q + 1) p' (by omega) (by simpa using hp)) (by simpa using h) h2]
    congr 1
    omega
theorem wOps_all (N : Nat) : ∀ (l : List Pg.Op) (i : Nat), (∀ (q : Nat) o', l[q]? = some o' → Pg.wOp N o' = 0) → Pg.wOps N i l = (0, 0)
  | [], _, _ => rfl
  | a :: l, i, h0 => by
    unfold Pg.wOps
    have ha := h0 0 a (by simp)
    rw [if_neg (not_not_intro ha)]
    exact wOps_all N l (i + 1) (fun q p' hp => h0 (q + 1) p' (by simpa using hp))
set_option maxRecDepth 20000 in
set_option maxHeartbeats 16000000 in
theorem pg_wrong (nm : ByteArray) (dl jp : Int) (oa : Option Addr) (n c : Nat) (L : List Pg.Op) (hl : L.length = n) (hn : n ≤ maxLen) (hnm : nm.size ≤ maxLen) (i : Int) (e : Nat) (he : Pg.wrong nm dl jp L = (i, e)) (w : World) (HO : OL w oa L) : Calls Try.prog 6 #[.agg #[.string nm, .int .i64 dl, .int .i64 jp, .slice oa n c]] w fun r w' => r = .returned (.tuple #[.int .i64 i, .int .i64 e]) ∧ Below w.heap.size w w' := by
  have hm : maxLen ≤ 9223372036854775807 := by unfold maxLen; omega
  have HL := Lib.hid (And.intro hl HO)
  have HE := Lib.hid he
  clear hl HO he
  obtain ⟨bm, hbm⟩ : ∃ b, Lx.name nm.data.toList = b := ⟨_, rfl⟩
  have HNM := Lib.hid hbm
  obtain ⟨bd, hbd⟩ : ∃ b, Pg.inB dl 1 1000000000000 = b := ⟨_, rfl⟩
  have HI := Lib.hid hbd
  clear hbm hbd
  go_enter Try.func6, Try.ntmps6
  go_upto_region 1 with fail
  have HB : Hid (Blk (w.alloc (.cells #[.string nm, .int .i64 dl, .int .i64 jp, .slice oa n c] 24)) w.heap.size [.string nm, .int .i64 dl, .int .i64 jp, .slice oa n c] 24 ∧ Below w.heap.size w (w.alloc (.cells #[.string nm, .int .i64 dl, .int .i64 jp, .slice oa n c] 24))) := Lib.hid ⟨Blk.newA _ _ _, (Below.refl _ _).alloc (Nat.le_refl _) _⟩
  revert HB
  generalize (w.alloc (.cells #[.string nm, .int .i64 dl, .int .i64 jp, .slice oa n c] 24)) = W0
  intro HB
  have c0 := HB.out.1.cell (i := 0) rfl
  cases bm with
  | false =>
    obtain ⟨rfl, rfl⟩ : -1 = i ∧ 10 = e := by
      have h := HE.out
      unfold Pg.wrong at h
      rw [HNM.out, if_pos rfl] at h
      exact Prod.mk.inj h
    go_wp2_with (first | (go_at_call 15; refine (lx_name nm hnm _ HNM.out _).mono ?_; rintro r W1 ⟨rfl, hb1⟩; have HB1 : Hid (Blk W1 w.heap.size [.string nm, .int .i64 dl, .int .i64 jp, .slice oa n c] 24 ∧ Below w.heap.size w W1) := Lib.hid ⟨HB.out.1.below hb1 HB.out.1.lt, HB.out.2.trans (hb1.mono HB.out.2.size)⟩; clear hb1 c0 HB; have c1 := HB1.out.1.cell (i := 1) rfl; have c2 := HB1.out.1.cell (i := 2) rfl; have c3 := HB1.out.1.cell (i := 3) rfl) | fail)
    go_ret2
    exact ⟨rfl, HB1.out.2⟩
  | true =>
    cases bd with
    | true =>
      have HG : Hid (¬ (Pg.inB dl 1 1000000000000 = false ∧ dl ≠ 9223372036854775807)) := Lib.hid (by rw [HI.out]; simp)
      obtain ⟨bj, hbj⟩ : ∃ b, Pg.inB jp 0 1000 = b := ⟨_, rfl⟩
      have HJ := Lib.hid hbj
      clear hbj
      cases bj with
      | false =>
        obtain ⟨rfl, rfl⟩ : -1 = i ∧ 12 = e := by
          have h := HE.out
          unfold Pg.wrong at h
          rw [HNM.out, if_neg (by decide), if_neg HG.out, if_pos HJ.out] at h
          exact Prod.mk.inj h
        go_wp2_with (first | (go_at_call 15; refine (lx_name nm hnm _ HNM.out _).mono ?_; rintro r W1 ⟨rfl, hb1⟩; have HB1 : Hid (Blk W1 w.heap.size [.string nm, .int .i64 dl, .int .i64 jp, .slice oa n c] 24 ∧ Below w.heap.size w W1) := Lib.hid ⟨HB.out.1.below hb1 HB.out.1.lt, HB.out.2.trans (hb1.mono HB.out.2.size)⟩; clear hb1 c0 HB; have c1 := HB1.out.1.cell (i := 1) rfl; have c2 := HB1.out.1.cell (i := 2) rfl; have c3 := HB1.out.1.cell (i := 3) rfl) | (go_at_call 16; refine (pg_ini _ 1 1000000000000 _ HI.out _).mono ?_; rintro r W2 ⟨rfl, rfl⟩) | (go_at_call 17; refine (pg_inn jp 0 1000 _ HJ.out _).mono ?_; rintro r W3 ⟨rfl, rfl⟩) | fail)
        go_ret2
        exact ⟨rfl, HB1.out.2⟩
      | true =>
        by_cases h200 : 200 < n
        · have i200 : (200 : Int) < (n : Int) := by omega
          obtain ⟨rfl, rfl⟩ : -1 = i ∧ 4 = e := by
            have h := HE.out
            unfold Pg.wrong at h
            rw [HNM.out, if_neg (by decide), if_neg HG.out, if_neg (by rw [HJ.out]; decide), if_pos (by rw [HL.out.1]; exact h200)] at h
            exact Prod.mk.inj h
          go_wp2_with (first | (go_at_call 15; refine (lx_name nm hnm _ HNM.out _).mono ?_; rintro r W1 ⟨rfl, hb1⟩; have HB1 : Hid (Blk W1 w.heap.size [.string nm, .int .i64 dl, .int .i64 jp, .slice oa n c] 24 ∧ Below w.heap.size w W1) := Lib.hid ⟨HB.out.1.below hb1 HB.out.1.lt, HB.out.2.trans (hb1.mono HB.out.2.size)⟩; clear hb1 c0 HB; have c1 := HB1.out.1.cell (i := 1) rfl; have c2 := HB1.out.1.cell (i := 2) rfl; have c3 := HB1.out.1.cell (i := 3) rfl) | (go_at_call 16; refine (pg_ini _ 1 1000000000000 _ HI.out _).mono ?_; rintro r W2 ⟨rfl, rfl⟩) | (go_at_call 17; refine (pg_inn jp 0 1000 _ HJ.out _).mono ?_; rintro r W3 ⟨rfl, rfl⟩) | fail)
          go_ret2
          exact ⟨rfl, HB1.out.2⟩
        · have i200 : ¬ (200 : Int) < (n : Int) := by omega
          have HE2 : Hid ((((Pg.wOps n 0 L).1 : Int), (Pg.wOps n 0 L).2) = (i, e)) := Lib.hid (by
            have h := HE.out
            unfold Pg.wrong at h
            rw [HNM.out, if_neg (by decide), if_neg HG.out, if_neg (by rw [HJ.out]; decide), if_neg (by rw [HL.out.1]; exact h200), HL.out.1] at h
            exact h)
          clear HE HG
          go_upto_region 10 with (first | (go_at_call 15; refine (lx_name nm hnm _ HNM.out _).mono ?_; rintro r W1 ⟨rfl, hb1⟩; have HB1 : Hid (Blk W1 w.heap.size [.string nm, .int .i64 dl, .int .i64 jp, .slice oa n c] 24 ∧ Below w.heap.size w W1) := Lib.hid ⟨HB.out.1.below hb1 HB.out.1.lt, HB.out.2.trans (hb1.mono HB.out.2.size)⟩; clear hb1 c0 HB; have c1 := HB1.out.1.cell (i := 1) rfl; have c2 := HB1.out.1.cell (i := 2) rfl; have c3 := HB1.out.1.cell (i := 3) rfl) | (go_at_call 16; refine (pg_ini _ 1 1000000000000 _ HI.out _).mono ?_; rintro r W2 ⟨rfl, rfl⟩) | (go_at_call 17; refine (pg_inn jp 0 1000 _ HJ.out _).mono ?_; rintro r W3 ⟨rfl, rfl⟩) | fail)
          clear c1 c2 c3
          go_loopw [4, 5, 6, 35] (fun _ _ _ z wr => ∃ j : Nat, z = .int .i64 j ∧ j ≤ n ∧ Hid (∀ q o', q < j → L[q]? = some o' → Pg.wOp n o' = 0) ∧ Hid (Blk wr w.heap.size [.string nm, .int .i64 dl, .int .i64 jp, .slice oa n c] 24 ∧ Below w.heap.size w wr)) (fun _ _ _ z _ => n - (intOf z).toNat)
          case atStart => exact ⟨0, rfl, by omega, Lib.hid (fun q p' hq => by omega), HB1⟩
          case round =>
            clear HB1
            obtain ⟨j, rfl, hj, HK, HB⟩ := hrel
            have i0 : (0 : Int) ≤ (j : Int) := by omega
            by_cases hjl : j < n
            · have i1 : (j : Int) < (n : Int) := by omega
              have w1 : IntKind.i64.wrap ((j : Int) + 1) = (j : Int) + 1 := IntWalk.i64_in _ (by omega)
              obtain ⟨k, tx, n1, to1, ar, ot, oe, es⟩ : ∃ k tx n1 to1 ar ot oe, L[j]? = some ⟨k, tx, n1, to1, ar, ot, oe⟩ := ⟨_, _, _, _, _, _, _, List.getElem?_eq_getElem (by rw [HL.out.1]; exact hjl)⟩
              obtain ⟨htx, hal, g, o, aa, ac, rfl, hg, d0, d1, d2, d3, d4, d5, d6, hA⟩ := (HL.out.2.below HB.out.2) j k tx n1 to1 ar ot oe es
              obtain ⟨q, hq⟩ : ∃ q, Pg.wOp n ⟨k, tx, n1, to1, ar, ot, oe⟩ = q := ⟨_, rfl⟩
              obtain ⟨al, hal2⟩ : ∃ al, ar.length = al := ⟨_, rfl⟩
              rw [hal2] at hal d4
              have HQ := Lib.hid (And.intro hq (And.intro es (And.intro hA hal2)))
              clear hq es hA hal2
              go_upto_region 12 with fail
              have HC : Hid ((Blk (wr.alloc (.cells #[.int .i64 k, .string tx, .int .i64 n1, .int .i64 to1, .slice aa al ac, .int .i64 ot, .int .i64 oe] 27)) w.heap.size [.string nm, .int .i64 dl, .int .i64 jp, .slice (some ⟨g, o, none⟩) n c] 24 ∧ Below w.heap.size w (wr.alloc (.cells #[.int .i64 k, .string tx, .int .i64 n1, .int .i64 to1, .slice aa al ac, .int .i64 ot, .int .i64 oe] 27))) ∧ Blk (wr.alloc (.cells #[.int .i64 k, .string tx, .int .i64 n1, .int .i64 to1, .slice aa al ac, .int .i64 ot, .int .i64 oe] 27)) wr.heap.size [.int .i64 k, .string tx, .int .i64 n1, .int .i64 to1, .slice aa al ac, .int .i64 ot, .int .i64 oe] 27 ∧ AL (wr.alloc (.cells #[.int .i64 k, .string tx, .int .i64 n1, .int .i64 to1, .slice aa al ac, .int .i64 ot, .int .i64 oe] 27)) aa ar) := Lib.hid ⟨⟨HB.out.1.alloc _, HB.out.2.alloc HB.out.2.size _⟩, Blk.newA _ _ _, HQ.out.2.2.1.below ((Below.refl _ _).alloc (Nat.le_refl _) _)⟩
              clear d0 d1 d2 d3 d4 d5 d6 HB
              revert HC
              generalize (wr.alloc (.cells #[.int .i64 k, .string tx, .int .i64 n1, .int .i64 to1, .slice aa al ac, .int .i64 ot, .int .i64 oe] 27)) = V1
              generalize wr.heap.size = Y
              intro HC
              have d0 := HC.out.2.1.cell (i := 0) rfl
              have d1 := HC.out.2.1.cell (i := 1) rfl
              have d2 := HC.out.2.1.cell (i := 2) rfl
              have d3 := HC.out.2.1.cell (i := 3) rfl
              have d4 := HC.out.2.1.cell (i := 4) rfl
              have d5 := HC.out.2.1.cell (i := 5) rfl
              have d6 := HC.out.2.1.cell (i := 6) rfl
              have c3 := HC.out.1.1.cell (i := 3) rfl
              by_cases q0 : q = 0
              · subst q0
                have HK2 : Hid (∀ q o', q < j + 1 → L[q]? = some o' → Pg.wOp n o' = 0) := Lib.hid (fun q p' hq hp => by
                  by_cases e : q = j
                  · rw [e, HQ.out.2.1] at hp; rw [← Option.some.inj hp]; exact HQ.out.1
                  · exact HK.out q p' (by omega) hp)
                go_wp2_with (first
                  | (go_at_call 18; refine (pg_wop k tx n1 to1 aa al ac ot oe ar HQ.out.2.2.2 hal htx n _ HQ.out.1 _ HC.out.2.2).mono ?_; rintro r W4 ⟨rfl, hb1⟩; have HD := Lib.hid (And.intro (HC.out.1.1.below hb1 HC.out.1.1.lt) (HC.out.1.2.trans (hb1.mono HC.out.1.2.size))); clear hb1 d0 d1 d2 d3 d4 d5 d6 c3)
                  | fail)
                go_roundw
                case rel => exact ⟨j + 1, by go_num, by omega, HK2, HD⟩
                case measure => simp [intOf]; omega
              · have q1 : ¬ (q : Int) = 0 := by omega
                obtain ⟨rfl, rfl⟩ : (j : Int) = i ∧ q = e := by
                  have h := HE2.out
                  have h1 := wOps_at n ⟨k, tx, n1, to1, ar, ot, oe⟩ L 0 j HK.out HQ.out.2.1 (by rw [HQ.out.1]; exact q0)
                  rw [h1, HQ.out.1] at h
                  simpa using h
                go_wp2_with (first
                  | (go_at_call 18; refine (pg_wop k tx n1 to1 aa al ac ot oe ar HQ.out.2.2.2 hal htx n _ HQ.out.1 _ HC.out.2.2).mono ?_; rintro r W4 ⟨rfl, hb1⟩; have HD := Lib.hid (And.intro (HC.out.1.1.below hb1 HC.out.1.1.lt) (HC.out.1.2.trans (hb1.mono HC.out.1.2.size))); clear hb1 d0 d1 d2 d3 d4 d5 d6 c3)
                  | fail)
                go_ret2
                exact ⟨rfl, HD.out.2⟩
            · have i1 : ¬ (j : Int) < (n : Int) := by omega
              have h := HE2.out
              rw [wOps_all n L 0 (fun q p' hp => HK.out q p' (by
                have : q < L.length := (List.getElem?_eq_some_iff.1 hp).1
                rw [HL.out.1] at this
                omega) hp)] at h
              obtain ⟨rfl, rfl⟩ : (0 : Int) = i ∧ 0 = e := by simpa using h
              clear h
              go_wp2_with fail
              go_ret2
              exact ⟨rfl, HB.out.2⟩
    | false =>
      by_cases hnv : dl = 9223372036854775807
      · have HG : Hid (¬ (Pg.inB dl 1 1000000000000 = false ∧ dl ≠ 9223372036854775807)) := Lib.hid (fun h => h.2 hnv)
        subst hnv
        obtain ⟨bj, hbj⟩ : ∃ b, Pg.inB jp 0 1000 = b := ⟨_, rfl⟩
        have HJ := Lib.hid hbj
        clear hbj
        cases bj with
        | false =>
          obtain ⟨rfl, rfl⟩ : -1 = i ∧ 12 = e := by
            have h := HE.out
            unfold Pg.wrong at h
            rw [HNM.out, if_neg (by decide), if_neg HG.out, if_pos HJ.out] at h
            exact Prod.mk.inj h
          go_wp2_with (first | (go_at_call 15; refine (lx_name nm hnm _ HNM.out _).mono ?_; rintro r W1 ⟨rfl, hb1⟩; have HB1 : Hid (Blk W1 w.heap.size [.string nm, .int .i64 9223372036854775807, .int .i64 jp, .slice oa n c] 24 ∧ Below w.heap.size w W1) := Lib.hid ⟨HB.out.1.below hb1 HB.out.1.lt, HB.out.2.trans (hb1.mono HB.out.2.size)⟩; clear hb1 c0 HB; have c1 := HB1.out.1.cell (i := 1) rfl; have c2 := HB1.out.1.cell (i := 2) rfl; have c3 := HB1.out.1.cell (i := 3) rfl) | (go_at_call 16; refine (pg_ini _ 1 1000000000000 _ HI.out _).mono ?_; rintro r W2 ⟨rfl, rfl⟩) | (go_at_call 17; refine (pg_inn jp 0 1000 _ HJ.out _).mono ?_; rintro r W3 ⟨rfl, rfl⟩) | fail)
          go_ret2
          exact ⟨rfl, HB1.out.2⟩
        | true =>
          by_cases h200 : 200 < n
          · have i200 : (200 : Int) < (n : Int) := by omega
            obtain ⟨rfl, rfl⟩ : -1 = i ∧ 4 = e := by
              have h := HE.out
              unfold Pg.wrong at h
              rw [HNM.out, if_neg (by decide), if_neg HG.out, if_neg (by rw [HJ.out]; decide), if_pos (by rw [HL.out.1]; exact h200)] at h
              exact Prod.mk.inj h
            go_wp2_with (first | (go_at_call 15; refine (lx_name nm hnm _ HNM.out _).mono ?_; rintro r W1 ⟨rfl, hb1⟩; have HB1 : Hid (Blk W1 w.heap.size [.string nm, .int .i64 9223372036854775807, .int .i64 jp, .slice oa n c] 24 ∧ Below w.heap.size w W1) := Lib.hid ⟨HB.out.1.below hb1 HB.out.1.lt, HB.out.2.trans (hb1.mono HB.out.2.size)⟩; clear hb1 c0 HB; have c1 := HB1.out.1.cell (i := 1) rfl; have c2 := HB1.out.1.cell (i := 2) rfl; have c3 := HB1.out.1.cell (i := 3) rfl) | (go_at_call 16; refine (pg_ini _ 1 1000000000000 _ HI.out _).mono ?_; rintro r W2 ⟨rfl, rfl⟩) | (go_at_call 17; refine (pg_inn jp 0 1000 _ HJ.out _).mono ?_; rintro r W3 ⟨rfl, rfl⟩) | fail)
            go_ret2
            exact ⟨rfl, HB1.out.2⟩
          · have i200 : ¬ (200 : Int) < (n : Int) := by omega
            have HE2 : Hid ((((Pg.wOps n 0 L).1 : Int), (Pg.wOps n 0 L).2) = (i, e)) := Lib.hid (by
              have h := HE.out
              unfold Pg.wrong at h
              rw [HNM.out, if_neg (by decide), if_neg HG.out, if_neg (by rw [HJ.out]; decide), if_neg (by rw [HL.out.1]; exact h200), HL.out.1] at h
              exact h)
            clear HE HG
            go_upto_region 10 with (first | (go_at_call 15; refine (lx_name nm hnm _ HNM.out _).mono ?_; rintro r W1 ⟨rfl, hb1⟩; have HB1 : Hid (Blk W1 w.heap.size [.string nm, .int .i64 9223372036854775807, .int .i64 jp, .slice oa n c] 24 ∧ Below w.heap.size w W1) := Lib.hid ⟨HB.out.1.below hb1 HB.out.1.lt, HB.out.2.trans (hb1.mono HB.out.2.size)⟩; clear hb1 c0 HB; have c1 := HB1.out.1.cell (i := 1) rfl; have c2 := HB1.out.1.cell (i := 2) rfl; have c3 := HB1.out.1.cell (i := 3) rfl) | (go_at_call 16; refine (pg_ini _ 1 1000000000000 _ HI.out _).mono ?_; rintro r W2 ⟨rfl, rfl⟩) | (go_at_call 17; refine (pg_inn jp 0 1000 _ HJ.out _).mono ?_; rintro r W3 ⟨rfl, rfl⟩) | fail)
            clear c1 c2 c3
            go_loopw [4, 5, 6, 35] (fun _ _ _ z wr => ∃ j : Nat, z = .int .i64 j ∧ j ≤ n ∧ Hid (∀ q o', q < j → L[q]? = some o' → Pg.wOp n o' = 0) ∧ Hid (Blk wr w.heap.size [.string nm, .int .i64 9223372036854775807, .int .i64 jp, .slice oa n c] 24 ∧ Below w.heap.size w wr)) (fun _ _ _ z _ => n - (intOf z).toNat)
            case atStart => exact ⟨0, rfl, by omega, Lib.hid (fun q p' hq => by omega), HB1⟩
            case round =>
              clear HB1
              obtain ⟨j, rfl, hj, HK, HB⟩ := hrel
              have i0 : (0 : Int) ≤ (j : Int) := by omega
              by_cases hjl : j < n
              · have i1 : (j : Int) < (n : Int) := by omega
                have w1 : IntKind.i64.wrap ((j : Int) + 1) = (j : Int) + 1 := IntWalk.i64_in _ (by omega)
                obtain ⟨k, tx, n1, to1, ar, ot, oe, es⟩ : ∃ k tx n1 to1 ar ot oe, L[j]? = some ⟨k, tx, n1, to1, ar, ot, oe⟩ := ⟨_, _, _, _, _, _, _, List.getElem?_eq_getElem (by rw [HL.out.1]; exact hjl)⟩
                obtain ⟨htx, hal, g, o, aa, ac, rfl, hg, d0, d1, d2, d3, d4, d5, d6, hA⟩ := (HL.out.2.below HB.out.2) j k tx n1 to1 ar ot oe es
                obtain ⟨q, hq⟩ : ∃ q, Pg.wOp n ⟨k, tx, n1, to1, ar, ot, oe⟩ = q := ⟨_, rfl⟩
                obtain ⟨al, hal2⟩ : ∃ al, ar.length = al := ⟨_, rfl⟩
                rw [hal2] at hal d4
                have HQ := Lib.hid (And.intro hq (And.intro es (And.intro hA hal2)))
                clear hq es hA hal2
                go_upto_region 12 with fail
                have HC : Hid ((Blk (wr.alloc (.cells #[.int .i64 k, .string tx, .int .i64 n1, .int .i64 to1, .slice aa al ac, .int .i64 ot, .int .i64 oe] 27)) w.heap.size [.string nm, .int .i64 9223372036854775807, .int .i64 jp, .slice (some ⟨g, o, none⟩) n c] 24 ∧ Below w.heap.size w (wr.alloc (.cells #[.int .i64 k, .string tx, .int .i64 n1, .int .i64 to1, .slice aa al ac, .int .i64 ot, .int .i64 oe] 27))) ∧ Blk (wr.alloc (.cells #[.int .i64 k, .string tx, .int .i64 n1, .int .i64 to1, .slice aa al ac, .int .i64 ot, .int .i64 oe] 27)) wr.heap.size [.int .i64 k, .string tx, .int .i64 n1, .int .i64 to1, .slice aa al ac, .int .i64 ot, .int .i64 oe] 27 ∧ AL (wr.alloc (.cells #[.int .i64 k, .string tx, .int .i64 n1, .int .i64 to1, .slice aa al ac, .int .i64 ot, .int .i64 oe] 27)) aa ar) := Lib.hid ⟨⟨HB.out.1.alloc _, HB.out.2.alloc HB.out.2.size _⟩, Blk.newA _ _ _, HQ.out.2.2.1.below ((Below.refl _ _).alloc (Nat.le_refl _) _)⟩
                clear d0 d1 d2 d3 d4 d5 d6 HB
                revert HC
                generalize (wr.alloc (.cells #[.int .i64 k, .string tx, .int .i64 n1, .int .i64 to1, .slice aa al ac, .int .i64 ot, .int .i64 oe] 27)) = V1
                generalize wr.heap.size = Y
                intro HC
                have d0 := HC.out.2.1.cell (i := 0) rfl
                have d1 := HC.out.2.1.cell (i := 1) rfl
                have d2 := HC.out.2.1.cell (i := 2) rfl
                have d3 := HC.out.2.1.cell (i := 3) rfl
                have d4 := HC.out.2.1.cell (i := 4) rfl
                have d5 := HC.out.2.1.cell (i := 5) rfl
                have d6 := HC.out.2.1.cell (i := 6) rfl
                have c3 := HC.out.1.1.cell (i := 3) rfl
                by_cases q0 : q = 0
                · subst q0
                  have HK2 : Hid (∀ q o', q < j + 1 → L[q]? = some o' → Pg.wOp n o' = 0) := Lib.hid (fun q p' hq hp => by
                    by_cases e : q = j
                    · rw [e, HQ.out.2.1] at hp; rw [← Option.some.inj hp]; exact HQ.out.1
                    · exact HK.out q p' (by omega) hp)
                  go_wp2_with (first
                    | (go_at_call 18; refine (pg_wop k tx n1 to1 aa al ac ot oe ar HQ.out.2.2.2 hal htx n _ HQ.out.1 _ HC.out.2.2).mono ?_; rintro r W4 ⟨rfl, hb1⟩; have HD := Lib.hid (And.intro (HC.out.1.1.below hb1 HC.out.1.1.lt) (HC.out.1.2.trans (hb1.mono HC.out.1.2.size))); clear hb1 d0 d1 d2 d3 d4 d5 d6 c3)
                    | fail)
                  go_roundw
                  case rel => exact ⟨j + 1, by go_num, by omega, HK2, HD⟩
                  case measure => simp [intOf]; omega
                · have q1 : ¬ (q : Int) = 0 := by omega
                  obtain ⟨rfl, rfl⟩ : (j : Int) = i ∧ q = e := by
                    have h := HE2.out
                    have h1 := wOps_at n ⟨k, tx, n1, to1, ar, ot, oe⟩ L 0 j HK.out HQ.out.2.1 (by rw [HQ.out.1]; exact q0)
                    rw [h1, HQ.out.1] at h
                    simpa using h
                  go_wp2_with (first
                    | (go_at_call 18; refine (pg_wop k tx n1 to1 aa al ac ot oe ar HQ.out.2.2.2 hal htx n _ HQ.out.1 _ HC.out.2.2).mono ?_; rintro r W4 ⟨rfl, hb1⟩; have HD := Lib.hid (And.intro (HC.out.1.1.below hb1 HC.out.1.1.lt) (HC.out.1.2.trans (hb1.mono HC.out.1.2.size))); clear hb1 d0 d1 d2 d3 d4 d5 d6 c3)
                    | fail)
                  go_ret2
                  exact ⟨rfl, HD.out.2⟩
              · have i1 : ¬ (j : Int) < (n : Int) := by omega
                have h := HE2.out
                rw [wOps_all n L 0 (fun q p' hp => HK.out q p' (by
                  have : q < L.length := (List.getElem?_eq_some_iff.1 hp).1
                  rw [HL.out.1] at this
                  omega) hp)] at h
                obtain ⟨rfl, rfl⟩ : (0 : Int) = i ∧ 0 = e := by simpa using h
                clear h
                go_wp2_with fail
                go_ret2
                exact ⟨rfl, HB.out.2⟩
      · obtain ⟨rfl, rfl⟩ : -1 = i ∧ 12 = e := by
          have h := HE.out
          unfold Pg.wrong at h
          rw [HNM.out, if_neg (by decide), if_pos ⟨HI.out, hnv⟩] at h
          exact Prod.mk.inj h
        go_wp2_with (first | (go_at_call 15; refine (lx_name nm hnm _ HNM.out _).mono ?_; rintro r W1 ⟨rfl, hb1⟩; have HB1 : Hid (Blk W1 w.heap.size [.string nm, .int .i64 dl, .int .i64 jp, .slice oa n c] 24 ∧ Below w.heap.size w W1) := Lib.hid ⟨HB.out.1.below hb1 HB.out.1.lt, HB.out.2.trans (hb1.mono HB.out.2.size)⟩; clear hb1 c0 HB; have c1 := HB1.out.1.cell (i := 1) rfl; have c2 := HB1.out.1.cell (i := 2) rfl; have c3 := HB1.out.1.cell (i := 3) rfl) | (go_at_call 16; refine (pg_ini _ 1 1000000000000 _ HI.out _).mono ?_; rintro r W2 ⟨rfl, rfl⟩) | fail)
        go_ret2
        exact ⟨rfl, HB1.out.2⟩
end Go.Proofs.Ytoniipmgkoogbaa
