/- P4.1, P4.2: for every most, acts and ask: what a row tells of any calls, and who stands in it behind each, is as the page says. No condition. -/
import Derived.Test.YtnimbfllefbjgaaOpen
import Derived.WalkKit
import Derived.ProofKit
import Derived.OpenShut
import Derived.Test.YtnimbfllefbjgaaFifoTold
import Derived.Test.YtnimbfllefbjgaaRwStep
import Derived.Test.YtnimbfllefbjgaaMix
import Derived.Deep.CutRange
import Derived.Deep.CutBlock
import Derived.Deep.LoopGhost
import Derived.Deep.RegionHeld3
namespace Go.Proofs.Ytnimbfllefbjgaa.fifoPlays
open Go.Joins Go.ChangeShapes Go.WideShapes Go.ChangeAt Go.RowKit Go.Deep
open Go.ChangeMaps (open_string)
set_option linter.unusedSimpArgs false
set_option linter.unusedVariables false

theorem within_any (x : Int) (n : Nat) (hn : min (max x 1) 1024 = (n : Int)) (w : World) :
    Calls Try.prog 7 #[.int .i64 x, .int .i64 1, .int .i64 1024] w fun e w' => e = .returned (.int .i64 n) ∧ w = w' := by
  by_cases a1 : x < 1
  · obtain rfl : n = 1 := by omega
    go_enter Try.func7, Try.ntmps7
    go_wp2
    go_ret
    exact ⟨rfl, rfl⟩
  · by_cases a2 : 1024 < x
    · obtain rfl : n = 1024 := by omega
      go_enter Try.func7, Try.ntmps7
      go_wp2
      go_ret
      exact ⟨rfl, rfl⟩
    · obtain rfl : x = (n : Int) := by omega
      go_enter Try.func7, Try.ntmps7
      go_wp2
      go_ret
      exact ⟨rfl, rfl⟩
/-- What holds all the time: the row holds L; the document's own list holds M. -/
def SP (w0 w : World) (b R I n : Nat) (L : List Nat) (g o : Nat) (M : List Nat) : Prop :=
  FAt w b R I n L ∧ LAt w g o M ∧ Below w0.heap.size w0 w ∧ (w0.heap.size ≤ b ∧ w0.heap.size ≤ R ∧ w0.heap.size ≤ I) ∧ w0.heap.size ≤ g ∧ (g ≠ b ∧ g ≠ R ∧ g ≠ I)
theorem SP.q {w0 w w' : World} {b R I n g o : Nat} {L M L' : List Nat} (h : SP w0 w b R I n L g o M) (hf : FAt w' b R I n L') (k : Chg [b, R, I] w w') : SP w0 w' b R I n L' g o M := by
  obtain ⟨h1, h2, h3, h4, h5, h6⟩ := h
  exact ⟨hf, h2.chg k (by simp; omega), k.onto h3 h3.size (by simp; omega), h4, h5, h6⟩
theorem SP.fresh {w0 w w' : World} {b R I n g o : Nat} {L M : List Nat} (h : SP w0 w b R I n L g o M) (k : Below w.heap.size w w') : SP w0 w' b R I n L g o M := by
  obtain ⟨h1, h2, h3, h4, h5, h6⟩ := h
  exact ⟨h1.chg (Chg.of_fresh k (l := [])) (by simp) (by simp) (by simp), h2.below k h2.1, h3.trans (k.mono h3.size), h4, h5, h6⟩
theorem SP.list {w0 w w' : World} {b R I n g o g' c' : Nat} {L M M' : List Nat} {T : TypeId} (h : SP w0 w b R I n L g o M) (r : Rw w' g' c' (M'.map iv) T) (hg : w.heap.size ≤ g') (k : Below w.heap.size w w') : SP w0 w' b R I n L g' 0 M' := by
  have hl := h.1.lts
  have h' := h.fresh k
  obtain ⟨h1, h2, h3, h4, h5, h6⟩ := h'
  have hs := h.2.2.1.size
  exact ⟨h1, LAt.of_rw r, h3, h4, by omega, by omega⟩
theorem SP.drewN {w0 w : World} {b R I n g o : Nat} {L M : List Nat} (h : SP w0 w b R I n L g o M) (q : Nat) : SP w0 (w.drewN q) b R I n L g o M := h.fresh (below_drewN (Below.refl _ _) q)
theorem pop_nil' (b R I n : Nat) (L : List Nat) (hL : L = []) (w : World) (h : FAt w b R I n L) :
    Calls Try.prog 12 #[.pointer (some ⟨b, 0, none⟩)] w fun e w' => e = .returned (.tuple #[.int .i64 0, .bool false]) ∧ w = w' := by
  subst hL; exact pop_none b R I n w h
theorem pop_cons (b R I n x : Nat) (Ls L : List Nat) (hL : L = x :: Ls) (w : World) (h : FAt w b R I n L) :
    Calls Try.prog 12 #[.pointer (some ⟨b, 0, none⟩)] w fun e w' => e = .returned (.tuple #[.int .i64 x, .bool true]) ∧ FAt w' b R I n Ls ∧ Chg [b, R, I] w w' := by
  subst hL; exact pop_some b R I n x Ls w h
theorem turn_nil' (b R I n : Nat) (L : List Nat) (hL : L = []) (w : World) (h : FAt w b R I n L) :
    Calls Try.prog 13 #[.pointer (some ⟨b, 0, none⟩)] w fun e w' => e = .returned (.bool false) ∧ w = w' := by
  subst hL; exact turn_none b R I n w h
theorem turn_cons (b R I n x : Nat) (Ls L : List Nat) (hL : L = x :: Ls) (w : World) (h : FAt w b R I n L) :
    Calls Try.prog 13 #[.pointer (some ⟨b, 0, none⟩)] w fun e w' => e = .returned (.bool true) ∧ FAt w' b R I n (Ls ++ [x]) ∧ Chg [b, R, I] w w' := by
  subst hL; exact turn_some b R I n x Ls w h
theorem LAt.rest {w : World} {g o x : Nat} {L Ls : List Nat} (h : LAt w g o L) (hL : L = x :: Ls) : LAt w g (o + 1) Ls := by
  subst hL; exact h.tail
theorem SP.tail {w0 w : World} {b R I n g o x : Nat} {L M Ls : List Nat} (h : SP w0 w b R I n L g o M) (hM : M = x :: Ls) : SP w0 w b R I n L g (o + 1) Ls := by
  obtain ⟨h1, h2, h3⟩ := h
  exact ⟨h1, LAt.rest h2 hM, h3⟩
set_option maxRecDepth 20000 in
set_option maxHeartbeats 8000000 in

theorem walk (a0 : Int) (a1 : Option Addr) (len1 cap1 : Nat) (a2 : Int) (w : World) (w0 : (Lit.int .i64 a0).wf = true) (w1 : IsRecs .i64 2 w a1 len1 cap1) (w2 : (Lit.int .i64 a2).wf = true) :
    Calls Try.prog 3 #[.int .i64 a0, .slice a1 len1 cap1, .int .i64 a2] w fun e w' => e = .returned (.bool true) ∧ Below w.heap.size w w' := by
  obtain ⟨hlc, hcm, hnil, hcell⟩ := w1
  unfold maxLen at hcm
  obtain ⟨n, hn⟩ : ∃ n : Nat, min (max a0 1) 1024 = (n : Int) := ⟨(min (max a0 1) 1024).toNat, by omega⟩
  have HN := Lib.hid hn
  have n1 : 1 ≤ n ∧ n ≤ 1024 := by omega
  clear hn
  have HCELL := Lib.hid hcell
  clear hcell hnil
  go_enter Try.func3, Try.ntmps3
  go_wp2_with fail
  refine (new_any n a0 _ HN.out).mono ?_
  rintro e u1 ⟨b, R, I, rfl, k1, k2, k3, k4, k5⟩
  have HF := Lib.hid (And.intro k1 (And.intro k2 (And.intro k3 (And.intro k4 k5))))
  clear k1 k2 k3 k4 k5
  go_wp2_with fail
  refine (within_any a0 n HN.out _).mono ?_
  rintro e u2 ⟨rfl, rfl⟩
  have HS0 : Hid (SP w (u1.alloc (Obj.cells #[] 3)) b R I n [] u1.heap.size 0 []) := by
    obtain ⟨k1, k2, k3, k4, k5⟩ := HF.out
    have hs := k2.size
    have hl := k1.lts
    have k : Chg [] u1 (u1.alloc (Obj.cells #[] 3)) := (Chg.refl _ _).alloc _
    exact ⟨k1.chg k (by simp) (by simp) (by simp), ⟨by simp, fun j hj => absurd hj (by simp)⟩, k.onto k2 hs (by simp), ⟨k3, k4, k5⟩, hs, by omega⟩
  clear HF
  revert HS0
  generalize u1.alloc (Obj.cells #[] 3) = W0
  generalize u1.heap.size = g0
  intro HS0
  go_wp2_with (first
    | (go_at_call 8; refine (most_any b R I n [] _ HS0.out.1).mono ?_; rintro e w' ⟨rfl, rfl⟩)
    | (go_at_call 9; refine (told_zero b R I n g0 0 0 [] rfl a2 _ HS0.out.1 HS0.out.2.1).mono ?_; rintro e v1 ⟨rfl, k1⟩; have HS := Lib.hid (HS0.out.fresh k1); clear k1 HS0))
  go_loopw [8, 10] (fun v i wr => ∃ (k g o c : Nat) (L : List Nat), v = .slice (some ⟨g, o, none⟩) L.length c ∧ i = .int .i64 k ∧ k ≤ 40 ∧ k ≤ len1 ∧ L.length ≤ c ∧ c ≤ 9223372036854775807 ∧ Hid (SP w wr b R I n L g o L)) (fun _ i _ => 40 - (intOf i).toNat)
  case atStart => exact ⟨0, g0, 0, 0, [], rfl, rfl, by omega, by omega, by simp, by omega, HS⟩
  case round =>
    clear HS
    obtain ⟨k, g, o, c, L, rfl, rfl, hk40, hkl, hLc, hcc, HS⟩ := hrel
    have hLn : L.length ≤ 1024 := Nat.le_trans HS.out.1.len n1.2
    by_cases hlt : k < len1
    · by_cases h40 : k < 40
      · obtain ⟨bb, off, hab, hbl, hcl⟩ := HCELL.out (by omega)
        subst hab
        obtain ⟨kd, e0, wkd⟩ := hcl k hlt 0 (by omega)
        obtain ⟨id, e1, wid⟩ := hcl k hlt 1 (by omega)
        have y0 : wr.cell? ⟨bb, off + k * 2, none⟩ = some (.int .i64 kd) := by rw [HS.out.2.2.1.cell hbl]; simpa using e0
        have y1 : wr.cell? ⟨bb, off + k * 2 + 1, none⟩ = some (.int .i64 id) := by rw [HS.out.2.2.1.cell hbl]; rw [Nat.add_assoc]; exact e1
        clear hcl e0 e1 wkd wid
        go_upto_block 2 with fail
        have H0 : Hid (SP w (wr.alloc (Obj.cells #[Value.int .i64 kd, Value.int .i64 id] 30)) b R I n L g o L ∧ Blk (wr.alloc (Obj.cells #[Value.int .i64 kd, Value.int .i64 id] 30)) wr.heap.size [.int .i64 kd, .int .i64 id] 30) := ⟨HS.out.fresh ((Below.refl _ _).alloc (Nat.le_refl _) _), Blk.newA wr _ _⟩
        have hX : b < wr.heap.size ∧ R < wr.heap.size ∧ I < wr.heap.size ∧ g < wr.heap.size := ⟨HS.out.1.lts.1, HS.out.1.lts.2.1, HS.out.1.lts.2.2, HS.out.2.1.1⟩
        clear y0 y1 HS
        revert H0 hX
        generalize wr.alloc (Obj.cells #[Value.int .i64 kd, Value.int .i64 id] 30) = u0
        generalize wr.heap.size = X
        intro H0 hX
        go_cut [8, 12, 13, 14] from 31 to 136 (fun v _ _ _ wx => ∃ (g o c : Nat) (L : List Nat), v = .slice (some ⟨g, o, none⟩) L.length c ∧ L.length ≤ c ∧ c ≤ 9223372036854775807 ∧ Hid (SP w wx b R I n L g o L))
        case first =>
          by_cases k0 : kd = 0
          · subst k0
            have y1 := H0.out.2.cell (i := 1) rfl
            by_cases hp : id < 0 ∨ (n : Int) ≤ id ∨ isIn L id = true
            · have HPP := Lib.hid hp
              clear hp
              go_wp2_with (first
                | (go_at_call 10; refine (pushl_no g o c n L id _ (by omega) H0.out.1.2.1 HPP.out).mono ?_; rintro e v1 ⟨rfl, rfl⟩)
                | (go_at_call 11; refine (push_no b R I n L id _ HPP.out H0.out.1.1).mono ?_; rintro e v2 ⟨rfl, rfl⟩))
              go_meet
              exact ⟨g, o, c, L, rfl, hLc, hcc, Lib.hid H0.out.1⟩
  
            · have h2 : isIn L id = false := by
                cases hh : isIn L id with
                | true => exact absurd (Or.inr (Or.inr hh)) hp
                | false => rfl
              obtain ⟨x, rfl⟩ : ∃ x : Nat, id = (x : Int) := ⟨id.toNat, by omega⟩
              have hxn : x < n := by omega
              have hxL : ¬ x ∈ L := by rw [isIn_nat] at h2; simpa using h2
              clear hp h2
              go_wp2_with (first
                | (go_at_call 10; refine (pushl_yes g o c n x L _ (by omega) H0.out.1.2.1 hxn hxL).mono ?_; rintro e v1 ⟨g2, c2, rfl, r1, r2, r3⟩; have H1 : Hid (SP w v1 b R I n L g2 0 (L ++ [x]) ∧ Blk v1 X [.int .i64 0, .int .i64 (x : Int)] 30 ∧ L.length + 1 ≤ c2 ∧ c2 ≤ 9223372036854775807) := Lib.hid ⟨H0.out.1.list r1 r2 r3, H0.out.2.below r3 H0.out.2.lt, by have := r1.len; simpa using this, by obtain ⟨_, _, q, _⟩ := r1; exact q⟩; have y2 := H1.out.2.1.cell (i := 1) rfl; clear r1 r2 r3 y1 H0)
                | (go_at_call 11; refine (push_yes b R I n x L _ hxn hxL H1.out.1.1).mono ?_; rintro e v2 ⟨rfl, k1, k2⟩; have H2 := Lib.hid (H1.out.1.q k1 k2); clear k1 k2))
              go_meet
              exact ⟨g2, 0, c2, L ++ [x], by simp, by have := H1.out.2.2.1; simpa using this, H1.out.2.2.2, H2⟩
  
          · by_cases k1 : kd = 1
            · subst k1
              rcases hL : L with _ | ⟨x, Ls⟩
              · have HL := Lib.hid hL
                have hm0 : L.length = 0 := by rw [hL]; rfl
                clear hL
                go_wp2_with (go_at_call 12; refine (pop_nil' b R I n L HL.out _ H0.out.1.1).mono ?_; rintro e v1 ⟨rfl, rfl⟩)
                go_meet
                exact ⟨g, o, c, L, by rw [hm0], hLc, hcc, Lib.hid H0.out.1⟩
  
              · have HL := Lib.hid hL
                have hl1 : L.length = Ls.length + 1 := by rw [hL]; rfl
                obtain ⟨m, hm⟩ : ∃ m, Ls.length = m := ⟨_, rfl⟩
                have HM := Lib.hid hm
                rw [hm] at hl1
                have hm0 : 0 < L.length := by omega
                have hm1 : ¬ L.length = 0 := by omega
                have hm3 : (0 : Int) < (L.length : Int) := by omega
                have hm4 : (1 : Int) ≤ (L.length : Int) := by omega
                have hm5 : (1 : Int) ≤ (c : Int) := by omega
                clear hL hm
                by_cases hc1 : c = 1
                · subst hc1
                  have hz : Ls.length = 0 := by rw [HM.out]; omega
                  go_wp2_with (go_at_call 12; refine (pop_cons b R I n x Ls L HL.out _ H0.out.1.1).mono ?_; rintro e v1 ⟨rfl, k1, k2⟩; have H1 := Lib.hid (H0.out.1.q k1 k2); clear k1 k2 H0; have d0 := H1.out.2.1.first HL.out)
                  go_meet
                  exact ⟨g, o, 0, Ls, by simp [hz], by omega, by omega, Lib.hid ⟨H1.out.1, ⟨H1.out.2.1.1, fun j hj => absurd hj (by omega)⟩, H1.out.2.2⟩⟩
    
                · skip
                  go_wp2_with (go_at_call 12; refine (pop_cons b R I n x Ls L HL.out _ H0.out.1.1).mono ?_; rintro e v1 ⟨rfl, k1, k2⟩; have H1 := Lib.hid (H0.out.1.q k1 k2); clear k1 k2 H0; have d0 := H1.out.2.1.first HL.out)
                  go_meet
                  exact ⟨g, o + 1, c - 1, Ls, rfl, by rw [HM.out]; omega, by omega, Lib.hid (H1.out.tail HL.out)⟩
    
            · by_cases k2 : kd = 2
              · subst k2
                rcases hL : L with _ | ⟨x, Ls⟩
                · have HL := Lib.hid hL
                  have hm0 : L.length = 0 := by rw [hL]; rfl
                  clear hL
                  go_wp2_with (go_at_call 13; refine (turn_nil' b R I n L HL.out _ H0.out.1.1).mono ?_; rintro e v1 ⟨rfl, rfl⟩)
                  go_meet
                  exact ⟨g, o, c, L, by rw [hm0], hLc, hcc, Lib.hid H0.out.1⟩
  
                · have HL := Lib.hid hL
                  have hl1 : L.length = Ls.length + 1 := by rw [hL]; rfl
                  obtain ⟨m, hm⟩ : ∃ m, Ls.length = m := ⟨_, rfl⟩
                  have HM := Lib.hid hm
                  rw [hm] at hl1
                  have hm0 : 0 < L.length := by omega
                  have hm1 : ¬ L.length = 0 := by omega
                  have hm3 : (0 : Int) < (L.length : Int) := by omega
                  have hm4 : (1 : Int) ≤ (L.length : Int) := by omega
                  have hm5 : (1 : Int) ≤ (c : Int) := by omega
                  clear hL hm
                  go_wp2_with (first
                    | (go_at_call 13; refine (turn_cons b R I n x Ls L HL.out _ H0.out.1.1).mono ?_; rintro e v1 ⟨rfl, k1, k2⟩; have H1 := Lib.hid (H0.out.1.q k1 k2); clear k1 k2 H0; have d0 := H1.out.2.1.first HL.out))
                  have hgl : g < v1.heap.size := H1.out.2.1.1
                  have hLs : Ls.length ≤ 1023 := by rw [HM.out]; omega
                  have hm6 : (1 : Int) ≤ (Ls.length : Int) + 1 := by omega
                  have hm7 : (0 : Int) < (Ls.length : Int) + 1 := by omega
                  by_cases hc1 : c = 1
                  · subst hc1
                    have HZ : Hid (Ls.length = 0) := Lib.hid (by rw [HM.out]; omega)
                    have LA0 : LAt v1 g o Ls := ⟨H1.out.2.1.1, fun j hj => absurd hj (by have := HZ.out; omega)⟩
                    have BA : Below v1.heap.size v1 (v1.alloc (Obj.cells #[] 3)).drew := ((Below.refl _ _).alloc (Nat.le_refl _) _).drew
                    have BB : Below v1.heap.size v1 ((v1.alloc (Obj.cells #[] 3)).alloc (Obj.cells #[Value.int .i64 (x : Int)] 3)).drew := (((Below.refl _ _).alloc (Nat.le_refl _) _).alloc (by simp) _).drew
                    have BC : Below v1.heap.size v1 ((v1.alloc (Obj.cells #[Value.int .i64 (x : Int)] 3)).alloc (Obj.cells #[] 3)).drew := (((Below.refl _ _).alloc (Nat.le_refl _) _).alloc (by simp) _).drew
                    have LA := LA0.below BA LA0.1
                    have LB := LA0.below BB LA0.1
                    have LC := LA0.below BC LA0.1
                    have RA : Rw (v1.alloc (Obj.cells #[] 3)).drew v1.heap.size 0 [] 3 := Rw.empty v1 3
                    have RB : Rw ((v1.alloc (Obj.cells #[] 3)).alloc (Obj.cells #[Value.int .i64 (x : Int)] 3)).drew v1.heap.size 0 [] 3 := by
                      have h0 : Rw (v1.alloc (Obj.cells #[] 3)) v1.heap.size 0 [] 3 := Rw.empty v1 3
                      have h : Rw ((v1.alloc (Obj.cells #[] 3)).alloc (Obj.cells #[Value.int .i64 (x : Int)] 3)) v1.heap.size 0 [] 3 := h0.chg ((Chg.refl [] (v1.alloc (Obj.cells #[] 3))).alloc (Obj.cells #[Value.int .i64 (x : Int)] 3)) (by simp)
                      exact h
                    have RC : Rw ((v1.alloc (Obj.cells #[Value.int .i64 (x : Int)] 3)).alloc (Obj.cells #[] 3)).drew (v1.heap.size + 1) 0 [] 3 := by
                      have h := Rw.empty (v1.alloc (Obj.cells #[Value.int .i64 (x : Int)] 3)) 3
                      rw [World.size_alloc] at h
                      exact h
                    have OB : (((v1.alloc (Obj.cells #[] 3)).alloc (Obj.cells #[Value.int .i64 (x : Int)] 3)).drew).cell? ⟨v1.heap.size + 1, 0, none⟩ = some (.int .i64 (x : Int)) := by
                      have h := (Blk.newA (v1.alloc (Obj.cells #[] 3)) #[Value.int .i64 (x : Int)] 3).cell (i := 0) rfl
                      rw [World.size_alloc] at h
                      exact h
                    have OC : (((v1.alloc (Obj.cells #[Value.int .i64 (x : Int)] 3)).alloc (Obj.cells #[] 3)).drew).cell? ⟨v1.heap.size, 0, none⟩ = some (.int .i64 (x : Int)) := ((Blk.newA v1 #[Value.int .i64 (x : Int)] 3).alloc _).cell (i := 0) rfl
                    have HG := Lib.hid (And.intro LA (And.intro LB (And.intro LC (And.intro RA (And.intro RB (And.intro RC (And.intro OB OC)))))))
                    go_region_law (first
                      | (refine step_append_rw rfl (.tmp 107) (.tmp 109) 25 25 rfl 3 (.int .i64 0) 8 Try.underlying25 info3 rfl v1.heap.size _ 0 [] rfl rfl RA _ rfl Ls.length _ (Src.ofSlice _ Try.underlying25 ⟨g, o, none⟩ Ls.length 0 (Ls.map iv) (by simp) (LAt.src LA) (all_iv Ls)) (by omega) (by omega) ?_; intro g3 c3 w3 r1 r2 r3; rw [List.nil_append] at r1; have HR : Hid (Rw w3 g3 c3 (Ls.map iv) 3 ∧ v1.heap.size ≤ g3 ∧ Below v1.heap.size v1 w3) := Lib.hid ⟨r1, (by rcases r2 with h | h <;> first | omega | (simp at h; omega)), r3.onto BA BA.size (by simp)⟩; have d3 : w3.cell? ⟨g, o, none⟩ = some (.int .i64 (x : Int)) := (by rw [HR.out.2.2.cell (p := ⟨g, o, none⟩) hgl]; exact d0); have g3l : g < w3.heap.size := Nat.lt_of_lt_of_le hgl HR.out.2.2.size; clear r1 r2 r3)
                      | (refine step_append_rw rfl (.tmp 107) (.tmp 109) 25 25 rfl 3 (.int .i64 0) 8 Try.underlying25 info3 rfl v1.heap.size _ 0 [] rfl rfl RB _ rfl Ls.length _ (Src.ofSlice _ Try.underlying25 ⟨g, o, none⟩ Ls.length 0 (Ls.map iv) (by simp) (LAt.src LB) (all_iv Ls)) (by omega) (by omega) ?_; intro g3 c3 w3 r1 r2 r3; rw [List.nil_append] at r1; have HR : Hid (Rw w3 g3 c3 (Ls.map iv) 3 ∧ v1.heap.size ≤ g3 ∧ Below v1.heap.size v1 w3 ∧ w3.cell? ⟨(v1.heap.size + 1), 0, none⟩ = some (.int .i64 (x : Int))) := Lib.hid ⟨r1, (by rcases r2 with h | h <;> first | omega | (simp at h; omega)), r3.onto BB BB.size (by simp), by rw [r3.cell (p := ⟨(v1.heap.size + 1), 0, none⟩) (World.block_lt_of_cell? _ _ OB) (by simp)]; exact OB⟩; have d3 : w3.cell? ⟨g, o, none⟩ = some (.int .i64 (x : Int)) := (by rw [HR.out.2.2.1.cell (p := ⟨g, o, none⟩) hgl]; exact d0); have g3l : g < w3.heap.size := Nat.lt_of_lt_of_le hgl HR.out.2.2.1.size; clear r1 r2 r3)
                      | (refine step_append_rw rfl (.tmp 107) (.tmp 109) 25 25 rfl 3 (.int .i64 0) 8 Try.underlying25 info3 rfl (v1.heap.size + 1) _ 0 [] rfl rfl RC _ rfl Ls.length _ (Src.ofSlice _ Try.underlying25 ⟨g, o, none⟩ Ls.length 0 (Ls.map iv) (by simp) (LAt.src LC) (all_iv Ls)) (by omega) (by omega) ?_; intro g3 c3 w3 r1 r2 r3; rw [List.nil_append] at r1; have HR : Hid (Rw w3 g3 c3 (Ls.map iv) 3 ∧ v1.heap.size ≤ g3 ∧ Below v1.heap.size v1 w3 ∧ w3.cell? ⟨v1.heap.size, 0, none⟩ = some (.int .i64 (x : Int))) := Lib.hid ⟨r1, (by rcases r2 with h | h <;> first | omega | (simp at h; omega)), r3.onto BC BC.size (by simp), by rw [r3.cell (p := ⟨v1.heap.size, 0, none⟩) (World.block_lt_of_cell? _ _ OC) (by simp)]; exact OC⟩; have d3 : w3.cell? ⟨g, o, none⟩ = some (.int .i64 (x : Int)) := (by rw [HR.out.2.2.1.cell (p := ⟨g, o, none⟩) hgl]; exact d0); have g3l : g < w3.heap.size := Nat.lt_of_lt_of_le hgl HR.out.2.2.1.size; clear r1 r2 r3)
                      | (refine step_append_rw rfl (.tmp 110) (.tmp 114) 25 25 rfl 3 (.int .i64 0) 8 Try.underlying25 info3 rfl g3 _ c3 (Ls.map iv) rfl (by simp) (HR.out.1.chg ((Chg.refl [] _).alloc _) (by simp)) _ rfl 1 [iv x] (Src.ofSlice _ Try.underlying25 ⟨_, 0, none⟩ 1 1 [iv x] rfl (one_cell _ _ _) (one_iv x)) (by omega) (by omega) ?_; intro g4 c4 w4 r1 r2 r3; rw [map_snoc] at r1; have HQ : Hid (Rw w4 g4 c4 ((Ls ++ [x]).map iv) 3 ∧ v1.heap.size ≤ g4 ∧ Below v1.heap.size v1 w4) := Lib.hid ⟨r1, (by have h1 := HR.out.2.1; have h2 := (HR.out.2.2.alloc HR.out.2.2.size (Obj.cells #[Value.int .i64 (x : Int)] 3)).size; rcases r2 with h | h <;> first | omega | (simp at h h2; omega) | (simp at h; omega)), r3.onto (HR.out.2.2.alloc HR.out.2.2.size (Obj.cells #[Value.int .i64 (x : Int)] 3)) (HR.out.2.2.alloc HR.out.2.2.size (Obj.cells #[Value.int .i64 (x : Int)] 3)).size (by have := HR.out.2.1; simp; omega)⟩; clear r1 r2 r3)
                      | (refine step_append_rw rfl (.tmp 110) (.tmp 114) 25 25 rfl 3 (.int .i64 0) 8 Try.underlying25 info3 rfl g3 _ c3 (Ls.map iv) rfl (by simp) HR.out.1 _ rfl 1 [iv x] (Src.ofSlice _ Try.underlying25 ⟨(v1.heap.size + 1), 0, none⟩ 1 1 [iv x] rfl (fun j u hj => by cases j with | zero => (simp at hj; subst hj; first | exact HR.out.2.2.2) | succ j => simp at hj) (one_iv x)) (by omega) (by omega) ?_; intro g4 c4 w4 r1 r2 r3; rw [map_snoc] at r1; have HQ : Hid (Rw w4 g4 c4 ((Ls ++ [x]).map iv) 3 ∧ v1.heap.size ≤ g4 ∧ Below v1.heap.size v1 w4) := Lib.hid ⟨r1, (by have h1 := HR.out.2.1; have h2 := HR.out.2.2.1.size; rcases r2 with h | h <;> first | omega | (simp at h h2; omega) | (simp at h; omega)), r3.onto HR.out.2.2.1 HR.out.2.2.1.size (by have := HR.out.2.1; simp; omega)⟩; clear r1 r2 r3)
                      | (refine step_append_rw rfl (.tmp 110) (.tmp 114) 25 25 rfl 3 (.int .i64 0) 8 Try.underlying25 info3 rfl g3 _ c3 (Ls.map iv) rfl (by simp) HR.out.1 _ rfl 1 [iv x] (Src.ofSlice _ Try.underlying25 ⟨v1.heap.size, 0, none⟩ 1 1 [iv x] rfl (fun j u hj => by cases j with | zero => (simp at hj; subst hj; first | exact HR.out.2.2.2) | succ j => simp at hj) (one_iv x)) (by omega) (by omega) ?_; intro g4 c4 w4 r1 r2 r3; rw [map_snoc] at r1; have HQ : Hid (Rw w4 g4 c4 ((Ls ++ [x]).map iv) 3 ∧ v1.heap.size ≤ g4 ∧ Below v1.heap.size v1 w4) := Lib.hid ⟨r1, (by have h1 := HR.out.2.1; have h2 := HR.out.2.2.1.size; rcases r2 with h | h <;> first | omega | (simp at h h2; omega) | (simp at h; omega)), r3.onto HR.out.2.2.1 HR.out.2.2.1.size (by have := HR.out.2.1; simp; omega)⟩; clear r1 r2 r3))
                    all_goals
                      go_wp2
                      go_meet
                      exact ⟨g4, 0, c4, Ls ++ [x], by simp, by have := HQ.out.1.len; simpa using this, by obtain ⟨_, _, q, _⟩ := HQ.out.1; exact q, Lib.hid (H1.out.list HQ.out.1 HQ.out.2.1 HQ.out.2.2)⟩
                  · have hc2 : 1 < c := by omega
                    have LA0 : LAt v1 g (o + 1) Ls := LAt.rest H1.out.2.1 HL.out
                    have BA : Below v1.heap.size v1 (v1.alloc (Obj.cells #[] 3)).drew := ((Below.refl _ _).alloc (Nat.le_refl _) _).drew
                    have BB : Below v1.heap.size v1 ((v1.alloc (Obj.cells #[] 3)).alloc (Obj.cells #[Value.int .i64 (x : Int)] 3)).drew := (((Below.refl _ _).alloc (Nat.le_refl _) _).alloc (by simp) _).drew
                    have BC : Below v1.heap.size v1 ((v1.alloc (Obj.cells #[Value.int .i64 (x : Int)] 3)).alloc (Obj.cells #[] 3)).drew := (((Below.refl _ _).alloc (Nat.le_refl _) _).alloc (by simp) _).drew
                    have LA := LA0.below BA LA0.1
                    have LB := LA0.below BB LA0.1
                    have LC := LA0.below BC LA0.1
                    have RA : Rw (v1.alloc (Obj.cells #[] 3)).drew v1.heap.size 0 [] 3 := Rw.empty v1 3
                    have RB : Rw ((v1.alloc (Obj.cells #[] 3)).alloc (Obj.cells #[Value.int .i64 (x : Int)] 3)).drew v1.heap.size 0 [] 3 := by
                      have h0 : Rw (v1.alloc (Obj.cells #[] 3)) v1.heap.size 0 [] 3 := Rw.empty v1 3
                      have h : Rw ((v1.alloc (Obj.cells #[] 3)).alloc (Obj.cells #[Value.int .i64 (x : Int)] 3)) v1.heap.size 0 [] 3 := h0.chg ((Chg.refl [] (v1.alloc (Obj.cells #[] 3))).alloc (Obj.cells #[Value.int .i64 (x : Int)] 3)) (by simp)
                      exact h
                    have RC : Rw ((v1.alloc (Obj.cells #[Value.int .i64 (x : Int)] 3)).alloc (Obj.cells #[] 3)).drew (v1.heap.size + 1) 0 [] 3 := by
                      have h := Rw.empty (v1.alloc (Obj.cells #[Value.int .i64 (x : Int)] 3)) 3
                      rw [World.size_alloc] at h
                      exact h
                    have OB : (((v1.alloc (Obj.cells #[] 3)).alloc (Obj.cells #[Value.int .i64 (x : Int)] 3)).drew).cell? ⟨v1.heap.size + 1, 0, none⟩ = some (.int .i64 (x : Int)) := by
                      have h := (Blk.newA (v1.alloc (Obj.cells #[] 3)) #[Value.int .i64 (x : Int)] 3).cell (i := 0) rfl
                      rw [World.size_alloc] at h
                      exact h
                    have OC : (((v1.alloc (Obj.cells #[Value.int .i64 (x : Int)] 3)).alloc (Obj.cells #[] 3)).drew).cell? ⟨v1.heap.size, 0, none⟩ = some (.int .i64 (x : Int)) := ((Blk.newA v1 #[Value.int .i64 (x : Int)] 3).alloc _).cell (i := 0) rfl
                    have HG := Lib.hid (And.intro LA (And.intro LB (And.intro LC (And.intro RA (And.intro RB (And.intro RC (And.intro OB OC)))))))
                    go_region_law (first
                      | (refine step_append_rw rfl (.tmp 107) (.tmp 109) 25 25 rfl 3 (.int .i64 0) 8 Try.underlying25 info3 rfl v1.heap.size _ 0 [] rfl rfl RA _ rfl Ls.length _ (Src.ofSlice _ Try.underlying25 ⟨g, (o + 1), none⟩ Ls.length (c - 1) (Ls.map iv) (by simp) (LAt.src LA) (all_iv Ls)) (by omega) (by omega) ?_; intro g3 c3 w3 r1 r2 r3; rw [List.nil_append] at r1; have HR : Hid (Rw w3 g3 c3 (Ls.map iv) 3 ∧ v1.heap.size ≤ g3 ∧ Below v1.heap.size v1 w3) := Lib.hid ⟨r1, (by rcases r2 with h | h <;> first | omega | (simp at h; omega)), r3.onto BA BA.size (by simp)⟩; have d3 : w3.cell? ⟨g, o, none⟩ = some (.int .i64 (x : Int)) := (by rw [HR.out.2.2.cell (p := ⟨g, o, none⟩) hgl]; exact d0); have g3l : g < w3.heap.size := Nat.lt_of_lt_of_le hgl HR.out.2.2.size; clear r1 r2 r3)
                      | (refine step_append_rw rfl (.tmp 107) (.tmp 109) 25 25 rfl 3 (.int .i64 0) 8 Try.underlying25 info3 rfl v1.heap.size _ 0 [] rfl rfl RB _ rfl Ls.length _ (Src.ofSlice _ Try.underlying25 ⟨g, (o + 1), none⟩ Ls.length (c - 1) (Ls.map iv) (by simp) (LAt.src LB) (all_iv Ls)) (by omega) (by omega) ?_; intro g3 c3 w3 r1 r2 r3; rw [List.nil_append] at r1; have HR : Hid (Rw w3 g3 c3 (Ls.map iv) 3 ∧ v1.heap.size ≤ g3 ∧ Below v1.heap.size v1 w3 ∧ w3.cell? ⟨(v1.heap.size + 1), 0, none⟩ = some (.int .i64 (x : Int))) := Lib.hid ⟨r1, (by rcases r2 with h | h <;> first | omega | (simp at h; omega)), r3.onto BB BB.size (by simp), by rw [r3.cell (p := ⟨(v1.heap.size + 1), 0, none⟩) (World.block_lt_of_cell? _ _ OB) (by simp)]; exact OB⟩; have d3 : w3.cell? ⟨g, o, none⟩ = some (.int .i64 (x : Int)) := (by rw [HR.out.2.2.1.cell (p := ⟨g, o, none⟩) hgl]; exact d0); have g3l : g < w3.heap.size := Nat.lt_of_lt_of_le hgl HR.out.2.2.1.size; clear r1 r2 r3)
                      | (refine step_append_rw rfl (.tmp 107) (.tmp 109) 25 25 rfl 3 (.int .i64 0) 8 Try.underlying25 info3 rfl (v1.heap.size + 1) _ 0 [] rfl rfl RC _ rfl Ls.length _ (Src.ofSlice _ Try.underlying25 ⟨g, (o + 1), none⟩ Ls.length (c - 1) (Ls.map iv) (by simp) (LAt.src LC) (all_iv Ls)) (by omega) (by omega) ?_; intro g3 c3 w3 r1 r2 r3; rw [List.nil_append] at r1; have HR : Hid (Rw w3 g3 c3 (Ls.map iv) 3 ∧ v1.heap.size ≤ g3 ∧ Below v1.heap.size v1 w3 ∧ w3.cell? ⟨v1.heap.size, 0, none⟩ = some (.int .i64 (x : Int))) := Lib.hid ⟨r1, (by rcases r2 with h | h <;> first | omega | (simp at h; omega)), r3.onto BC BC.size (by simp), by rw [r3.cell (p := ⟨v1.heap.size, 0, none⟩) (World.block_lt_of_cell? _ _ OC) (by simp)]; exact OC⟩; have d3 : w3.cell? ⟨g, o, none⟩ = some (.int .i64 (x : Int)) := (by rw [HR.out.2.2.1.cell (p := ⟨g, o, none⟩) hgl]; exact d0); have g3l : g < w3.heap.size := Nat.lt_of_lt_of_le hgl HR.out.2.2.1.size; clear r1 r2 r3)
                      | (refine step_append_rw rfl (.tmp 110) (.tmp 114) 25 25 rfl 3 (.int .i64 0) 8 Try.underlying25 info3 rfl g3 _ c3 (Ls.map iv) rfl (by simp) (HR.out.1.chg ((Chg.refl [] _).alloc _) (by simp)) _ rfl 1 [iv x] (Src.ofSlice _ Try.underlying25 ⟨_, 0, none⟩ 1 1 [iv x] rfl (one_cell _ _ _) (one_iv x)) (by omega) (by omega) ?_; intro g4 c4 w4 r1 r2 r3; rw [map_snoc] at r1; have HQ : Hid (Rw w4 g4 c4 ((Ls ++ [x]).map iv) 3 ∧ v1.heap.size ≤ g4 ∧ Below v1.heap.size v1 w4) := Lib.hid ⟨r1, (by have h1 := HR.out.2.1; have h2 := (HR.out.2.2.alloc HR.out.2.2.size (Obj.cells #[Value.int .i64 (x : Int)] 3)).size; rcases r2 with h | h <;> first | omega | (simp at h h2; omega) | (simp at h; omega)), r3.onto (HR.out.2.2.alloc HR.out.2.2.size (Obj.cells #[Value.int .i64 (x : Int)] 3)) (HR.out.2.2.alloc HR.out.2.2.size (Obj.cells #[Value.int .i64 (x : Int)] 3)).size (by have := HR.out.2.1; simp; omega)⟩; clear r1 r2 r3)
                      | (refine step_append_rw rfl (.tmp 110) (.tmp 114) 25 25 rfl 3 (.int .i64 0) 8 Try.underlying25 info3 rfl g3 _ c3 (Ls.map iv) rfl (by simp) HR.out.1 _ rfl 1 [iv x] (Src.ofSlice _ Try.underlying25 ⟨(v1.heap.size + 1), 0, none⟩ 1 1 [iv x] rfl (fun j u hj => by cases j with | zero => (simp at hj; subst hj; first | exact HR.out.2.2.2) | succ j => simp at hj) (one_iv x)) (by omega) (by omega) ?_; intro g4 c4 w4 r1 r2 r3; rw [map_snoc] at r1; have HQ : Hid (Rw w4 g4 c4 ((Ls ++ [x]).map iv) 3 ∧ v1.heap.size ≤ g4 ∧ Below v1.heap.size v1 w4) := Lib.hid ⟨r1, (by have h1 := HR.out.2.1; have h2 := HR.out.2.2.1.size; rcases r2 with h | h <;> first | omega | (simp at h h2; omega) | (simp at h; omega)), r3.onto HR.out.2.2.1 HR.out.2.2.1.size (by have := HR.out.2.1; simp; omega)⟩; clear r1 r2 r3)
                      | (refine step_append_rw rfl (.tmp 110) (.tmp 114) 25 25 rfl 3 (.int .i64 0) 8 Try.underlying25 info3 rfl g3 _ c3 (Ls.map iv) rfl (by simp) HR.out.1 _ rfl 1 [iv x] (Src.ofSlice _ Try.underlying25 ⟨v1.heap.size, 0, none⟩ 1 1 [iv x] rfl (fun j u hj => by cases j with | zero => (simp at hj; subst hj; first | exact HR.out.2.2.2) | succ j => simp at hj) (one_iv x)) (by omega) (by omega) ?_; intro g4 c4 w4 r1 r2 r3; rw [map_snoc] at r1; have HQ : Hid (Rw w4 g4 c4 ((Ls ++ [x]).map iv) 3 ∧ v1.heap.size ≤ g4 ∧ Below v1.heap.size v1 w4) := Lib.hid ⟨r1, (by have h1 := HR.out.2.1; have h2 := HR.out.2.2.1.size; rcases r2 with h | h <;> first | omega | (simp at h h2; omega) | (simp at h; omega)), r3.onto HR.out.2.2.1 HR.out.2.2.1.size (by have := HR.out.2.1; simp; omega)⟩; clear r1 r2 r3))
                    all_goals
                      go_wp2
                      go_meet
                      exact ⟨g4, 0, c4, Ls ++ [x], by simp, by have := HQ.out.1.len; simpa using this, by obtain ⟨_, _, q, _⟩ := HQ.out.1; exact q, Lib.hid (H1.out.list HQ.out.1 HQ.out.2.1 HQ.out.2.2)⟩
              · by_cases k3 : kd = 3
                · subst k3
                  have y1 := H0.out.2.cell (i := 1) rfl
                  have d1 : u0.drew.cell? ⟨X, 1, none⟩ = some (.int .i64 id) := y1
                  by_cases hin : isIn L id = true
                  · have hp0 := plc_in hin
                    obtain ⟨p, hp⟩ : ∃ p, plc L id = p := ⟨_, rfl⟩
                    rw [hp] at hp0
                    have HP := Lib.hid hp
                    obtain ⟨x, rfl⟩ : ∃ x : Nat, id = (x : Int) := ⟨id.toNat, by unfold isIn at hin; rw [decide_eq_true_eq] at hin; omega⟩
                    have hxL : x ∈ L := by rw [isIn_nat] at hin; simpa using hin
                    have hse : sans L (x : Int) = L.erase x := sans_nat L x H0.out.1.1.2.1
                    have HSE := Lib.hid hse
                    clear hin hp hse
                    go_wp2_with fail
                    go_region_held3 (fun w' => w'.cell? ⟨X, 1, none⟩ = some (.int .i64 (x : Int))) (first | assumption | go_keep) (first
                      | (go_at_call 14; refine (cut_yes b R I n x L _ hxL (H0.out.1.fresh (Below.refl _ _).drew).1).mono ?_; rintro e v1 ⟨rfl, c1, c2⟩; have H1 : Hid (SP w v1 b R I n (L.erase x) g o L ∧ Blk v1 X [.int .i64 3, .int .i64 (x : Int)] 30) := Lib.hid ⟨(H0.out.1.fresh (Below.refl _ _).drew).q c1 c2, H0.out.2.drew.chg c2 (by simp; omega)⟩; have k1 : v1.cell? ⟨X, 1, none⟩ = some (.int .i64 (x : Int)) := H1.out.2.cell (i := 1) rfl; clear c1 c2)
                      | (go_at_call 15; refine (find_any g o c L x _ (by omega) H1.out.1.2.1).mono ?_; rintro e v2 ⟨rfl, rfl⟩; rw [HP.out]))
                    go_wp2_with (go_at_call 16; refine (cutl_any g o c L x _ (by omega) H1.out.1.2.1).mono ?_; rintro e v2 ⟨g2, c2, rfl, r1, r2, r3⟩; rw [HSE.out] at r1; rw [HSE.out]; have H2 : Hid (SP w v2 b R I n (L.erase x) g2 0 (L.erase x) ∧ (L.erase x).length ≤ c2 ∧ c2 ≤ 9223372036854775807) := Lib.hid ⟨H1.out.1.list r1 r2 r3, by have := r1.len; simpa using this, by obtain ⟨_, _, q, _⟩ := r1; exact q⟩; clear r1 r2 r3)
                    go_meet
                    exact ⟨g2, 0, c2, L.erase x, by rw [List.length_erase_of_mem hxL], H2.out.2.1, H2.out.2.2, Lib.hid H2.out.1⟩
  
                  · have h2 : isIn L id = false := by simpa using hin
                    have HI := Lib.hid h2
                    have HP := Lib.hid (plc_out h2)
                    have HSE := Lib.hid (sans_no L id h2)
                    clear hin h2
                    go_wp2_with fail
                    go_region_held3 (fun w' => w'.cell? ⟨X, 1, none⟩ = some (.int .i64 id)) (first | assumption | go_keep) (first
                      | (go_at_call 14; refine (cut_no b R I n L id _ HI.out (H0.out.1.fresh (Below.refl _ _).drew).1).mono ?_; rintro e v0 ⟨rfl, q, rfl⟩; have H1 : Hid (SP w (u0.drew.drewN q) b R I n L g o L ∧ Blk (u0.drew.drewN q) X [.int .i64 3, .int .i64 id] 30) := Lib.hid ⟨(H0.out.1.fresh (Below.refl _ _).drew).drewN q, H0.out.2.drew.drewN q⟩; clear y1 d1 H0; revert H1; generalize u0.drew.drewN q = v1; intro H1; have k1 : v1.cell? ⟨X, 1, none⟩ = some (.int .i64 id) := H1.out.2.cell (i := 1) rfl)
                      | (go_at_call 15; refine (find_any g o c L id _ (by omega) H1.out.1.2.1).mono ?_; rintro e v2 ⟨rfl, rfl⟩; rw [HP.out]))
                    go_wp2_with (go_at_call 16; refine (cutl_any g o c L id _ (by omega) H1.out.1.2.1).mono ?_; rintro e v2 ⟨g2, c2, rfl, r1, r2, r3⟩; rw [HSE.out] at r1; rw [HSE.out]; have H2 : Hid (SP w v2 b R I n L g2 0 L ∧ L.length ≤ c2 ∧ c2 ≤ 9223372036854775807) := Lib.hid ⟨H1.out.1.list r1 r2 r3, by have := r1.len; simpa using this, by obtain ⟨_, _, q, _⟩ := r1; exact q⟩; clear r1 r2 r3)
                    go_meet
                    exact ⟨g2, 0, c2, L, rfl, H2.out.2.1, H2.out.2.2, Lib.hid H2.out.1⟩
  
                · go_wp2
                  go_meet
                  exact ⟨g, o, c, L, rfl, hLc, hcc, Lib.hid H0.out.1⟩
        case rest =>
          clear H0 hLc hcc hLn
          obtain ⟨g, o, c, L, rfl, hLc, hcc, HQ⟩ := hcut
          go_wp2_with (go_at_call 9; refine (told_any b R I n g o c L a2 _ HQ.out.1 HQ.out.2.1).mono ?_; rintro e v9 ⟨rfl, b9⟩; have HQ1 := Lib.hid (HQ.out.fresh b9); clear b9 HQ)
          refine ⟨?_, ?measure⟩
          case measure => simp [intOf]; omega
          first
            | exact ⟨k + 1, g, o, c, L, rfl, by go_num, by omega, by omega, hLc, hcc, HQ1⟩
            | ((repeat apply Exists.intro); exact ⟨⟨k + 1, g, o, c, L, rfl, by go_num, by omega, by omega, hLc, hcc, HQ1⟩, rfl⟩)
      · go_wp2_with (go_at_call 17; refine (lives_any _).mono ?_; rintro e w9 ⟨rfl, hb⟩)
        go_ret
        exact ⟨rfl, HS.out.2.2.1.trans (Below.mono (by assumption) HS.out.2.2.1.size)⟩
    · go_wp2_with (go_at_call 17; refine (lives_any _).mono ?_; rintro e w9 ⟨rfl, hb⟩)
      go_ret
      exact ⟨rfl, HS.out.2.2.1.trans (Below.mono (by assumption) HS.out.2.2.1.size)⟩

set_option maxRecDepth 100000 in
theorem lifted (os : Os) (started : os.Started) (H : Type) (enc : TypeId × Value → H) :
    ReturnsInHanded {} Try.checked os 3 .any (Rows.fifoPlaysSpec.pre6 enc Try.prog Try.f3 Rows.fifoPlaysRow.domain false) (Rows.fifoPlaysSpec.post enc Try.prog Try.f3 false true false false) := by
  refine returnsInHanded_of_change (C := Try.checked) ownKn started (by kernel_rfl) Try.func3
    (ChangeSpec.witness6 (enc := enc) (C := Try.checked) false ⟨#[], #[.int .i64 0, .slice none 0 0, .int .i64 0], []⟩ 8 (by kernel_rfl) (by kernel_rfl) (by kernel_rfl) (by kernel_rfl)) ?_
  intro W base args ds gs before hval0 hW hcnd _
  have hval : ∀ (j : Nat) t v, Try.f3.params[j]? = some t → args[j]? = some v → Value.okWide Try.prog W .any base t v := hval0
  have hW' := hW
  obtain ⟨p, q, hA0, hV, rfl, hfz, hnd⟩ := hW
  have hA : DataW.TrodAll enc Try.prog W 0 (fun _ => true) true Try.f3.params.toList args.toList ds p := hA0
  rw [Try.params3] at hA hval
  obtain ⟨v0, vs0, d0, ds0, p0, q0, hargs, rfl, rfl, h0, r0⟩ := trodAll_cons hA
  obtain ⟨v1, vs1, d1, ds1, p1, q1, rfl, rfl, rfl, h1, r1⟩ := trodAll_cons r0
  obtain ⟨v2, vs2, d2, ds2, p2, q2, rfl, rfl, rfl, h2, r2⟩ := trodAll_cons r1
  obtain ⟨rfl, rfl, rfl⟩ := trodAll_nil r2
  obtain rfl : args = #[v0, v1, v2] := by cases args; simp_all
  obtain ⟨rfl, rfl⟩ := trodVars_none hV
  have k0 := h0
  have lt0 : ∀ x ∈ p0, x.block < W.heap.size := by obtain ⟨m, hm⟩ := k0; exact DataW.trod_lt m _ _ _ hm
  obtain ⟨a0, rfl, rfl, rfl, w0⟩ := open_int Try.underlying3 (hval 0 3 v0 rfl rfl) h0
  have k1 := h1
  have lt1 : ∀ x ∈ p1, x.block < W.heap.size := by obtain ⟨m, hm⟩ := k1; exact DataW.trod_lt m _ _ _ hm
  obtain ⟨b1, lb1, cb1, rfl⟩ := okWide_slice Try.underlying22 (hval 1 22 v1 rfl rfl)
  obtain ⟨fu1, hf1⟩ := h1
  simp only [Value.cells] at hf1
  obtain ⟨a1, len1, cap1, e1, w1⟩ := fld_recs (k := .i64) Try.underlying22 Try.underlying30 (by kernel_rfl) (by kernel_rfl) (by intro j f h; obtain rfl | rfl | hj : j = 0 ∨ j = 1 ∨ 2 ≤ j := (by omega); all_goals (first | (simp at h; subst h; exact Try.underlying3) | (rw [Array.getElem?_eq_none (by simpa using hj)] at h; cases h))) (by decide) hf1
  obtain ⟨rfl, rfl, rfl⟩ : b1 = a1 ∧ lb1 = len1 ∧ cb1 = cap1 := by simpa using e1
  have k2 := h2
  have lt2 : ∀ x ∈ p2, x.block < W.heap.size := by obtain ⟨m, hm⟩ := k2; exact DataW.trod_lt m _ _ _ hm
  obtain ⟨a2, rfl, rfl, rfl, w2⟩ := open_int Try.underlying3 (hval 2 3 v2 rfl rfl) h2
  clear hA0 hval0
  refine (walk a0 b1 lb1 cb1 a2 W w0 w1 w2).mono fun e W' ⟨he, bel⟩ => ?_
  subst he
  exact ⟨_, rfl, _, _, _, [], _, [], hW', trodAll_mk1 (shut_bool Try.underlying4 _), (trodAll_cons_mk (Below.trod laidOut (by kernel_rfl) (of_decide_eq_true (by kernel_rfl)) k0 bel lt0) (trodAll_cons_mk (Below.trod laidOut (by kernel_rfl) (of_decide_eq_true (by kernel_rfl)) k1 bel lt1) (trodAll_cons_mk (Below.trod laidOut (by kernel_rfl) (of_decide_eq_true (by kernel_rfl)) k2 bel lt2) trodAll_mk0))), rfl, bel.frame _, fun h => by cases h⟩

theorem over : Rows.fifoPlaysRow.holds Try.pinned (OpenSpec.ofChange Rows.fifoPlaysSpec) :=
  OpenClaim.holds_of_wide 3 Try.f3 rfl rfl rfl rfl rfl rfl rfl ⟨rfl, rfl, rfl, rfl, rfl⟩ rfl rfl rfl rfl rfl (by kernel_rfl) Try.func3 (by kernel_rfl)
    (of_decide_eq_true (by kernel_rfl)) (by unfold Func.isWrapper; first | (rw [if_pos (by decide +kernel)]; kernel_rfl) | (rw [if_neg (by decide +kernel)]; exact ⟨rfl, rfl⟩))
    (fun os started H enc _ => lifted os started H enc)

/-- The statement. -/
theorem proved : Rows.FifoPlaysSaid := over
#print axioms proved
end Go.Proofs.Ytnimbfllefbjgaa.fifoPlays
