/- Contracts of a row of numbers (package fifo), third part: Pop, Turn, List, New, and those of no row; and what its layer's literal comes to. -/
import Derived.Test.YticdpcbmnahenaaFifo2
namespace Go.Proofs.Yticdpcbmnahenaa
open Go.ChangeShapes Go.WideShapes Go.ChangeAt Go.RowKit
set_option linter.unusedSimpArgs false
set_option linter.unusedVariables false

theorem len_nil (w : World) :
    Calls Try.prog 55 #[.pointer none] w fun e w' => e = .returned (.int .i64 0) ∧ w = w' := by
  go_enter Try.func55, Try.ntmps55
  go_wp2
  all_goals
    first | go_ret2 | go_ret
    exact ⟨rfl, rfl⟩

theorem most_nil (w : World) :
    Calls Try.prog 48 #[.pointer none] w fun e w' => e = .returned (.int .i64 0) ∧ w = w' := by
  go_enter Try.func48, Try.ntmps48
  go_wp2
  all_goals
    first | go_ret2 | go_ret
    exact ⟨rfl, rfl⟩

theorem front_nil (w : World) :
    Calls Try.prog 50 #[.pointer none] w fun e w' => e = .returned (.tuple #[.int .i64 0, .bool false]) ∧ w = w' := by
  go_enter Try.func50, Try.ntmps50
  go_wp2_with ((go_at_call 55; with_reducible refine (len_nil _).mono ?_; rintro e w' ⟨rfl, rfl⟩))
  all_goals
    first | go_ret2 | go_ret
    exact ⟨rfl, rfl⟩

theorem pop_nil (w : World) :
    Calls Try.prog 33 #[.pointer none] w fun e w' => e = .returned (.tuple #[.int .i64 0, .bool false]) ∧ w = w' := by
  go_enter Try.func33, Try.ntmps33
  go_wp2_with ((go_at_call 50; with_reducible refine (front_nil _).mono ?_; rintro e w' ⟨rfl, rfl⟩))
  all_goals
    first | go_ret2 | go_ret
    exact ⟨rfl, rfl⟩

theorem list_nil (w : World) :
    Calls Try.prog 46 #[.pointer none] w fun e w' => e = .returned (.slice none 0 0) ∧ w = w' := by
  go_enter Try.func46, Try.ntmps46
  go_wp2
  all_goals
    first | go_ret2 | go_ret
    exact ⟨rfl, rfl⟩

theorem push_nil (id : Int) (w : World) :
    Calls Try.prog 31 #[.pointer none, .int .i64 id] w fun e w' => e = .returned (.bool false) ∧ w = w' := by
  by_cases a1 : id < 0
  · have a2 : ¬ 0 ≤ id := by omega
    go_enter Try.func31, Try.ntmps31
    go_wp2_with (go_at_call 48; refine (most_nil _).mono ?_; rintro e w' ⟨rfl, rfl⟩)
    go_ret
    exact ⟨rfl, rfl⟩
  · have a2 : 0 ≤ id := by omega
    have a3 : ¬ id < 0 := by omega
    go_enter Try.func31, Try.ntmps31
    go_wp2_with (go_at_call 48; refine (most_nil _).mono ?_; rintro e w' ⟨rfl, rfl⟩)
    go_ret
    exact ⟨rfl, rfl⟩

theorem has_nil (id : Int) (w : World) :
    Calls Try.prog 45 #[.pointer none, .int .i64 id] w fun e w' => e = .returned (.bool false) ∧ w = w' := by
  by_cases a1 : id < 0
  · have a2 : ¬ 0 ≤ id := by omega
    go_enter Try.func45, Try.ntmps45
    go_wp2_with (go_at_call 48; refine (most_nil _).mono ?_; rintro e w' ⟨rfl, rfl⟩)
    go_ret
    exact ⟨rfl, rfl⟩
  · have a2 : 0 ≤ id := by omega
    have a3 : ¬ id < 0 := by omega
    go_enter Try.func45, Try.ntmps45
    go_wp2_with (go_at_call 48; refine (most_nil _).mono ?_; rintro e w' ⟨rfl, rfl⟩)
    go_ret
    exact ⟨rfl, rfl⟩

theorem place_nil (id : Int) (w : World) :
    Calls Try.prog 52 #[.pointer none, .int .i64 id] w fun e w' => e = .returned (.int .i64 (-1)) ∧ w = w' := by
  go_enter Try.func52, Try.ntmps52
  go_wp2_with ((go_at_call 45; with_reducible refine (has_nil id _).mono ?_; rintro e w' ⟨rfl, rfl⟩))
  all_goals
    first | go_ret2 | go_ret
    exact ⟨rfl, rfl⟩

theorem cut_nil (id : Int) (w : World) :
    Calls Try.prog 41 #[.pointer none, .int .i64 id] w fun e w' => e = .returned (.bool false) ∧ w = w' := by
  go_enter Try.func41, Try.ntmps41
  go_wp2_with ((go_at_call 52; with_reducible refine (place_nil id _).mono ?_; rintro e w' ⟨rfl, rfl⟩))
  all_goals
    first | go_ret2 | go_ret
    exact ⟨rfl, rfl⟩

theorem pop_none (b R I n : Nat) (w : World) (h : FAt w b R I n []) :
    Calls Try.prog 33 #[.pointer (some ⟨b, 0, none⟩)] w fun e w' => e = .returned (.tuple #[.int .i64 0, .bool false]) ∧ w = w' := by
  have HF := Lib.hid h
  clear h
  go_enter Try.func33, Try.ntmps33
  go_wp2_with (go_at_call 50; refine (front_none _ _ _ _ _ HF.out).mono ?_; rintro e w' ⟨rfl, rfl⟩)
  go_ret2
  exact ⟨rfl, rfl⟩

theorem pop_some (b R I n x : Nat) (L : List Nat) (w : World) (h : FAt w b R I n (x :: L)) :
    Calls Try.prog 33 #[.pointer (some ⟨b, 0, none⟩)] w fun e w' => e = .returned (.tuple #[.int .i64 x, .bool true]) ∧ FAt w' b R I n L ∧ Chg [b, R, I] w w' := by
  have HF := Lib.hid h
  have hx : x ∈ x :: L := by simp
  clear h
  go_enter Try.func33, Try.ntmps33
  go_wp2_with (first | (go_at_call 50; with_reducible refine (front_some _ _ _ _ _ _ _ HF.out).mono ?_; rintro e w' ⟨rfl, q, rfl⟩; have HG := Lib.hid (HF.out.drewN q)) | (go_at_call 41; with_reducible refine (cut_yes b R I n x (x :: L) _ hx HG.out).mono ?_; rintro e w2 ⟨rfl, k1, k2⟩; rw [List.erase_cons_head] at k1; have HK := Lib.hid (And.intro k1 k2); clear k1 k2))
  go_ret2
  exact ⟨rfl, HK.out.1, ((Chg.refl _ _).drewN q).trans HK.out.2 (fun _ h => Or.inl h)⟩

theorem fl_nil (n : Nat) : fl [] n = List.replicate n (.bool false) := by
  unfold fl
  rw [List.eq_replicate_iff]
  simp
theorem new_end (n R I : Nat) (o1 o2 : Obj) (w : World) (n1 : 1 ≤ n ∧ n ≤ 1024) (hRI : R ≠ I) (lR : R < w.heap.size + 2) (lI : I < w.heap.size + 2)
    (hR : Blk ((w.alloc o1).alloc o2) R (List.replicate n (.int .i64 0)) 3) (hI : Blk ((w.alloc o1).alloc o2) I (List.replicate n (.bool false)) 4) :
    FAt ((((w.alloc o1).alloc o2).alloc (.cells #[.slice (some ⟨R, 0, none⟩) 0 n, .slice (some ⟨I, 0, none⟩) n n] 72)).drew) (w.heap.size + 1 + 1) R I n [] ∧ Below w.heap.size w ((((w.alloc o1).alloc o2).alloc (.cells #[.slice (some ⟨R, 0, none⟩) 0 n, .slice (some ⟨I, 0, none⟩) n n] 72)).drew) := by
  refine ⟨⟨⟨n1.1, n1.2, by omega, by omega, hRI⟩, List.nodup_nil, by simp, ?_, ⟨List.replicate n (.int .i64 0), by simp, ?_⟩, ?_⟩, ((((Below.refl _ _).alloc (Nat.le_refl _) _).alloc (by simp) _).alloc (by simp; omega) _).drew⟩
  · have := Blk.newA ((w.alloc o1).alloc o2) #[.slice (some ⟨R, 0, none⟩) 0 n, .slice (some ⟨I, 0, none⟩) n n] 72
    have e : ((w.alloc o1).alloc o2).heap.size = w.heap.size + 1 + 1 := by simp
    rw [e] at this
    exact this
  · exact hR.alloc _
  · rw [fl_nil]; exact hI.alloc _
theorem rep_int (n : Nat) (w : World) : Blk (w.alloc (.cells (Array.replicate n (.int .i64 0)) 3)) w.heap.size (List.replicate n (.int .i64 0)) 3 := by
  have := Blk.newA w (Array.replicate n (.int .i64 0)) 3
  rw [Array.toList_replicate] at this
  exact this
theorem rep_bool (n : Nat) (w : World) : Blk (w.alloc (.cells (Array.replicate n (.bool false)) 4)) w.heap.size (List.replicate n (.bool false)) 4 := by
  have := Blk.newA w (Array.replicate n (.bool false)) 4
  rw [Array.toList_replicate] at this
  exact this
theorem new_any (n : Nat) (x : Int) (w : World) (hn : min (max x 1) 1024 = (n : Int)) :
    Calls Try.prog 27 #[.int .i64 x] w fun e w' => ∃ b R I, e = .returned (.pointer (some ⟨b, 0, none⟩)) ∧ FAt w' b R I n [] ∧ Below w.heap.size w w' ∧ w.heap.size ≤ b ∧ w.heap.size ≤ R ∧ w.heap.size ≤ I := by
  have n1 : 1 ≤ n ∧ n ≤ 1024 := by omega
  have hm1 : ∀ W, (Instr.makeSlice 27 (.int .i64 0) (.int .i64 n)).run Try.prog W = .ok (.slice (some ⟨W.heap.size, 0, none⟩) 0 n) (W.alloc (.cells (List.replicate n (.int .i64 0)).toArray 3)) := fun W =>
    run_make_blk W _ _ _ Try.underlying27 8 info3 rfl 0 n (by omega) (by omega) (by omega)
  have hm2 : ∀ W, (Instr.makeSlice 70 (.int .i64 n) (.int .i64 n)).run Try.prog W = .ok (.slice (some ⟨W.heap.size, 0, none⟩) n n) (W.alloc (.cells (List.replicate n (.bool false)).toArray 4)) := fun W =>
    run_make_blk W _ _ _ Try.underlying70 1 info4 rfl n n (Nat.le_refl _) (by omega) (by omega)
  go_enter Try.func27, Try.ntmps27
  go_wp2
  go_region
  · go_wp2
    go_ret
    obtain ⟨k1, k2⟩ := new_end n w.heap.size (w.heap.size + 1) (.cells (Array.replicate n (.int .i64 0)) 3) (.cells (Array.replicate n (.bool false)) 4) w n1 (by omega) (by omega) (by omega) ((rep_int n w).alloc _) (by simpa using rep_bool n (w.alloc (.cells (Array.replicate n (.int .i64 0)) 3)))
    exact ⟨_, _, _, rfl, k1, k2, by omega, by omega, by omega⟩
  · go_wp2
    go_ret
    obtain ⟨k1, k2⟩ := new_end n (w.heap.size + 1) w.heap.size (.cells (Array.replicate n (.bool false)) 4) (.cells (Array.replicate n (.int .i64 0)) 3) w n1 (by omega) (by omega) (by omega) (by simpa using rep_int n (w.alloc (.cells (Array.replicate n (.bool false)) 4))) ((rep_bool n w).alloc _)
    exact ⟨_, _, _, rfl, k1, k2, by omega, by omega, by omega⟩
theorem list_own (b R I n : Nat) (L : List Nat) (w : World) (h : FAt w b R I n L) :
    Calls Try.prog 46 #[.pointer (some ⟨b, 0, none⟩)] w fun e w' => ∃ v', e = .returned v' ∧ w'.ownsRow w.heap.size 3 1 v' L.length (L.map iv) ∧ v' ≠ .slice none 0 0 ∧ Below w.heap.size w w' := by
  have HF := Lib.hid h
  have hlen := h.len
  have hn := h.1
  have c0 := h.2.2.2.1.cell (i := 0) rfl
  obtain ⟨zs, hzs⟩ : ∃ zs : List Int, zs = L.map fun x => Int.ofNat x := ⟨_, rfl⟩
  have hzl : zs.length = L.length := by rw [hzs, List.length_map]
  have hv : (zs.take L.length).map (Value.int .i64) = L.map iv := by
    rw [List.take_of_length_le (by omega), hzs, List.map_map]
    rfl
  have HV := Lib.hid hv
  have HZ := Lib.hid hzs
  clear h hv hzs
  go_enter Try.func46, Try.ntmps46
  go_wp2_with (go_at_call 54; refine (Try.slices_Clone_int R 0 L.length n zs _ (by omega) (by omega) (fun j hj => by
    rw [hzl] at hj
    rw [Nat.zero_add, HF.out.row j hj, HZ.out]
    simp [List.getD, List.getElem?_eq_getElem hj])).mono ?_; rintro e w' ⟨v', rfl, k1, k2, k3⟩; rw [HV.out] at k1; have HK := Lib.hid (And.intro k1 (And.intro k2 k3)); clear k1 k2 k3)
  go_ret
  exact ⟨_, rfl, HK.out⟩
theorem push_at (b R I n x : Nat) (L : List Nat) (id : Int) (hid : id = (x : Int)) (w : World) (hxn : x < n) (hx : ¬ x ∈ L) (h : FAt w b R I n L) :
    Calls Try.prog 31 #[.pointer (some ⟨b, 0, none⟩), .int .i64 id] w fun e w' => e = .returned (.bool true) ∧ FAt w' b R I n (L ++ [x]) ∧ Chg [b, R, I] w w' := by
  subst hid
  exact push_yes b R I n x L w hxn hx h
end Go.Proofs.Yticdpcbmnahenaa
