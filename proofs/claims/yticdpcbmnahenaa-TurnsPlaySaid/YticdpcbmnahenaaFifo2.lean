/- Contracts of a row of numbers (package fifo), second half: what changes it; and what its layer's literal comes to. -/
import Derived.Test.YticdpcbmnahenaaFifo
namespace Go.Proofs.Yticdpcbmnahenaa
open Go.ChangeShapes Go.WideShapes Go.ChangeAt Go.RowKit
set_option linter.unusedSimpArgs false
set_option linter.unusedVariables false

theorem setCells_blk : ∀ (vs : List Value) (o : Nat) {w : World} {b : Nat} {cs : List Value} {T : TypeId}, Blk w b cs T → o + vs.length ≤ cs.length → Blk (w.setCells b o vs) b (cs.take o ++ vs ++ cs.drop (o + vs.length)) T ∧ Chg [b] w (w.setCells b o vs)
  | [], o, w, b, cs, T, h, hl => by
    simp only [World.setCells, List.append_nil, List.length_nil, Nat.add_zero, List.take_append_drop]
    exact ⟨h, Chg.refl _ _⟩
  | v :: r, o, w, b, cs, T, h, hl => by
    have hl' : o + 1 + r.length ≤ cs.length := by simp at hl; omega
    obtain ⟨k1, k2⟩ := setCells_blk r (o + 1) (h.set o v) (by simpa using hl')
    refine ⟨?_, (((Chg.refl [b] w).set (Or.inl (by simp)) o v).trans k2 (fun x hx => Or.inl hx))⟩
    have e : (cs.set o v).take (o + 1) ++ r ++ (cs.set o v).drop (o + 1 + r.length) = cs.take o ++ (v :: r) ++ cs.drop (o + (v :: r).length) := by
      rw [List.take_succ_eq_append_getElem (by simp; omega), List.getElem_set_self, List.take_set_of_le (Nat.le_refl o), List.drop_set_of_lt (by omega)]
      simp [Nat.add_assoc, Nat.add_comm 1]
    rw [e] at k1
    exact k1
theorem fl_set_true (L : List Nat) (n x : Nat) : (fl L n).set x (.bool true) = fl (L ++ [x]) n := by
  apply List.ext_getElem?
  intro i
  rw [List.getElem?_set]
  by_cases hi : i < n
  · by_cases hx : x = i
    · subst hx; rw [if_pos rfl, if_pos (by rw [fl_length]; exact hi), fl_at _ _ _ hi]; simp
    · rw [if_neg hx, fl_at _ _ _ hi, fl_at _ _ _ hi]
      have : (i = x) = False := by simp; omega
      simp [this]
  · have h1 : (fl L n)[i]? = none := List.getElem?_eq_none (by rw [fl_length]; omega)
    have h2 : (fl (L ++ [x]) n)[i]? = none := List.getElem?_eq_none (by rw [fl_length]; omega)
    rw [h1, h2]
    by_cases hx : x = i
    · rw [if_pos hx, if_neg (by rw [fl_length]; omega)]
    · rw [if_neg hx]
theorem fl_set_false (L : List Nat) (n x : Nat) (hn : L.Nodup) : (fl L n).set x (.bool false) = fl (L.erase x) n := by
  apply List.ext_getElem?
  intro i
  rw [List.getElem?_set]
  by_cases hi : i < n
  · by_cases hx : x = i
    · subst hx; rw [if_pos rfl, if_pos (by rw [fl_length]; exact hi), fl_at _ _ _ hi]
      have : ¬ x ∈ L.erase x := fun hm => ((hn.mem_erase_iff).1 hm).1 rfl
      simp [this]
    · rw [if_neg hx, fl_at _ _ _ hi, fl_at _ _ _ hi]
      have : (i ∈ L.erase x) = (i ∈ L) := by
        rw [hn.mem_erase_iff]
        simp; omega
      simp [this]
  · have h1 : (fl L n)[i]? = none := List.getElem?_eq_none (by rw [fl_length]; omega)
    have h2 : (fl (L.erase x) n)[i]? = none := List.getElem?_eq_none (by rw [fl_length]; omega)
    rw [h1, h2]
    by_cases hx : x = i
    · rw [if_pos hx, if_neg (by rw [fl_length]; omega)]
    · rw [if_neg hx]
theorem cut_no (b R I n : Nat) (L : List Nat) (id : Int) (w : World) (hi : isIn L id = false) (h : FAt w b R I n L) :
    Calls Try.prog 41 #[.pointer (some ⟨b, 0, none⟩), .int .i64 id] w fun e w' => e = .returned (.bool false) ∧ ∃ q, w' = w.drewN q := by
  have HF := Lib.hid h
  have hp : plc L id = -1 := by unfold plc; rw [hi]; rfl
  clear h
  go_enter Try.func41, Try.ntmps41
  go_wp2_with (go_at_call 52; refine (place_any _ _ _ _ _ _ _ HF.out).mono ?_; rintro e w' ⟨rfl, q, rfl⟩; rw [hp])
  go_ret
  exact ⟨rfl, _, rfl⟩
set_option maxHeartbeats 1000000 in
theorem cut_yes (b R I n x : Nat) (L : List Nat) (w : World) (hx : x ∈ L) (h : FAt w b R I n L) :
    Calls Try.prog 41 #[.pointer (some ⟨b, 0, none⟩), .int .i64 x] w fun e w' => e = .returned (.bool true) ∧ FAt w' b R I n (L.erase x) ∧ Chg [b, R, I] w w' := by
  have HF := Lib.hid h
  have hlen := h.len
  have hn := h.1
  obtain ⟨p, hp⟩ : ∃ p, L.idxOf x = p := ⟨_, rfl⟩
  have hpl : p < L.length := by rw [← hp]; exact List.idxOf_lt_length_of_mem hx
  have hpc : plc L x = (p : Int) := by unfold plc; rw [isIn_nat, Int.toNat_natCast, hp]; simp [hx]
  have hxn := h.2.2.1 x hx
  have HP := Lib.hid hp
  have i1 : ¬ (p : Int) < 0 := by omega
  have i2 : (0 : Int) ≤ (x : Int) := by omega
  have i3 : (x : Int) < (n : Int) := by omega
  clear h hp
  go_enter Try.func41, Try.ntmps41
  go_wp2_with (go_at_call 52; refine (place_any _ _ _ _ _ _ _ HF.out).mono ?_; rintro e w' ⟨rfl, q, rfl⟩; rw [hpc]; have HG := Lib.hid (HF.out.drewN q); have c0 := HG.out.2.2.2.1.cell (i := 0) rfl)
  have e1 : (p : Int) + 1 = ((p + 1 : Nat) : Int) := by omega
  rw [e1]
  obtain ⟨zs, hzs⟩ : ∃ zs : List Int, zs = L.map fun x => Int.ofNat x := ⟨_, rfl⟩
  have hzl : zs.length = L.length := by rw [hzs, List.length_map]
  refine (Try.slices_Delete_int_cells R 0 L.length n p (p + 1) zs _ (by omega) hlen (by omega) (by omega) (by omega) (fun j hj => by
    rw [hzl] at hj
    have := HG.out.row j hj
    rw [Nat.zero_add, this, hzs]
    simp [List.getD, List.getElem?_eq_getElem hj]) (fun j _ => by
    obtain ⟨_, _, _, _, ⟨rest, _, h6⟩, _⟩ := HG.out
    exact h6.free _)).mono ?_
  rintro e w2 ⟨rfl, q2, rfl⟩
  have e2 : L.length - (p + 1 - p) = (L.erase x).length := by rw [List.length_erase_of_mem hx]; omega
  have hvs : (((zs.take L.length).take p ++ (zs.take L.length).drop (p + 1) ++ List.replicate (p + 1 - p) 0).map (Value.int .i64)) = (L.erase x).map iv ++ [iv 0] := by
    have ht : zs.take L.length = zs := List.take_of_length_le (by omega)
    rw [ht, hzs, List.erase_eq_eraseIdx_of_idxOf HP.out, List.eraseIdx_eq_take_drop_succ, show p + 1 - p = 1 by omega]
    simp [iv, List.map_take, List.map_drop, Function.comp_def]
    rfl
  rw [e2, hvs]
  have HK : Hid (Blk (((w.drewN q).drewN q2).setCells R 0 ((L.erase x).map iv ++ [iv 0])) b [.slice (some ⟨R, 0, none⟩) L.length n, .slice (some ⟨I, 0, none⟩) n n] 72 ∧
      (∃ rest : List Value, (L.erase x).length + rest.length = n ∧ Blk (((w.drewN q).drewN q2).setCells R 0 ((L.erase x).map iv ++ [iv 0])) R ((L.erase x).map iv ++ rest) 3) ∧ Blk (((w.drewN q).drewN q2).setCells R 0 ((L.erase x).map iv ++ [iv 0])) I (fl L n) 4 ∧ Chg [b, R, I] w (((w.drewN q).drewN q2).setCells R 0 ((L.erase x).map iv ++ [iv 0]))) := by
    obtain ⟨h1, h2, h3, h4, ⟨rest, h5, h6⟩, h7⟩ := HG.out.drewN q2
    have hel := List.length_erase_of_mem hx
    have hlv : ((L.erase x).map iv ++ [iv 0]).length = L.length := by simp [hel]; omega
    obtain ⟨k1, k2⟩ := setCells_blk ((L.erase x).map iv ++ [iv 0]) 0 h6 (by rw [hlv]; simp)
    refine ⟨h4.chg k2 (by simp; omega), ⟨iv 0 :: rest, by simp; omega, ?_⟩, h7.chg k2 (by simp; omega), ((Chg.refl _ _).drewN q).drewN q2 |>.trans k2 (by simp)⟩
    rw [hlv, Nat.zero_add, List.take_zero, List.nil_append, List.drop_append_of_le_length (by simp), List.drop_of_length_le (by simp), List.nil_append] at k1
    simpa using k1
  have hel := List.length_erase_of_mem hx
  have hle2 : (L.erase x).length ≤ n := by omega
  clear c0 HG hvs e1 e2
  revert HK
  generalize ((w.drewN q).drewN q2).setCells R 0 ((L.erase x).map iv ++ [iv 0]) = W1
  intro HK
  have c0 := HK.out.1.cell (i := 0) rfl
  have c1 := HK.out.1.cell (i := 1) rfl
  have f0 := HK.out.1.free 0
  have c2 := HK.out.2.2.1.cell (fl_at L n x hxn)
  have f2 := HK.out.2.2.1.free x
  have hbI : ¬ b = I := by omega
  have HEL := Lib.hid hel
  obtain ⟨m, hm⟩ : ∃ m, (L.erase x).length = m := ⟨_, rfl⟩
  have HM := Lib.hid hm
  rw [hm] at hle2
  rw [hm]
  clear hel hm
  go_wp2
  go_ret
  refine ⟨rfl, ?_, (HK.out.2.2.2.set (Or.inl (by simp)) _ _).set (Or.inl (by simp)) _ _⟩
  obtain ⟨k1, ⟨rest, k2, k3⟩, k4, k5⟩ := HK.out
  have hf := HF.out
  refine ⟨hn, hf.2.1.erase x, fun y hy => hf.2.2.1 y (List.mem_of_mem_erase hy), ?_, ⟨rest, k2, (k3.other (by omega) _ _).other (by omega) _ _⟩, ?_⟩
  · rw [HM.out]
    exact (k1.set 0 (.slice (some ⟨R, 0, none⟩) m n)).other (by omega) _ _
  · rw [← fl_set_false L n x hf.2.1]
    exact (k4.other (by omega) _ _).set x (.bool false)
theorem push_no (b R I n : Nat) (L : List Nat) (id : Int) (w : World) (hi : id < 0 ∨ (n : Int) ≤ id ∨ isIn L id = true) (h : FAt w b R I n L) :
    Calls Try.prog 31 #[.pointer (some ⟨b, 0, none⟩), .int .i64 id] w fun e w' => e = .returned (.bool false) ∧ w = w' := by
  have HF := Lib.hid h
  by_cases a1 : id < 0
  · clear h hi
    go_enter Try.func31, Try.ntmps31
    go_wp2_with (go_at_call 48; refine (most_any _ _ _ _ _ _ HF.out).mono ?_; rintro e w' ⟨rfl, rfl⟩)
    go_ret
    exact ⟨rfl, rfl⟩
  · by_cases a2 : (n : Int) ≤ id
    · clear h hi
      go_enter Try.func31, Try.ntmps31
      go_wp2_with (go_at_call 48; refine (most_any _ _ _ _ _ _ HF.out).mono ?_; rintro e w' ⟨rfl, rfl⟩)
      go_ret
      exact ⟨rfl, rfl⟩
    · obtain ⟨x, rfl⟩ : ∃ x : Nat, id = (x : Int) := ⟨id.toNat, by omega⟩
      have hx : isIn L x = true := by
        rcases hi with hi | hi | hi
        · omega
        · omega
        · exact hi
      rw [isIn_nat] at hx
      have c1 := h.2.2.2.1.cell (i := 1) rfl
      have c2 := h.flag x (by omega)
      rw [hx] at c2
      have i0 : (0 : Int) ≤ (x : Int) := by omega
      have i1 : (x : Int) < (n : Int) := by omega
      clear h hi hx
      go_enter Try.func31, Try.ntmps31
      go_wp2_with (go_at_call 48; refine (most_any _ _ _ _ _ _ HF.out).mono ?_; rintro e w' ⟨rfl, rfl⟩)
      go_ret
      exact ⟨rfl, rfl⟩
set_option maxHeartbeats 1000000 in
theorem push_yes (b R I n x : Nat) (L : List Nat) (w : World) (hxn : x < n) (hx : ¬ x ∈ L) (h : FAt w b R I n L) :
    Calls Try.prog 31 #[.pointer (some ⟨b, 0, none⟩), .int .i64 x] w fun e w' => e = .returned (.bool true) ∧ FAt w' b R I n (L ++ [x]) ∧ Chg [b, R, I] w w' := by
  have HF := Lib.hid h
  have hn := h.1
  have hnd : (L ++ [x]).Nodup := by
    rw [List.nodup_append]
    refine ⟨h.2.1, by simp, ?_⟩
    intro a ha c hc
    simp at hc
    subst hc
    exact fun e => hx (e ▸ ha)
  have hmn : ∀ y ∈ L ++ [x], y < n := by
    intro y hy
    rcases List.mem_append.1 hy with hy | hy
    · exact h.2.2.1 y hy
    · simp at hy; omega
  have hlen := nodup_le n _ hnd hmn
  rw [List.length_append] at hlen
  have hlen2 : L.length + 1 ≤ n := hlen
  have HND := Lib.hid hnd
  have HMN := Lib.hid hmn
  have c0 := h.2.2.2.1.cell (i := 0) rfl
  have c1 := h.2.2.2.1.cell (i := 1) rfl
  have f0 := h.2.2.2.1.free 0
  have c2 := h.flag x hxn
  have f2 := h.2.2.2.2.2.free x
  have hd : decide (x ∈ L) = false := by simpa using hx
  rw [hd] at c2
  have i0 : (0 : Int) ≤ (x : Int) := by omega
  have i1 : (x : Int) < (n : Int) := by omega
  obtain ⟨v0, cR⟩ : ∃ v0, w.cell? ⟨R, L.length, none⟩ = some v0 := by
    obtain ⟨_, _, _, _, ⟨rest, h5, h6⟩, _⟩ := h
    have hl : L.length < (L.map iv ++ rest).length := by simp; omega
    exact ⟨_, h6.cell (List.getElem?_eq_getElem hl)⟩
  have fR : w.frozen? ⟨R, L.length, none⟩ = false := by
    obtain ⟨_, _, _, _, ⟨rest, h5, h6⟩, _⟩ := h
    exact h6.free _
  have lb := h.lts.1
  have lR := h.lts.2.1
  have lI := h.lts.2.2
  obtain ⟨n1, n2, n3⟩ : ¬ b = R ∧ ¬ b = I ∧ ¬ R = I := ⟨hn.2.2.1, hn.2.2.2.1, hn.2.2.2.2⟩
  obtain ⟨n4, n5, n6⟩ : ¬ R = b ∧ ¬ I = b ∧ ¬ I = R := ⟨fun e => n1 e.symm, fun e => n2 e.symm, fun e => n3 e.symm⟩
  clear h hd hnd hmn hlen
  go_enter Try.func31, Try.ntmps31
  go_wp2_with (go_at_call 48; refine (most_any _ _ _ _ _ _ HF.out).mono ?_; rintro e w' ⟨rfl, rfl⟩)
  go_ret
  have hf := HF.out
  refine ⟨rfl, ⟨hn, HND.out, HMN.out, ?_, ?_, ?_⟩, ?_⟩
  · rw [List.length_append]
    exact (((hf.2.2.2.1.other n1 _ _).set 0 (.slice (some ⟨R, 0, none⟩) (L.length + 1) n)).other n2 _ _).alloc _
  · obtain ⟨rest, h5, h6⟩ := hf.2.2.2.2.1
    cases rest with
    | nil => simp at h5; omega
    | cons r0 rest =>
      refine ⟨rest, by simp at *; omega, ?_⟩
      have k := (((h6.set L.length (iv x)).other n4 0 (.slice (some ⟨R, 0, none⟩) (L.length + 1) n)).other n3 x (.bool true)).alloc (Obj.cells #[Value.int IntKind.i64 ↑x] 3)
      have e : (L.map iv ++ r0 :: rest).set L.length (iv x) = (L ++ [x]).map iv ++ rest := by
        simp [List.set_append]
      rw [e] at k
      exact k
  · rw [← fl_set_true L n x]
    exact (((hf.2.2.2.2.2.other n6 _ _).other n5 _ _).set x (.bool true)).alloc _
  · exact (((Chg.refl _ _).set (Or.inl (by simp)) _ _).set (Or.inl (by simp)) _ _ |>.set (Or.inl (by simp)) _ _).alloc _
end Go.Proofs.Yticdpcbmnahenaa
