/- How many bits a word has: the sum by halves, fours and bytes, and the count of those that are 1. No Go in sight but the bits of words. -/
import Derived.Test.YtoniipmgkoogbaaCsMath
namespace Go.Proofs.Ytoniipmgkoogbaa.Cs
set_option linter.unusedSimpArgs false
set_option linter.unusedVariables false

/-- How many below n of which f says so. -/
def cnt (f : Nat → Bool) (n : Nat) : Nat := ((List.range n).filter f).length
theorem cnt_add (f : Nat → Bool) (a b : Nat) : cnt f (a + b) = cnt f a + cnt (fun j => f (a + j)) b := by
  unfold cnt
  rw [List.range_add, List.filter_append, List.length_append, List.filter_map, List.length_map]
  rfl
theorem cnt_congr {f g : Nat → Bool} {n : Nat} (h : ∀ i, i < n → f i = g i) : cnt f n = cnt g n := by
  unfold cnt
  congr 1
  exact List.filter_congr fun i hi => h i (List.mem_range.1 hi)
theorem cnt_le (f : Nat → Bool) (n : Nat) : cnt f n ≤ n := by
  unfold cnt
  have := List.length_filter_le f (List.range n)
  simpa using this
def ofB : List Nat → Nat
  | [] => 0
  | b :: r => b + 256 * ofB r
theorem and_cons (b c N M : Nat) (hb : b < 256) (hc : c < 256) : (b + 256 * N) &&& (c + 256 * M) = (b &&& c) + 256 * (N &&& M) := by
  have h1 : ((b + 256 * N) &&& (c + 256 * M)) % 2 ^ 8 = b &&& c := by
    rw [Nat.and_mod_two_pow]
    congr 1 <;> omega
  have h2 : ((b + 256 * N) &&& (c + 256 * M)) / 2 ^ 8 = N &&& M := by
    rw [Nat.and_div_two_pow]
    congr 1 <;> omega
  omega
def h1 (b : Nat) : Nat := (b / 2 &&& 85) + (b &&& 85)
def h2 (b : Nat) : Nat := (b / 4 &&& 51) + (b &&& 51)
def h3 (b : Nat) : Nat := (b / 16 + b) &&& 15
def rep (c : Nat) : Nat → Nat
  | 0 => 0
  | n + 1 => c + 256 * rep c n
theorem lt_all {f : Nat → Nat} (h : ∀ b : Fin 256, f b.val < 256) {l : List Nat} (hl : ∀ b ∈ l, b < 256) : ∀ b ∈ l.map f, b < 256 := by
  intro b hb
  obtain ⟨a, ha, rfl⟩ := List.mem_map.1 hb
  exact h ⟨a, hl a ha⟩
theorem st1 : ∀ l : List Nat, (∀ b ∈ l, b < 256) → (ofB l / 2 &&& rep 85 l.length) + (ofB l &&& rep 85 l.length) = ofB (l.map h1)
  | [], _ => by simp [ofB, rep]
  | b :: r, h => by
    have hb := h b (by simp)
    have ih := st1 r fun x hx => h x (by simp [hx])
    have k : ∀ b : Fin 256, ∀ c : Fin 2, ((b.val / 2 + 128 * c.val) &&& 85) = (b.val / 2 &&& 85) := by decide +kernel
    have k1 := k ⟨b, hb⟩ ⟨ofB r % 2, by omega⟩
    simp only at k1
    simp only [ofB, List.length_cons, rep, List.map_cons]
    have e : (b + 256 * ofB r) / 2 = (b / 2 + 128 * (ofB r % 2)) + 256 * (ofB r / 2) := by omega
    rw [e, and_cons _ _ _ _ (by omega) (by decide), and_cons _ _ _ _ hb (by decide), k1]
    have e1 : h1 b = (b / 2 &&& 85) + (b &&& 85) := rfl
    omega
theorem st2 : ∀ l : List Nat, (∀ b ∈ l, b < 256) → (ofB l / 4 &&& rep 51 l.length) + (ofB l &&& rep 51 l.length) = ofB (l.map h2)
  | [], _ => by simp [ofB, rep]
  | b :: r, h => by
    have hb := h b (by simp)
    have ih := st2 r fun x hx => h x (by simp [hx])
    have k : ∀ b : Fin 256, ∀ c : Fin 4, ((b.val / 4 + 64 * c.val) &&& 51) = (b.val / 4 &&& 51) := by decide +kernel
    have k1 := k ⟨b, hb⟩ ⟨ofB r % 4, by omega⟩
    simp only at k1
    simp only [ofB, List.length_cons, rep, List.map_cons]
    have e : (b + 256 * ofB r) / 4 = (b / 4 + 64 * (ofB r % 4)) + 256 * (ofB r / 4) := by omega
    rw [e, and_cons _ _ _ _ (by omega) (by decide), and_cons _ _ _ _ hb (by decide), k1]
    have e1 : h2 b = (b / 4 &&& 51) + (b &&& 51) := rfl
    omega
theorem st3 : ∀ l : List Nat, (∀ b ∈ l, b % 16 ≤ 4 ∧ b / 16 ≤ 4) → ((ofB l / 16 + ofB l) &&& rep 15 l.length) = ofB (l.map h3)
  | [], _ => by simp [ofB, rep]
  | b :: r, h => by
    have hb := h b (by simp)
    have ih := st3 r fun x hx => h x (by simp [hx])
    have hc : ofB r % 16 ≤ 4 := by
      cases r with
      | nil => simp [ofB]
      | cons c t =>
        have := h c (by simp)
        simp only [ofB]; omega
    have k : ∀ b : Fin 256, ∀ c : Fin 5, b.val % 16 ≤ 4 → b.val / 16 ≤ 4 → ((b.val / 16 + 16 * c.val + b.val) &&& 15) = ((b.val / 16 + b.val) &&& 15) := by decide +kernel
    have k1 := k ⟨b, by omega⟩ ⟨ofB r % 16, by omega⟩ hb.1 hb.2
    simp only at k1
    simp only [ofB, List.length_cons, rep, List.map_cons]
    have e : (b + 256 * ofB r) / 16 + (b + 256 * ofB r) = (b / 16 + 16 * (ofB r % 16) + b) + 256 * (ofB r / 16 + ofB r) := by omega
    rw [e, and_cons _ _ _ _ (by omega) (by decide), k1, ih]
    rfl
/-- The bytes of a number. -/
def bytesOf (N : Nat) : Nat → List Nat
  | 0 => []
  | n + 1 => N % 256 :: bytesOf (N / 256) n
theorem bytesOf_ofB : ∀ (n N : Nat), N < 256 ^ n → ofB (bytesOf N n) = N
  | 0, N, h => by simp at h; simp [bytesOf, ofB, h]
  | n + 1, N, h => by
    simp only [bytesOf, ofB]
    rw [bytesOf_ofB n (N / 256) (by rw [Nat.pow_succ] at h; omega)]
    omega
theorem bytesOf_lt : ∀ (n N : Nat), ∀ b ∈ bytesOf N n, b < 256
  | 0, N, b, h => by simp [bytesOf] at h
  | n + 1, N, b, h => by
    rcases List.mem_cons.1 h with e | e
    · omega
    · exact bytesOf_lt n _ b e
theorem bytesOf_len : ∀ (n N : Nat), (bytesOf N n).length = n
  | 0, N => rfl
  | n + 1, N => by simp [bytesOf, bytesOf_len n]
def sum : List Nat → Nat
  | [] => 0
  | a :: r => a + sum r
theorem cnt_bytes : ∀ (n N : Nat), cnt N.testBit (8 * n) = sum ((bytesOf N n).map fun b => cnt b.testBit 8)
  | 0, N => by simp [cnt, bytesOf, sum]
  | n + 1, N => by
    rw [show 8 * (n + 1) = 8 + 8 * n by omega, cnt_add]
    simp only [bytesOf, List.map_cons, sum]
    rw [← cnt_bytes n (N / 256)]
    congr 1
    · refine cnt_congr fun i hi => ?_
      rw [show (256 : Nat) = 2 ^ 8 from rfl, Nat.testBit_mod_two_pow]; simp [hi]
    · refine cnt_congr fun i hi => ?_
      rw [show (256 : Nat) = 2 ^ 8 from rfl, Nat.testBit_div_two_pow, Nat.add_comm]
theorem pop8 : ∀ b : Fin 256, h3 (h2 (h1 b.val)) = cnt b.val.testBit 8 := by decide +kernel
theorem h1_lt : ∀ b : Fin 256, h1 b.val < 256 := by decide +kernel
theorem h2_lt : ∀ b : Fin 256, h2 b.val < 256 := by decide +kernel
theorem h2_nib : ∀ b : Fin 256, h2 (h1 b.val) % 16 ≤ 4 ∧ h2 (h1 b.val) / 16 ≤ 4 := by decide +kernel
theorem h3_le (b : Nat) (h : b < 256) : h3 (h2 (h1 b)) ≤ 8 := by rw [pop8 ⟨b, h⟩]; exact cnt_le _ _
theorem eight (l : List Nat) (hn : l.length = 8) (hl : ∀ b ∈ l, b < 256) (s : Nat) (hs : s = sum (l.map fun b => cnt b.testBit 8)) : ∃ a b c d e f g k : Nat, ofB (((l.map h1).map h2).map h3) = a + 256 * (b + 256 * (c + 256 * (d + 256 * (e + 256 * (f + 256 * (g + 256 * k)))))) ∧ a ≤ 8 ∧ b ≤ 8 ∧ c ≤ 8 ∧ d ≤ 8 ∧ e ≤ 8 ∧ f ≤ 8 ∧ g ≤ 8 ∧ k ≤ 8 ∧ a + b + c + d + e + f + g + k = s := by
  have hm : ((l.map h1).map h2).map h3 = l.map fun b => cnt b.testBit 8 := by
    rw [List.map_map, List.map_map]
    exact List.map_congr_left fun b hb => pop8 ⟨b, hl b hb⟩
  rw [hm]
  have h8 : ∀ b ∈ l.map fun b => cnt b.testBit 8, b ≤ 8 := by
    intro b hb
    obtain ⟨a, _, rfl⟩ := List.mem_map.1 hb
    exact cnt_le _ _
  have hz : (l.map fun b => cnt b.testBit 8).length = 8 := by rw [List.length_map, hn]
  generalize (l.map fun b => cnt b.testBit 8) = m at h8 hz hs
  match m, hz with
  | [a, b, c, d, e, f, g, k], _ =>
    exact ⟨a, b, c, d, e, f, g, k, rfl, h8 a (by simp), h8 b (by simp), h8 c (by simp), h8 d (by simp), h8 e (by simp), h8 f (by simp), h8 g (by simp), h8 k (by simp), by rw [hs]; simp only [sum]; omega⟩
theorem ofB_lt : ∀ l : List Nat, (∀ b ∈ l, b < 256) → ofB l < 256 ^ l.length
  | [], _ => by simp [ofB]
  | b :: r, h => by
    have ih := ofB_lt r fun x hx => h x (by simp [hx])
    have hb := h b (by simp)
    simp only [ofB, List.length_cons, Nat.pow_succ]
    generalize 256 ^ r.length = p at ih
    omega
theorem ofB_le (c : Nat) : ∀ l : List Nat, (∀ b ∈ l, b ≤ c) → ofB l ≤ rep c l.length
  | [], _ => by simp [ofB, rep]
  | b :: r, h => by
    have ih := ofB_le c r fun x hx => h x (by simp [hx])
    have hb := h b (by simp)
    simp only [ofB, List.length_cons, rep]
    omega
/-- The sum by halves, fours and bytes. -/
theorem swar (N : Nat) (h : N < 256 ^ 8) : ∃ x1 x2 x3 : Nat, (N / 2 &&& 6148914691236517205) + (N &&& 6148914691236517205) = x1 ∧ (x1 / 4 &&& 3689348814741910323) + (x1 &&& 3689348814741910323) = x2 ∧ ((x2 / 16 + x2) &&& 1085102592571150095) = x3 ∧
    x1 < 256 ^ 8 ∧ x2 < 256 ^ 8 ∧ x2 / 16 + x2 < 256 ^ 8 ∧ ∃ a b c d e f g k : Nat, x3 = a + 256 * (b + 256 * (c + 256 * (d + 256 * (e + 256 * (f + 256 * (g + 256 * k)))))) ∧ a ≤ 8 ∧ b ≤ 8 ∧ c ≤ 8 ∧ d ≤ 8 ∧ e ≤ 8 ∧ f ≤ 8 ∧ g ≤ 8 ∧ k ≤ 8 ∧ a + b + c + d + e + f + g + k = cnt N.testBit 64 := by
  have e0 := bytesOf_ofB 8 N h
  have l0 := bytesOf_lt 8 N
  have n0 := bytesOf_len 8 N
  have s := cnt_bytes 8 N
  obtain ⟨l, hl⟩ : ∃ l, bytesOf N 8 = l := ⟨_, rfl⟩
  rw [hl] at e0 l0 n0 s
  have q1 := st1 l l0
  have l1 := lt_all h1_lt l0
  have q2 := st2 (l.map h1) l1
  have l2 := lt_all h2_lt l1
  have q3 := st3 ((l.map h1).map h2) (by
    intro b hb
    rw [List.map_map] at hb
    obtain ⟨a, ha, rfl⟩ := List.mem_map.1 hb
    exact h2_nib ⟨a, l0 a ha⟩)
  simp only [List.length_map, n0] at q1 q2 q3
  rw [e0] at q1
  have r1 : rep 85 8 = 6148914691236517205 := by decide +kernel
  have r2 : rep 51 8 = 3689348814741910323 := by decide +kernel
  have r3 : rep 15 8 = 1085102592571150095 := by decide +kernel
  rw [r1] at q1; rw [r2] at q2; rw [r3] at q3
  have b1 := ofB_lt _ l1
  have b2 := ofB_lt _ l2
  have b3 := ofB_le 68 ((l.map h1).map h2) (by
    intro b hb
    rw [List.map_map] at hb
    obtain ⟨a, ha, rfl⟩ := List.mem_map.1 hb
    have := h2_nib ⟨a, l0 a ha⟩
    simp only [Function.comp] at this ⊢
    omega)
  simp only [List.length_map, n0] at b1 b2 b3
  have r68 : rep 68 8 = 4919131752989213764 := by decide +kernel
  have r256 : 256 ^ 8 = 18446744073709551616 := by decide
  rw [r68] at b3
  refine ⟨_, _, _, q1, q2, q3, b1, b2, ?_, ?_⟩
  · generalize ofB ((l.map h1).map h2) = z at b3
    rw [r256]
    omega
  · exact eight l n0 l0 (cnt N.testBit 64) s
/-- The bytes together. -/
theorem swar2 (x a b c d e f g k : Nat) (h : x = a + 256 * (b + 256 * (c + 256 * (d + 256 * (e + 256 * (f + 256 * (g + 256 * k))))))) (ha : a ≤ 8) (hb : b ≤ 8) (hc : c ≤ 8) (hd : d ≤ 8) (he : e ≤ 8) (hf : f ≤ 8) (hg : g ≤ 8) (hk : k ≤ 8) :
    ∃ x4 x5 x6 : Nat, x + x / 256 = x4 ∧ x4 + x4 / 65536 = x5 ∧ x5 + x5 / 4294967296 = x6 ∧ x4 < 2 ^ 62 ∧ x5 < 2 ^ 62 ∧ x6 < 2 ^ 62 ∧ x6 % 128 = a + b + c + d + e + f + g + k := by
  obtain ⟨y6, e6⟩ : ∃ y, g + 256 * k = y := ⟨_, rfl⟩
  rw [e6] at h
  obtain ⟨y5, e5⟩ : ∃ y, f + 256 * y6 = y := ⟨_, rfl⟩
  rw [e5] at h
  obtain ⟨y4, e4⟩ : ∃ y, e + 256 * y5 = y := ⟨_, rfl⟩
  rw [e4] at h
  obtain ⟨y3, e3⟩ : ∃ y, d + 256 * y4 = y := ⟨_, rfl⟩
  rw [e3] at h
  obtain ⟨y2, e2⟩ : ∃ y, c + 256 * y3 = y := ⟨_, rfl⟩
  rw [e2] at h
  obtain ⟨y1, e1⟩ : ∃ y, b + 256 * y2 = y := ⟨_, rfl⟩
  rw [e1] at h
  have d1 : x / 256 = y1 := by omega
  have u6 : y6 ≤ 2056 := by omega
  have u5 : y5 ≤ 526344 := by omega
  have u4 : y4 ≤ 134744072 := by omega
  have u3 : y3 ≤ 34494482440 := by omega
  have u2 : y2 ≤ 8830587504648 := by omega
  have u1 : y1 ≤ 2260630401189896 := by omega
  have u0 : x ≤ 578721382704613384 := by omega
  obtain ⟨x4, q4⟩ : ∃ x4, x + x / 256 = x4 := ⟨_, rfl⟩
  obtain ⟨z, ez⟩ : ∃ z, y2 + y3 = z := ⟨_, rfl⟩
  have v4 : x4 = (a + b) + 256 * ((b + c) + 256 * z) := by omega
  have d2 : x4 / 65536 = z := by omega
  obtain ⟨x5, q5⟩ : ∃ x5, x4 + x4 / 65536 = x5 := ⟨_, rfl⟩
  obtain ⟨z2, ez2⟩ : ∃ z, y4 + y5 = z := ⟨_, rfl⟩
  have vz : z = (c + d) + 256 * ((d + e) + 256 * z2) := by omega
  obtain ⟨z3, ez3⟩ : ∃ z, y6 + k = z := ⟨_, rfl⟩
  have vz2 : z2 = (e + f) + 256 * ((f + g) + 256 * z3) := by omega
  obtain ⟨t, et⟩ : ∃ t, z2 + z3 = t := ⟨_, rfl⟩
  have v5 : x5 = (a + b + c + d) + 256 * ((b + c + d + e) + 256 * ((c + d + e + f) + 256 * ((d + e + f + g) + 256 * t))) := by omega
  have d3 : x5 / 4294967296 = t := by omega
  obtain ⟨x6, q6⟩ : ∃ x6, x5 + x5 / 4294967296 = x6 := ⟨_, rfl⟩
  have vt : t = (e + f + g + k) + 256 * (f + g + k + 256 * z3) := by omega
  refine ⟨x4, x5, x6, q4, q5, q6, by omega, by omega, by omega, ?_⟩
  obtain ⟨r, er⟩ : ∃ r, (f + g + k + 256 * z3) = r := ⟨_, rfl⟩
  rw [er] at vt
  obtain ⟨r2, er2⟩ : ∃ r, (b + c + d + e) + 256 * ((c + d + e + f) + 256 * ((d + e + f + g) + 256 * t)) = r := ⟨_, rfl⟩
  rw [er2] at v5
  clear e6 e5 e4 e3 e2 e1 d1 u6 u5 u4 u3 u2 u1 u0 v4 d2 vz vz2 ez ez2 ez3 et er er2 h q4 q5
  rw [d3] at q6
  omega
theorem bits_and_nat (N M : Nat) (hN : N < 2 ^ 64) (hM : M < 2 ^ 64) : bits BinOp.and IntKind.u64 (N : Int) (M : Int) = ((N &&& M : Nat) : Int) := by
  show IntKind.u64.wrap _ = _
  have e : (BitVec.ofInt 64 (N : Int) &&& BitVec.ofInt 64 (M : Int)).toNat = N &&& M := by
    rw [BitVec.toNat_and, BitVec.ofInt_natCast, BitVec.ofInt_natCast, BitVec.toNat_ofNat, BitVec.toNat_ofNat, Nat.mod_eq_of_lt hN, Nat.mod_eq_of_lt hM]
  refine (congrArg (fun n : Nat => IntKind.u64.wrap (n : Int)) e).trans ?_
  have : N &&& M ≤ N := Nat.and_le_left
  simp [IntKind.wrap, IntKind.signed, IntKind.bits]; omega
theorem bits_and_i127 (N : Nat) (hN : N < 2 ^ 62) : bits BinOp.and IntKind.i64 (N : Int) 127 = ((N % 128 : Nat) : Int) := by
  show IntKind.i64.wrap _ = _
  have e : (BitVec.ofInt 64 (N : Int) &&& BitVec.ofInt 64 127).toNat = N % 128 := by
    rw [BitVec.toNat_and, BitVec.ofInt_natCast, BitVec.toNat_ofNat, Nat.mod_eq_of_lt (by omega)]
    have : (BitVec.ofInt 64 127).toNat = 2 ^ 7 - 1 := by decide
    rw [this, Nat.and_two_pow_sub_one_eq_mod]
  refine (congrArg (fun n : Nat => IntKind.i64.wrap (n : Int)) e).trans ?_
  simp [IntKind.wrap, IntKind.signed, IntKind.bits]; omega
theorem cnt_words (X : BitVec 256) : cnt X.getLsbD 256 = cnt (wb X 0).toNat.testBit 64 + cnt (wb X 1).toNat.testBit 64 + cnt (wb X 2).toNat.testBit 64 + cnt (wb X 3).toNat.testBit 64 := by
  obtain ⟨f, hf⟩ : ∃ f, X.getLsbD = f := ⟨_, rfl⟩
  have hs : cnt f 256 = cnt f 64 + (cnt (fun j => f (64 + j)) 64 + (cnt (fun j => f (64 + (64 + j))) 64 + cnt (fun j => f (64 + (64 + (64 + j)))) 64)) := by
    rw [show 256 = 64 + (64 + (64 + 64)) from rfl, cnt_add, cnt_add, cnt_add]
  subst hf
  rw [hs]
  have w : ∀ i, cnt (wb X i).toNat.testBit 64 = cnt (fun j => X.getLsbD (64 * i + j)) 64 := fun i => cnt_congr fun j hj => by
    have := wb_get X i j
    rw [BitVec.getLsbD] at this
    rw [this]; simp [hj]
  rw [w, w, w, w]
  have e0 : cnt X.getLsbD 64 = cnt (fun j => X.getLsbD (64 * 0 + j)) 64 := cnt_congr fun j _ => by simp
  have e2 : cnt (fun j => X.getLsbD (64 + (64 + j))) 64 = cnt (fun j => X.getLsbD (64 * 2 + j)) 64 := cnt_congr fun j _ => by congr 1; omega
  have e3 : cnt (fun j => X.getLsbD (64 + (64 + (64 + j)))) 64 = cnt (fun j => X.getLsbD (64 * 3 + j)) 64 := cnt_congr fun j _ => by congr 1; omega
  have e1 : cnt (fun j => X.getLsbD (64 * 1 + j)) 64 = cnt (fun j => X.getLsbD (64 + j)) 64 := cnt_congr fun j _ => by congr 1
  rw [e0, e1, e2, e3]
  omega
/-- The bytes of the first words. -/
def psum (X : BitVec 256) : Nat → Nat
  | 0 => 0
  | k + 1 => psum X k + cnt (wb X k).toNat.testBit 64
theorem psum_le (X : BitVec 256) : ∀ k, psum X k ≤ 64 * k
  | 0 => by simp [psum]
  | k + 1 => by
    have := psum_le X k
    have := cnt_le (wb X k).toNat.testBit 64
    simp only [psum]; omega
theorem psum_all (X : BitVec 256) : psum X 4 = cnt X.getLsbD 256 := by
  rw [cnt_words]; simp only [psum]; omega
end Go.Proofs.Ytoniipmgkoogbaa.Cs
