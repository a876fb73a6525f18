/- The check of bytes as plain functions on numbers: halving, doubling, bytes going in and out, and what follows of them. No program is named here. -/
namespace Go.Proofs.Ytkfggbafgjephaa

/-- a rest, halved -/
def H (x : Nat) : Nat := if x % 2 = 1 then (x / 2) ^^^ 2197175160 else x / 2
/-- a rest, doubled -/
def D (x : Nat) : Nat := if 2147483648 ≤ x then (x ^^^ 2197175160) * 2 + 1 else x * 2
def it : Nat → (Nat → Nat) → Nat → Nat
  | 0, _, x => x
  | n + 1, f, x => it n f (f x)
/-- a byte goes into a rest -/
def goIn (r c : Nat) : Nat := it 8 H (r ^^^ c)
/-- a byte goes out of a rest -/
def goOut (r c : Nat) : Nat := it 8 D r ^^^ c
def F (r : Nat) (bs : List UInt8) : Nat := bs.foldl (fun r c => goIn r c.toNat) r
def G (r : Nat) (bs : List UInt8) : Nat := bs.foldr (fun c r => goOut r c.toNat) r
def ones : Nat := 4294967295
def Nx (m x : Nat) : Nat := m ^^^ x
def Nt (x : Nat) : Nat := Nx ones x
def moreV (x : Nat) (bs : List UInt8) : Nat := Nt (F (Nt x) bs)
def lessV (x : Nat) (bs : List UInt8) : Nat := Nt (G (Nt x) bs)
def sumV (bs : List UInt8) : Nat := moreV 0 bs

theorem xor_small {a b : Nat} (ha : a < 4294967296) (hb : b < 4294967296) : a ^^^ b < 4294967296 := Nat.xor_lt_two_pow (n := 32) ha hb
theorem poly_xor_xor (a : Nat) : (a ^^^ 2197175160) ^^^ 2197175160 = a := by rw [Nat.xor_assoc, Nat.xor_self, Nat.xor_zero]
theorem top_xor {x : Nat} (h1 : 2147483648 ≤ x) (h2 : x < 4294967296) : x ^^^ 2197175160 < 2147483648 := by
  have h : (x ^^^ 2197175160) >>> 31 = 0 := by
    rw [Nat.shiftRight_xor_distrib]
    have : x >>> 31 = 1 := by rw [Nat.shiftRight_eq_div_pow]; omega
    rw [this]
    decide
  rw [Nat.shiftRight_eq_div_pow] at h
  omega
theorem low_xor {x : Nat} (h2 : x < 2147483648) : 2147483648 ≤ x ^^^ 2197175160 := by
  have h : (x ^^^ 2197175160) >>> 31 = 1 := by
    rw [Nat.shiftRight_xor_distrib]
    have : x >>> 31 = 0 := by rw [Nat.shiftRight_eq_div_pow]; omega
    rw [this]
    decide
  rw [Nat.shiftRight_eq_div_pow] at h
  omega
theorem H_lt {x : Nat} (h : x < 4294967296) : H x < 4294967296 := by
  unfold H
  split
  · exact xor_small (by omega) (by omega)
  · omega
theorem D_lt {x : Nat} (h : x < 4294967296) : D x < 4294967296 := by
  unfold D
  split
  · have := top_xor (by assumption) h; omega
  · omega
theorem H_D {x : Nat} : H (D x) = x := by
  unfold D
  split
  · unfold H
    rw [if_pos (by omega)]
    have : ((x ^^^ 2197175160) * 2 + 1) / 2 = x ^^^ 2197175160 := by omega
    rw [this, poly_xor_xor]
  · unfold H
    rw [if_neg (by omega)]
    omega
theorem D_H {x : Nat} (h : x < 4294967296) : D (H x) = x := by
  unfold H
  split
  · unfold D
    rw [if_pos (low_xor (by omega)), poly_xor_xor]
    omega
  · unfold D
    rw [if_neg (by omega)]
    omega
theorem H_xor (x y : Nat) : H (x ^^^ y) = H x ^^^ H y := by
  have hd : (x ^^^ y) / 2 = x / 2 ^^^ y / 2 := Nat.xor_div_two
  have hm : (x ^^^ y) % 2 = (x + y) % 2 := by
    have h := @Nat.xor_mod_two_eq_one x y
    omega
  unfold H
  rw [hd, hm]
  by_cases hx : x % 2 = 1 <;> by_cases hy : y % 2 = 1
  · rw [if_neg (by omega), if_pos hx, if_pos hy]
    rw [Nat.xor_assoc, Nat.xor_comm 2197175160, Nat.xor_assoc, Nat.xor_self, Nat.xor_zero]
  · rw [if_pos (by omega), if_pos hx, if_neg hy]
    rw [Nat.xor_assoc, Nat.xor_assoc, Nat.xor_comm 2197175160]
  · rw [if_pos (by omega), if_neg hx, if_pos hy]
    rw [Nat.xor_assoc]
  · rw [if_neg (by omega), if_neg hx, if_neg hy]
theorem H_zero : H 0 = 0 := by decide

theorem it_succ (n : Nat) (f : Nat → Nat) (x : Nat) : it (n + 1) f x = f (it n f x) := by
  induction n generalizing x with
  | zero => rfl
  | succ n ih => exact ih (f x)
theorem it_add (m n : Nat) (f : Nat → Nat) (x : Nat) : it (m + n) f x = it n f (it m f x) := by
  induction m generalizing x with
  | zero => simp [it]
  | succ m ih => rw [Nat.add_right_comm]; exact ih (f x)
theorem itH_lt (n : Nat) {x : Nat} (h : x < 4294967296) : it n H x < 4294967296 := by
  induction n generalizing x with
  | zero => exact h
  | succ n ih => exact ih (H_lt h)
theorem itD_lt (n : Nat) {x : Nat} (h : x < 4294967296) : it n D x < 4294967296 := by
  induction n generalizing x with
  | zero => exact h
  | succ n ih => exact ih (D_lt h)
theorem itH_itD (n : Nat) (x : Nat) : it n H (it n D x) = x := by
  induction n generalizing x with
  | zero => rfl
  | succ n ih => rw [it_succ n D]; show it n H (H (D _)) = x; rw [H_D, ih]
theorem itD_itH (n : Nat) {x : Nat} (h : x < 4294967296) : it n D (it n H x) = x := by
  induction n generalizing x with
  | zero => rfl
  | succ n ih => rw [it_succ n H]; show it n D (D (H _)) = x; rw [D_H (itH_lt n h), ih h]
theorem itH_xor (n : Nat) (x y : Nat) : it n H (x ^^^ y) = it n H x ^^^ it n H y := by
  induction n generalizing x y with
  | zero => rfl
  | succ n ih => show it n H (H _) = it n H (H x) ^^^ it n H (H y); rw [H_xor, ih]
theorem itH_zero (n : Nat) : it n H 0 = 0 := by
  induction n with
  | zero => rfl
  | succ n ih => show it n H (H 0) = 0; rw [H_zero, ih]

theorem goIn_lt {r c : Nat} (hr : r < 4294967296) (hc : c < 256) : goIn r c < 4294967296 := itH_lt 8 (xor_small hr (by omega))
theorem goOut_lt {r c : Nat} (hr : r < 4294967296) (hc : c < 256) : goOut r c < 4294967296 := xor_small (itD_lt 8 hr) (by omega)
theorem xor_xor (a b : Nat) : (a ^^^ b) ^^^ b = a := by rw [Nat.xor_assoc, Nat.xor_self, Nat.xor_zero]
theorem goOut_goIn {r c : Nat} (hr : r < 4294967296) (hc : c < 256) : goOut (goIn r c) c = r := by
  unfold goOut goIn
  rw [itD_itH 8 (xor_small hr (by omega)), xor_xor]
theorem goIn_goOut (r c : Nat) : goIn (goOut r c) c = r := by
  unfold goOut goIn
  rw [xor_xor, itH_itD]
theorem byte_lt (c : UInt8) : c.toNat < 256 := c.toNat_lt

theorem F_nil (r : Nat) : F r [] = r := rfl
theorem F_cons (r : Nat) (c : UInt8) (bs : List UInt8) : F r (c :: bs) = F (goIn r c.toNat) bs := rfl
theorem F_append (r : Nat) (a b : List UInt8) : F r (a ++ b) = F (F r a) b := List.foldl_append ..
theorem F_snoc (r : Nat) (a : List UInt8) (c : UInt8) : F r (a ++ [c]) = goIn (F r a) c.toNat := by rw [F_append]; rfl
theorem G_append (r : Nat) (a b : List UInt8) : G r (a ++ b) = G (G r b) a := List.foldr_append ..
theorem G_cons (r : Nat) (c : UInt8) (bs : List UInt8) : G r (c :: bs) = goOut (G r bs) c.toNat := rfl
theorem F_lt {r : Nat} (bs : List UInt8) (hr : r < 4294967296) : F r bs < 4294967296 := by
  induction bs generalizing r with
  | nil => exact hr
  | cons c bs ih => exact ih (goIn_lt hr (byte_lt c))
theorem G_lt {r : Nat} (bs : List UInt8) (hr : r < 4294967296) : G r bs < 4294967296 := by
  induction bs with
  | nil => exact hr
  | cons c bs ih => exact goOut_lt ih (byte_lt c)
theorem G_F {r : Nat} (bs : List UInt8) (hr : r < 4294967296) : G (F r bs) bs = r := by
  induction bs generalizing r with
  | nil => rfl
  | cons c bs ih => rw [F_cons, G_cons, ih (goIn_lt hr (byte_lt c)), goOut_goIn hr (byte_lt c)]
theorem F_G (r : Nat) (bs : List UInt8) : F (G r bs) bs = r := by
  induction bs with
  | nil => rfl
  | cons c bs ih => rw [F_cons, G_cons, goIn_goOut, ih]
/-- to go in is linear: what two rests are unlike by goes on as bytes 0 take it -/
theorem F_xor (r s : Nat) (bs : List UInt8) : F (r ^^^ s) bs = F r bs ^^^ it (8 * bs.length) H s := by
  induction bs generalizing r s with
  | nil => rfl
  | cons c bs ih =>
    have h : goIn (r ^^^ s) c.toNat = goIn r c.toNat ^^^ it 8 H s := by
      unfold goIn
      rw [Nat.xor_assoc, Nat.xor_comm s, ← Nat.xor_assoc, itH_xor]
    rw [F_cons, F_cons, h, ih, ← it_add, List.length_cons, Nat.mul_add, Nat.mul_one, Nat.add_comm 8]
theorem F_zeros (s n : Nat) : F s (List.replicate n 0) = it (8 * n) H s := by
  induction n generalizing s with
  | zero => rfl
  | succ n ih =>
    have h : goIn s (0 : UInt8).toNat = it 8 H s := by
      unfold goIn
      rw [show (0 : UInt8).toNat = 0 from rfl, Nat.xor_zero]
    rw [List.replicate_succ, F_cons, h, ih, ← it_add, Nat.mul_add, Nat.mul_one, Nat.add_comm 8]

theorem self_xor (m x : Nat) : m ^^^ (m ^^^ x) = x := by rw [← Nat.xor_assoc, Nat.xor_self, Nat.zero_xor]
theorem Nx_Nx (m x : Nat) : Nx m (Nx m x) = x := self_xor m x
theorem Nt_Nt (x : Nat) : Nt (Nt x) = x := Nx_Nx ones x
theorem Nx_xor (m a b : Nat) : Nx m (a ^^^ b) ^^^ b = Nx m a := by unfold Nx; rw [Nat.xor_assoc, xor_xor]
theorem Nx_zero (m a : Nat) : Nx m a = Nx m 0 ^^^ a := by unfold Nx; rw [Nat.xor_zero]
theorem Nx_lt {m x : Nat} (hm : m < 4294967296) (h : x < 4294967296) : Nx m x < 4294967296 := xor_small hm h
theorem ones_lt : ones < 4294967296 := by unfold ones; omega
theorem Nt_lt {x : Nat} (h : x < 4294967296) : Nt x < 4294967296 := Nx_lt ones_lt h
theorem moreV_lt {x : Nat} (bs : List UInt8) (h : x < 4294967296) : moreV x bs < 4294967296 := Nt_lt (F_lt bs (Nt_lt h))
theorem lessV_lt {x : Nat} (bs : List UInt8) (h : x < 4294967296) : lessV x bs < 4294967296 := Nt_lt (G_lt bs (Nt_lt h))
theorem sumV_lt (bs : List UInt8) : sumV bs < 4294967296 := moreV_lt bs (by omega)
theorem less_more {x : Nat} (bs : List UInt8) (h : x < 4294967296) : lessV (moreV x bs) bs = x := by
  unfold lessV moreV
  rw [Nt_Nt, G_F bs (Nt_lt h), Nt_Nt]
theorem more_less (x : Nat) (bs : List UInt8) : moreV (lessV x bs) bs = x := by
  unfold lessV moreV
  rw [Nt_Nt, F_G, Nt_Nt]
theorem more_append (x : Nat) (a b : List UInt8) : moreV x (a ++ b) = moreV (moreV x a) b := by
  unfold moreV
  rw [Nt_Nt, F_append]
theorem less_append (x : Nat) (a b : List UInt8) : lessV x (a ++ b) = lessV (lessV x b) a := by
  unfold lessV
  rw [Nt_Nt, G_append]
theorem more_nil (x : Nat) : moreV x [] = x := Nt_Nt x
theorem sum_append (a b : List UInt8) : sumV (a ++ b) = moreV (sumV a) b := more_append 0 a b
theorem sum_nil : sumV [] = 0 := Nt_Nt 0
theorem more_inj {x y : Nat} (bs : List UInt8) (hx : x < 4294967296) (hy : y < 4294967296) : moreV x bs = moreV y bs ↔ x = y := by
  constructor
  · intro h
    rw [← less_more bs hx, h, less_more bs hy]
  · rintro rfl; rfl
theorem less_inj {x y : Nat} (bs : List UInt8) : lessV x bs = lessV y bs ↔ x = y := by
  constructor
  · intro h
    rw [← more_less x bs, h, more_less]
  · rintro rfl; rfl
/-- a window's Sum by the row's Sums at its beginning and at its end -/
theorem window_sum (a b : List UInt8) : sumV b = sumV (a ++ b) ^^^ it (8 * b.length) H (sumV a) := by
  have h1 : sumV (a ++ b) = Nt (F (Nt (sumV a)) b) := by rw [sum_append]; rfl
  have h2 : Nt (sumV a) = Nt 0 ^^^ sumV a := Nx_zero ones (sumV a)
  have h3 : sumV b = Nt (F (Nt 0) b) := rfl
  rw [h1, h2, F_xor, h3]
  exact (Nx_xor ones (F (Nt 0) b) (it (8 * b.length) H (sumV a))).symm
theorem noughts (u n : Nat) : Nt (moreV (Nt u) (List.replicate n 0)) = it (8 * n) H u := by
  unfold moreV
  rw [Nt_Nt, Nt_Nt, F_zeros]

/-- four bytes of a number, the lowest first -/
def four (x : Nat) : List UInt8 := [UInt8.ofNat x, UInt8.ofNat (x / 256), UInt8.ofNat (x / 65536), UInt8.ofNat (x / 16777216)]
theorem H_even {z : Nat} (h : z % 2 = 0) : H z = z / 2 := by unfold H; rw [if_neg (by omega)]
theorem itH_shift (n z : Nat) : it n H (z * 2 ^ n) = z := by
  induction n generalizing z with
  | zero => simp [it]
  | succ n ih =>
    show it n H (H (z * 2 ^ (n + 1))) = z
    have h : z * 2 ^ (n + 1) = z * 2 ^ n * 2 := by rw [Nat.pow_succ, Nat.mul_assoc]
    rw [h, H_even (by omega), Nat.mul_div_cancel _ (by omega), ih]
theorem goIn_step (n r z c : Nat) : goIn (it n H (r ^^^ z)) c = it (n + 8) H (r ^^^ (z ^^^ c * 2 ^ n)) := by
  unfold goIn
  rw [it_add]
  congr 1
  rw [← Nat.xor_assoc, itH_xor n (r ^^^ z), itH_shift]
theorem xor_add {a b n : Nat} (ha : a < 2 ^ n) : a ^^^ b * 2 ^ n = a + b * 2 ^ n := by
  have h1 : a &&& b * 2 ^ n = 0 := by
    apply Nat.eq_of_testBit_eq
    intro i
    rw [Nat.testBit_and, Nat.zero_testBit, Nat.mul_comm, Nat.testBit_two_pow_mul]
    by_cases hi : n ≤ i
    · rw [Nat.testBit_lt_two_pow (Nat.lt_of_lt_of_le ha (Nat.pow_le_pow_right (by omega) hi))]; rfl
    · simp [hi]
  have h2 : a + b * 2 ^ n = b * 2 ^ n + a := Nat.add_comm _ _
  rw [h2, Nat.mul_comm b, Nat.two_pow_add_eq_or_of_lt ha]
  apply Nat.eq_of_testBit_eq
  intro i
  have h3 := congrArg (fun z => Nat.testBit z i) h1
  simp only [Nat.testBit_and, Nat.zero_testBit] at h3
  rw [Nat.mul_comm] at h3
  rw [Nat.testBit_xor, Nat.testBit_or]
  revert h3
  cases a.testBit i <;> cases (2 ^ n * b).testBit i <;> simp
theorem F_four (r : Nat) {x : Nat} (hx : x < 4294967296) : F r (four x) = it 32 H (r ^^^ x) := by
  have b0 : (UInt8.ofNat x).toNat = x % 256 := by simp
  have b1 : (UInt8.ofNat (x / 256)).toNat = x / 256 % 256 := by simp
  have b2 : (UInt8.ofNat (x / 65536)).toNat = x / 65536 % 256 := by simp
  have b3 : (UInt8.ofNat (x / 16777216)).toNat = x / 16777216 % 256 := by simp
  show goIn (goIn (goIn (goIn r _) _) _) _ = _
  rw [b0, b1, b2, b3]
  have e0 : goIn r (x % 256) = it 8 H (r ^^^ (x % 256)) := rfl
  rw [e0, goIn_step, goIn_step, goIn_step]
  congr 2
  rw [xor_add (n := 8) (by omega), xor_add (n := 8 + 8) (by omega), xor_add (n := 8 + 8 + 8) (by omega)]
  omega
theorem more_four {m x y : Nat} (hm : m < 4294967296) (hx : x < 4294967296) (hy : y < 4294967296) : moreV m (four x) = moreV m (four y) ↔ x = y := by
  constructor
  · intro h
    unfold moreV at h
    have h2 := congrArg Nt h
    rw [Nt_Nt, Nt_Nt, F_four _ hx, F_four _ hy] at h2
    have h3 := congrArg (it 32 D) h2
    rw [itD_itH 32 (xor_small (Nt_lt hm) hx), itD_itH 32 (xor_small (Nt_lt hm) hy)] at h3
    have h4 := congrArg (fun z => Nt m ^^^ z) h3
    simp only [← Nat.xor_assoc, Nat.xor_self, Nat.zero_xor] at h4
    exact h4
  · rintro rfl; rfl
end Go.Proofs.Ytkfggbafgjephaa
