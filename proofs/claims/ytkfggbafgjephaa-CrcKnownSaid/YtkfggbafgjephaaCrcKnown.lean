/- CrcKnown: the closed law returns true, and turns nothing that was there. -/
import Derived.Test.YtkfggbafgjephaaCrcWindows
import Derived.Test.YtkfggbafgjephaaCrcHalves
import Derived.Test.YtkfggbafgjephaaCrcBack
namespace Go.Proofs.Ytkfggbafgjephaa
open Go.RowKit

theorem halves_i (x : Int) (A : Option Addr) (n c : Nat) (bs : List UInt8) (w : World) (h0 : 0 ≤ x) (h1 : x < 4294967296) (hB : Bts w A n bs) (hn : n ≤ maxLen) :
    Calls Try.prog 3 #[.int .u32 x, .slice A n c] w fun e w' => e = .returned (.bool true) ∧ Below w.heap.size w w' := by
  obtain ⟨k, rfl⟩ := Int.eq_ofNat_of_zero_le h0
  exact halves_any k A n c bs w (by omega) hB hn
theorem back_i (x : Int) (A1 A2 : Option Addr) (n1 c1 n2 c2 : Nat) (xs bs : List UInt8) (w : World) (h0 : 0 ≤ x) (h1 : x < 4294967296) (hA : Bts w A1 n1 xs) (hB : Bts w A2 n2 bs) (hm1 : n1 ≤ maxLen) (hm2 : n2 ≤ maxLen)
    (hn1 : A1 = none → c1 = 0) (hn2 : A2 = none → c2 = 0) :
    Calls Try.prog 6 #[.int .u32 x, .slice A1 n1 c1, .slice A2 n2 c2] w fun e w' => e = .returned (.bool true) ∧ Below w.heap.size w w' := by
  obtain ⟨k, rfl⟩ := Int.eq_ofNat_of_zero_le h0
  exact back_any k A1 A2 n1 c1 n2 c2 xs bs w (by omega) hA hB hm1 hm2 hn1 hn2
theorem unlikes_i (m n : Int) (A : Option Addr) (l c : Nat) (bs : List UInt8) (x y : Int) (w : World) (m0 : 0 ≤ m) (m1 : m < 4294967296) (n0 : 0 ≤ n) (n1 : n < 4294967296) (x0 : 0 ≤ x) (x1 : x < 4294967296) (y0 : 0 ≤ y) (y1 : y < 4294967296)
    (hB : Bts w A l bs) (hl : l ≤ maxLen) :
    Calls Try.prog 7 #[.int .u32 m, .int .u32 n, .slice A l c, .int .u32 x, .int .u32 y] w fun e w' => e = .returned (.bool true) ∧ Below w.heap.size w w' := by
  obtain ⟨m', rfl⟩ := Int.eq_ofNat_of_zero_le m0
  obtain ⟨n', rfl⟩ := Int.eq_ofNat_of_zero_le n0
  obtain ⟨x', rfl⟩ := Int.eq_ofNat_of_zero_le x0
  obtain ⟨y', rfl⟩ := Int.eq_ofNat_of_zero_le y0
  exact unlikes_any m' n' A l c bs x' y' w (by omega) (by omega) (by omega) (by omega) hB hl
theorem turns_i (A1 A2 : Option Addr) (n1 c1 n2 c2 : Nat) (wd : Int) (bs xs : List UInt8) (w : World) (hB : Bts w A1 n1 bs) (hA : Bts w A2 n2 xs) (hn1 : A1 = none → c1 = 0) (hn2 : A2 = none → c2 = 0) (h0 : 0 ≤ wd) (h1 : wd < 256) :
    Calls Try.prog 8 #[.slice A1 n1 c1, .slice A2 n2 c2, .int .u8 wd] w fun e w' => e = .returned (.bool true) ∧ Below w.heap.size w w' := by
  obtain ⟨k, rfl⟩ := Int.eq_ofNat_of_zero_le h0
  exact turns_any A1 A2 n1 c1 n2 c2 k bs xs w hB hA hn1 hn2 (by omega)
theorem slides_i (A : Option Addr) (n c : Nat) (wd : Int) (bs : List UInt8) (w : World) (hB : Bts w A n bs) (hnc : n ≤ c) (hc : c ≤ maxLen) (h0 : 0 ≤ wd) (h1 : wd < 65536) :
    Calls Try.prog 5 #[.slice A n c, .int .u16 wd] w fun e w' => e = .returned (.bool true) ∧ Below w.heap.size w w' := by
  obtain ⟨k, rfl⟩ := Int.eq_ofNat_of_zero_le h0
  exact slides_any A n c k bs w hB hnc hc (by omega)

/-- a block whose cells are bytes reads as some bytes, from any place on -/
theorem bts_block {W : World} {g off n : Nat} {cs : Array Value} {t : TypeId} {fr : Nat × Nat} (h : W.heap[g]? = some (.cells cs t fr))
    (hall : ∀ j, off ≤ j → j < off + n → ∃ z : Int, cs[j]? = some (.int .u8 z) ∧ 0 ≤ z ∧ z < 256) : ∃ bs, Bts W (some ⟨g, off, none⟩) n bs := by
  induction n with
  | zero => exact ⟨[], rfl, fun k c hk => by simp at hk⟩
  | succ n ih =>
    obtain ⟨bs, hB⟩ := ih fun j h1 h2 => hall j h1 (by omega)
    obtain ⟨z, hz, h0, h1⟩ := hall (off + n) (by omega) (by omega)
    refine ⟨bs ++ [UInt8.ofNat z.toNat], by rw [List.length_append, hB.1]; rfl, fun k c hk => ?_⟩
    have hl := hB.1
    rw [List.getElem?_append] at hk
    split at hk
    · exact hB.2 k c hk
    · rename_i hge
      have hkn : k = n := by
        rcases Nat.lt_or_ge n k with hlt | hle
        · rw [List.getElem?_eq_none (by simp; omega)] at hk
          cases hk
        · omega
      subst hkn
      rw [hl, Nat.sub_self] at hk
      injection hk with hk
      subst hk
      have hadd : (⟨g, off, none⟩ : Addr).add k = ⟨g, off + k, none⟩ := by
        unfold Addr.add
        split
        · rename_i e; rw [e]; rfl
        · rfl
      refine ⟨⟨g, off, none⟩, rfl, (Array.getElem?_eq_some_iff.1 h).1, ?_⟩
      rw [hadd, cell_of_row W g (off + k) cs t fr h, hz]
      have e : ((UInt8.ofNat z.toNat).toNat : Int) = z := by rw [byte_of]; omega
      rw [e]
theorem bts_one {W : World} {g : Nat} {z : Int} {t : TypeId} {fr : Nat × Nat} (h : W.heap[g]? = some (.cells #[.int .u8 z] t fr)) (h0 : 0 ≤ z) (h1 : z < 256) : ∃ bs, Bts W (some ⟨g, 0, none⟩) 1 bs :=
  bts_block h fun j _ h2 => by
    obtain rfl : j = 0 := by omega
    exact ⟨z, rfl, h0, h1⟩
theorem bts_two {W : World} {g : Nat} {z y : Int} {t : TypeId} {fr : Nat × Nat} (h : W.heap[g]? = some (.cells #[.int .u8 z, .int .u8 y] t fr)) (h0 : 0 ≤ z) (h1 : z < 256) (h2 : 0 ≤ y) (h3 : y < 256) : ∃ bs, Bts W (some ⟨g, 0, none⟩) 2 bs :=
  bts_block h fun j _ hj => by
    have hh : j = 0 ∨ j = 1 := by omega
    rcases hh with rfl | rfl
    · exact ⟨z, rfl, h0, h1⟩
    · exact ⟨y, rfl, h2, h3⟩
theorem bts_three {W : World} {g : Nat} {z y x : Int} {t : TypeId} {fr : Nat × Nat} (h : W.heap[g]? = some (.cells #[.int .u8 z, .int .u8 y, .int .u8 x] t fr)) (h0 : 0 ≤ z) (h1 : z < 256) (h2 : 0 ≤ y) (h3 : y < 256) (h4 : 0 ≤ x) (h5 : x < 256) :
    ∃ bs, Bts W (some ⟨g, 0, none⟩) 3 bs :=
  bts_block h fun j _ hj => by
    have hh : j = 0 ∨ j = 1 ∨ j = 2 := by omega
    rcases hh with rfl | rfl | rfl
    · exact ⟨z, rfl, h0, h1⟩
    · exact ⟨y, rfl, h2, h3⟩
    · exact ⟨x, rfl, h4, h5⟩

/-- the text abcdefghijk lies in block g -/
def Txt (W : World) (g : Nat) : Prop := ∀ off n, off + n ≤ 11 → ∃ bs, Bts W (some ⟨g, off, none⟩) n bs
theorem Txt.new {W : World} {g : Nat} {t : TypeId} {fr : Nat × Nat}
    (h : W.heap[g]? = some (.cells #[.int .u8 97, .int .u8 98, .int .u8 99, .int .u8 100, .int .u8 101, .int .u8 102, .int .u8 103, .int .u8 104, .int .u8 105, .int .u8 106, .int .u8 107] t fr)) : Txt W g := fun off n hn => by
  refine bts_block h fun j _ hj => ?_
  have hh : j = 0 ∨ j = 1 ∨ j = 2 ∨ j = 3 ∨ j = 4 ∨ j = 5 ∨ j = 6 ∨ j = 7 ∨ j = 8 ∨ j = 9 ∨ j = 10 := by omega
  rcases hh with rfl | rfl | rfl | rfl | rfl | rfl | rfl | rfl | rfl | rfl | rfl <;> exact ⟨_, rfl, by decide, by decide⟩
theorem Txt.below {W W' : World} {g : Nat} (h : Txt W g) (hb : Below W.heap.size W W') : Txt W' g := fun off n hn => by
  obtain ⟨bs, hB⟩ := h off n hn
  exact ⟨bs, hB.below hb⟩

theorem not_byte (k : Nat) (hk : k < 256) : 0 ≤ bits .xor .u8 IntKind.u8.max (k : Int) ∧ bits .xor .u8 IntKind.u8.max (k : Int) < 256 := by
  have e : IntKind.u8.max = ((255 : Nat) : Int) := by decide
  rw [e, u8_xor_nat 255 k (by omega) hk]
  have := Nat.xor_lt_two_pow (n := 8) (x := 255) (y := k) (by omega) hk
  omega
theorem wrap_in (z : Int) : 0 ≤ IntKind.u32.wrap z ∧ IntKind.u32.wrap z < 4294967296 := by
  rw [IntKind.wrap_u32']
  omega
theorem wrap16_in (z : Int) : 0 ≤ IntKind.u16.wrap z ∧ IntKind.u16.wrap z < 65536 := by
  rw [IntKind.wrap_u16]
  omega
theorem k3 : (((sumV [49, 50, 51, 52, 53, 54, 55, 56, 57] : Nat) : Int) == 3808858755) = true := by decide +kernel
theorem k4 : (((sumV [] : Nat) : Int) == 0) = true := by decide +kernel
theorem k5 : (((sumV [0] : Nat) : Int) == 1383945041) = true := by decide +kernel
theorem k6 : (((moreV 4294967294 [0] : Nat) : Int) == 227835132) = true := by decide +kernel
theorem u8_plain : IntKind.u8.signed = false := rfl

set_option maxRecDepth 100000 in
set_option maxHeartbeats 1600000 in
theorem known_any (w : World) : Calls Try.prog 9 #[] w fun e w' => e = .returned (.bool true) ∧ Below w.heap.size w w' := by
  have kc := fun (w : World) (C : Array Value) (n c : Nat) => Lib.run_convert_bytes_const (P := Try.prog) w 23 5 C n c Try.underlying23 Try.underlying5
  have hM : (11 : Nat) ≤ maxLen := by unfold maxLen; omega
  have hM' := Lib.hid hM
  clear hM
  go_enter Try.func9, Try.ntmps9
  go_wp2_with fail
  generalize hW1 : w.alloc (.cells _ 5 (11, 12)) = w1
  have hb1 : Below w.heap.size w w1 := by rw [← hW1]; exact (Below.refl _ _).alloc (Nat.le_refl _) _
  have hT : Txt w1 w.heap.size := by rw [← hW1]; exact Txt.new (heap_alloc_new w _)
  clear hW1
  go_loopw [2] (fun i wr => ∃ k : Nat, k ≤ 256 ∧ i = .int .i64 (k : Int) ∧ Below w1.heap.size w1 wr) (fun i _ => 256 - (intOf i).toNat)
  case atStart => exact ⟨0, by omega, rfl, Below.refl _ _⟩
  case round =>
    obtain ⟨k, hk, rfl, hbel⟩ := hrel
    by_cases hlt : k < 256
    · have hT' := Lib.hid (hT.below hbel)
      have hz := hbel.size
      have hsg := u8_plain
      obtain ⟨n0, n1⟩ := not_byte k hlt
      go_wp2_with fail
      obtain ⟨y1, hy1⟩ := bts_one (heap_alloc_new wr (.cells #[.int .u8 (k : Int)] 5)) (by omega) (by omega)
      refine (halves_i _ _ 1 1 y1 _ (by omega) (by omega) hy1 (by unfold maxLen; omega)).mono ?_
      rintro e w2 ⟨rfl, hb2⟩
      have hbel2 : Below w1.heap.size w1 w2 := (hbel.alloc hz _).trans (hb2.mono (by simp; omega))
      have hz2 := hbel2.size
      clear hb2 hy1
      have j1 : (0 : Int) ≤ (k : Int) % 12 := by omega
      have j2 : (k : Int) % 12 ≤ 11 := by omega
      have j3 : ((k : Int) % 12).toNat = k % 12 := by omega
      go_wp2_with fail
      obtain ⟨y2, hy2⟩ := bts_two (W := (w2.alloc (.cells #[.int .u8 (k : Int), .int .u8 1] 5)).alloc (.cells #[.int .u8 (bits .xor .u8 IntKind.u8.max (k : Int))] 5)) (heap_alloc2_old w2 _ _) (by omega) (by omega) (by omega) (by omega)
      obtain ⟨y3, hy3⟩ := bts_one (heap_alloc2_new w2 (.cells #[.int .u8 (k : Int), .int .u8 1] 5) (.cells #[.int .u8 (bits .xor .u8 IntKind.u8.max (k : Int))] 5)) n0 n1
      refine (back_i _ _ _ 2 2 1 1 y2 y3 _ (by omega) (by omega) hy2 hy3 (by unfold maxLen; omega) (by unfold maxLen; omega) (fun e => by cases e) (fun e => by cases e)).mono ?_
      rintro e w3 ⟨rfl, hb3⟩
      have hbel3 : Below w1.heap.size w1 w3 := ((hbel2.alloc hz2 _).alloc (by simp; omega) _).trans (hb3.mono (by simp; omega))
      have hz3 := hbel3.size
      clear hb3 hy2 hy3
      go_wp2_with fail
      obtain ⟨y4, hy4⟩ := (hT.below hbel3) 0 (k % 12) (by omega)
      refine (unlikes_i _ _ _ _ _ y4 _ _ _ (by omega) (by omega) (by omega) (by omega) (by omega) (by omega) (by omega) (by omega) hy4 (by unfold maxLen; omega)).mono ?_
      rintro e w4 ⟨rfl, hb4⟩
      have hbel4 : Below w1.heap.size w1 w4 := hbel3.trans (hb4.mono hz3)
      have hz4 := hbel4.size
      clear hb4 hy4
      go_wp2_with fail
      obtain ⟨y5, hy5⟩ := bts_three (heap_alloc_new w4 (.cells #[.int .u8 (k : Int), .int .u8 97, .int .u8 (k : Int)] 5)) (by omega) (by omega) (by omega) (by omega) (by omega) (by omega)
      obtain ⟨y6, hy6⟩ := (hT.below (hbel4.alloc hz4 (.cells #[.int .u8 (k : Int), .int .u8 97, .int .u8 (k : Int)] 5))) 0 (k % 12) (by omega)
      refine (turns_i _ _ 3 3 _ _ _ y5 y6 _ hy5 hy6 (fun e => by cases e) (fun e => by cases e) (by omega) (by omega)).mono ?_
      rintro e w5 ⟨rfl, hb5⟩
      have hbel5 : Below w1.heap.size w1 w5 := (hbel4.alloc hz4 _).trans (hb5.mono (by simp; omega))
      clear hb5 hy5 hy6
      go_wp2_with fail
      go_roundw
      case rel => exact ⟨k + 1, by omega, by go_num, hbel5⟩
      case measure => simp [intOf]; omega
    · go_wp2_with fail
      go_loopw [4] (fun i wr => ∃ k : Nat, k ≤ 32 ∧ i = .int .i64 (k : Int) ∧ Below w1.heap.size w1 wr) (fun i _ => 32 - (intOf i).toNat)
      case atStart => exact ⟨0, by omega, rfl, hbel⟩
      case round =>
        clear hbel hlt hk
        obtain ⟨k, hk, rfl, hbel⟩ := hrel
        by_cases hlt : k < 32
        · have hz := hbel.size
          have j1 : (0 : Int) ≤ (k : Int) := by omega
          have j2 : (k : Int) < 32 := by omega
          have m11 : (k : Int).tmod 11 = (k : Int) % 11 := Int.tmod_eq_emod_of_nonneg j1
          have m12 : (k : Int).tmod 12 = (k : Int) % 12 := Int.tmod_eq_emod_of_nonneg j1
          have m14 : (k : Int).tmod 14 = (k : Int) % 14 := Int.tmod_eq_emod_of_nonneg j1
          have j3 : ((k : Int) % 11).toNat = k % 11 := by omega
          have j4 : ((k : Int) % 12).toNat = k % 12 := by omega
          have j5 : (0 : Int) ≤ (k : Int) % 11 := by omega
          have j6 : (k : Int) % 11 ≤ 11 := by omega
          have j7 : (0 : Int) ≤ (k : Int) % 12 := by omega
          have j8 : (k : Int) % 12 ≤ 11 := by omega
          have j9 : ¬ 11 = k % 11 := by omega
          have j10 : IntKind.i64.wrap ((k : Int) % 14 - 1) = (k : Int) % 14 - 1 := IntWalk.i64_in _ (by omega)
          have hd : Below w1.heap.size w1 wr.drew := hbel.drew
          obtain ⟨y1, hy1⟩ := (hT.below hd) (k % 11) (11 - k % 11) (by omega)
          go_wp2_with fail
          go_region_held3 (fun w' => Below w1.heap.size w1 w')
            (first | exact hd | exact hd2 | exact hd3 | exact hd4 | exact hd5)
            (first
              | (go_at_call 3; refine (halves_i _ _ _ _ y1 _ (wrap_in _).1 (wrap_in _).2 (by exact hy1) (by unfold maxLen; omega)).mono ?_; rintro e w2 ⟨rfl, hb2⟩; have hd2 : Below w1.heap.size w1 w2 := hd.trans (hb2.mono hd.size); obtain ⟨y2, hy2⟩ := (hT.below hd2) 0 11 (by omega))
              | (go_at_call 7; refine (unlikes_i _ _ _ _ _ y2 _ _ _ (wrap_in _).1 (wrap_in _).2 (by omega) (by omega) (wrap_in _).1 (wrap_in _).2 (by omega) (by omega) (by exact hy2) (by unfold maxLen; omega)).mono ?_; rintro e w3 ⟨rfl, hb3⟩; have hd3 : Below w1.heap.size w1 w3 := hd2.trans (hb3.mono hd2.size); obtain ⟨y3, hy3⟩ := (hT.below hd3) 0 (k % 12) (by omega))
              | (go_at_call 4; refine (windowsLaw_any _ _ _ _ y3 _ (by exact hy3) (by omega) hM'.out (by omega)).mono ?_; rintro e w4 ⟨rfl, hb4⟩; have hd4 : Below w1.heap.size w1 w4 := hd3.trans (hb4.mono hd3.size); obtain ⟨y4, hy4⟩ := (hT.below hd4) (k % 11) (11 - k % 11) (by omega))
              | (go_at_call 5; refine (slides_i _ _ _ _ y4 _ (by exact hy4) (by omega) (by unfold maxLen; omega) (wrap16_in _).1 (wrap16_in _).2).mono ?_; rintro e w5 ⟨rfl, hb5⟩; have hd5 : Below w1.heap.size w1 w5 := hd4.trans (hb5.mono hd4.size)))
          go_wp2_with fail
          go_roundw
          case rel => exact ⟨k + 1, by omega, by go_num, hd5⟩
          case measure => simp [intOf]; omega
        · have hz := hbel.size
          go_wp2_with fail
          have hc : ∀ m, m < 7 → ∃ z : Int, (wr.alloc (.cells #[.int .i64 (-9223372036854775808), .int .i64 (-1), .int .i64 0, .int .i64 1, .int .i64 11, .int .i64 12, .int .i64 9223372036854775807] 3)).cell? ⟨wr.heap.size, m, none⟩ = some (.int .i64 z) ∧ z ≤ 9223372036854775807 := by
            intro m hm
            have hh := cell_of_row (wr.alloc _) wr.heap.size m _ _ _ (heap_alloc_new wr (.cells #[.int .i64 (-9223372036854775808), .int .i64 (-1), .int .i64 0, .int .i64 1, .int .i64 11, .int .i64 12, .int .i64 9223372036854775807] 3))
            have h7 : m = 0 ∨ m = 1 ∨ m = 2 ∨ m = 3 ∨ m = 4 ∨ m = 5 ∨ m = 6 := by omega
            rcases h7 with rfl | rfl | rfl | rfl | rfl | rfl | rfl <;> exact ⟨_, hh, by decide⟩
          have hb3 : Below w1.heap.size w1 (wr.alloc (.cells #[.int .i64 (-9223372036854775808), .int .i64 (-1), .int .i64 0, .int .i64 1, .int .i64 11, .int .i64 12, .int .i64 9223372036854775807] 3)) := hbel.alloc hz _
          have hs3 : wr.heap.size < (wr.alloc (.cells #[.int .i64 (-9223372036854775808), .int .i64 (-1), .int .i64 0, .int .i64 1, .int .i64 11, .int .i64 12, .int .i64 9223372036854775807] 3)).heap.size := by simp
          generalize wr.alloc (.cells #[.int .i64 (-9223372036854775808), .int .i64 (-1), .int .i64 0, .int .i64 1, .int .i64 11, .int .i64 12, .int .i64 9223372036854775807] 3) = w3 at *
          have hc' := Lib.hid hc
          clear hc hbel
          generalize wr.heap.size = g3 at *
          go_loopw [108] (fun i wr => ∃ k : Nat, k ≤ 7 ∧ i = .int .i64 (k : Int) ∧ Below w3.heap.size w3 wr) (fun i _ => 7 - (intOf i).toNat)
          case atStart => exact ⟨0, by omega, rfl, Below.refl _ _⟩
          case round =>
            obtain ⟨m, hm, rfl, hbel⟩ := hrel
            by_cases hlt7 : m < 7
            · obtain ⟨z, hz1, hz2⟩ := hc'.out m hlt7
              have hcell := (hbel.cell (p := ⟨g3, m, none⟩) hs3).trans hz1
              have hz2' := Lib.hid hz2
              have hd1 : Below w1.heap.size w1 wr := hb3.trans (hbel.mono hb3.size)
              obtain ⟨y1, hy1⟩ := (hT.below hd1) 0 11 (by omega)
              clear hz1 hz2
              go_wp2_with fail
              refine (windowsLaw_any _ _ _ _ y1 _ hy1 (by omega) hM'.out hz2'.out).mono ?_
              rintro e w4 ⟨rfl, hb4⟩
              go_wp2_with fail
              refine (windowsLaw_any none 0 0 _ [] _ (Bts.none_ _) (by omega) (by omega) hz2'.out).mono ?_
              rintro e w5 ⟨rfl, hb5⟩
              have hbel5 : Below w3.heap.size w3 w5 := (hbel.trans (hb4.mono hbel.size)).trans (hb5.mono (Nat.le_trans hbel.size hb4.size))
              go_wp2_with fail
              go_roundw
              case rel => exact ⟨m + 1, by omega, by go_num, hbel5⟩
              case measure => simp [intOf]; omega
            · have hd1 : Below w.heap.size w wr := (hb1.trans (hb3.mono hb1.size)).trans (hbel.mono (Nat.le_trans hb1.size hb3.size))
              have kk3 := k3
              have kk4 := k4
              have kk5 := k5
              have kk6 := k6
              go_wp2_with fail
              refine (sum_any _ 9 9 [49, 50, 51, 52, 53, 54, 55, 56, 57] _ (Bts.of_block (heap_alloc_new wr _) rfl rfl) (by unfold maxLen; omega)).mono ?_
              rintro e w4 ⟨rfl, hw⟩
              have hd2 : Below w.heap.size w w4 := by rw [← hw]; exact hd1.alloc hd1.size _
              clear hw hd1 kc
              go_wp2_with fail
              refine (sum_any none 0 0 [] w4 (Bts.none_ _) (by unfold maxLen; omega)).mono ?_
              rintro e w5 ⟨rfl, rfl⟩
              go_wp2_with fail
              refine (sum_any _ 1 1 [0] _ (Bts.of_block (heap_alloc_new w4 _) rfl rfl) (by unfold maxLen; omega)).mono ?_
              rintro e w5 ⟨rfl, hw⟩
              have hd3 : Below w.heap.size w w5 := by rw [← hw]; exact hd2.alloc hd2.size _
              clear hw hd2
              go_wp2_with fail
              refine (more_any 4294967294 _ 1 1 [0] _ (by omega) (Bts.of_block (heap_alloc_new w5 _) rfl rfl) (by unfold maxLen; omega)).mono ?_
              rintro e w6 ⟨rfl, hw⟩
              have hd4 : Below w.heap.size w w6 := by rw [← hw]; exact hd3.alloc hd3.size _
              clear hw hd3
              go_wp2_with fail
              refine (works_any _).mono ?_
              rintro e w7 ⟨rfl, hb7⟩
              go_wp2_with fail
              go_ret
              exact ⟨rfl, hd4.trans (hb7.mono hd4.size)⟩
end Go.Proofs.Ytkfggbafgjephaa
