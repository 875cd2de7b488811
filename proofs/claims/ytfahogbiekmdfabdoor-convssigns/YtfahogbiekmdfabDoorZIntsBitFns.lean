/-
  math/bits: Len64, LeadingZeros64, TrailingZeros64, OnesCount64.
-/
import Derived.Test.YtfahogbiekmdfabDoorZIntsParts
import Derived.Laws.Bits128
import Derived.Lib.Strings
import Derived.Lib.Slices
import Derived.Lib.Small
import Derived.Lib.Walk
set_option linter.unusedVariables false
set_option linter.unusedSimpArgs false
namespace Go.Proofs.YtfahogbiekmdfabDoor.Z
open Go.RowKit Ints
open Go.Lib (onesCount ctz)

/-- The table of lengths, at a byte. -/
theorem tab_len (j : Nat) (h : j < Lib.len8tab.size) : (Lib.len8tab[j].toNat : Int) = (Lib.bitLen j : Int) := by
  have hj : j < 256 := by have := Lib.len8tab_size; omega
  have e := Lib.len8_eq ⟨j, hj⟩
  unfold Lib.len8 at e
  simpa [h] using e

theorem len_leaf (x t : Int) (h0 : 0 ≤ x) (h1 : x ≤ 18446744073709551615) (k : Nat) (hk : k ≤ 56) (ht : t.toNat = x.toNat / 2 ^ k) (hx : 2 ^ k ≤ x.toNat ∨ k = 0) (ht2 : t.toNat < 256) :
    (Lib.bitLen x.toNat : Int) = (k : Int) + (Lib.bitLen t.toNat : Int) ∧ Lib.bitLen t.toNat ≤ 8 := by
  refine ⟨?_, Lib.bitLen_le t.toNat 8 (by omega) ht2⟩
  rcases hx with hx | rfl
  · rw [Lib.bitLen_shift k x.toNat hx (by omega), ← ht]; simp
  · rw [ht]; simp

set_option maxRecDepth 100000 in
set_option maxHeartbeats 2000000 in
theorem len64_calls (x : Int) (W : World) (h0 : 0 ≤ x) (h1 : x ≤ 18446744073709551615) :
    Calls Tryd.prog 41 #[.int .u64 x] W fun e W' => e = .returned (.int .i64 (Lib.bitLen x.toNat)) ∧ W' = W := by
  go_enter Tryd.func41, Tryd.ntmps41
  go_wp2
  all_goals have hsz := Lib.len8tab_size
  all_goals first
    | (exfalso; omega)
    | (go_ret
       refine ⟨congrArg Ending.returned (congrArg (Value.int IntKind.i64) ?_), rfl⟩
       simp only [tab_len, wrap64]
       first
         | (have l := len_leaf x (x / 4294967296 / 65536 / 256) h0 h1 56 (by omega) (by omega) (by omega) (by omega)
            omega)
         | (have l := len_leaf x (x / 4294967296 / 65536) h0 h1 48 (by omega) (by omega) (by omega) (by omega)
            omega)
         | (have l := len_leaf x (x / 4294967296 / 256) h0 h1 40 (by omega) (by omega) (by omega) (by omega)
            omega)
         | (have l := len_leaf x (x / 4294967296) h0 h1 32 (by omega) (by omega) (by omega) (by omega)
            omega)
         | (have l := len_leaf x (x / 65536 / 256) h0 h1 24 (by omega) (by omega) (by omega) (by omega)
            omega)
         | (have l := len_leaf x (x / 65536) h0 h1 16 (by omega) (by omega) (by omega) (by omega)
            omega)
         | (have l := len_leaf x (x / 256) h0 h1 8 (by omega) (by omega) (by omega) (by omega)
            omega)
         | (have l := len_leaf x x h0 h1 0 (by omega) (by omega) (by omega) (by omega)
            omega))

def lzI (x : Int) : Int := 64 - (Lib.bitLen x.toNat : Int)

set_option maxRecDepth 100000 in
theorem lead_calls (x : Int) (W : World) (h0 : 0 ≤ x) (h1 : x ≤ 18446744073709551615) :
    Calls Tryd.prog 25 #[.int .u64 x] W fun e W' => e = .returned (.int .i64 (lzI x)) ∧ W' = W := by
  have l := Lib.bitLen_le x.toNat 64 (by omega) (by omega)
  have C := hide (len64_calls x W h0 h1)
  have E : wrap64 (64 - (Lib.bitLen x.toNat : Int)) = lzI x := by unfold wrap64 lzI; clear C; omega
  clear h0 h1
  generalize Lib.bitLen x.toNat = b at *
  go_enter Tryd.func25, Tryd.ntmps25
  go_wp2_with (with_reducible refine (C.out).mono ?_; rintro e w1 ⟨rfl, rfl⟩)
  go_ret
  refine ⟨congrArg (fun z => Ending.returned (.int .i64 z)) ?_, rfl⟩
  first
    | exact E
    | (rw [← E]; done)
    | (rw [← E]; unfold wrap64; omega)

def tzI (x : Int) : Int := (ctz 64 x.toNat : Int)

set_option maxRecDepth 100000 in
set_option maxHeartbeats 1000000 in
theorem tz_core (x k idx : Nat) (W : World) (hx0 : ((x : Int) == 0) = false)
    (key : IntKind.u64.wrap (bits BinOp.and IntKind.u64 (x : Int) (IntKind.u64.wrap (-(x : Int))) * 285870213051353865) / 288230376151711744 = (idx : Int))
    (hi : idx < 64) (hk : k < 64) (hcell : W.cell? ⟨0, idx, none⟩ = some (.int .u8 k)) :
    Calls Tryd.prog 26 #[.int .u64 x] W fun e W' => e = .returned (.int .i64 k) ∧ W' = W := by
  go_enter Tryd.func26, Tryd.ntmps26
  go_wp2_with (simp only [key])
  go_ret
  exact ⟨rfl, rfl⟩

theorem tz_zero (W : World) : Calls Tryd.prog 26 #[.int .u64 0] W fun e W' => e = .returned (.int .i64 64) ∧ W' = W := by
  go_enter Tryd.func26, Tryd.ntmps26
  go_wp2
  go_ret
  exact ⟨rfl, rfl⟩

theorem trail_calls (x : Int) (W : World) (h0 : 0 ≤ x) (h1 : x < 18446744073709551616) (hT : Tabs W) :
    Calls Tryd.prog 26 #[.int .u64 x] W fun e W' => e = .returned (.int .i64 (tzI x)) ∧ W' = W := by
  obtain ⟨n, rfl⟩ := Int.eq_ofNat_of_zero_le h0
  unfold tzI
  simp only [Int.toNat_natCast]
  by_cases hx0 : n = 0
  · subst hx0
    exact tz_zero W
  · obtain ⟨hlow, hk⟩ := Lib.lowest_bit 64 n hx0 (by omega)
    obtain ⟨hi, htab⟩ := Lib.deBruijn64_at _ hk
    have hcell := hT.lowest _ hi
    rw [htab] at hcell
    exact tz_core n _ _ W (by simp; omega) (tz64_key n _ (by omega) hx0 hlow) hi hk hcell

def pcI (x : Int) : Int := (onesCount x.toNat : Int)

theorem low_seven (y c : Nat) (h : y % 128 = c) : bits .and .i64 (wrap64 (y : Int)) 127 = (c : Int) := by
  rw [i64_and127]
  unfold wrap64
  omega

theorem s_lt (x : Nat) (hx : x < 18446744073709551616) : s1 6148914691236517205 x < 18446744073709551616 ∧ s2 3689348814741910323 (s1 6148914691236517205 x) < 18446744073709551616 ∧ s2 3689348814741910323 (s1 6148914691236517205 x) / 16 + s2 3689348814741910323 (s1 6148914691236517205 x) < 18446744073709551616 := by
  have a : ∀ n m : Nat, n &&& m ≤ m := fun n m => Nat.and_le_right
  have h1 : s1 6148914691236517205 x ≤ 6148914691236517205 + 6148914691236517205 := Nat.add_le_add (a _ _) (a _ _)
  have h2 : s2 3689348814741910323 (s1 6148914691236517205 x) ≤ 3689348814741910323 + 3689348814741910323 := Nat.add_le_add (a _ _) (a _ _)
  omega

set_option maxRecDepth 100000 in
set_option maxHeartbeats 2000000 in
theorem ones_calls (x : Int) (W : World) (h0 : 0 ≤ x) (h1 : x < 18446744073709551616) :
    Calls Tryd.prog 27 #[.int .u64 x] W fun e W' => e = .returned (.int .i64 (pcI x)) ∧ W' = W := by
  obtain ⟨n, rfl⟩ := Int.eq_ofNat_of_zero_le h0
  have hn : n < 18446744073709551616 := by omega
  obtain ⟨l1, l2, l3⟩ := s_lt n hn
  have hs := (s_all 8 n (by omega)).1
  rw [rep85, rep51, rep15] at hs
  obtain ⟨y4, y5, g1, g2, g3, g4, g5, g6⟩ := sums_pop n hn
  have ha : ∀ a b : Nat, a < 18446744073709551616 → b < 18446744073709551616 → bits .and .u64 (a : Int) (b : Int) = ((a &&& b : Nat) : Int) := bits_and_u64_nat
  have e1 : IntKind.u64.wrap (bits .and .u64 ((n : Int) / 2) 6148914691236517205 + bits .and .u64 (n : Int) 6148914691236517205) = ((s1 6148914691236517205 n : Nat) : Int) := by
    have u := ha (n / 2) 6148914691236517205 (by omega) (by decide)
    have v := ha n 6148914691236517205 (by omega) (by decide)
    have eu : bits .and .u64 ((n : Int) / 2) 6148914691236517205 = ((n / 2 &&& 6148914691236517205 : Nat) : Int) := u
    have ev : bits .and .u64 (n : Int) 6148914691236517205 = ((n &&& 6148914691236517205 : Nat) : Int) := v
    rw [eu, ev, IntKind.wrap_u64]
    unfold s1 at l1 ⊢
    omega
  generalize s1 6148914691236517205 n = y1 at *
  have e2 : IntKind.u64.wrap (bits .and .u64 ((y1 : Int) / 4) 3689348814741910323 + bits .and .u64 (y1 : Int) 3689348814741910323) = ((s2 3689348814741910323 y1 : Nat) : Int) := by
    have eu : bits .and .u64 ((y1 : Int) / 4) 3689348814741910323 = ((y1 / 4 &&& 3689348814741910323 : Nat) : Int) := ha (y1 / 4) 3689348814741910323 (by omega) (by decide)
    have ev : bits .and .u64 (y1 : Int) 3689348814741910323 = ((y1 &&& 3689348814741910323 : Nat) : Int) := ha y1 3689348814741910323 (by omega) (by decide)
    rw [eu, ev, IntKind.wrap_u64]
    unfold s2 at l2 ⊢
    omega
  generalize s2 3689348814741910323 y1 = y2 at *
  have e3 : bits .and .u64 (IntKind.u64.wrap ((y2 : Int) / 16 + (y2 : Int))) 1085102592571150095 = ((s3 1085102592571150095 y2 : Nat) : Int) := by
    have e : IntKind.u64.wrap ((y2 : Int) / 16 + (y2 : Int)) = ((y2 / 16 + y2 : Nat) : Int) := by rw [IntKind.wrap_u64]; omega
    rw [e]
    exact ha (y2 / 16 + y2) 1085102592571150095 (by omega) (by decide)
  rw [hs] at e3
  clear hs l1 l2 l3 ha
  generalize sums 8 n = y3 at *
  have e4 : IntKind.u64.wrap ((y3 : Int) + (y3 : Int) / 256) = (y4 : Int) := by rw [IntKind.wrap_u64]; omega
  have e5 : IntKind.u64.wrap ((y4 : Int) + (y4 : Int) / 65536) = (y5 : Int) := by rw [IntKind.wrap_u64]; omega
  obtain ⟨y6, e6⟩ : ∃ y6, y6 = y5 + y5 / 4294967296 := ⟨_, rfl⟩
  rw [← e6] at g5 g6
  have e6 : IntKind.u64.wrap ((y5 : Int) + (y5 : Int) / 4294967296) = (y6 : Int) := by rw [IntKind.wrap_u64]; omega
  have e7 : bits .and .i64 (wrap64 (y6 : Int)) 127 = pcI (n : Int) := low_seven y6 _ g6
  clear g1 g2 g3 g4 g5 g6 hn h0 h1
  generalize (n : Int) = z0 at *
  generalize (y1 : Int) = z1 at *
  generalize (y2 : Int) = z2 at *
  generalize (y3 : Int) = z3 at *
  generalize (y4 : Int) = z4 at *
  generalize (y5 : Int) = z5 at *
  generalize (y6 : Int) = z6 at *
  go_enter Tryd.func27, Tryd.ntmps27
  go_wp2
  go_ret
  exact ⟨rfl, rfl⟩
end Go.Proofs.YtfahogbiekmdfabDoor.Z
