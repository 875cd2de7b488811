/-
  ZIntsBitFns, ZIntsOne, ZIntsROne.
-/
import Derived.Test.YtoihfmammmkloaaDoorPkInts
import Derived.Laws.Bits128
import Derived.Lib.Strings
import Derived.Lib.Slices
import Derived.Lib.Small
import Derived.Lib.Walk
import Derived.Test.YtoihfmammmkloaaDoorZIntsTwoP
import Derived.Test.YtoihfmammmkloaaDoorPkRTwo
/-
  math/bits: Len64, LeadingZeros64, TrailingZeros64, OnesCount64.
-/
set_option linter.unusedVariables false
set_option linter.unusedSimpArgs false
namespace Go.Proofs.YtoihfmammmkloaaDoor.Z
open Go.RowKit Ints
open Go.Lib (onesCount ctz)

/-- The table of lengths, at a byte. -/
theorem tab_len (j : Nat) (h : j < Lib.len8tab.size) : (Lib.len8tab[j].toNat : Int) = (Lib.bitLen j : Int) := by
  have hj : j < 256 := by have := Lib.len8tab_size; omega
  have e := Lib.len8_eq ⟨j, hj⟩
  unfold Lib.len8 at e
  simpa [h] using e

theorem len_leaf (x t : Int) (h0 : 0 ≤ x) (h1 : x ≤ 18446744073709551615) (k : Nat) (hk : k ≤ 56) (ht : t.toNat = x.toNat / 2 ^ k) (hx : 2 ^ k ≤ x.toNat ∨ k = 0) (ht2 : t.toNat < 256) :
    (Lib.bitLen x.toNat : Int) = (k : Int) + (Lib.bitLen t.toNat : Int) ∧ Lib.bitLen t.toNat ≤ 8 := by
  refine ⟨?_, Lib.bitLen_le t.toNat 8 (by omega) ht2⟩
  rcases hx with hx | rfl
  · rw [Lib.bitLen_shift k x.toNat hx (by omega), ← ht]; simp
  · rw [ht]; simp

set_option maxRecDepth 100000 in
set_option maxHeartbeats 2000000 in
theorem len64_calls (x : Int) (W : World) (h0 : 0 ≤ x) (h1 : x ≤ 18446744073709551615) :
    Calls Tryd.prog 106 #[.int .u64 x] W fun e W' => e = .returned (.int .i64 (Lib.bitLen x.toNat)) ∧ W' = W := by
  go_enter Tryd.func106, Tryd.ntmps106
  go_wp2
  all_goals have hsz := Lib.len8tab_size
  all_goals first
    | (exfalso; omega)
    | (go_ret
       refine ⟨congrArg Ending.returned (congrArg (Value.int IntKind.i64) ?_), rfl⟩
       simp only [tab_len, wrap64]
       first
         | (have l := len_leaf x (x / 4294967296 / 65536 / 256) h0 h1 56 (by omega) (by omega) (by omega) (by omega)
            omega)
         | (have l := len_leaf x (x / 4294967296 / 65536) h0 h1 48 (by omega) (by omega) (by omega) (by omega)
            omega)
         | (have l := len_leaf x (x / 4294967296 / 256) h0 h1 40 (by omega) (by omega) (by omega) (by omega)
            omega)
         | (have l := len_leaf x (x / 4294967296) h0 h1 32 (by omega) (by omega) (by omega) (by omega)
            omega)
         | (have l := len_leaf x (x / 65536 / 256) h0 h1 24 (by omega) (by omega) (by omega) (by omega)
            omega)
         | (have l := len_leaf x (x / 65536) h0 h1 16 (by omega) (by omega) (by omega) (by omega)
            omega)
         | (have l := len_leaf x (x / 256) h0 h1 8 (by omega) (by omega) (by omega) (by omega)
            omega)
         | (have l := len_leaf x x h0 h1 0 (by omega) (by omega) (by omega) (by omega)
            omega))

def lzI (x : Int) : Int := 64 - (Lib.bitLen x.toNat : Int)

set_option maxRecDepth 100000 in
theorem lead_calls (x : Int) (W : World) (h0 : 0 ≤ x) (h1 : x ≤ 18446744073709551615) :
    Calls Tryd.prog 89 #[.int .u64 x] W fun e W' => e = .returned (.int .i64 (lzI x)) ∧ W' = W := by
  have l := Lib.bitLen_le x.toNat 64 (by omega) (by omega)
  have C := hide (len64_calls x W h0 h1)
  have E : wrap64 (64 - (Lib.bitLen x.toNat : Int)) = lzI x := by unfold wrap64 lzI; clear C; omega
  clear h0 h1
  generalize Lib.bitLen x.toNat = b at *
  go_enter Tryd.func89, Tryd.ntmps89
  go_wp2_with (with_reducible refine (C.out).mono ?_; rintro e w1 ⟨rfl, rfl⟩)
  go_ret
  refine ⟨congrArg (fun z => Ending.returned (.int .i64 z)) ?_, rfl⟩
  first
    | exact E
    | (rw [← E]; done)
    | (rw [← E]; unfold wrap64; omega)

def tzI (x : Int) : Int := (ctz 64 x.toNat : Int)

set_option maxRecDepth 100000 in
set_option maxHeartbeats 1000000 in
theorem tz_core (x k idx : Nat) (W : World) (hx0 : ((x : Int) == 0) = false)
    (key : IntKind.u64.wrap (bits BinOp.and IntKind.u64 (x : Int) (IntKind.u64.wrap (-(x : Int))) * 285870213051353865) / 288230376151711744 = (idx : Int))
    (hi : idx < 64) (hk : k < 64) (hcell : W.cell? ⟨0, idx, none⟩ = some (.int .u8 k)) :
    Calls Tryd.prog 90 #[.int .u64 x] W fun e W' => e = .returned (.int .i64 k) ∧ W' = W := by
  go_enter Tryd.func90, Tryd.ntmps90
  go_wp2_with (simp only [key])
  go_ret
  exact ⟨rfl, rfl⟩

theorem tz_zero (W : World) : Calls Tryd.prog 90 #[.int .u64 0] W fun e W' => e = .returned (.int .i64 64) ∧ W' = W := by
  go_enter Tryd.func90, Tryd.ntmps90
  go_wp2
  go_ret
  exact ⟨rfl, rfl⟩

theorem trail_calls (x : Int) (W : World) (h0 : 0 ≤ x) (h1 : x < 18446744073709551616) (hT : Tabs W) :
    Calls Tryd.prog 90 #[.int .u64 x] W fun e W' => e = .returned (.int .i64 (tzI x)) ∧ W' = W := by
  obtain ⟨n, rfl⟩ := Int.eq_ofNat_of_zero_le h0
  unfold tzI
  simp only [Int.toNat_natCast]
  by_cases hx0 : n = 0
  · subst hx0
    exact tz_zero W
  · obtain ⟨hlow, hk⟩ := Lib.lowest_bit 64 n hx0 (by omega)
    obtain ⟨hi, htab⟩ := Lib.deBruijn64_at _ hk
    have hcell := hT.lowest _ hi
    rw [htab] at hcell
    exact tz_core n _ _ W (by simp; omega) (tz64_key n _ (by omega) hx0 hlow) hi hk hcell

def pcI (x : Int) : Int := (onesCount x.toNat : Int)

theorem low_seven (y c : Nat) (h : y % 128 = c) : bits .and .i64 (wrap64 (y : Int)) 127 = (c : Int) := by
  rw [i64_and127]
  unfold wrap64
  omega

theorem s_lt (x : Nat) (hx : x < 18446744073709551616) : s1 6148914691236517205 x < 18446744073709551616 ∧ s2 3689348814741910323 (s1 6148914691236517205 x) < 18446744073709551616 ∧ s2 3689348814741910323 (s1 6148914691236517205 x) / 16 + s2 3689348814741910323 (s1 6148914691236517205 x) < 18446744073709551616 := by
  have a : ∀ n m : Nat, n &&& m ≤ m := fun n m => Nat.and_le_right
  have h1 : s1 6148914691236517205 x ≤ 6148914691236517205 + 6148914691236517205 := Nat.add_le_add (a _ _) (a _ _)
  have h2 : s2 3689348814741910323 (s1 6148914691236517205 x) ≤ 3689348814741910323 + 3689348814741910323 := Nat.add_le_add (a _ _) (a _ _)
  omega

set_option maxRecDepth 100000 in
set_option maxHeartbeats 2000000 in
theorem ones_calls (x : Int) (W : World) (h0 : 0 ≤ x) (h1 : x < 18446744073709551616) :
    Calls Tryd.prog 91 #[.int .u64 x] W fun e W' => e = .returned (.int .i64 (pcI x)) ∧ W' = W := by
  obtain ⟨n, rfl⟩ := Int.eq_ofNat_of_zero_le h0
  have hn : n < 18446744073709551616 := by omega
  obtain ⟨l1, l2, l3⟩ := s_lt n hn
  have hs := (s_all 8 n (by omega)).1
  rw [rep85, rep51, rep15] at hs
  obtain ⟨y4, y5, g1, g2, g3, g4, g5, g6⟩ := sums_pop n hn
  have ha : ∀ a b : Nat, a < 18446744073709551616 → b < 18446744073709551616 → bits .and .u64 (a : Int) (b : Int) = ((a &&& b : Nat) : Int) := bits_and_u64_nat
  have e1 : IntKind.u64.wrap (bits .and .u64 ((n : Int) / 2) 6148914691236517205 + bits .and .u64 (n : Int) 6148914691236517205) = ((s1 6148914691236517205 n : Nat) : Int) := by
    have u := ha (n / 2) 6148914691236517205 (by omega) (by decide)
    have v := ha n 6148914691236517205 (by omega) (by decide)
    have eu : bits .and .u64 ((n : Int) / 2) 6148914691236517205 = ((n / 2 &&& 6148914691236517205 : Nat) : Int) := u
    have ev : bits .and .u64 (n : Int) 6148914691236517205 = ((n &&& 6148914691236517205 : Nat) : Int) := v
    rw [eu, ev, IntKind.wrap_u64]
    unfold s1 at l1 ⊢
    omega
  generalize s1 6148914691236517205 n = y1 at *
  have e2 : IntKind.u64.wrap (bits .and .u64 ((y1 : Int) / 4) 3689348814741910323 + bits .and .u64 (y1 : Int) 3689348814741910323) = ((s2 3689348814741910323 y1 : Nat) : Int) := by
    have eu : bits .and .u64 ((y1 : Int) / 4) 3689348814741910323 = ((y1 / 4 &&& 3689348814741910323 : Nat) : Int) := ha (y1 / 4) 3689348814741910323 (by omega) (by decide)
    have ev : bits .and .u64 (y1 : Int) 3689348814741910323 = ((y1 &&& 3689348814741910323 : Nat) : Int) := ha y1 3689348814741910323 (by omega) (by decide)
    rw [eu, ev, IntKind.wrap_u64]
    unfold s2 at l2 ⊢
    omega
  generalize s2 3689348814741910323 y1 = y2 at *
  have e3 : bits .and .u64 (IntKind.u64.wrap ((y2 : Int) / 16 + (y2 : Int))) 1085102592571150095 = ((s3 1085102592571150095 y2 : Nat) : Int) := by
    have e : IntKind.u64.wrap ((y2 : Int) / 16 + (y2 : Int)) = ((y2 / 16 + y2 : Nat) : Int) := by rw [IntKind.wrap_u64]; omega
    rw [e]
    exact ha (y2 / 16 + y2) 1085102592571150095 (by omega) (by decide)
  rw [hs] at e3
  clear hs l1 l2 l3 ha
  generalize sums 8 n = y3 at *
  have e4 : IntKind.u64.wrap ((y3 : Int) + (y3 : Int) / 256) = (y4 : Int) := by rw [IntKind.wrap_u64]; omega
  have e5 : IntKind.u64.wrap ((y4 : Int) + (y4 : Int) / 65536) = (y5 : Int) := by rw [IntKind.wrap_u64]; omega
  obtain ⟨y6, e6⟩ : ∃ y6, y6 = y5 + y5 / 4294967296 := ⟨_, rfl⟩
  rw [← e6] at g5 g6
  have e6 : IntKind.u64.wrap ((y5 : Int) + (y5 : Int) / 4294967296) = (y6 : Int) := by rw [IntKind.wrap_u64]; omega
  have e7 : bits .and .i64 (wrap64 (y6 : Int)) 127 = pcI (n : Int) := low_seven y6 _ g6
  clear g1 g2 g3 g4 g5 g6 hn h0 h1
  generalize (n : Int) = z0 at *
  generalize (y1 : Int) = z1 at *
  generalize (y2 : Int) = z2 at *
  generalize (y3 : Int) = z3 at *
  generalize (y4 : Int) = z4 at *
  generalize (y5 : Int) = z5 at *
  generalize (y6 : Int) = z6 at *
  go_enter Tryd.func91, Tryd.ntmps91
  go_wp2
  go_ret
  exact ⟨rfl, rfl⟩
end Go.Proofs.YtoihfmammmkloaaDoor.Z
/-
  ints.One.
-/
set_option linter.unusedVariables false
set_option linter.unusedSimpArgs false
namespace Go.Proofs.YtoihfmammmkloaaDoor.Z
open Go.RowKit Ints

def absI (w : Nat) (a : Int) : Int := if a ≤ hi w then a else 2 ^ w - a

/-- The answer, and the error's number. -/
def one (op : Nat) (w : Nat) (a : Int) : Int × Int :=
  match op with
  | 26 => ((w : Int) - (Lib.bitLen a.toNat : Int), 0)
  | 27 => (min (tzI a) w, 0)
  | 28 => (pcI a, 0)
  | 29 => (absI w a, 0)
  | 30 => (cutI w (-a), 0)
  | 31 => (mo w - a, 0)
  | _ => (0, 2)

theorem len_of {w : Nat} (hw : IsW w) {a : Int} (ha : Of w a) : Lib.bitLen a.toNat ≤ w := by
  obtain ⟨x, rfl⟩ := Int.eq_ofNat_of_zero_le ha.1
  exact Lib.bitLen_le x w hw.le (by exact_mod_cast ha.2)

theorem lz_int {w : Nat} (hw : IsW w) {a : Int} (ha : Of w a) : IntKind.u64.wrap (wrap64 (lzI a - wrap64 (64 - (w : Int)))) = (w : Int) - (Lib.bitLen a.toNat : Int) := by
  have h1 := len_of hw ha
  have h2 := hw.le
  rw [IntKind.wrap_u64]
  unfold wrap64 lzI
  omega

theorem tz_le {w : Nat} (hw : IsW w) {a : Int} (ha : Of w a) : 0 ≤ tzI a ∧ tzI a ≤ 64 := by
  unfold tzI
  refine ⟨by omega, ?_⟩
  by_cases h : a.toNat = 0
  · rw [h]; decide
  · have := (Lib.lowest_bit 64 a.toNat h (by have := ha.lt64 hw; omega)).2
    omega

theorem pc_le {w : Nat} (hw : IsW w) {a : Int} (ha : Of w a) : 0 ≤ pcI a ∧ pcI a ≤ 64 := by
  unfold pcI
  have := pop_le 64 a.toNat
  unfold Lib.onesCount
  omega

theorem abs_int {w : Nat} (hw : IsW w) {a : Int} (ha : Of w a) : IntKind.u64.wrap (max (wo w a) (wrap64 (-wo w a))) = absI w a := by
  obtain ⟨h0, h1⟩ := ha
  rw [IntKind.wrap_u64]
  rcases hw with rfl | rfl | rfl | rfl <;> simp only [wo, absI, hi, wrap64, Nat.reduceSub, Int.reducePow] at h1 ⊢ <;> omega

theorem not_int {a : Int} (h0 : 0 ≤ a) (h1 : a < 18446744073709551616) : bits .xor .u64 18446744073709551615 a = 18446744073709551615 - a := by
  obtain ⟨x, rfl⟩ := Int.eq_ofNat_of_zero_le h0
  have hx : x < 18446744073709551616 := by omega
  have e : bits .xor .u64 ((18446744073709551615 : Nat) : Int) (x : Int) = ((18446744073709551615 ^^^ x : Nat) : Int) := bits_xor_u64_nat _ _ (by decide) hx
  refine e.trans ?_
  have h2 := add_eq_bits 18446744073709551615 x
  have h3 : 18446744073709551615 &&& x = x := by
    rw [Nat.and_comm, show (18446744073709551615 : Nat) = 2 ^ 64 - 1 from rfl, Nat.and_two_pow_sub_one_eq_mod]
    exact Nat.mod_eq_of_lt hx
  rw [h3] at h2
  omega

theorem cut_not {w : Nat} (hw : IsW w) {a : Int} (ha : Of w a) : cutI w (18446744073709551615 - a) = mo w - a := by
  obtain ⟨h0, h1⟩ := ha
  rcases hw with rfl | rfl | rfl | rfl <;> simp only [cutI, mo, Int.reducePow] at h1 ⊢ <;> omega

/-! The operators, one by one -/

set_option maxRecDepth 100000 in
set_option maxHeartbeats 1000000 in
theorem one_26 {w : Nat} (hw : IsW w) (a : Int) (ha : Of w a) (W : World) (hT : Tabs W) :
    Calls Tryd.prog 44 #[.int .u8 26, .int .i64 (w : Int), .int .u64 a] W fun e W' => e = .returned (pairV (one 26 w a)) ∧ Below W.heap.size W W' := by
  have F := fit1 w a W hT.toWTabs
  rw [ok1_of hw ha] at F
  have F := hide F
  have B := hide (below_two W (.cells #[.int .u64 a] 23))
  have hT' := hT.later (below_two W (.cells #[.int .u64 a] 23))
  have D := hide (fun W => lead_calls a W ha.1 (by have := ha.lt64 hw; omega))
  have E := lz_int hw ha
  generalize lzI a = l at *
  clear ha hT hT'
  go_enter Tryd.func44, Tryd.ntmps44
  go_wp2_with (first | (with_reducible refine F.out.mono ?_; rintro e w1 ⟨rfl, rfl⟩) | (with_reducible refine (D.out _).mono ?_; rintro e w1 ⟨rfl, rfl⟩))
  refine bodyPost_ret (v := .tuple #[.int .u64 ((w : Int) - (Lib.bitLen a.toNat : Int)), .int .i64 0]) (by simp [results, Tryd.results44, go_sem]) rfl ?_
  exact ⟨rfl, B.out⟩

set_option maxRecDepth 100000 in
set_option maxHeartbeats 1000000 in
theorem one_27 {w : Nat} (hw : IsW w) (a : Int) (ha : Of w a) (W : World) (hT : Tabs W) :
    Calls Tryd.prog 44 #[.int .u8 27, .int .i64 (w : Int), .int .u64 a] W fun e W' => e = .returned (pairV (one 27 w a)) ∧ Below W.heap.size W W' := by
  have F := fit1 w a W hT.toWTabs
  rw [ok1_of hw ha] at F
  have F := hide F
  have B := hide (below_two W (.cells #[.int .u64 a] 23))
  have hT' := hT.later (below_two W (.cells #[.int .u64 a] 23))
  have D := hide (trail_calls a _ ha.1 (ha.lt64 hw) hT')
  have E : IntKind.u64.wrap (min (tzI a) (w : Int)) = min (tzI a) w := by
    have := tz_le hw ha
    rw [IntKind.wrap_u64]; omega
  clear ha hT hT'
  go_enter Tryd.func44, Tryd.ntmps44
  go_wp2_with (first | (with_reducible refine F.out.mono ?_; rintro e w1 ⟨rfl, rfl⟩) | (with_reducible refine (D.out).mono ?_; rintro e w1 ⟨rfl, rfl⟩))
  refine bodyPost_ret (v := .tuple #[.int .u64 (min (tzI a) w), .int .i64 0]) (by simp [results, Tryd.results44, go_sem]) rfl ?_
  exact ⟨rfl, B.out⟩

set_option maxRecDepth 100000 in
set_option maxHeartbeats 1000000 in
theorem one_28 {w : Nat} (hw : IsW w) (a : Int) (ha : Of w a) (W : World) (hT : Tabs W) :
    Calls Tryd.prog 44 #[.int .u8 28, .int .i64 (w : Int), .int .u64 a] W fun e W' => e = .returned (pairV (one 28 w a)) ∧ Below W.heap.size W W' := by
  have F := fit1 w a W hT.toWTabs
  rw [ok1_of hw ha] at F
  have F := hide F
  have B := hide (below_two W (.cells #[.int .u64 a] 23))
  have hT' := hT.later (below_two W (.cells #[.int .u64 a] 23))
  have D := hide (fun W => ones_calls a W ha.1 (ha.lt64 hw))
  have E : IntKind.u64.wrap (pcI a) = pcI a := by
    have := pc_le hw ha
    rw [IntKind.wrap_u64]; omega
  clear ha hT hT'
  go_enter Tryd.func44, Tryd.ntmps44
  go_wp2_with (first | (with_reducible refine F.out.mono ?_; rintro e w1 ⟨rfl, rfl⟩) | (with_reducible refine (D.out _).mono ?_; rintro e w1 ⟨rfl, rfl⟩))
  refine bodyPost_ret (v := .tuple #[.int .u64 (pcI a), .int .i64 0]) (by simp [results, Tryd.results44, go_sem]) rfl ?_
  exact ⟨rfl, B.out⟩

set_option maxRecDepth 100000 in
set_option maxHeartbeats 1000000 in
theorem one_29 {w : Nat} (hw : IsW w) (a : Int) (ha : Of w a) (W : World) (hT : Tabs W) :
    Calls Tryd.prog 44 #[.int .u8 29, .int .i64 (w : Int), .int .u64 a] W fun e W' => e = .returned (pairV (one 29 w a)) ∧ Below W.heap.size W W' := by
  have F := fit1 w a W hT.toWTabs
  rw [ok1_of hw ha] at F
  have F := hide F
  have B := hide (below_two W (.cells #[.int .u64 a] 23))
  have hT' := hT.later (below_two W (.cells #[.int .u64 a] 23))
  have D := hide (worth_calls hw a ha)
  have E := abs_int hw ha
  clear ha hT hT'
  go_enter Tryd.func44, Tryd.ntmps44
  go_wp2_with (first | (with_reducible refine F.out.mono ?_; rintro e w1 ⟨rfl, rfl⟩) | (with_reducible refine (D.out _).mono ?_; rintro e w1 ⟨rfl, rfl⟩))
  refine bodyPost_ret (v := .tuple #[.int .u64 (absI w a), .int .i64 0]) (by simp [results, Tryd.results44, go_sem]) rfl ?_
  exact ⟨rfl, B.out⟩

set_option maxRecDepth 100000 in
set_option maxHeartbeats 1000000 in
theorem one_30 {w : Nat} (hw : IsW w) (a : Int) (ha : Of w a) (W : World) (hT : Tabs W) :
    Calls Tryd.prog 44 #[.int .u8 30, .int .i64 (w : Int), .int .u64 a] W fun e W' => e = .returned (pairV (one 30 w a)) ∧ Below W.heap.size W W' := by
  have F := fit1 w a W hT.toWTabs
  rw [ok1_of hw ha] at F
  have F := hide F
  have B := hide (below_two W (.cells #[.int .u64 a] 23))
  have hT' := hT.later (below_two W (.cells #[.int .u64 a] 23))
  have CC := hide (@cutw_calls w hw)
  clear ha hT hT'
  go_enter Tryd.func44, Tryd.ntmps44
  go_wp2_with (first | (with_reducible refine F.out.mono ?_; rintro e w1 ⟨rfl, rfl⟩) | (with_reducible refine (CC.out _ _).mono ?_; rintro e w1 ⟨rfl, rfl⟩))
  refine bodyPost_ret (v := .tuple #[.int .u64 (cutI w (-a)), .int .i64 0]) (by simp [results, Tryd.results44, go_sem]) rfl ?_
  exact ⟨rfl, B.out⟩

set_option maxRecDepth 100000 in
set_option maxHeartbeats 1000000 in
theorem one_31 {w : Nat} (hw : IsW w) (a : Int) (ha : Of w a) (W : World) (hT : Tabs W) :
    Calls Tryd.prog 44 #[.int .u8 31, .int .i64 (w : Int), .int .u64 a] W fun e W' => e = .returned (pairV (one 31 w a)) ∧ Below W.heap.size W W' := by
  have F := fit1 w a W hT.toWTabs
  rw [ok1_of hw ha] at F
  have F := hide F
  have B := hide (below_two W (.cells #[.int .u64 a] 23))
  have hT' := hT.later (below_two W (.cells #[.int .u64 a] 23))
  have CC := hide (cut_calls hw (18446744073709551615 - a) (by have := ha.lt64 hw; omega) (by have := ha.1; omega))
  have E : bits .xor .u64 IntKind.u64.max a = 18446744073709551615 - a := not_int ha.1 (ha.lt64 hw)
  have G := hide (cut_not hw ha)
  clear ha hT hT'
  go_enter Tryd.func44, Tryd.ntmps44
  go_wp2_with (first | (with_reducible refine F.out.mono ?_; rintro e w1 ⟨rfl, rfl⟩) | (with_reducible refine (CC.out _).mono ?_; rintro e w1 ⟨rfl, rfl⟩))
  refine bodyPost_ret (v := .tuple #[.int .u64 (cutI w (18446744073709551615 - a)), .int .i64 0]) (by simp [results, Tryd.results44, go_sem]) rfl ?_
  exact ⟨by rw [G.out]; rfl, B.out⟩

theorem one_none {op : Nat} (h : op < 26 ∨ 31 < op) (w : Nat) (a : Int) : one op w a = (0, 2) := by
  unfold one
  split <;> first | omega | rfl

set_option maxRecDepth 100000 in
set_option maxHeartbeats 2000000 in
theorem one_else {w : Nat} (hw : IsW w) (op : Int) (a : Int) (ho0 : 0 ≤ op) (ha : Of w a) (ho : op < 26 ∨ 31 < op) (W : World) (hT : Tabs W) :
    Calls Tryd.prog 44 #[.int .u8 op, .int .i64 (w : Int), .int .u64 a] W fun e W' => e = .returned (pairV (one op.toNat w a)) ∧ Below W.heap.size W W' := by
  rw [one_none (by omega)]
  have F := fit1 w a W hT.toWTabs
  rw [ok1_of hw ha] at F
  have F := hide F
  have B := hide (below_two W (.cells #[.int .u64 a] 23))
  have n26 : (op == 26) = false := by simp; omega
  have n27 : (op == 27) = false := by simp; omega
  have n28 : (op == 28) = false := by simp; omega
  have n29 : (op == 29) = false := by simp; omega
  have n30 : (op == 30) = false := by simp; omega
  have n31 : (op == 31) = false := by simp; omega
  clear ha hT ho ho0
  go_enter Tryd.func44, Tryd.ntmps44
  go_wp2_with (with_reducible refine F.out.mono ?_; rintro e w1 ⟨rfl, rfl⟩)
  refine bodyPost_ret (v := .tuple #[.int .u64 0, .int .i64 2]) (by simp [results, Tryd.results44, go_sem]) rfl ?_
  exact ⟨rfl, B.out⟩

set_option maxRecDepth 100000 in
set_option maxHeartbeats 1000000 in
theorem one_bad (op w a : Int) (h : ok1 w a = false) (W : World) (hT : Tabs W) :
    Calls Tryd.prog 44 #[.int .u8 op, .int .i64 w, .int .u64 a] W fun e W' => e = .returned (pairV (0, 2)) ∧ Below W.heap.size W W' := by
  have F := fit1 w a W hT.toWTabs
  rw [h] at F
  have F := hide F
  have B := hide (below_two W (.cells #[.int .u64 a] 23))
  clear hT
  go_enter Tryd.func44, Tryd.ntmps44
  go_wp2_with (with_reducible refine F.out.mono ?_; rintro e w1 ⟨rfl, rfl⟩)
  refine bodyPost_ret (v := .tuple #[.int .u64 0, .int .i64 2]) (by simp [results, Tryd.results44, go_sem]) rfl ?_
  exact ⟨rfl, B.out⟩

/-- Every operator of one, at a number of a width. -/
theorem One_calls {w : Nat} (hw : IsW w) (op a : Int) (ho : 0 ≤ op) (ha : Of w a) (W : World) (hT : Tabs W) :
    Calls Tryd.prog 44 #[.int .u8 op, .int .i64 (w : Int), .int .u64 a] W fun e W' => e = .returned (pairV (one op.toNat w a)) ∧ Below W.heap.size W W' := by
  by_cases hk : op < 26 ∨ 31 < op
  · exact one_else hw op a ho ha hk W hT
  · rcases (show op = 26 ∨ op = 27 ∨ op = 28 ∨ op = 29 ∨ op = 30 ∨ op = 31 by omega) with rfl | rfl | rfl | rfl | rfl | rfl
    · exact one_26 hw a ha W hT
    · exact one_27 hw a ha W hT
    · exact one_28 hw a ha W hT
    · exact one_29 hw a ha W hT
    · exact one_30 hw a ha W hT
    · exact one_31 hw a ha W hT
end Go.Proofs.YtoihfmammmkloaaDoor.Z
/-
  The document's One.
-/
set_option linter.unusedVariables false
set_option linter.unusedSimpArgs false
namespace Go.Proofs.YtoihfmammmkloaaDoor.Z
open Go.RowKit Ints

/-- All at and above the bit are 0, and it is 0 too. -/
theorem below_bit (x i : Nat) (h : x < 2 ^ (i + 1)) (hb : bit x i = 0) : x < 2 ^ i := by
  have h1 := mod_succ x i
  rw [hb, Nat.mod_eq_of_lt h] at h1
  have := Nat.mod_lt x (Nat.two_pow_pos i)
  omega

theorem at_bit (x i : Nat) (h : x < 2 ^ (i + 1)) (hi : i < 64) (hb : bit x i = 1) : Lib.bitLen x = i + 1 := by
  refine len_at x i hi ?_ h
  have h1 := mod_succ x i
  rw [hb, Nat.mod_eq_of_lt h] at h1
  omega

theorem mod_bit (x i : Nat) (h : x % 2 ^ i = 0) (hb : bit x i = 0) : x % 2 ^ (i + 1) = 0 := by rw [mod_succ, h, hb]; rfl

/-! The operators, one by one -/

set_option maxRecDepth 100000 in
set_option maxHeartbeats 2000000 in
theorem rone_26 {w : Nat} (hw : IsW w) (a : Int) (ha : Of w a) (W : World) :
    Calls Tryd.prog 45 #[.int .u8 26, .int .i64 (w : Int), .int .u64 a] W fun e W' => e = .returned (pairV (one 26 w a)) ∧ W' = W := by
  have CW := width_calls (w : Int)
  rw [isW_of hw] at CW
  have CW := hide CW
  have FA := rfits_calls hw a
  rw [decide_eq_true (mo_ge ha)] at FA
  have FA := hide FA
  have hle := hw.le
  have hpos := hw.pos
  have HA := hide (ha.lt64 hw)
  obtain ⟨x, rfl, hx⟩ := nat_of ha
  have HX := hide hx
  have HB := hide (and_bit x (by have := HA.out; omega))
  clear ha hx hw
  go_enter Tryd.func45, Tryd.ntmps45
  go_wp2_with (first | (with_reducible refine (CW.out _).mono ?_; rintro e w1 ⟨rfl, rfl⟩) | (with_reducible refine (FA.out _).mono ?_; rintro e w1 ⟨rfl, rfl⟩))
  go_loop [8, 9] (fun u v => ∃ c : Nat, u = .int .u64 (c : Int) ∧ v = .int .i64 ((w : Int) - 1 - (c : Int)) ∧ c ≤ w ∧ x < 2 ^ (w - c)) (fun u _ => (w - (intOf u).toNat))
  case atStart => exact ⟨0, rfl, by simp, by omega, HX.out⟩
  case round =>
    obtain ⟨c, rfl, rfl, hc, hlt⟩ := hrel
    have HL := hide hlt
    clear hlt
    by_cases c1 : c < w
    · obtain ⟨j, rfl⟩ : ∃ j, w = c + 1 + j := ⟨w - c - 1, by omega⟩
      have e1 : ((c + 1 + j : Nat) : Int) - 1 - (c : Int) = (j : Int) := by omega
      rw [e1]
      have hb := HB.out j
      have hj : (j : Int) ≤ 64 := by omega
      have hj0 : (0 : Int) ≤ (j : Int) := by omega
      rcases (show bit x j = 0 ∨ bit x j = 1 by have := bit_le x j; omega) with b | b
      · rw [b] at hb
        have N := hide (show x < 2 ^ j from below_bit x j (by have := HL.out; rwa [show c + 1 + j - c = j + 1 by omega] at this) b)
        clear b
        go_wp2
        refine ⟨⟨c + 1, rfl, ?_, by omega, ?_⟩, by simp [intOf]; omega⟩
        · simp only [Value.int.injEq, true_and]; omega
        · have := N.out; rwa [show c + 1 + j - (c + 1) = j by omega]
      · rw [b] at hb
        have N := hide (at_bit x j (by have := HL.out; rwa [show c + 1 + j - c = j + 1 by omega] at this) (by omega) b)
        clear b
        go_wp2
        refine bodyPost_ret (v := .tuple #[.int .u64 (c : Int), .int .i64 0]) (by simp [results, Tryd.results45, go_sem]) rfl ?_
        exact ⟨congrArg (fun z => Ending.returned (.tuple #[.int .u64 z, .int .i64 0])) (show (c : Int) = ((c + 1 + j : Nat) : Int) - (Lib.bitLen ((x : Int).toNat) : Int) by rw [Int.toNat_natCast, N.out]; omega), rfl⟩
    · obtain rfl : c = w := by omega
      have e1 : (c : Int) - 1 - (c : Int) = -1 := by omega
      rw [e1]
      go_wp2
      refine bodyPost_ret (v := .tuple #[.int .u64 (c : Int), .int .i64 0]) (by simp [results, Tryd.results45, go_sem]) rfl ?_
      have h0 : x = 0 := by have := HL.out; rw [Nat.sub_self] at this; omega
      subst h0
      exact ⟨congrArg (fun z => Ending.returned (.tuple #[.int .u64 z, .int .i64 0])) (show (c : Int) = (c : Int) - (Lib.bitLen (((0 : Nat) : Int).toNat) : Int) by rw [Int.toNat_natCast, len_zero]; omega), rfl⟩

set_option maxRecDepth 100000 in
set_option maxHeartbeats 2000000 in
theorem rone_27 {w : Nat} (hw : IsW w) (a : Int) (ha : Of w a) (W : World) :
    Calls Tryd.prog 45 #[.int .u8 27, .int .i64 (w : Int), .int .u64 a] W fun e W' => e = .returned (pairV (one 27 w a)) ∧ W' = W := by
  have CW := width_calls (w : Int)
  rw [isW_of hw] at CW
  have CW := hide CW
  have FA := rfits_calls hw a
  rw [decide_eq_true (mo_ge ha)] at FA
  have FA := hide FA
  have hle := hw.le
  have hpos := hw.pos
  have HA := hide (ha.lt64 hw)
  obtain ⟨x, rfl, hx⟩ := nat_of ha
  have HX := hide hx
  have HB := hide (and_bit x (by have := HA.out; omega))
  clear ha hx hw
  go_enter Tryd.func45, Tryd.ntmps45
  go_wp2_with (first | (with_reducible refine (CW.out _).mono ?_; rintro e w1 ⟨rfl, rfl⟩) | (with_reducible refine (FA.out _).mono ?_; rintro e w1 ⟨rfl, rfl⟩))
  go_loop [8, 10] (fun u v => ∃ c : Nat, u = .int .u64 (c : Int) ∧ v = .int .i64 (c : Int) ∧ c ≤ w ∧ x % 2 ^ c = 0) (fun u _ => (w - (intOf u).toNat))
  case atStart => exact ⟨0, rfl, rfl, by omega, Nat.mod_one x⟩
  case round =>
    obtain ⟨c, rfl, rfl, hc, hlt⟩ := hrel
    have HL := hide hlt
    clear hlt
    by_cases c1 : c < w
    · have hb := HB.out c
      have hj : (c : Int) ≤ 64 := by omega
      have hj0 : (c : Int) < (w : Int) := by omega
      rcases (show bit x c = 0 ∨ bit x c = 1 by have := bit_le x c; omega) with b | b
      · rw [b] at hb
        have N := hide (mod_bit x c HL.out b)
        clear b
        go_wp2
        refine ⟨⟨c + 1, rfl, rfl, by omega, N.out⟩, by simp [intOf]; omega⟩
      · rw [b] at hb
        have N := hide (ctz_bit 64 c x (by have := HA.out; omega) HL.out b)
        clear b
        go_wp2
        refine bodyPost_ret (v := .tuple #[.int .u64 (c : Int), .int .i64 0]) (by simp [results, Tryd.results45, go_sem]) rfl ?_
        exact ⟨congrArg (fun z => Ending.returned (.tuple #[.int .u64 z, .int .i64 0])) (show (c : Int) = min (tzI (x : Int)) (w : Int) by unfold tzI; rw [Int.toNat_natCast, N.out]; omega), rfl⟩
    · obtain rfl : c = w := by omega
      have c' : decide ((c : Int) < (c : Int)) = false := by simp
      go_wp2
      refine bodyPost_ret (v := .tuple #[.int .u64 (c : Int), .int .i64 0]) (by simp [results, Tryd.results45, go_sem]) rfl ?_
      have h0 : x = 0 := by
        have h1 := HL.out
        rw [Nat.mod_eq_of_lt HX.out] at h1
        exact h1
      subst h0
      exact ⟨congrArg (fun z => Ending.returned (.tuple #[.int .u64 z, .int .i64 0])) (show (c : Int) = min (tzI ((0 : Nat) : Int)) (c : Int) by unfold tzI; rw [Int.toNat_natCast, show Lib.ctz 64 0 = 64 from rfl]; omega), rfl⟩

set_option maxRecDepth 100000 in
set_option maxHeartbeats 2000000 in
theorem rone_28 {w : Nat} (hw : IsW w) (a : Int) (ha : Of w a) (W : World) :
    Calls Tryd.prog 45 #[.int .u8 28, .int .i64 (w : Int), .int .u64 a] W fun e W' => e = .returned (pairV (one 28 w a)) ∧ W' = W := by
  have CW := width_calls (w : Int)
  rw [isW_of hw] at CW
  have CW := hide CW
  have FA := rfits_calls hw a
  rw [decide_eq_true (mo_ge ha)] at FA
  have FA := hide FA
  have hle := hw.le
  have hpos := hw.pos
  have HA := hide (ha.lt64 hw)
  obtain ⟨x, rfl, hx⟩ := nat_of ha
  have HX := hide hx
  have HB := hide (and_bit x (by have := HA.out; omega))
  have HP := hide (ones_eq w x hle hx)
  clear ha hx hw
  go_enter Tryd.func45, Tryd.ntmps45
  go_wp2_with (first | (with_reducible refine (CW.out _).mono ?_; rintro e w1 ⟨rfl, rfl⟩) | (with_reducible refine (FA.out _).mono ?_; rintro e w1 ⟨rfl, rfl⟩))
  go_loop [8, 11] (fun u v => ∃ c : Nat, v = .int .i64 (c : Int) ∧ c ≤ w ∧ u = .int .u64 ((Lib.popAux c x : Nat) : Int)) (fun _ v => (w - (intOf v).toNat))
  case atStart => exact ⟨0, rfl, by omega, rfl⟩
  case round =>
    obtain ⟨c, rfl, hc, rfl⟩ := hrel
    by_cases c1 : c < w
    · have hb := HB.out c
      have hj : (c : Int) ≤ 64 := by omega
      have hj0 : (c : Int) < (w : Int) := by omega
      have N := hide (pop_succ c x)
      have N2 := hide (pop_le c x)
      have E : IntKind.u64.wrap (((Lib.popAux c x : Nat) : Int) + ((bit x c : Nat) : Int)) = ((Lib.popAux (c + 1) x : Nat) : Int) := by
        have := pop_succ c x; have := pop_le (c + 1) x
        rw [IntKind.wrap_u64]; omega
      generalize Lib.popAux c x = q at *
      generalize bit x c = b at *
      go_wp2
      exact ⟨⟨c + 1, rfl, by omega, rfl⟩, by simp [intOf]; omega⟩
    · obtain rfl : c = w := by omega
      have c' : decide ((c : Int) < (c : Int)) = false := by simp
      generalize hq : Lib.popAux c x = q at *
      have HQ := hide hq
      clear hq
      go_wp2
      refine bodyPost_ret (v := .tuple #[.int .u64 (q : Int), .int .i64 0]) (by simp [results, Tryd.results45, go_sem]) rfl ?_
      exact ⟨congrArg (fun z => Ending.returned (.tuple #[.int .u64 z, .int .i64 0])) (show (q : Int) = pcI (x : Int) by unfold pcI; rw [Int.toNat_natCast, HP.out]), rfl⟩

set_option maxRecDepth 100000 in
set_option maxHeartbeats 2000000 in
theorem rone_29 {w : Nat} (hw : IsW w) (a : Int) (ha : Of w a) (W : World) :
    Calls Tryd.prog 45 #[.int .u8 29, .int .i64 (w : Int), .int .u64 a] W fun e W' => e = .returned (pairV (one 29 w a)) ∧ W' = W := by
  have CW := width_calls (w : Int)
  rw [isW_of hw] at CW
  have CW := hide CW
  have FA := rfits_calls hw a
  rw [decide_eq_true (mo_ge ha)] at FA
  have FA := hide FA
  have CM := hide (@rmost_calls w hw)
  have E := half_mo hw
  have E2 := and_wrap hw (IntKind.u64.wrap (mo w - a) + 1)
  by_cases c : a ≤ hi w
  · have G := hide (show absI w a = a by unfold absI; rw [if_pos c])
    clear ha
    have c' : decide (a > hi w) = false := by simp; omega
    go_enter Tryd.func45, Tryd.ntmps45
    go_wp2_with (first | (with_reducible refine (CW.out _).mono ?_; rintro e w1 ⟨rfl, rfl⟩) | (with_reducible refine (FA.out _).mono ?_; rintro e w1 ⟨rfl, rfl⟩) | (with_reducible refine (CM.out _).mono ?_; rintro e w1 ⟨rfl, rfl⟩))
    refine bodyPost_ret (v := .tuple #[.int .u64 a, .int .i64 0]) (by simp [results, Tryd.results45, go_sem]) rfl ?_
    exact ⟨congrArg (fun z => Ending.returned (.tuple #[.int .u64 z, .int .i64 0])) (show a = absI w a by rw [G.out]), rfl⟩
  · have G := hide (show (cutI w (IntKind.u64.wrap (mo w - a) + 1)) = absI w a by
      obtain ⟨h0, h1⟩ := ha
      unfold absI
      rw [if_neg c, IntKind.wrap_u64]
      rcases hw with rfl | rfl | rfl | rfl <;> simp only [cutI, mo, hi, Nat.reduceSub, Int.reducePow] at h1 c ⊢ <;> omega)
    clear ha
    have c' : decide (a > hi w) = true := by simp; omega
    go_enter Tryd.func45, Tryd.ntmps45
    go_wp2_with (first | (with_reducible refine (CW.out _).mono ?_; rintro e w1 ⟨rfl, rfl⟩) | (with_reducible refine (FA.out _).mono ?_; rintro e w1 ⟨rfl, rfl⟩) | (with_reducible refine (CM.out _).mono ?_; rintro e w1 ⟨rfl, rfl⟩))
    refine bodyPost_ret (v := .tuple #[.int .u64 (cutI w (IntKind.u64.wrap (mo w - a) + 1)), .int .i64 0]) (by simp [results, Tryd.results45, go_sem]) rfl ?_
    exact ⟨by rw [G.out]; rfl, rfl⟩

set_option maxRecDepth 100000 in
set_option maxHeartbeats 2000000 in
theorem rone_30 {w : Nat} (hw : IsW w) (a : Int) (ha : Of w a) (W : World) :
    Calls Tryd.prog 45 #[.int .u8 30, .int .i64 (w : Int), .int .u64 a] W fun e W' => e = .returned (pairV (one 30 w a)) ∧ W' = W := by
  have CW := width_calls (w : Int)
  rw [isW_of hw] at CW
  have CW := hide CW
  have FA := rfits_calls hw a
  rw [decide_eq_true (mo_ge ha)] at FA
  have FA := hide FA
  have CM := hide (@rmost_calls w hw)
  have E2 := and_wrap hw (IntKind.u64.wrap (mo w - a) + 1)
  have G := hide (show (cutI w (IntKind.u64.wrap (mo w - a) + 1)) = cutI w (-a) by
    obtain ⟨h0, h1⟩ := ha
    rw [IntKind.wrap_u64]
    rcases hw with rfl | rfl | rfl | rfl <;> simp only [cutI, mo, Int.reducePow] at h1 ⊢ <;> omega)
  clear ha
  go_enter Tryd.func45, Tryd.ntmps45
  go_wp2_with (first | (with_reducible refine (CW.out _).mono ?_; rintro e w1 ⟨rfl, rfl⟩) | (with_reducible refine (FA.out _).mono ?_; rintro e w1 ⟨rfl, rfl⟩) | (with_reducible refine (CM.out _).mono ?_; rintro e w1 ⟨rfl, rfl⟩))
  refine bodyPost_ret (v := .tuple #[.int .u64 (cutI w (IntKind.u64.wrap (mo w - a) + 1)), .int .i64 0]) (by simp [results, Tryd.results45, go_sem]) rfl ?_
  exact ⟨by rw [G.out]; rfl, rfl⟩

set_option maxRecDepth 100000 in
set_option maxHeartbeats 2000000 in
theorem rone_31 {w : Nat} (hw : IsW w) (a : Int) (ha : Of w a) (W : World) :
    Calls Tryd.prog 45 #[.int .u8 31, .int .i64 (w : Int), .int .u64 a] W fun e W' => e = .returned (pairV (one 31 w a)) ∧ W' = W := by
  have CW := width_calls (w : Int)
  rw [isW_of hw] at CW
  have CW := hide CW
  have FA := rfits_calls hw a
  rw [decide_eq_true (mo_ge ha)] at FA
  have FA := hide FA
  have CM := hide (@rmost_calls w hw)
  have E : IntKind.u64.wrap (mo w - a) = mo w - a := by
    have h1 := mo_ge ha
    have h2 : mo w < 18446744073709551616 := by rcases hw with rfl | rfl | rfl | rfl <;> decide
    have h3 := ha.1
    rw [IntKind.wrap_u64]; omega
  clear ha
  go_enter Tryd.func45, Tryd.ntmps45
  go_wp2_with (first | (with_reducible refine (CW.out _).mono ?_; rintro e w1 ⟨rfl, rfl⟩) | (with_reducible refine (FA.out _).mono ?_; rintro e w1 ⟨rfl, rfl⟩) | (with_reducible refine (CM.out _).mono ?_; rintro e w1 ⟨rfl, rfl⟩))
  refine bodyPost_ret (v := .tuple #[.int .u64 (mo w - a), .int .i64 0]) (by simp [results, Tryd.results45, go_sem]) rfl ?_
  exact ⟨rfl, rfl⟩

set_option maxRecDepth 100000 in
set_option maxHeartbeats 2000000 in
theorem rone_else {w : Nat} (hw : IsW w) (op : Int) (a : Int) (ho0 : 0 ≤ op) (ha : Of w a) (ho : op < 26 ∨ 31 < op) (W : World) :
    Calls Tryd.prog 45 #[.int .u8 op, .int .i64 (w : Int), .int .u64 a] W fun e W' => e = .returned (pairV (one op.toNat w a)) ∧ W' = W := by
  rw [one_none (by omega)]
  have CW := width_calls (w : Int)
  rw [isW_of hw] at CW
  have CW := hide CW
  have FA := rfits_calls hw a
  rw [decide_eq_true (mo_ge ha)] at FA
  have FA := hide FA
  have n26 : (op == 26) = false := by simp; omega
  have n27 : (op == 27) = false := by simp; omega
  have n28 : (op == 28) = false := by simp; omega
  have n29 : (op == 29) = false := by simp; omega
  have n30 : (op == 30) = false := by simp; omega
  have n31 : (op == 31) = false := by simp; omega
  clear ha ho ho0
  go_enter Tryd.func45, Tryd.ntmps45
  go_wp2_with (first | (with_reducible refine (CW.out _).mono ?_; rintro e w1 ⟨rfl, rfl⟩) | (with_reducible refine (FA.out _).mono ?_; rintro e w1 ⟨rfl, rfl⟩))
  refine bodyPost_ret (v := .tuple #[.int .u64 0, .int .i64 2]) (by simp [results, Tryd.results45, go_sem]) rfl ?_
  exact ⟨rfl, rfl⟩

set_option maxRecDepth 100000 in
set_option maxHeartbeats 1000000 in
theorem rone_bad (op w a : Int) (h0 : 0 ≤ a) (h : ok1 w a = false) (W : World) :
    Calls Tryd.prog 45 #[.int .u8 op, .int .i64 w, .int .u64 a] W fun e W' => e = .returned (pairV (0, 2)) ∧ W' = W := by
  have CW := width_calls w
  cases hw : isW w with
  | false =>
    rw [hw] at CW
    have CW := hide CW
    clear h
    go_enter Tryd.func45, Tryd.ntmps45
    go_wp2_with (first | (with_reducible refine (CW.out _).mono ?_; rintro e w1 ⟨rfl, rfl⟩))
    refine bodyPost_ret (v := .tuple #[.int .u64 0, .int .i64 2]) (by simp [results, Tryd.results45, go_sem]) rfl ?_
    exact ⟨rfl, rfl⟩
  | true =>
    rw [hw] at CW
    have CW := hide CW
    obtain ⟨n, rfl, hn⟩ := (isW_iff w).1 hw
    unfold ok1 at h
    rw [hw, Bool.true_and, Int.toNat_natCast] at h
    have FA := rfits_calls hn a
    rw [h] at FA
    have FA := hide FA
    clear h h0
    go_enter Tryd.func45, Tryd.ntmps45
    go_wp2_with (first | (with_reducible refine (CW.out _).mono ?_; rintro e w1 ⟨rfl, rfl⟩) | (with_reducible refine (FA.out _).mono ?_; rintro e w1 ⟨rfl, rfl⟩))
    refine bodyPost_ret (v := .tuple #[.int .u64 0, .int .i64 2]) (by simp [results, Tryd.results45, go_sem]) rfl ?_
    exact ⟨rfl, rfl⟩

/-- The document's One: every operator, at a number of a width. -/
theorem ROne_calls {w : Nat} (hw : IsW w) (op a : Int) (ho : 0 ≤ op) (ha : Of w a) (W : World) :
    Calls Tryd.prog 45 #[.int .u8 op, .int .i64 (w : Int), .int .u64 a] W fun e W' => e = .returned (pairV (one op.toNat w a)) ∧ W' = W := by
  by_cases hk : op < 26 ∨ 31 < op
  · exact rone_else hw op a ho ha hk W
  · rcases (show op = 26 ∨ op = 27 ∨ op = 28 ∨ op = 29 ∨ op = 30 ∨ op = 31 by omega) with rfl | rfl | rfl | rfl | rfl | rfl
    · exact rone_26 hw a ha W
    · exact rone_27 hw a ha W
    · exact rone_28 hw a ha W
    · exact rone_29 hw a ha W
    · exact rone_30 hw a ha W
    · exact rone_31 hw a ha W
end Go.Proofs.YtoihfmammmkloaaDoor.Z
