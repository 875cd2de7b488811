/-
  'utf8.word' over a slice of bytes: eight bytes as one number; its high bits.
-/
import Derived.Test.YthillphedjjhjabDoorNameMath
import Derived.Test.YthillphedjjhjabDoorChecked
import Derived.Lib.ValidLaws
import Derived.Lib.EndianZ
import Derived.Lib.EndianBits
import Derived.WalkKit
import Derived.ProofKit
import Derived.RegionTactic
import Derived.Deep.Draws
import Derived.Deep.QuietTactic
import Derived.Shelf.RegionOpenPlain
import Derived.Deep.DeepBigQuietO
import Derived.Laws.BitsAllLaws
namespace Go.Proofs.YthillphedjjhjabDoor
open Go.RowKit Go.Lib

/-- The eight bytes at hand, as one number, the lowest first. -/
def word8 (l : List Int) : Nat := leNat ((l.take 8).map Lib.byteOf)

theorem word8_lt (l : List Int) (h : 8 ≤ l.length) : word8 l < 18446744073709551616 := by
  have := leNat_lt ((l.take 8).map Lib.byteOf)
  simpa [word8, Nat.min_eq_left h] using this

def Asc (l : List Int) (k : Nat) : Prop := k ≤ l.length ∧ ∀ i, i < k → l[i]?.getD 0 < 128

theorem byteNat (z : Int) (h : 0 ≤ z ∧ z ≤ 255) : ((Lib.byteOf z).toNat : Int) = z := byteOf_toNat h

theorem word8_asc (l : List Int) (h : 8 ≤ l.length) (hb : Leb.Bytes l) : word8 l &&& 9259542123273814144 = 0 ↔ Asc l 8 := by
  have hm := leNat_mask ((l.take 8).map Lib.byteOf)
  have e : ((l.take 8).map Lib.byteOf).length = 8 := by simp [Nat.min_eq_left h]
  have e2 : maskN ((l.take 8).map Lib.byteOf).length = 9259542123273814144 := by rw [e]; rfl
  rw [e2] at hm
  unfold word8
  rw [hm]
  constructor
  · intro hh
    refine ⟨h, fun i hi => ?_⟩
    have hx := hb i
    rw [List.getElem?_eq_getElem (show i < l.length by omega)] at hx ⊢
    simp at hx ⊢
    have := hh (Lib.byteOf l[i]) (by
      rw [List.mem_map]
      exact ⟨l[i], List.mem_take_iff_getElem.2 ⟨i, by omega, rfl⟩, rfl⟩)
    have h2 := byteNat l[i] hx
    omega
  · intro ⟨_, hh⟩ b hbm
    rw [List.mem_map] at hbm
    obtain ⟨z, hz, rfl⟩ := hbm
    obtain ⟨i, hi, rfl⟩ := List.mem_take_iff_getElem.1 hz
    have hi' : i < l.length := by omega
    have hx := hb i
    have := hh i (by omega)
    rw [List.getElem?_eq_getElem hi'] at hx this
    simp at hx this
    have h2 := byteNat l[i] hx
    omega

theorem word8_sum (l : List Int) (h : 8 ≤ l.length) (hb : Leb.Bytes l) :
    ((word8 l : Nat) : Int) = l[0]?.getD 0 + l[1]?.getD 0 * 256 + l[2]?.getD 0 * 65536 + l[3]?.getD 0 * 16777216 + l[4]?.getD 0 * 4294967296 + l[5]?.getD 0 * 1099511627776 + l[6]?.getD 0 * 281474976710656 + l[7]?.getD 0 * 72057594037927936 := by
  unfold word8
  rw [leNat_byteOf _ (by
    intro z hz
    obtain ⟨i, hi, rfl⟩ := List.mem_take_iff_getElem.1 hz
    have hi' : i < l.length := by omega
    have hx := hb i
    rw [List.getElem?_eq_getElem hi'] at hx
    simpa using hx)]
  match l, h with
  | x0 :: x1 :: x2 :: x3 :: x4 :: x5 :: x6 :: x7 :: t, _ =>
    simp [leZ]
    omega

set_option maxHeartbeats 4000000 in
set_option maxRecDepth 100000 in
theorem word_walk (b off n c : Nat) (x0 x1 x2 x3 x4 x5 x6 x7 : Int) (w : World) (h8 : 8 ≤ n)
    (b0 : 0 ≤ x0 ∧ x0 < 256) (b1 : 0 ≤ x1 ∧ x1 < 256) (b2 : 0 ≤ x2 ∧ x2 < 256) (b3 : 0 ≤ x3 ∧ x3 < 256) (b4 : 0 ≤ x4 ∧ x4 < 256) (b5 : 0 ≤ x5 ∧ x5 < 256) (b6 : 0 ≤ x6 ∧ x6 < 256) (b7 : 0 ≤ x7 ∧ x7 < 256)
    (c0 : w.cell? ⟨b, off, none⟩ = some (.int .u8 x0)) (c1 : w.cell? ⟨b, off + 1, none⟩ = some (.int .u8 x1)) (c2 : w.cell? ⟨b, off + 2, none⟩ = some (.int .u8 x2)) (c3 : w.cell? ⟨b, off + 3, none⟩ = some (.int .u8 x3))
    (c4 : w.cell? ⟨b, off + 4, none⟩ = some (.int .u8 x4)) (c5 : w.cell? ⟨b, off + 5, none⟩ = some (.int .u8 x5)) (c6 : w.cell? ⟨b, off + 6, none⟩ = some (.int .u8 x6)) (c7 : w.cell? ⟨b, off + 7, none⟩ = some (.int .u8 x7)) :
    Calls Tryd.prog 23 #[.slice (some ⟨b, off, none⟩) n c] w fun e w' => e = .returned (.int .u64 (x0 + x1 * 256 + x2 * 65536 + x3 * 16777216 + x4 * 4294967296 + x5 * 1099511627776 + x6 * 281474976710656 + x7 * 72057594037927936)) ∧ ∃ q, w' = w.drewN q := by
  have q0 : (0 : Int) < (n : Int) := by omega
  have q1 : (1 : Int) < (n : Int) := by omega
  have q2 : (2 : Int) < (n : Int) := by omega
  have q3 : (3 : Int) < (n : Int) := by omega
  have q4 : (4 : Int) < (n : Int) := by omega
  have q5 : (5 : Int) < (n : Int) := by omega
  have q6 : (6 : Int) < (n : Int) := by omega
  have q7 : (7 : Int) < (n : Int) := by omega
  go_enter Tryd.func23, Tryd.ntmps23
  go_wp2
  go_quiet (fail)
  go_wp2
  go_ret
  refine ⟨?_, _, rfl⟩
  simp (disch := omega) only [u64_or8, u64_or16, u64_or24, u64_or32, u64_or40, u64_or48, u64_or56]
  rfl

theorem word_calls (b off n c : Nat) (l : List Int) (w : World) (h8 : 8 ≤ n) (hl : 8 ≤ l.length) (hb : Leb.Bytes l) (hc : ∀ i, i < 8 → w.cell? ⟨b, off + i, none⟩ = some (.int .u8 (l[i]?.getD 0))) :
    Calls Tryd.prog 23 #[.slice (some ⟨b, off, none⟩) n c] w fun e w' => e = .returned (.int .u64 (word8 l)) ∧ ∃ q, w' = w.drewN q := by
  have B : ∀ i : Nat, 0 ≤ l[i]?.getD 0 ∧ l[i]?.getD 0 < 256 := fun i => by have := hb i; omega
  rw [word8_sum l hl hb]
  exact word_walk b off n c _ _ _ _ _ _ _ _ w h8 (B 0) (B 1) (B 2) (B 3) (B 4) (B 5) (B 6) (B 7) (hc 0 (by decide)) (hc 1 (by decide)) (hc 2 (by decide)) (hc 3 (by decide)) (hc 4 (by decide)) (hc 5 (by decide)) (hc 6 (by decide)) (hc 7 (by decide))

end Go.Proofs.YthillphedjjhjabDoor
