/-
  VinSpec, VinRTwo, VinRTwoAll, VinROne, VinRShift, VinRThan, VinRAll, VinRefs.
-/
import Derived.Test.YtoihfmammmkloabDoorPkRef
import Derived.Test.YtoihfmammmkloabDoorZIntsTwoP
import Derived.Test.YtoihfmammmkloabDoorPkRTwo
import Derived.Test.YtoihfmammmkloabDoorPkOne
import Derived.Test.YtoihfmammmkloabDoorPkThan
/-
  What the operators of lanes answer, by ints' (Z) and the lanes.
-/
set_option linter.unusedVariables false
set_option linter.unusedSimpArgs false
namespace Go.Proofs.YtoihfmammmkloabDoor
open Go.RowKit Lan

theorem zw {w : Nat} (h : IsW w) : Ints.IsW w := h
theorem zof {w n : Nat} (h : n < 2 ^ w) : Z.Of w (n : Int) := ⟨by omega, by exact_mod_cast h⟩
theorem zlt {w : Nat} {a : Int} (h : Z.Of w a) : a.toNat < 2 ^ w ∧ ((a.toNat : Nat) : Int) = a := by
  obtain ⟨h0, h1⟩ := h
  obtain ⟨n, rfl⟩ := Int.eq_ofNat_of_zero_le h0
  exact ⟨by exact_mod_cast h1, rfl⟩

/-- The operators of two that lanes have not. -/
def refused (op : Nat) : Bool := (4 ≤ op && op ≤ 7) || (11 ≤ op && op ≤ 15)
/-- The operators of two that lanes of the width have. -/
def tok (op w : Nat) : Bool := (1 ≤ op && op ≤ 3) || (8 ≤ op && op ≤ 10) || (16 ≤ op && op ≤ 24) || (op == 25 && w == 16)

theorem cut_of (w : Nat) (n : Int) : Z.Of w (Z.cutI w n) := by
  have h : (0 : Int) < 2 ^ w := by exact_mod_cast Nat.two_pow_pos w
  exact ⟨Int.emod_nonneg _ (by omega), Int.emod_lt_of_pos _ h⟩

theorem op_cases {op : Nat} (h : tok op 16 = true) : op = 1 ∨ op = 2 ∨ op = 3 ∨ op = 8 ∨ op = 9 ∨ op = 10 ∨ op = 16 ∨ op = 17 ∨ op = 18 ∨ op = 19 ∨ op = 20 ∨ op = 21 ∨ op = 22 ∨ op = 23 ∨ op = 24 ∨ op = 25 := by
  unfold tok at h
  simp at h
  omega

theorem tok16 {op w : Nat} (h : tok op w = true) : tok op 16 = true := by
  unfold tok at *
  simp at *
  omega

theorem tok25 {w : Nat} (h : tok 25 w = true) : w = 16 := by
  unfold tok at h
  simpa using h

theorem nat_of (w : Nat) (n : Nat) (h : n < 2 ^ w) : Z.Of w (n : Int) := zof h

/-- What such an operator answers is a number of the width, and no error. -/
theorem two_ok {op w : Nat} (h : tok op w = true) {a b : Int} (ha : Z.Of w a) (hb : Z.Of w b) : Z.Of w (Z.two op w a b).1 ∧ (Z.two op w a b).2 = 0 := by
  have hp : (0 : Int) < 2 ^ w := by exact_mod_cast Nat.two_pow_pos w
  have h25 := fun e : op = 25 => tok25 (e ▸ h)
  rcases op_cases (tok16 h) with rfl | rfl | rfl | rfl | rfl | rfl | rfl | rfl | rfl | rfl | rfl | rfl | rfl | rfl | rfl | rfl
  · exact ⟨cut_of _ _, rfl⟩
  · exact ⟨cut_of _ _, rfl⟩
  · exact ⟨cut_of _ _, rfl⟩
  · refine ⟨?_, rfl⟩
    exact nat_of w _ (Nat.lt_of_le_of_lt Nat.and_le_left (zlt ha).1)
  · refine ⟨?_, rfl⟩
    exact nat_of w _ (Nat.or_lt_two_pow (zlt ha).1 (zlt hb).1)
  · refine ⟨?_, rfl⟩
    exact nat_of w _ (Nat.xor_lt_two_pow (zlt ha).1 (zlt hb).1)
  · refine ⟨⟨?_, ?_⟩, rfl⟩ <;> (obtain ⟨a0, a1⟩ := ha; obtain ⟨b0, b1⟩ := hb; simp only [Z.two, Z.mo]; omega)
  · refine ⟨⟨?_, ?_⟩, rfl⟩ <;> (obtain ⟨a0, a1⟩ := ha; obtain ⟨b0, b1⟩ := hb; simp only [Z.two]; omega)
  · exact ⟨cut_of _ _, rfl⟩
  · exact ⟨cut_of _ _, rfl⟩
  · refine ⟨⟨?_, ?_⟩, rfl⟩ <;> (obtain ⟨a0, a1⟩ := ha; obtain ⟨b0, b1⟩ := hb; simp only [Z.two]; omega)
  · refine ⟨⟨?_, ?_⟩, rfl⟩ <;> (obtain ⟨a0, a1⟩ := ha; obtain ⟨b0, b1⟩ := hb; simp only [Z.two]; omega)
  · exact ⟨cut_of _ _, rfl⟩
  · exact ⟨cut_of _ _, rfl⟩
  · refine ⟨⟨?_, ?_⟩, rfl⟩ <;> (obtain ⟨a0, a1⟩ := ha; obtain ⟨b0, b1⟩ := hb; simp only [Z.two]; omega)
  · have := h25 rfl
    subst this
    exact ⟨cut_of _ _, rfl⟩

theorem two_bad {op w : Nat} (h : tok op w = false) (hr : refused op = false) (a b : Int) : Z.two op w a b = (0, 2) := by
  by_cases h25 : op = 25
  · subst h25
    have : w ≠ 16 := by
      intro e; subst e; cases h
    simp [Z.two, this]
  · have hn : op = 0 ∨ 25 < op := by
      unfold tok at h
      unfold refused at hr
      simp at h hr
      omega
    rcases hn with rfl | hn
    · rfl
    · unfold Z.two
      split <;> first | omega | rfl

/-- The lanes' answer. -/
def vtwoN (op w : Nat) (a b : Nat × Nat) (i : Nat) : Nat := (Z.two op w (laneN a w i : Int) (laneN b w i : Int)).1.toNat
def vlanes (w : Nat) (f : Nat → Nat) : Nat × Nat := vecN w ((List.range (128 / w)).map f)
def bad2 : (Nat × Nat) × Int := ((0, 0), 2)
def vtwo (op w : Int) (a b : Nat × Nat) : (Nat × Nat) × Int :=
  if refused op.toNat then bad2 else if isW w then (if tok op.toNat w.toNat then (vlanes w.toNat (vtwoN op.toNat w.toNat a b), 0) else bad2) else bad2

/-- The operators of one that lanes have. -/
def ook (op : Nat) : Bool := 28 ≤ op && op ≤ 31
def voneN (op w : Nat) (a : Nat × Nat) (i : Nat) : Nat := (Z.one op w (laneN a w i : Int)).1.toNat
def vone (op w : Int) (a : Nat × Nat) : (Nat × Nat) × Int := if isW w && ook op.toNat then (vlanes w.toNat (voneN op.toNat w.toNat a), 0) else bad2

def sok (op : Nat) : Bool := 11 ≤ op && op ≤ 13
def vshiftN (op w : Nat) (a : Nat × Nat) (n : Nat) (i : Nat) : Nat := (Z.two op w (laneN a w i : Int) ((n % w : Nat) : Int)).1.toNat
def vshift (op w : Int) (a : Nat × Nat) (n : Nat) : (Nat × Nat) × Int := if isW w && sok op.toNat then (vlanes w.toNat (vshiftN op.toNat w.toNat a n), 0) else bad2

def hok (op : Nat) : Bool := 32 ≤ op && op ≤ 41
def vthanN (op w : Nat) (a b : Nat × Nat) (i : Nat) : Nat := if (Z.than op w (laneN a w i : Int) (laneN b w i : Int)).1 then 2 ^ w - 1 else 0
def vthan (op w : Int) (a b : Nat × Nat) : (Nat × Nat) × Int := if isW w && hok op.toNat then (vlanes w.toNat (vthanN op.toNat w.toNat a b), 0) else bad2

def vallB (w : Nat) (a : Nat × Nat) : Bool := (List.range (128 / w)).all fun i => laneN a w i != 0
def vall (w : Int) (a : Nat × Nat) : Bool × Int := if isW w then (vallB w.toNat a, 0) else (false, 2)

/-- The highest bits of the first k lanes. -/
def vmaskN (w : Nat) (a : Nat × Nat) : Nat → Nat
  | 0 => 0
  | k + 1 => vmaskN w a k + (if laneN a w k < 2 ^ (w - 1) then 0 else 2 ^ k)
def vmask (w : Int) (a : Nat × Nat) : Int × Int := if isW w then ((vmaskN w.toNat a (128 / w.toNat) : Int), 0) else (0, 2)

def vnarN (w : Nat) (s : Bool) (a b : Nat × Nat) (i : Nat) : Nat :=
  (Z.narV w (w / 2) s (if i < 128 / w then laneN a w i else laneN b w (i - 128 / w) : Nat)).toNat
def vnar (w : Int) (s : Bool) (a b : Nat × Nat) : (Nat × Nat) × Int := if w == 16 || w == 32 then (vlanes (w.toNat / 2) (vnarN w.toNat s a b), 0) else bad2

def vwideN (w : Nat) (s h : Bool) (a : Nat × Nat) (i : Nat) : Nat := (Z.extV w (2 * w) s (laneN a w (if h then i + 64 / w else i) : Int)).toNat
def isW3 (w : Int) : Bool := w == 8 || w == 16 || w == 32
def vwide (w : Int) (s h : Bool) (a : Nat × Nat) : (Nat × Nat) × Int := if isW3 w then (vlanes (2 * w.toNat) (vwideN w.toNat s h a), 0) else bad2
def vtimesN (w : Nat) (s h : Bool) (a b : Nat × Nat) (i : Nat) : Nat := vwideN w s h a i * vwideN w s h b i % 2 ^ (2 * w)
def vtimes (w : Int) (s h : Bool) (a b : Nat × Nat) : (Nat × Nat) × Int := if isW3 w then (vlanes (2 * w.toNat) (vtimesN w.toNat s h a b), 0) else bad2
def vpairsN (w : Nat) (s : Bool) (a : Nat × Nat) (i : Nat) : Nat := ((Z.extV w (2 * w) s (laneN a w (2 * i) : Int)).toNat + (Z.extV w (2 * w) s (laneN a w (2 * i + 1) : Int)).toNat) % 2 ^ (2 * w)
def vpairs (w : Int) (s : Bool) (a : Nat × Nat) : (Nat × Nat) × Int := if w == 8 || w == 16 then (vlanes (2 * w.toNat) (vpairsN w.toNat s a), 0) else bad2
def vdotN (a b : Nat × Nat) (i : Nat) : Nat :=
  (Z.cutI 32 (Ints.wo 16 (laneN a 16 (2 * i) : Int) * Ints.wo 16 (laneN b 16 (2 * i) : Int) + Ints.wo 16 (laneN a 16 (2 * i + 1) : Int) * Ints.wo 16 (laneN b 16 (2 * i + 1) : Int))).toNat
def vdot (a b : Nat × Nat) : (Nat × Nat) × Int := (vlanes 32 (vdotN a b), 0)
end Go.Proofs.YtoihfmammmkloabDoor
/-
  The document's Two of lanes.
-/
set_option linter.unusedVariables false
set_option linter.unusedSimpArgs false
namespace Go.Proofs.YtoihfmammmkloabDoor
open Go.RowKit Lan

end Go.Proofs.YtoihfmammmkloabDoor
/-
  The document's Two of lanes: all of it.
-/
set_option linter.unusedVariables false
set_option linter.unusedSimpArgs false
namespace Go.Proofs.YtoihfmammmkloabDoor
open Go.RowKit Lan

theorem list_call {w c : Nat} (hw : IsW w) (hc : 128 / w = c) (v : Nat × Nat) (W : World) :
    Calls Tryd.prog 20 #[vecV v, .int .i64 (w : Int)] W fun e W' => ListPost W c ((List.range c).map (laneN v w)) e W' := by
  have := rlist_calls hw hc v W
  rwa [show listN v w = (List.range c).map (laneN v w) by unfold listN; rw [hc]] at this
theorem c_of {w : Nat} (hw : IsW w) : ∃ c, 128 / w = c ∧ c ≤ 16 ∧ 2 ≤ c := ⟨_, rfl, by rcases hw with rfl | rfl | rfl | rfl <;> decide, by rcases hw with rfl | rfl | rfl | rfl <;> decide⟩
theorem vlanes_zero {w : Nat} (hw : IsW w) : vlanes w (fun _ => 0) = (0, 0) := by
  rcases hw with rfl | rfl | rfl | rfl <;> decide

end Go.Proofs.YtoihfmammmkloabDoor
/-
  The document's One of lanes.
-/
set_option linter.unusedVariables false
set_option linter.unusedSimpArgs false
namespace Go.Proofs.YtoihfmammmkloabDoor
open Go.RowKit Lan

end Go.Proofs.YtoihfmammmkloabDoor
/-
  The document's Shift of lanes.
-/
set_option linter.unusedVariables false
set_option linter.unusedSimpArgs false
namespace Go.Proofs.YtoihfmammmkloabDoor
open Go.RowKit Lan

end Go.Proofs.YtoihfmammmkloabDoor
/-
  The document's Than of lanes.
-/
set_option linter.unusedVariables false
set_option linter.unusedSimpArgs false
namespace Go.Proofs.YtoihfmammmkloabDoor
open Go.RowKit Lan

end Go.Proofs.YtoihfmammmkloabDoor
/-
  The document's All and Mask of lanes.
-/
set_option linter.unusedVariables false
set_option linter.unusedSimpArgs false
namespace Go.Proofs.YtoihfmammmkloabDoor
open Go.RowKit Lan

theorem pow_wrap64 (k : Nat) (h : k < 16) : IntKind.u64.wrap (2 ^ k : Int) = (2 ^ k : Int) := by
  rcases (show k = 0 ∨ k = 1 ∨ k = 2 ∨ k = 3 ∨ k = 4 ∨ k = 5 ∨ k = 6 ∨ k = 7 ∨ k = 8 ∨ k = 9 ∨ k = 10 ∨ k = 11 ∨ k = 12 ∨ k = 13 ∨ k = 14 ∨ k = 15 by omega) with rfl | rfl | rfl | rfl | rfl | rfl | rfl | rfl | rfl | rfl | rfl | rfl | rfl | rfl | rfl | rfl <;> rfl

end Go.Proofs.YtoihfmammmkloabDoor
/-
  The document's One, Shift, Than, All, Mask of lanes: all of them.
-/
set_option linter.unusedVariables false
set_option linter.unusedSimpArgs false
namespace Go.Proofs.YtoihfmammmkloabDoor
open Go.RowKit Lan

theorem pow256 {w : Nat} (hw : IsW w) : (256 : Int) ≤ 2 ^ w := by rcases hw with rfl | rfl | rfl | rfl <;> decide

theorem one_ok {op w : Nat} (hw : IsW w) (h : ook op = true) {a : Int} (ha : Z.Of w a) : Z.Of w (Z.one op w a).1 ∧ (Z.one op w a).2 = 0 := by
  have hp := pow256 hw
  have h' : op = 28 ∨ op = 29 ∨ op = 30 ∨ op = 31 := by unfold ook at h; simp at h; omega
  rcases h' with rfl | rfl | rfl | rfl
  · refine ⟨?_, rfl⟩
    have := Z.pc_le (zw hw) ha
    exact ⟨this.1, by show Z.pcI a < 2 ^ w; omega⟩
  · refine ⟨?_, rfl⟩
    obtain ⟨a0, a1⟩ := ha
    show Z.Of w (Z.absI w a)
    have hh : (0 : Int) < 2 ^ (w - 1) := by exact_mod_cast Nat.two_pow_pos (w - 1)
    unfold Z.absI Z.hi
    split
    · exact ⟨a0, a1⟩
    · exact ⟨by omega, by omega⟩
  · exact ⟨cut_of _ _, rfl⟩
  · refine ⟨?_, rfl⟩
    obtain ⟨a0, a1⟩ := ha
    show Z.Of w (Z.mo w - a)
    unfold Z.mo
    exact ⟨by omega, by omega⟩

theorem shift_ok {op w : Nat} (h : sok op = true) {a b : Int} (ha : Z.Of w a) : Z.Of w (Z.two op w a b).1 ∧ (Z.two op w a b).2 = 0 := by
  have h' : op = 11 ∨ op = 12 ∨ op = 13 := by unfold sok at h; simp at h; omega
  rcases h' with rfl | rfl | rfl
  · exact ⟨cut_of _ _, rfl⟩
  · refine ⟨?_, rfl⟩
    obtain ⟨a0, a1⟩ := ha
    show Z.Of w (a / 2 ^ Z.sh w b)
    have hp : (0 : Int) < 2 ^ Z.sh w b := by exact_mod_cast Nat.two_pow_pos _
    exact ⟨Int.ediv_nonneg a0 (by omega), Int.lt_of_le_of_lt (Int.ediv_le_self _ a0) a1⟩
  · exact ⟨cut_of _ _, rfl⟩

theorem than_ok {op w : Nat} (h : hok op = true) (a b : Int) : (Z.than op w a b).2 = 0 := by
  have h' : op = 32 ∨ op = 33 ∨ op = 34 ∨ op = 35 ∨ op = 36 ∨ op = 37 ∨ op = 38 ∨ op = 39 ∨ op = 40 ∨ op = 41 := by unfold hok at h; simp at h; omega
  rcases h' with rfl | rfl | rfl | rfl | rfl | rfl | rfl | rfl | rfl | rfl <;> rfl
theorem than_bad {op w : Nat} (h : hok op = false) (a b : Int) : Z.than op w a b = (false, 2) := by
  have h' : op < 32 ∨ 41 < op := by unfold hok at h; simp at h; omega
  unfold Z.than
  split <;> first | omega | rfl

theorem mask_lt (w : Nat) (a : Nat × Nat) : ∀ k, vmaskN w a k < 2 ^ k
  | 0 => Nat.one_pos
  | k + 1 => by
    have := mask_lt w a k
    have e : 2 ^ (k + 1) = 2 ^ k + 2 ^ k := by rw [Nat.pow_succ]; omega
    unfold vmaskN
    split <;> omega

theorem or_pow {x k : Nat} (hx : x < 2 ^ k) (hk : k < 16) : bits .or .u64 (x : Int) (2 ^ k : Int) = ((x + 2 ^ k : Nat) : Int) := by
  have hp : 2 ^ k < 2 ^ 64 := Nat.pow_lt_pow_right (by decide) (by omega)
  have e : (2 ^ k : Int) = ((2 ^ k : Nat) : Int) := by push_cast; rfl
  rw [e, bits_or_u64_nat x _ (by omega) hp]
  congr 1
  have h := Nat.two_pow_add_eq_or_of_lt hx 1
  rw [Nat.mul_one] at h
  rw [Nat.or_comm, ← h, Nat.add_comm]

end Go.Proofs.YtoihfmammmkloabDoor
