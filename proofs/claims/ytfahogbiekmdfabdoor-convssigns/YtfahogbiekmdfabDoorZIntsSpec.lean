/-
  What the operators answer, as functions on whole numbers; 'fit' at the slices that its callers make.
-/
import Derived.Test.YtfahogbiekmdfabDoorZIntsFit
set_option linter.unusedVariables false
set_option linter.unusedSimpArgs false
namespace Go.Proofs.YtfahogbiekmdfabDoor.Z
open Go.RowKit Ints

theorem mo_ge {w : Nat} {a : Int} (h : Of w a) : a ≤ mo w := by unfold mo; have := h.2; omega
theorem of_mo {w : Nat} {a : Int} (h0 : 0 ≤ a) : a ≤ mo w ↔ Of w a := by unfold mo Of; omega

theorem below_two (W : World) (o : Obj) : Below W.heap.size W (W.alloc o) := (Below.refl W.heap.size W).alloc (Nat.le_refl _) _

theorem cell_two0 (W : World) (x y : Value) (t : TypeId) : (W.alloc (.cells #[x, y] t)).cell? ⟨W.heap.size, 0, none⟩ = some x := by simp
theorem cell_two1 (W : World) (x y : Value) (t : TypeId) : (W.alloc (.cells #[x, y] t)).cell? ⟨W.heap.size, 1, none⟩ = some y := by simp
theorem cell_one0 (W : World) (x : Value) (t : TypeId) : (W.alloc (.cells #[x] t)).cell? ⟨W.heap.size, 0, none⟩ = some x := by simp

def ok2 (w : Int) (a b : Int) : Bool := isW w && (decide (a ≤ mo w.toNat) && decide (b ≤ mo w.toNat))
def ok1 (w : Int) (a : Int) : Bool := isW w && decide (a ≤ mo w.toNat)

theorem fit2 (w : Int) (a b : Int) (W : World) (hT : WTabs W) :
    Calls Tryd.prog 13 #[.int .i64 w, .slice (some ⟨W.heap.size, 0, none⟩) 2 2] (W.alloc (.cells #[.int .u64 a, .int .u64 b] 22)) fun e W' => e = .returned (.bool (ok2 w a b)) ∧ W' = W.alloc (.cells #[.int .u64 a, .int .u64 b] 22) := by
  have hT' := hT.later (below_two W (.cells #[.int .u64 a, .int .u64 b] 22))
  unfold ok2
  cases h : isW w with
  | false => simpa using fit_none w h _ _ hT'
  | true =>
    obtain ⟨n, rfl, hn⟩ := (isW_iff w).1 h
    simpa using fit_two hn W.heap.size a b _ hT' (cell_two0 ..) (cell_two1 ..)

theorem fit1 (w : Int) (a : Int) (W : World) (hT : WTabs W) :
    Calls Tryd.prog 13 #[.int .i64 w, .slice (some ⟨W.heap.size, 0, none⟩) 1 1] (W.alloc (.cells #[.int .u64 a] 22)) fun e W' => e = .returned (.bool (ok1 w a)) ∧ W' = W.alloc (.cells #[.int .u64 a] 22) := by
  have hT' := hT.later (below_two W (.cells #[.int .u64 a] 22))
  unfold ok1
  cases h : isW w with
  | false => simpa using fit_none w h _ _ hT'
  | true =>
    obtain ⟨n, rfl, hn⟩ := (isW_iff w).1 h
    simpa using fit_one hn W.heap.size a _ hT' (cell_one0 ..)

theorem fit0 (w : Int) (W : World) (hT : WTabs W) :
    Calls Tryd.prog 13 #[.int .i64 w, .slice none 0 0] W fun e W' => e = .returned (.bool (isW w)) ∧ W' = W := by
  cases h : isW w with
  | false => exact fit_none w h _ _ hT
  | true =>
    obtain ⟨n, rfl, hn⟩ := (isW_iff w).1 h
    exact fit_nil hn _ hT

theorem ok2_of {w : Nat} (hw : IsW w) {a b : Int} (ha : Of w a) (hb : Of w b) : ok2 w a b = true := by
  unfold ok2
  rw [(isW_iff w).2 ⟨w, rfl, hw⟩]
  simp [mo_ge ha, mo_ge hb]

theorem ok1_of {w : Nat} (hw : IsW w) {a : Int} (ha : Of w a) : ok1 w a = true := by
  unfold ok1
  rw [(isW_iff w).2 ⟨w, rfl, hw⟩]
  simp [mo_ge ha]

theorem of_ok2 {w a b : Int} (h0 : 0 ≤ a) (h1 : 0 ≤ b) (h : ok2 w a b = true) : ∃ n : Nat, w = n ∧ IsW n ∧ Of n a ∧ Of n b := by
  unfold ok2 at h
  simp only [Bool.and_eq_true, decide_eq_true_eq] at h
  obtain ⟨n, rfl, hn⟩ := (isW_iff w).1 h.1
  exact ⟨n, rfl, hn, (of_mo h0).1 h.2.1, (of_mo h1).1 h.2.2⟩

theorem of_ok1 {w a : Int} (h0 : 0 ≤ a) (h : ok1 w a = true) : ∃ n : Nat, w = n ∧ IsW n ∧ Of n a := by
  unfold ok1 at h
  simp only [Bool.and_eq_true, decide_eq_true_eq] at h
  obtain ⟨n, rfl, hn⟩ := (isW_iff w).1 h.1
  exact ⟨n, rfl, hn, (of_mo h0).1 h.2⟩

/-! The operators of two -/

def sh (w : Nat) (b : Int) : Nat := b.toNat % w
def addH (w : Nat) (a b : Int) : Int := cutI w (min (max (wo w a + wo w b) (lo w)) (hi w))
def subH (w : Nat) (a b : Int) : Int := cutI w (min (max (wo w a - wo w b) (lo w)) (hi w))
def q15I (a b : Int) : Int := cutI 16 (min ((wo 16 a * wo 16 b + 16384) / 32768) 32767)
def andI (a b : Int) : Int := ((a.toNat &&& b.toNat : Nat) : Int)
def orI (a b : Int) : Int := ((a.toNat ||| b.toNat : Nat) : Int)
def xorI (a b : Int) : Int := ((a.toNat ^^^ b.toNat : Nat) : Int)
def shlI (w : Nat) (a b : Int) : Int := cutI w (a * 2 ^ sh w b)
def shrI (w : Nat) (a b : Int) : Int := a / 2 ^ sh w b
def sarI (w : Nat) (a b : Int) : Int := cutI w (wo w a / 2 ^ sh w b)
def rotlI (w : Nat) (a b : Int) : Int := rotl w a.toNat (sh w b)
def rotrI (w : Nat) (a b : Int) : Int := rotl w a.toNat (w - sh w b)
def divS (w : Nat) (a b : Int) : Int := cutI w ((wo w a).tdiv (wo w b))
def remS (w : Nat) (a b : Int) : Int := cutI w ((wo w a).tmod (wo w b))
def traps (w : Nat) (a b : Int) : Bool := decide (wo w a = lo w) && decide (wo w b = -1)

/-- The answer, and the error's number. -/
def two (op : Nat) (w : Nat) (a b : Int) : Int × Int :=
  match op with
  | 1 => (cutI w (a + b), 0)
  | 2 => (cutI w (a - b), 0)
  | 3 => (cutI w (a * b), 0)
  | 4 => if b = 0 then (0, 6) else (a / b, 0)
  | 5 => if b = 0 then (0, 6) else (a % b, 0)
  | 6 => if b = 0 then (0, 6) else if traps w a b then (0, 6) else (divS w a b, 0)
  | 7 => if b = 0 then (0, 6) else (remS w a b, 0)
  | 8 => (andI a b, 0)
  | 9 => (orI a b, 0)
  | 10 => (xorI a b, 0)
  | 11 => (shlI w a b, 0)
  | 12 => (shrI w a b, 0)
  | 13 => (sarI w a b, 0)
  | 14 => (rotlI w a b, 0)
  | 15 => (rotrI w a b, 0)
  | 16 => (min (a + b) (mo w), 0)
  | 17 => (max (a - b) 0, 0)
  | 18 => (addH w a b, 0)
  | 19 => (subH w a b, 0)
  | 20 => (min a b, 0)
  | 21 => (max a b, 0)
  | 22 => (cutI w (min (wo w a) (wo w b)), 0)
  | 23 => (cutI w (max (wo w a) (wo w b)), 0)
  | 24 => ((a + b + 1) / 2, 0)
  | 25 => if w = 16 then (q15I a b, 0) else (0, 2)
  | _ => (0, 2)

/-- An answer with its error, as it is returned. -/
def pairV (p : Int × Int) : Value := .tuple #[.int .u64 p.1, .int .i64 p.2]
end Go.Proofs.YtfahogbiekmdfabDoor.Z
