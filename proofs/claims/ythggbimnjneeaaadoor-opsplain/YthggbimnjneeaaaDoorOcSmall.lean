/-
  The small functions that ops leans on: a byte's place in a text, Cut, Contains, HasSuffix, a letter's type, the types of letters, a family's whole name.
-/
import Derived.Test.YthggbimnjneeaaaDoorOpsMath
import Derived.Test.YthggbimnjneeaaaDoorOcFamD
import Derived.Test.YthggbimnjneeaaaDoorOcTabs
import Derived.Lib.Bytealg
import Derived.Shelf.RegionOpenPlain
import Derived.Deep.OwnRows
set_option linter.unusedVariables false
set_option maxRecDepth 100000
set_option linter.unusedSimpArgs false
namespace Go.Proofs.YthggbimnjneeaaaDoor
open Go.RowKit Opp Opc

/-- Where the letter stands first; -1. -/
def ixN (l : List Nat) (c : Nat) : Int := if l.findIdx (· == c) < l.length then (l.findIdx (· == c) : Int) else -1
theorem str_data (l : List Nat) : (str l).data.toList = l.map Nat.toUInt8 := rfl
theorem toU8_eq {a c : Nat} (ha : a < 256) (hc : c < 256) : (a.toUInt8 == c.toUInt8) = (a == c) := by
  by_cases h : a = c
  · subst h; simp
  · have : a.toUInt8 ≠ c.toUInt8 := by
      intro e
      have := congrArg UInt8.toNat e
      simp [Nat.toUInt8, UInt8.ofNat, UInt8.toNat, BitVec.toNat_ofNat] at this
      omega
    rw [beq_eq_false_iff_ne.2 this, beq_eq_false_iff_ne.2 h]
theorem indexByte_str : ∀ {l : List Nat}, Let l → ∀ {c : Nat}, c < 256 → Lib.indexByte (l.map Nat.toUInt8) c.toUInt8 = ixN l c
  | [], _, c, hc => rfl
  | a :: l, hl, c, hc => by
    have ih := indexByte_str (l := l) (fun x hx => hl x (by simp [hx])) hc
    have ha : a < 256 := hl a (by simp)
    simp only [List.map_cons, Lib.indexByte, toU8_eq ha hc, ih]
    unfold ixN
    by_cases h : a = c
    · subst h
      simp [List.findIdx_cons]
    · have h1 : (a == c) = false := beq_eq_false_iff_ne.2 h
      simp only [h1, List.findIdx_cons, cond_false, List.length_cons, Bool.false_eq_true, if_false]
      by_cases h2 : l.findIdx (· == c) < l.length
      · rw [if_pos h2, if_pos (show l.findIdx (· == c) + 1 < l.length + 1 by omega)]
        have : ((l.findIdx (· == c) : Int) == -1) = false := beq_eq_false_iff_ne.2 (by omega)
        rw [this]
        simp
      · rw [if_neg h2, if_neg (show ¬ (l.findIdx (· == c) + 1 < l.length + 1) by omega)]
        rfl

theorem indexExt (l : List Nat) (hl : Let l) (c : Nat) (hc : c < 256) (w : World) :
    (callFunc 75 #[.string (str l), .int .u8 (c : Int)]).run Tryd.prog w = .ok (.value (.int .i64 (ixN l c))) w := by
  rw [run_callFunc_extern Tryd.func75 (by kernel_rfl) (by kernel_rfl) (by kernel_rfl) (e := Extern.BytealgIndexByte.indexByte) (by kernel_rfl), Lib.run_indexByteString]
  rw [str_data, Int.toNat_natCast, indexByte_str hl hc]
  rfl
theorem ibyte_calls (l : List Nat) (hl : Let l) (c : Nat) (hc : c < 256) (w : World) :
    Calls Tryd.prog 69 #[.string (str l), .int .u8 (c : Int)] w fun e w' => e = .returned (.int .i64 (ixN l c)) ∧ w' = w := by
  have hx := fun w => indexExt l hl c hc w
  go_enter Tryd.func69, Tryd.ntmps69
  go_wp2
  go_ret
  exact ⟨rfl, rfl⟩

theorem sindex46_calls (l : List Nat) (hl : Let l) (w : World) :
    Calls Tryd.prog 64 #[.string (str l), .string ⟨#[46]⟩] w fun e w' => e = .returned (.int .i64 (ixN l 46)) ∧ w' = w := by
  by_cases hq : l = [46]
  · subst hq
    rw [show str [46] = ⟨#[46]⟩ from rfl, show ixN [46] 46 = 0 from rfl]
    go_enter Tryd.func64, Tryd.ntmps64
    go_wp2
    go_ret
    exact ⟨rfl, rfl⟩
  have hne : ([(46 : UInt8)] == (str l).toList) = false := by
    refine beq_eq_false_iff_ne.2 fun e => hq (str_inj hl (by intro x hx; simp at hx; omega) ?_)
    refine ByteArray.ext (Array.ext' ?_)
    rw [ByteArray.toList_eq] at e
    exact e.symm
  have C := hideT (fun w => ibyte_calls l hl 46 (by decide) w)
  clear hl hq
  go_enter Tryd.func64, Tryd.ntmps64
  go_wp2_with fail
  refine (C.out _).mono ?_
  rintro e w' ⟨rfl, rfl⟩
  go_wp2
  go_ret
  exact ⟨rfl, rfl⟩
theorem index46_calls (l : List Nat) (hl : Let l) (w : World) :
    Calls Tryd.prog 68 #[.string (str l), .string ⟨#[46]⟩] w fun e w' => e = .returned (.int .i64 (ixN l 46)) ∧ w' = w := by
  have C := hideT (fun w => sindex46_calls l hl w)
  go_enter Tryd.func68, Tryd.ntmps68
  go_wp2_with fail
  refine (C.out _).mono ?_
  rintro e w' ⟨rfl, rfl⟩
  go_wp2
  go_ret
  exact ⟨rfl, rfl⟩
theorem contains46_calls (l : List Nat) (hl : Let l) (w : World) :
    Calls Tryd.prog 63 #[.string (str l), .string ⟨#[46]⟩] w fun e w' => e = .returned (.bool (decide (0 ≤ ixN l 46))) ∧ w' = w := by
  have C := hideT (fun w => index46_calls l hl w)
  generalize ixN l 46 = x at *
  go_enter Tryd.func63, Tryd.ntmps63
  go_wp2_with fail
  refine (C.out _).mono ?_
  rintro e w' ⟨rfl, rfl⟩
  go_wp2
  go_ret
  exact ⟨rfl, rfl⟩
theorem cut46_calls (l : List Nat) (hl : Let l) (hn : l.length ≤ 1000000) (w : World) :
    Calls Tryd.prog 30 #[.string (str l), .string ⟨#[46]⟩] w fun e w' =>
      e = .returned (.tuple (if l.findIdx (· == 46) < l.length then #[.string (str (l.take (l.findIdx (· == 46)))), .string (str (l.drop (l.findIdx (· == 46) + 1))), .bool true] else #[.string (str l), .string ⟨#[]⟩, .bool false])) ∧ Below w.heap.size w w' := by
  have C := (fun w => sindex46_calls l hl w)
  by_cases h : l.findIdx (· == 46) < l.length
  · rw [if_pos h]
    have e : ixN l 46 = (l.findIdx (· == 46) : Int) := if_pos h
    rw [e] at C
    have C := hideT C
    obtain ⟨k, hk⟩ : ∃ k, l.findIdx (· == 46) = k := ⟨_, rfl⟩
    rw [hk] at C h ⊢
    have e1 := str_extract l 0 k
    have e2 := str_extract l (k + 1) l.length
    rw [List.drop_zero, Nat.sub_zero] at e1
    rw [List.take_of_length_le (by simp)] at e2
    rw [← e1, ← e2]
    have hs := str_size l
    clear e hk e1 e2 hl
    obtain ⟨s, hs0⟩ : ∃ s, str l = s := ⟨_, rfl⟩
    rw [hs0] at C hs ⊢
    rw [← hs]
    rw [← hs] at h hn
    clear hs0 hs
    have mixed : Tryd.prog.follows .mixedOrders = true := by kernel_rfl
    have c1 : (0 : Int) ≤ (k : Int) := by omega
    have c2 : (k : Int) ≤ (s.size : Int) := by omega
    have c3 : (0 : Int) ≤ (k : Int) + 1 := by omega
    have c4 : (k : Int) + 1 ≤ (s.size : Int) := by omega
    have w1 : wrap64 ((k : Int) + 1) = (k : Int) + 1 := by unfold wrap64; omega
    go_enter Tryd.func30, Tryd.ntmps30
    go_wp2_with fail
    refine (C.out _).mono ?_
    rintro e w' ⟨rfl, rfl⟩
    clear C
    go_wp2_with fail
    go_region_o
    go_wp2
    go_ret3
    exact ⟨rfl, (Below.refl _ _).drew⟩
  · rw [if_neg h]
    have e : ixN l 46 = -1 := if_neg h
    rw [e] at C
    have C := hideT C
    clear e h hl
    go_enter Tryd.func30, Tryd.ntmps30
    go_wp2_with fail
    refine (C.out _).mono ?_
    rintro e w' ⟨rfl, rfl⟩
    clear C
    go_wp2
    go_ret3
    exact ⟨rfl, Below.refl _ _⟩

theorem sindex58_calls (l : List Nat) (hl : Let l) (w : World) :
    Calls Tryd.prog 64 #[.string (str l), .string ⟨#[58]⟩] w fun e w' => e = .returned (.int .i64 (ixN l 58)) ∧ w' = w := by
  by_cases hq : l = [58]
  · subst hq
    rw [show str [58] = ⟨#[58]⟩ from rfl, show ixN [58] 58 = 0 from rfl]
    go_enter Tryd.func64, Tryd.ntmps64
    go_wp2
    go_ret
    exact ⟨rfl, rfl⟩
  have hne : ([(58 : UInt8)] == (str l).toList) = false := by
    refine beq_eq_false_iff_ne.2 fun e => hq (str_inj hl (by intro x hx; simp at hx; omega) ?_)
    refine ByteArray.ext (Array.ext' ?_)
    rw [ByteArray.toList_eq] at e
    exact e.symm
  have C := hideT (fun w => ibyte_calls l hl 58 (by decide) w)
  clear hl hq
  go_enter Tryd.func64, Tryd.ntmps64
  go_wp2_with fail
  refine (C.out _).mono ?_
  rintro e w' ⟨rfl, rfl⟩
  go_wp2
  go_ret
  exact ⟨rfl, rfl⟩
theorem index58_calls (l : List Nat) (hl : Let l) (w : World) :
    Calls Tryd.prog 68 #[.string (str l), .string ⟨#[58]⟩] w fun e w' => e = .returned (.int .i64 (ixN l 58)) ∧ w' = w := by
  have C := hideT (fun w => sindex58_calls l hl w)
  go_enter Tryd.func68, Tryd.ntmps68
  go_wp2_with fail
  refine (C.out _).mono ?_
  rintro e w' ⟨rfl, rfl⟩
  go_wp2
  go_ret
  exact ⟨rfl, rfl⟩
theorem contains58_calls (l : List Nat) (hl : Let l) (w : World) :
    Calls Tryd.prog 63 #[.string (str l), .string ⟨#[58]⟩] w fun e w' => e = .returned (.bool (decide (0 ≤ ixN l 58))) ∧ w' = w := by
  have C := hideT (fun w => index58_calls l hl w)
  generalize ixN l 58 = x at *
  go_enter Tryd.func63, Tryd.ntmps63
  go_wp2_with fail
  refine (C.out _).mono ?_
  rintro e w' ⟨rfl, rfl⟩
  go_wp2
  go_ret
  exact ⟨rfl, rfl⟩
theorem cut58_calls (l : List Nat) (hl : Let l) (hn : l.length ≤ 1000000) (w : World) :
    Calls Tryd.prog 30 #[.string (str l), .string ⟨#[58]⟩] w fun e w' =>
      e = .returned (.tuple (if l.findIdx (· == 58) < l.length then #[.string (str (l.take (l.findIdx (· == 58)))), .string (str (l.drop (l.findIdx (· == 58) + 1))), .bool true] else #[.string (str l), .string ⟨#[]⟩, .bool false])) ∧ Below w.heap.size w w' := by
  have C := (fun w => sindex58_calls l hl w)
  by_cases h : l.findIdx (· == 58) < l.length
  · rw [if_pos h]
    have e : ixN l 58 = (l.findIdx (· == 58) : Int) := if_pos h
    rw [e] at C
    have C := hideT C
    obtain ⟨k, hk⟩ : ∃ k, l.findIdx (· == 58) = k := ⟨_, rfl⟩
    rw [hk] at C h ⊢
    have e1 := str_extract l 0 k
    have e2 := str_extract l (k + 1) l.length
    rw [List.drop_zero, Nat.sub_zero] at e1
    rw [List.take_of_length_le (by simp)] at e2
    rw [← e1, ← e2]
    have hs := str_size l
    clear e hk e1 e2 hl
    obtain ⟨s, hs0⟩ : ∃ s, str l = s := ⟨_, rfl⟩
    rw [hs0] at C hs ⊢
    rw [← hs]
    rw [← hs] at h hn
    clear hs0 hs
    have mixed : Tryd.prog.follows .mixedOrders = true := by kernel_rfl
    have c1 : (0 : Int) ≤ (k : Int) := by omega
    have c2 : (k : Int) ≤ (s.size : Int) := by omega
    have c3 : (0 : Int) ≤ (k : Int) + 1 := by omega
    have c4 : (k : Int) + 1 ≤ (s.size : Int) := by omega
    have w1 : wrap64 ((k : Int) + 1) = (k : Int) + 1 := by unfold wrap64; omega
    go_enter Tryd.func30, Tryd.ntmps30
    go_wp2_with fail
    refine (C.out _).mono ?_
    rintro e w' ⟨rfl, rfl⟩
    clear C
    go_wp2_with fail
    go_region_o
    go_wp2
    go_ret3
    exact ⟨rfl, (Below.refl _ _).drew⟩
  · rw [if_neg h]
    have e : ixN l 58 = -1 := if_neg h
    rw [e] at C
    have C := hideT C
    clear e h hl
    go_enter Tryd.func30, Tryd.ntmps30
    go_wp2_with fail
    refine (C.out _).mono ?_
    rintro e w' ⟨rfl, rfl⟩
    clear C
    go_wp2
    go_ret3
    exact ⟨rfl, Below.refl _ _⟩

def tyN (c : Nat) : Int := if c = 105 then 127 else if c = 108 then 126 else if c = 102 then 125 else if c = 100 then 124 else if c = 118 then 123 else 0
theorem val_calls (c : Nat) (w : World) : Calls Tryd.prog 31 #[.int .u8 (c : Int)] w fun e w' => e = .returned (.int .u8 (tyN c)) ∧ w' = w := by
  by_cases h1 : c = 105
  · subst h1
    go_enter Tryd.func31, Tryd.ntmps31
    go_wp2
    go_ret
    exact ⟨rfl, rfl⟩
  by_cases h2 : c = 108
  · subst h2
    go_enter Tryd.func31, Tryd.ntmps31
    go_wp2
    go_ret
    exact ⟨rfl, rfl⟩
  by_cases h3 : c = 102
  · subst h3
    go_enter Tryd.func31, Tryd.ntmps31
    go_wp2
    go_ret
    exact ⟨rfl, rfl⟩
  by_cases h4 : c = 100
  · subst h4
    go_enter Tryd.func31, Tryd.ntmps31
    go_wp2
    go_ret
    exact ⟨rfl, rfl⟩
  by_cases h5 : c = 118
  · subst h5
    go_enter Tryd.func31, Tryd.ntmps31
    go_wp2
    go_ret
    exact ⟨rfl, rfl⟩
  have e1 : ((c : Int) == 105) = false := by simp; omega
  have e2 : ((c : Int) == 108) = false := by simp; omega
  have e3 : ((c : Int) == 102) = false := by simp; omega
  have e4 : ((c : Int) == 100) = false := by simp; omega
  have e5 : ((c : Int) == 118) = false := by simp; omega
  have e : tyN c = 0 := by unfold tyN; simp [h1, h2, h3, h4, h5]
  rw [e]
  clear e h1 h2 h3 h4 h5
  go_enter Tryd.func31, Tryd.ntmps31
  go_wp2
  go_ret
  exact ⟨rfl, rfl⟩
end Go.Proofs.YthggbimnjneeaaaDoor
