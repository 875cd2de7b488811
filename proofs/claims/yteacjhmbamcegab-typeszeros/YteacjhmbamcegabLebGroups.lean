/-
  The walk of 'leb.groups'.
-/
import Derived.Test.YteacjhmbamcegabProg
import Derived.Test.YteacjhmbamcegabLebBits
import Derived.WalkKit
import Derived.ProofKit
import Derived.WalkSpells
import Derived.WalkLawsBesides
import Derived.BigQuiet
import Derived.Deep.QuietTactic
import Derived.Below
namespace Go.Proofs.Yteacjhmbamcegab
open Go.RowKit

def intOf : Value → Int | .int _ q => q | _ => 0

/-- What a walk is told of a slice of bytes: nil; or a row of cells that hold 'l'. -/
def Row (w : World) (a : Option Addr) (len cap : Nat) (l : List Int) : Prop :=
  l.length = len ∧ len ≤ cap ∧ cap ≤ maxLen ∧ Leb.Bytes l ∧ (a = none → cap = 0) ∧
  (0 < len → ∃ b off, a = some ⟨b, off, none⟩ ∧ ∀ i, i < len → w.cell? ⟨b, off + i, none⟩ = some (.int .u8 (l[i]?.getD 0)))

def grp (l : List Int) (p wd : Int) : Value :=
  if wd < 1 ∨ 64 < wd ∨ p < 0 ∨ (l.length : Int) < p then .tuple #[.int .u64 0, .int .u8 0, .int .i64 0, .int .i64 2]
  else match Leb.fin (l.drop p.toNat) ((wd + 6) / 7).toNat with
    | none => .tuple #[.int .u64 0, .int .u8 0, .int .i64 0, .int .i64 4]
    | some k => .tuple #[.int .u64 (Leb.val (l.drop p.toNat) k), .int .u8 ((l.drop p.toNat)[k]?.getD 0), .int .i64 (k + 1), .int .i64 0]

theorem grp_bad {l : List Int} {p wd : Int} (h : wd < 1 ∨ 64 < wd ∨ p < 0 ∨ (l.length : Int) < p) : grp l p wd = .tuple #[.int .u64 0, .int .u8 0, .int .i64 0, .int .i64 2] := by
  unfold grp; rw [if_pos h]

theorem grp_none {l : List Int} {p : Nat} {wd : Int} (h1 : 1 ≤ wd) (h2 : wd ≤ 64) (h3 : p ≤ l.length) {k : Nat}
    (hk : ¬ (k : Int) < (wd + 7 - 1) / 7 ∨ k = l.length - p) (hm : (k : Int) ≤ (wd + 7 - 1) / 7) (hl : k ≤ l.length - p) (h : ∀ i, i < k → 128 ≤ (l.drop p)[i]?.getD 0) :
    grp l p wd = .tuple #[.int .u64 0, .int .u8 0, .int .i64 0, .int .i64 4] := by
  unfold grp; rw [if_neg (by omega), Int.toNat_natCast]
  rw [Leb.fin_none (k := k) (by simp; omega) h (by omega) (by simp; omega)]

theorem grp_some {l : List Int} {p : Nat} {wd : Int} (h1 : 1 ≤ wd) (h2 : wd ≤ 64) (h3 : p ≤ l.length) {k : Nat}
    (hm : (k : Int) < (wd + 7 - 1) / 7) (hl : k < l.length - p) (hk : (l.drop p)[k]?.getD 0 < 128) (h : ∀ i, i < k → 128 ≤ (l.drop p)[i]?.getD 0) :
    grp l p wd = .tuple #[.int .u64 (Leb.val (l.drop p) k), .int .u8 ((l.drop p)[k]?.getD 0), .int .i64 (k + 1), .int .i64 0] := by
  unfold grp; rw [if_neg (by omega), Int.toNat_natCast]
  rw [Leb.fin_of (k := k) (by omega) (by simp; omega) hk h]

theorem mask127 {c : Int} (h₀ : 0 ≤ c) (h₁ : c ≤ 255) : bits .and .u8 c 127 = c % 128 := bits_mask .u8 8 (by decide) wraps_u8 7 (by decide) c h₀ (by omega)

set_option maxHeartbeats 400000 in
theorem groups_bad (a : Option Addr) (len cap : Nat) (p wd : Int) (w : World) (h : wd < 1 ∨ 64 < wd ∨ p < 0 ∨ (len : Int) < p) :
    Calls Try.prog 32 #[.slice a len cap, .int .i64 p, .int .i64 wd] w fun e w' => e = .returned (.tuple #[.int .u64 0, .int .u8 0, .int .i64 0, .int .i64 2]) ∧ w' = w := by
  by_cases h1 : wd < 1
  · clear h
    go_enter Try.func32, Try.ntmps32
    go_wp2
    go_step3
    go_wp2
    rw [Exit.noGoto_ret]
    refine bodyPost_ret (v := .tuple #[.int .u64 0, .int .u8 0, .int .i64 0, .int .i64 2]) (by simp [results, Try.results32, go_sem]) rfl ⟨rfl, rfl⟩
  by_cases h2 : 64 < wd
  · clear h
    go_enter Try.func32, Try.ntmps32
    go_wp2
    go_step3
    go_wp2
    rw [Exit.noGoto_ret]
    refine bodyPost_ret (v := .tuple #[.int .u64 0, .int .u8 0, .int .i64 0, .int .i64 2]) (by simp [results, Try.results32, go_sem]) rfl ⟨rfl, rfl⟩
  by_cases h3 : p < 0
  · clear h
    go_enter Try.func32, Try.ntmps32
    go_wp2
    go_step3
    go_wp2
    rw [Exit.noGoto_ret]
    refine bodyPost_ret (v := .tuple #[.int .u64 0, .int .u8 0, .int .i64 0, .int .i64 2]) (by simp [results, Try.results32, go_sem]) rfl ⟨rfl, rfl⟩
  · have h4 : (len : Int) < p := by omega
    clear h
    go_enter Try.func32, Try.ntmps32
    go_wp2
    go_step3
    go_wp2
    rw [Exit.noGoto_ret]
    refine bodyPost_ret (v := .tuple #[.int .u64 0, .int .u8 0, .int .i64 0, .int .i64 2]) (by simp [results, Try.results32, go_sem]) rfl ⟨rfl, rfl⟩

set_option maxHeartbeats 400000 in
theorem groups_some (b off len cap : Nat) (l : List Int) (p : Nat) (wd : Int) (w : World) (hlen : l.length = len) (hcap : len ≤ cap) (_hcm : cap ≤ maxLen)
    (hb : Leb.Bytes (l.drop p)) (hc : ∀ i, i < len - p → w.cell? ⟨b, off + p + i, none⟩ = some (.int .u8 ((l.drop p)[i]?.getD 0)))
    (h1 : 1 ≤ wd) (h2 : wd ≤ 64) (h3 : p < len)  :
    Calls Try.prog 32 #[.slice (some ⟨b, off, none⟩) len cap, .int .i64 p, .int .i64 wd] w fun e w' => e = .returned (grp l p wd) ∧ ∃ n, w' = w.drewN n := by
  have g1 : decide (wd < 1) = false := by simp; omega
  have g2 : decide (64 < wd) = false := by simp; omega
  have g3 : decide ((p : Int) < 0) = false := by simp
  have g4 : decide (len < p) = false := by simp; omega
  have g5 : ¬ cap = p := by omega
  have Hlen : Hid (l.length = len) := hlen
  have Hgn := fun k => @grp_none l p wd h1 h2 (by omega) k
  have Hgs := fun k => @grp_some l p wd h1 h2 (by omega) k
  have HN : Hid (∀ (k : Nat), (¬ (k : Int) < (wd + 7 - 1) / 7 ∨ k = l.length - p) → (k : Int) ≤ (wd + 7 - 1) / 7 → k ≤ l.length - p → (∀ i, i < k → 128 ≤ (l.drop p)[i]?.getD 0) → grp l p wd = .tuple #[.int .u64 0, .int .u8 0, .int .i64 0, .int .i64 4]) := Hgn
  have HS : Hid (∀ (k : Nat), (k : Int) < (wd + 7 - 1) / 7 → k < l.length - p → (l.drop p)[k]?.getD 0 < 128 → (∀ i, i < k → 128 ≤ (l.drop p)[i]?.getD 0) → grp l p wd = .tuple #[.int .u64 (Leb.val (l.drop p) k), .int .u8 ((l.drop p)[k]?.getD 0), .int .i64 (k + 1), .int .i64 0]) := Hgs
  have HL : Hid ((l.drop p).length = len - p) := by show (l.drop p).length = len - p; rw [List.length_drop, hlen]
  clear hlen Hgn Hgs
  generalize l.drop p = L at *
  unfold maxLen at _hcm
  go_enter Try.func32, Try.ntmps32
  go_wp2
  go_step3
  go_wp2
  go_step3
  go_wp2
  go_loop [6, 35] (fun low i => ∃ (k : Nat) (z : Int), (k : Int) ≤ (wd + 7 - 1) / 7 ∧ k ≤ len - p ∧ i = .int .i64 k ∧ low = .int .u64 z ∧ (k ≤ 9 → z = Leb.val L k) ∧ ∀ i, i < k → 128 ≤ L[i]?.getD 0) (fun _ i => (((wd + 7 - 1) / 7) - intOf i).toNat)
  case atStart => exact ⟨0, 0, by omega, by omega, rfl, rfl, fun _ => by cases L <;> rfl, fun i hi => by omega⟩
  case round =>
    obtain ⟨k, z, hk1, hk2, rfl, rfl, hz, hge⟩ := hrel
    have HZ : Hid (k ≤ 9 → z = Leb.val L k) := hz
    have HG : Hid (∀ i, i < k → 128 ≤ L[i]?.getD 0) := hge
    clear hz hge
    by_cases hlt : (k : Int) < (wd + 7 - 1) / 7
    · by_cases he : k < len - p
      · have hck := hc k he
        have hbk := hb k
        have hmask := mask127 hbk.1 hbk.2
        clear hc hb
        have hne : ((k : Int) == (len - p : Nat)) = false := by simp; omega
        by_cases hs : L[k]?.getD 0 < 128
        · go_wp2
          go_quiet (fail)
          go_wp2
          rw [Exit.noGoto_ret]
          refine bodyPost_ret (v := .tuple #[.int .u64 z, .int .u8 (L[k]?.getD 0), .int .i64 (k + 1), .int .i64 0]) (by simp [results, Try.results32, go_sem]) rfl ⟨?_, _, rfl⟩
          rw [HS.out k hlt (by rw [Hlen.out]; exact he) hs HG.out, HZ.out (by omega)]
        · go_wp2
          have hge : ∀ i, i < k + 1 → 128 ≤ L[i]?.getD 0 := by
            intro i hi
            by_cases e : i = k
            · subst e; omega
            · exact HG.out i (by omega)
          exact ⟨⟨k + 1, _, by omega, by omega, by go_num, rfl, fun h9 => step_or L k z (HZ.out (by omega)) (by omega) (by rw [HL.out]; exact he), hge⟩, by simp [intOf]; omega⟩
      · have hne : ((k : Int) == (len - p : Nat)) = true := by simp; omega
        go_wp2
        refine bodyPost_ret (v := .tuple #[.int .u64 0, .int .u8 0, .int .i64 0, .int .i64 4]) (by simp [results, Try.results32, go_sem]) rfl ⟨?_, 0, rfl⟩
        rw [HN.out k (by rw [Hlen.out]; omega) hk1 (by rw [Hlen.out]; omega) HG.out]
    · go_wp2
      refine bodyPost_ret (v := .tuple #[.int .u64 0, .int .u8 0, .int .i64 0, .int .i64 4]) (by simp [results, Try.results32, go_sem]) rfl ⟨?_, 0, rfl⟩
      rw [HN.out k (by omega) hk1 (by rw [Hlen.out]; omega) HG.out]

set_option maxHeartbeats 400000 in
theorem groups_empty (a : Option Addr) (len cap : Nat) (wd : Int) (w : World) (hcap : len ≤ cap) (hcm : cap ≤ maxLen) (ha : a = none → cap = 0)
    (h1 : 1 ≤ wd) (h2 : wd ≤ 64) :
    Calls Try.prog 32 #[.slice a len cap, .int .i64 len, .int .i64 wd] w fun e w' => e = .returned (.tuple #[.int .u64 0, .int .u8 0, .int .i64 0, .int .i64 4]) ∧ w' = w := by
  have g1 : decide (wd < 1) = false := by simp; omega
  have g2 : decide (64 < wd) = false := by simp; omega
  have g3 : decide ((len : Int) < 0) = false := by simp
  have g6 : (0 : Int) < (wd + 7 - 1) / 7 := by omega
  unfold maxLen at hcm
  obtain _ | ⟨b, off, sp⟩ := a
  · obtain rfl := ha rfl
    obtain rfl : len = 0 := by omega
    go_enter Try.func32, Try.ntmps32
    go_wp2
    go_step3
    go_wp2
    go_step3
    go_wp2
    go_loop [6, 35] (fun low i => i = .int .i64 0 ∧ low = .int .u64 0) (fun _ _ => 0)
    case atStart => exact ⟨rfl, rfl⟩
    case round =>
      obtain ⟨rfl, rfl⟩ := hrel
      go_wp2
      refine bodyPost_ret (v := .tuple #[.int .u64 0, .int .u8 0, .int .i64 0, .int .i64 4]) (by simp [results, Try.results32, go_sem]) rfl ⟨rfl, rfl⟩
  · clear ha
    by_cases hp : cap = len
    · subst hp
      go_enter Try.func32, Try.ntmps32
      go_wp2
      go_step3
      go_wp2
      go_step3
      go_wp2
      go_loop [6, 35] (fun low i => i = .int .i64 0 ∧ low = .int .u64 0) (fun _ _ => 0)
      case atStart => exact ⟨rfl, rfl⟩
      case round =>
        obtain ⟨rfl, rfl⟩ := hrel
        go_wp2
        refine bodyPost_ret (v := .tuple #[.int .u64 0, .int .u8 0, .int .i64 0, .int .i64 4]) (by simp [results, Try.results32, go_sem]) rfl ⟨rfl, rfl⟩
    · go_enter Try.func32, Try.ntmps32
      go_wp2
      go_step3
      go_wp2
      go_step3
      go_wp2
      go_loop [6, 35] (fun low i => i = .int .i64 0 ∧ low = .int .u64 0) (fun _ _ => 0)
      case atStart => exact ⟨rfl, rfl⟩
      case round =>
        obtain ⟨rfl, rfl⟩ := hrel
        go_wp2
        refine bodyPost_ret (v := .tuple #[.int .u64 0, .int .u8 0, .int .i64 0, .int .i64 4]) (by simp [results, Try.results32, go_sem]) rfl ⟨rfl, rfl⟩

theorem bytes_drop {l : List Int} (h : Leb.Bytes l) (p : Nat) : Leb.Bytes (l.drop p) := by
  intro i; rw [List.getElem?_drop]; exact h (p + i)

/-- 'leb.groups' answers 'grp', and changes nothing. -/
theorem groups_calls (a : Option Addr) (len cap : Nat) (l : List Int) (p wd : Int) (w : World) (H : Row w a len cap l) :
    Calls Try.prog 32 #[.slice a len cap, .int .i64 p, .int .i64 wd] w fun e w' => e = .returned (grp l p wd) ∧ ∃ n, w' = w.drewN n := by
  obtain ⟨hl, hcap, hcm, hb, ha, hc⟩ := H
  by_cases hbad : wd < 1 ∨ 64 < wd ∨ p < 0 ∨ (len : Int) < p
  · refine (groups_bad a len cap p wd w hbad).mono ?_
    rintro e w' ⟨rfl, rfl⟩
    exact ⟨by rw [grp_bad (by rw [hl]; exact hbad)], 0, rfl⟩
  · obtain ⟨q, rfl⟩ := Int.eq_ofNat_of_zero_le (show 0 ≤ p by omega)
    by_cases hq : q < len
    · obtain ⟨b, off, rfl, hcell⟩ := hc (by omega)
      refine groups_some b off len cap l q wd w hl hcap hcm (bytes_drop hb q) ?_ (by omega) (by omega) hq
      intro i hi
      rw [Nat.add_assoc, hcell (q + i) (by omega), List.getElem?_drop]
    · obtain rfl : q = len := by omega
      refine (groups_empty a q cap wd w hcap hcm ha (by omega) (by omega)).mono ?_
      rintro e w' ⟨rfl, rfl⟩
      exact ⟨by rw [grp_none (k := 0) (by omega) (by omega) (by omega) (by omega) (by omega) (by omega) (by intro i hi; omega)], 0, rfl⟩
end Go.Proofs.Yteacjhmbamcegab
