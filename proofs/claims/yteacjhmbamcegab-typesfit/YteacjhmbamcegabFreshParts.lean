/-
  The walks of 'Spoil', 'Wide' and 'Left'.
-/
import Derived.Test.YteacjhmbamcegabLebPutsI
import Derived.Test.YteacjhmbamcegabRefSame
import Derived.Laws.CopyOwn
import Derived.OpenShut
namespace Go.Proofs.Yteacjhmbamcegab
open Go.RowKit
set_option linter.unusedVariables false

theorem get_map8 {zs : List Int} {j : Nat} (h : j < zs.length) : (zs.map (Value.int .u8))[j]? = some (.int .u8 (zs[j]?.getD 0)) := by
  rw [List.getElem?_map, List.getElem?_eq_getElem h]; rfl

set_option maxHeartbeats 400000 in
theorem Spoil_walk (g n cap B : Nat) (zs : List Int) (w : World) (hcap : n ≤ cap) (hm : cap ≤ 2 ^ 63 - 1) (hz : zs.length = cap) (hwf : ∀ z ∈ zs, (Lit.int .u8 z).wf = true)
    (hg : w.heap[g]? = some (.cells (zs.map (Value.int .u8)).toArray 5 (0, 0))) (hB : B ≤ g) :
    Calls Try.prog 17 #[.slice (some ⟨g, 0, none⟩) n cap, .int .u8 1] w fun e w' => e = .returned (.tuple #[]) ∧ Below B w w' := by
  have hown : w.ownsRow B 5 1 (.slice (some ⟨g, 0, none⟩) cap cap) cap (zs.map (Value.int .u8)) := by
    refine ⟨by simp [hz], .inr ⟨g, cap, _, rfl, hB, hg, Nat.le_refl _, by unfold maxLen; omega, by simp [hz], ?_⟩⟩
    rw [Nat.mul_one]
    exact List.take_of_length_le (by simp [hz])
  have HO := hide hown
  have HW := hide hwf
  have HZ := hide hz
  clear hown hwf hg hz
  go_enter Try.func17, Try.ntmps17
  go_wp2
  go_loopw [4] (fun x wr => ∃ (k : Nat) (ys : List Int), x = .int .i64 k ∧ k ≤ cap ∧ ys.length = cap ∧ (∀ z ∈ ys, (Lit.int .u8 z).wf = true) ∧ wr.ownsRow B 5 1 (.slice (some ⟨g, 0, none⟩) cap cap) cap (ys.map (Value.int .u8)) ∧ Below B w wr) (fun x _ => cap - (intOf x).toNat)
  case atStart => exact ⟨0, zs, rfl, Nat.zero_le _, HZ.out, HW.out, HO.out, Below.refl _ _⟩
  case round =>
    obtain ⟨k, ys, rfl, hk, hy, hwy, hown, hbel⟩ := hrel
    by_cases hlt : k < cap
    · have hcell := hown.cellAt k (by omega)
      rw [get_map8 (by omega)] at hcell
      have hfz := hown.frozenAt k
      have hst := (hown.stored k (.int .u8 (bits .xor .u8 (ys[k]?.getD 0) 1))).1
      rw [← List.map_set] at hst
      have hb2 : Below B w (wr.setCell ⟨g, k, none⟩ (.int .u8 (bits .xor .u8 (ys[k]?.getD 0) 1))) := hbel.setCell (p := ⟨g, k, none⟩) hB _
      have hw2 : ∀ z ∈ ys.set k (bits .xor .u8 (ys[k]?.getD 0) 1), (Lit.int .u8 z).wf = true := by
        intro z hz
        rcases List.mem_or_eq_of_mem_set hz with h | rfl
        · exact hwy z h
        · exact wf_bits _ _ _ _
      have H1 := hide hst
      have H2 := hide hb2
      have H3 := hide hw2
      have H4 : Hid ((ys.set k (bits .xor .u8 (ys[k]?.getD 0) 1)).length = cap) := by show (ys.set k _).length = cap; rw [List.length_set, hy]
      clear hst hb2 hw2 hown hbel hwy hy
      generalize ys[k]?.getD 0 = c at *
      go_wp2
      go_roundw
      case rel => exact ⟨k + 1, _, by go_num, by omega, H4.out, H3.out, H1.out, H2.out⟩
      case measure => simp [intOf]; omega
    · have HB := hide hbel
      clear hown hbel
      go_wp2
      go_end0
      exact ⟨rfl, HB.out⟩

/-- What 'Wide' has made behind 'k' rounds of its loop. -/
def wideTo (l : List Int) (k : Nat) : List Int := l ++ (([7, 7, 7] : List Int).take k ++ ([0, 0, 0] : List Int).drop k)

theorem wideTo_length (l : List Int) (k : Nat) (h : k ≤ 3) : (wideTo l k).length = l.length + 3 := by
  unfold wideTo
  match k, h with
  | 0, _ => simp
  | 1, _ => simp
  | 2, _ => simp
  | 3, _ => simp

theorem wideTo_step (l : List Int) (k : Nat) (h : k < 3) : (wideTo l k).set (l.length + k) 7 = wideTo l (k + 1) := by
  unfold wideTo
  rw [List.set_append_right _ _ (by omega), Nat.add_sub_cancel_left]
  match k, h with
  | 0, _ => rfl
  | 1, _ => rfl
  | 2, _ => rfl

theorem made_ints (n : Nat) : (madeCells #[Value.int .u8 0] n).toList = (List.replicate n (0 : Int)).map (Value.int .u8) := by
  rw [toList_madeCells_one]
  simp

theorem own_block {w : World} {base e g n : Nat} {xs : List Value} (h : w.ownsRow base e 1 (.slice (some ⟨g, 0, none⟩) n n) n xs) : w.heap[g]? = some (.cells xs.toArray e (0, 0)) := by
  obtain ⟨h0, h1 | ⟨g', cap, cur, h1, h2, h3, h4, h5, h6, h7⟩⟩ := h
  · simp at h1
  · simp only [Value.slice.injEq, Option.some.injEq, Addr.mk.injEq, and_true, true_and] at h1
    obtain ⟨rfl, rfl⟩ := h1
    rw [List.take_of_length_le (by simp [h6])] at h7
    rw [h3, ← h7]

theorem block_own {w : World} {base e g n : Nat} {xs : List Value} (h : w.heap[g]? = some (.cells xs.toArray e (0, 0))) (hn : xs.length = n) (hm : n ≤ maxLen) (hb : base ≤ g) : w.ownsRow base e 1 (.slice (some ⟨g, 0, none⟩) n n) n xs := by
  refine ⟨by omega, .inr ⟨g, n, xs.toArray, rfl, hb, h, Nat.le_refl _, hm, by simp [hn], ?_⟩⟩
  exact List.take_of_length_le (by simp [hn])

def WidePost (l : List Int) (w : World) (e : Ending) (w' : World) : Prop :=
  e = .returned (.slice (some ⟨w.heap.size, 0, none⟩) l.length (l.length + 3)) ∧
    w'.heap[w.heap.size]? = some (.cells ((l ++ [7, 7, 7]).map (Value.int .u8)).toArray 5 (0, 0)) ∧ Below w.heap.size w w'

set_option maxHeartbeats 400000 in
theorem Wide_walk (a : Option Addr) (cap : Nat) (l : List Int) (w : World) (H : Row w a l.length cap l) (hr : l.length ≤ 140737488351232) :
    Calls Try.prog 13 #[.slice a l.length cap] w fun e w' => WidePost l w e w' := by
  obtain ⟨i0, hi, hz0, hz1, hz2⟩ := info_parts Try.infoByte
  have hsz : (Try.prog.info? 5).map (·.size) = some 1 := by rw [hi]; simp [hz1]
  obtain ⟨_, hcap, hcm, hb, ha, hc⟩ := H
  have HC := hide hc
  have b2 : i0.bytes * (l.length + 3) ≤ 281474976710656 := by rw [hz2]; omega
  have b3 : l.length + 3 ≤ maxLen := by unfold maxLen; omega
  clear hc hb ha hcm
  go_enter Try.func13, Try.ntmps13
  go_wp2_with (at_make; go_must (refine wpList_make_full _ rfl _ _ 43 rfl w.heap.size 5 i0 (.int .u8 0) 1 Try.underlying43 hi hz0 hz1 .i64 .i64 _ _ (l.length + 3) rfl rfl (by simp) (by simp) b2 b3 (Nat.le_refl _) ?_))
  intro w1 hown1 hgrow1
  rw [made_ints] at hown1
  have hbel1 : Below w.heap.size w w1 := (Below.refl _ _).grown hgrow1 (Nat.le_refl _) (fun k hk => by cases hk)
  have hblk := own_block hown1
  have hpos : 0 < (l.map (Value.int .u8)).length → some (⟨w.heap.size, 0, none⟩ : Addr) = some ⟨w.heap.size, 0, none⟩ ∧ ∃ ad, a = some ad ∧ ∀ j v, (l.map (Value.int .u8))[j]? = some v → w1.cell? (ad.add j) = some v := by
    intro hp
    rw [List.length_map] at hp
    obtain ⟨b, off, rfl, hcell⟩ := HC.out hp
    refine ⟨rfl, _, rfl, ?_⟩
    intro j v hj
    by_cases hjl : j < l.length
    · rw [get_map8 hjl] at hj
      simp only [Option.some.injEq] at hj
      subst hj
      have hg := cell_later hbel1 (hcell j hjl)
      by_cases h0 : j = 0
      · subst h0; simpa [Addr.add] using hg
      · simpa [Addr.add, h0] using hg
    · rw [List.getElem?_eq_none (by simp; omega)] at hj
      cases hj
  have N1 := hide hblk
  have N2 := hide hpos
  have N3 := hide (ints_oneCell .u8 l)
  have N4 := hide hbel1
  have N5 : Hid ((l.map (Value.int .u8)).length = Nat.min l.length (l.length + 3)) := by show (l.map _).length = Nat.min _ _; rw [List.length_map]; exact (Nat.min_eq_left (by omega)).symm
  have N6 : Hid (0 + (l.map (Value.int .u8)).length ≤ ((List.replicate (l.length + 3) (0 : Int)).map (Value.int .u8)).length) := by show 0 + (l.map _).length ≤ _; simp
  clear hblk hpos hbel1 hown1 hgrow1 HC
  go_wp2_with (refine wpList_copy_splice rfl _ _ 43 43 rfl 5 Try.underlying43 hsz _ _ _ _ _ _ rfl rfl w.heap.size 0 _ 5 N1.out (l.map (Value.int .u8)) N5.out N2.out N6.out N3.out w.heap.size w N4.out (Nat.le_refl _) ?_)
  intro w2 hblk2 hbel2
  have hown2 : w2.ownsRow w.heap.size 5 1 (.slice (some ⟨w.heap.size, 0, none⟩) (l.length + 3) (l.length + 3)) (l.length + 3) ((wideTo l 0).map (Value.int .u8)) := by
    refine block_own ?_ (by rw [List.length_map, wideTo_length l 0 (by omega)]) b3 (Nat.le_refl _)
    have e : splice (List.replicate (l.length + 3) (Value.int .u8 0)) 0 (l.map (Value.int .u8)) = (wideTo l 0).map (Value.int .u8) := by
      simp [splice, wideTo]
    rw [← e]
    exact hblk2.out
  have H1 := hide hown2
  have H2 := hide hbel2
  clear hblk2 hbel2 hown2 N1 N2 N3 N4 N5 N6
  go_wp2
  go_loopw [5] (fun x wr => ∃ k : Nat, x = .int .i64 ((l.length + k : Nat) : Int) ∧ k ≤ 3 ∧ wr.ownsRow w.heap.size 5 1 (.slice (some ⟨w.heap.size, 0, none⟩) (l.length + 3) (l.length + 3)) (l.length + 3) ((wideTo l k).map (Value.int .u8)) ∧ Below w.heap.size w wr) (fun x _ => (l.length + 3 - intOf x).toNat)
  case atStart => exact ⟨0, by simp, by omega, H1.out, H2.out⟩
  case round =>
    obtain ⟨k, rfl, hk, hown, hbel⟩ := hrel
    by_cases hlt : k < 3
    · have hwl := wideTo_length l k hk
      have hcell := hown.cellAt (l.length + k) (by omega)
      rw [get_map8 (by omega)] at hcell
      have hfz := hown.frozenAt (l.length + k)
      have hst := (hown.stored (l.length + k) (.int .u8 7)).1
      rw [← List.map_set, wideTo_step l k hlt] at hst
      have hb2 : Below w.heap.size w (wr.setCell ⟨w.heap.size, l.length + k, none⟩ (.int .u8 7)) := hbel.setCell (p := ⟨w.heap.size, l.length + k, none⟩) (Nat.le_refl _) _
      have K1 := hide hst
      have K2 := hide hb2
      clear hst hb2 hown hbel hwl
      go_wp2
      go_roundw
      case rel => exact ⟨k + 1, by go_num, by omega, K1.out, K2.out⟩
      case measure => simp [intOf]; omega
    · obtain rfl : k = 3 := by omega
      have hblk := own_block hown
      have e3 : wideTo l 3 = l ++ [7, 7, 7] := by simp [wideTo]
      rw [e3] at hblk
      have K1 := hide hblk
      have K2 := hide hbel
      clear hown hbel hblk e3
      go_wp2
      go_ret
      exact ⟨rfl, K1.out, K2.out⟩

theorem row_wide {w : World} {g : Nat} {l : List Int} (hb : Leb.Bytes l) (hr : l.length ≤ 140737488351232) (h : w.heap[g]? = some (.cells ((l ++ [7, 7, 7]).map (Value.int .u8)).toArray 5 (0, 0))) :
    Row w (some ⟨g, 0, none⟩) l.length (l.length + 3) l := by
  refine ⟨rfl, by omega, by unfold maxLen; omega, hb, (fun h => by cases h), fun _ => ⟨g, 0, rfl, fun i hi => ?_⟩⟩
  rw [Nat.zero_add, cell_of_row w g i _ _ _ h, List.getElem?_toArray, get_map8 (by simp; omega), List.getElem?_append_left hi]

set_option maxHeartbeats 400000 in
theorem Left_walk (a : Option Addr) (cap g : Nat) (l : List Int) (w : World) (H : Row w a l.length cap l) (hr : l.length ≤ 140737488351232)
    (hg : w.heap[g]? = some (.cells ((l ++ [7, 7, 7]).map (Value.int .u8)).toArray 5 (0, 0))) :
    Calls Try.prog 18 #[.slice (some ⟨g, 0, none⟩) l.length (l.length + 3), .slice a l.length cap] w fun e w' => e = .returned (.bool true) ∧ ∃ n, w' = w.drewN n := by
  have C1 := hide (same_calls' _ _ _ _ _ _ w (row_wide H.2.2.2.1 hr hg) H)
  have c7 : ∀ k, k < 3 → w.cell? ⟨g, l.length + k, none⟩ = some (.int .u8 7) := by
    intro k hk
    rw [cell_of_row w g _ _ _ _ hg, List.getElem?_toArray, get_map8 (by simp; omega), List.getElem?_append_right (by omega), Nat.add_sub_cancel_left]
    match k, hk with
    | 0, _ => rfl
    | 1, _ => rfl
    | 2, _ => rfl
  have k0 := c7 0 (by omega)
  have k1 := c7 1 (by omega)
  have k2 := c7 2 (by omega)
  rw [Nat.add_zero] at k0
  clear c7 hg H
  go_enter Try.func18, Try.ntmps18
  go_wp2_with fail
  refine C1.out.mono ?_
  rintro e w1 ⟨rfl, n, rfl⟩
  go_wp2
  go_ret
  exact ⟨rfl, _, rfl⟩
end Go.Proofs.Yteacjhmbamcegab
