/-
  CopyWords; the walk of LanesFresh.
-/
import Derived.Test.YtdhanapmknlobabDoorLanWorks
import Derived.Test.YtdhanapmknlobabDoorLanAll
import Derived.Test.YtdhanapmknlobabDoorLanLaw3
import Derived.Test.YtdhanapmknlobabDoorLanRef2
set_option linter.unusedVariables false
set_option linter.unusedSimpArgs false
namespace Go.Proofs.YtdhanapmknlobabDoor
open Go.RowKit Lan

def CopyPost (W : World) (len : Nat) (l : List Nat) (e : Ending) (W' : World) : Prop :=
  ∃ a cap, e = .returned (.slice a len cap) ∧ RowW W' a len l ∧ Below W.heap.size W W'

theorem row_own {w : World} {base : Nat} {v : Value} {l : List Nat} (h : OwnW w base v l) (h64 : ∀ i, at0 l i < 2 ^ 64) (hlen : l.length ≤ 2 ^ 63 - 1) : ∃ a cap, v = .slice a l.length cap ∧ RowW w a l.length l := by
  obtain ⟨a, c, e⟩ := own_shape h
  by_cases h0 : 1 ≤ l.length
  · obtain ⟨g, cap, cur, _, hv, _, hblk, hcell⟩ := own_post h h0
    refine ⟨_, _, hv, rfl, hlen, h64, fun _ => ⟨g, 0, rfl, fun i hi => ?_⟩⟩
    have := hcell i hi
    rw [Nat.zero_add]
    simp [World.cell?, hblk, this]
  · exact ⟨a, c, e, rfl, hlen, h64, fun h => absurd h h0⟩

set_option maxHeartbeats 1000000 in
theorem copy_calls (a : Option Addr) (len cap : Nat) (l : List Nat) (W : World) (hr : RowW W a len l) (hsz : len * 8 ≤ 140737488351232) (hnone : a = none → len = 0) :
    Calls Tryd.prog 18 #[.slice a len cap] W fun e W' => CopyPost W len l e W' := by
  obtain ⟨i0, hi, hz0, hz1, hz2⟩ := info_parts infoW
  obtain ⟨hl, h63, h64, hc⟩ := hr
  have hown : W.ownsRow W.heap.size 22 1 (.slice none 0 0) 0 [] := World.ownsRow_nil _ _ _ _
  have C3 : Hid (0 + len ≤ maxLen) := by show 0 + len ≤ maxLen; unfold maxLen; omega
  have C4 : Hid ((0 + len) * 8 ≤ 140737488355328) := by show (0 + len) * 8 ≤ 140737488355328; omega
  have one : Hide (∀ u ∈ l.map (fun n : Nat => Value.int .u64 (n : Int)), u.oneCell' = true) := hide (by
    intro u hu
    obtain ⟨n, _, rfl⟩ := List.mem_map.1 hu
    rfl)
  cases a with
  | none =>
    obtain rfl := hnone rfl
    have hl0 : l = [] := List.eq_nil_of_length_eq_zero hl
    subst hl0
    clear hc C3 C4 one hnone
    have HOWN := hide hown
    clear hown
    go_enter Tryd.func18, Tryd.ntmps18
    go_wp2
    go_ret
    exact ⟨none, 0, rfl, ⟨rfl, by omega, fun i => by simp [at0], fun h => absurd h (by decide)⟩, Below.refl _ _⟩
  | some ad =>
    have HC : Hide (∀ (j : Nat) (u : Value), (l.map (fun n : Nat => Value.int .u64 (n : Int)))[j]? = some u → W.cell? (ad.add j) = some u) := hide (by
      intro j u hj
      rw [List.getElem?_map] at hj
      by_cases hjm : j < len
      · obtain ⟨b, off, e, hcell⟩ := hc (by omega)
        simp only [Option.some.injEq] at e
        subst e
        have hg := hcell j hjm
        have hat : at0 l j = l[j]'(by omega) := by simp [at0, List.getElem?_eq_getElem (show j < l.length by omega)]
        rw [hat] at hg
        rw [List.getElem?_eq_getElem (by omega)] at hj
        simp only [Option.map_some, Option.some.injEq] at hj
        subst hj
        by_cases h0 : j = 0
        · subst h0; simpa [Addr.add] using hg
        · simpa [Addr.add, h0] using hg
      · rw [List.getElem?_eq_none (by omega)] at hj
        simp at hj)
    have HOWN := hide hown
    have HL : Hide ((l.map (fun n : Nat => Value.int .u64 (n : Int))).length = len * 1) := hide (by simp [hl])
    have HH := hide (⟨hl, h63, h64⟩ : l.length = len ∧ len ≤ 2 ^ 63 - 1 ∧ ∀ i, at0 l i < 2 ^ 64)
    clear hown hc hl h64 hnone
    go_enter Tryd.func18, Tryd.ntmps18
    go_wp2_with (at_builtin; refine wpList_append_own _ rfl _ _ 44 rfl W.heap.size 22 i0 (.int .u64 0) 1 8 Tryd.underlying44 hi hz0 hz1 hz2 rfl (by decide) _ _ _ rfl HOWN.out ad len cap (l.map (fun n : Nat => Value.int .u64 (n : Int))) rfl HL.out HC.out one.out C3.out C4.out (Nat.le_refl _) ?_)
    intro v' w3 hown' hgrow _
    have hb : Below W.heap.size W w3 := (Below.refl W.heap.size W).grown hgrow (Nat.le_refl _) (fun k hk => (HOWN.out.lt k hk).1)
    have ho2 : OwnW w3 W.heap.size v' l := by
      unfold OwnW
      rw [HH.out.1]
      simpa using hown'
    obtain ⟨a', c', e', r'⟩ := row_own ho2 HH.out.2.2 (by rw [HH.out.1]; exact HH.out.2.1)
    rw [HH.out.1] at e' r'
    have HB := hide hb
    have HR := hide r'
    subst e'
    clear hown' hgrow hb ho2 r'
    go_wp2
    go_ret
    exact ⟨a', c', rfl, HR.out, HB.out⟩

def FrAt (W : World) (v : Nat × Nat) (g c : Nat) (wr : World) : Prop := VBlk wr W.heap.size v ∧ (∃ M : List Nat, M.length = c ∧ WBlk wr g M) ∧ Below W.heap.size W wr

set_option maxHeartbeats 4000000 in
theorem fresh_walk (n w c v0 v1 : Nat) (L l : List Nat) (a : Option Addr) (len cap : Nat) (er : (Nat × Nat) × Int) (hc16 : c ≤ 16)
    (CW : Hide (∀ W : World, Calls Tryd.prog 7 #[.int .u8 (n : Int)] W fun e W' => e = .returned (.int .i64 (w : Int)) ∧ W' = W))
    (CA : Hide (∀ W : World, WTabs W → Calls Tryd.prog 17 #[vecV (v0, v1), .int .i64 (w : Int)] W fun e W' => AllPost W c L e W'))
    (CC : Hide (∀ W : World, RowW W a len l → Calls Tryd.prog 18 #[.slice a len cap] W fun e W' => CopyPost W len l e W'))
    (CO : Hide (∀ (W : World) (a' : Option Addr) (cap' : Nat), WTabs W → RowW W a' len l → Calls Tryd.prog 19 #[.int .i64 (w : Int), .slice a' len cap'] W fun e W' => e = .returned (vecE er) ∧ Below W.heap.size W W'))
    (CL : Hide (∀ W : World, Calls Tryd.prog 21 #[vecV (v0, v1), .int .i64 (w : Int)] W fun e W' => ListPost W c L e W'))
    (CE : Hide (∀ (W : World) (a b : Option Addr) (len ca cb : Nat) (l : List Nat), RowW W a len l → RowW W b len l → Calls Tryd.prog 20 #[.slice a len ca, .slice b len cb] W fun e W' => e = .returned (.bool true) ∧ Below W.heap.size W W'))
    (RW : Hide (∀ (W : World) (g : Nat), WBlk W g L → RowW W (some ⟨g, 0, none⟩) c L))
    (RL : Hide (∀ (W : World) (g : Nat) (cur : Array Value), W.heap[g]? = some (.cells cur 22 (0, 0)) → (∀ i, i < c → cur[i]? = some (.int .u64 (at0 L i : Int))) → RowW W (some ⟨g, 0, none⟩) c L))
    (W : World) (HT : Hide (WTabs W)) (HR : Hide (RowW W a len l)) :
    Calls Tryd.prog 6 #[vecV (v0, v1), .int .u8 (n : Int), .slice a len cap] W fun e W' => e = .returned (.bool true) ∧ Below W.heap.size W W' := by
  have HB : Hide (Below W.heap.size W (W.alloc (.cells #[.int .u64 (v0 : Int), .int .u64 (v1 : Int)] 24))) := hide (below_two _ _)
  have VB : Hide (VBlk (W.alloc (.cells #[.int .u64 (v0 : Int), .int .u64 (v1 : Int)] 24)) W.heap.size (v0, v1)) := hide (alloc_at rfl)
  unfold vecE at CO
  unfold vecV at CA CO CL ⊢
  simp only at CA CL ⊢
  go_enter Tryd.func6, Tryd.ntmps6
  go_wp2_with ((with_reducible refine (CW.out _).mono ?_); rintro e w1 ⟨rfl, rfl⟩)
  refine (CA.out _ (HT.out.later HB.out)).mono ?_
  rintro e w2 ⟨g, hg, rfl, hk, hb⟩
  have HG : Hide (W.heap.size < g) := hide (by simp at hg; omega)
  have S0 : Hide (FrAt W (v0, v1) g c w2) := hide ⟨VB.out.later hb VB.out.lt, ⟨L, (RW.out _ g hk).1, hk⟩, HB.out.trans (hb.mono HB.out.size)⟩
  clear hb hk hg HB VB
  have hcl : (c : Int) ≤ 16 := by omega
  go_wp2_with fail
  go_loopw [10] (fun x wr => ∃ k : Nat, x = .int .i64 (k : Int) ∧ k ≤ c ∧ FrAt W (v0, v1) g c wr) (fun x _ => c - (intOf x).toNat)
  case atStart => exact ⟨0, rfl, by omega, S0.out⟩
  case round =>
    obtain ⟨k, rfl, hk, hr⟩ := hrel
    have H := hide hr
    clear hr S0
    by_cases c0 : k < c
    · have c1 : (k : Int) < (c : Int) := by omega
      have c2 : (k : Int) < 16 := by omega
      obtain ⟨a1, ⟨M, hM, a2⟩, a3⟩ := H.out
      have hck : wr.cell? ⟨g, k, none⟩ = some (.int .u64 (at0 M k : Int)) := a2.cell k (by rw [hM]; exact c0)
      have hzk : wr.frozen? ⟨g, k, none⟩ = false := a2.frozen k
      have A1 := hide a1
      have A2 := hide a2
      have A3 := hide a3
      have HM := hide hM
      have HC := hide c0
      clear a1 a2 a3 hM H
      go_wp2
      go_roundw
      case rel =>
        have q := HG.out
        have HC' := HC.out
        exact ⟨k + 1, by go_num, HC', A1.out.other (by omega) _ _, ⟨M.set k 5, by rw [List.length_set]; exact HM.out, A2.out.set k 5⟩, A3.out.setCell (by simp; omega) _⟩
      case measure => have := HC.out; simp [intOf]; omega
    · obtain rfl : k = c := by omega
      clear c0
      go_wp2_with fail
      refine (CC.out _ (HR.out.later H.out.2.2)).mono ?_
      rintro e w3 ⟨a', cap', rfl, r3, hb⟩
      have V3 := hide (H.out.1.later hb H.out.1.lt)
      have B3 := hide (H.out.2.2.trans (hb.mono H.out.2.2.size))
      have R3 := hide r3
      clear hb r3 H
      go_wp2_with fail
      refine (CO.out _ a' cap' (HT.out.later B3.out) R3.out).mono ?_
      rintro e w4 ⟨rfl, hb⟩
      have V4 := hide (V3.out.later hb V3.out.lt)
      have B4 := hide (B3.out.trans (hb.mono B3.out.size))
      have R4 := hide (R3.out.later hb)
      have h0 := V4.out.c0
      have h1 := V4.out.c1
      simp only at h0 h1
      clear hb
      go_wp2_with fail
      refine (CA.out _ (HT.out.later B4.out)).mono ?_
      rintro e w5 ⟨g2, hg2, rfl, hk2, hb⟩
      have V5 := hide (V4.out.later hb V4.out.lt)
      have B5 := hide (B4.out.trans (hb.mono B4.out.size))
      have R5 := hide (R4.out.later hb)
      have K5 := hide (RW.out _ g2 hk2)
      clear hb hg2 hk2 h0 h1
      go_wp2_with fail
      refine (CE.out _ _ _ _ _ _ l R5.out (HR.out.later B5.out)).mono ?_
      rintro e w6 ⟨rfl, hb⟩
      have V6 := hide (V5.out.later hb V5.out.lt)
      have B6 := hide (B5.out.trans (hb.mono B5.out.size))
      have K6 := hide (K5.out.later hb)
      have h0 := V6.out.c0
      have h1 := V6.out.c1
      simp only at h0 h1
      clear hb
      go_wp2_with fail
      refine (CL.out _).mono ?_
      rintro e w7 ⟨g3, cap3, cur, _, rfl, _, hblk, hcell, hb⟩
      have B7 := hide (B6.out.trans (hb.mono B6.out.size))
      have K7 := hide (K6.out.later hb)
      have M7 := hide (RL.out _ g3 cur hblk hcell)
      clear hb hblk hcell h0 h1
      go_wp2_with fail
      refine (CE.out _ _ _ _ _ _ L K7.out M7.out).mono ?_
      rintro e w8 ⟨rfl, hb⟩
      have B8 := hide (B7.out.trans (hb.mono B7.out.size))
      clear hb
      go_wp2_with fail
      refine (works_calls _ (HT.out.later B8.out)).mono ?_
      rintro e w9 ⟨rfl, hb⟩
      have B9 := hide (B8.out.trans (hb.mono B8.out.size))
      clear hb
      go_wp2
      go_ret
      exact ⟨rfl, B9.out⟩

theorem lanesFresh_calls (v : Nat × Nat) (hv : Vok v) (n : Nat) (_ : n < 2 ^ 8) (a : Option Addr) (len cap : Nat) (l : List Nat) (W : World) (hT : WTabs W) (hr : RowW W a len l) (hsz : len * 8 ≤ 140737488351232) :
    Calls Tryd.prog 6 #[vecV v, .int .u8 (n : Int), .slice a len cap] W fun e W' => e = .returned (.bool true) ∧ Below W.heap.size W W' := by
  have hw := lwd_ok n
  have CW := fun W => wid_calls n W
  generalize lwd n = w at *
  obtain ⟨c, hc⟩ : ∃ c, 128 / w = c := ⟨_, rfl⟩
  have hc16 : c ≤ 16 := by rw [← hc]; rcases hw with rfl | rfl | rfl | rfl <;> decide
  have h64 : ∀ i, at0 (listN v w) i < 2 ^ 64 := fun i => Nat.lt_of_lt_of_le (list_lanes v w i) (Nat.pow_le_pow_right (by decide) (by rcases hw with rfl | rfl | rfl | rfl <;> decide))
  have hlen : (listN v w).length = c := by rw [listN_length, hc]
  have hnone : a = none → len = 0 := fun h => by
    rcases Nat.eq_zero_or_pos len with h0 | h0
    · exact h0
    · obtain ⟨b, off, e, _⟩ := hr.2.2.2 h0
      rw [h] at e; cases e
  refine fresh_walk n w c v.1 v.2 (listN v w) l a len cap (ofV (w : Int) l) hc16 (hide CW) (hide fun W hT => lall_ok hw hc v hv W hT) (hide fun W hr => copy_calls a len cap l W hr hsz hnone) (hide fun W a' cap' hT hr => lof_calls (w : Int) a' len cap' l W hT hr) (hide fun W => rlist_calls hw hc v W) (hide fun W a b len ca cb l ha hb => ?_) (hide fun W g h => ?_) (hide fun W g cur hblk hcell => ?_) W (hide hT) (hide hr)
  · exact (words_calls a b len ca cb l W ha hb).mono fun e W' ⟨he, q, hq⟩ => ⟨he, by rw [hq]; exact below_drewNq (Below.refl _ _) q⟩
  · have := h.row (by rw [hlen]; omega) h64
    rwa [hlen] at this
  · exact ⟨hlen, by omega, h64, fun _ => ⟨g, 0, rfl, fun i hi => by
      have := hcell i hi
      rw [Nat.zero_add]
      simp [World.cell?, hblk, this]⟩⟩
end Go.Proofs.YtdhanapmknlobabDoor
