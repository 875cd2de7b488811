/-
  lanes.Of, lanes.All.
-/
import Derived.Test.YtdhanapmknlobabDoorLanSplat
set_option linter.unusedVariables false
set_option linter.unusedSimpArgs false
namespace Go.Proofs.YtdhanapmknlobabDoor
open Go.RowKit Lan

/-- What a walk is told of a slice of words. -/
def RowW (w : World) (a : Option Addr) (len : Nat) (l : List Nat) : Prop :=
  l.length = len ∧ len ≤ 2 ^ 63 - 1 ∧ (∀ i, at0 l i < 2 ^ 64) ∧
  (0 < len → ∃ b off, a = some ⟨b, off, none⟩ ∧ ∀ i, i < len → w.cell? ⟨b, off + i, none⟩ = some (.int .u64 (at0 l i : Int)))

theorem cell_later {B : Nat} {w w' : World} (h : Below B w w') {p : Addr} {v : Value} (hc : w.cell? p = some v) (hB : w.heap.size ≤ B) : w'.cell? p = some v := by
  have hl : p.block < w.heap.size := by
    rcases Nat.lt_or_ge p.block w.heap.size with h' | h'
    · exact h'
    · simp [World.cell?, Array.getElem?_eq_none h'] at hc
  exact (h.cell (Nat.lt_of_lt_of_le hl hB)).trans hc

theorem RowW.later {w w' : World} {a : Option Addr} {len : Nat} {l : List Nat} (h : RowW w a len l) (hb : Below w.heap.size w w') : RowW w' a len l := by
  obtain ⟨h1, h2, h3, h4⟩ := h
  refine ⟨h1, h2, h3, fun h0 => ?_⟩
  obtain ⟨b, off, e, hc⟩ := h4 h0
  exact ⟨b, off, e, fun i hi => cell_later hb (hc i hi) (Nat.le_refl _)⟩

def okAll (w : Int) (l : List Nat) : Bool := l.all fun n => ok1 w (n : Int)
def ofV (w : Int) (l : List Nat) : (Nat × Nat) × Int := if isW w && (l.length == 128 / w.toNat) && okAll w l then (vecN w.toNat l, 0) else ((0, 0), 2)

theorem okAll_false {w : Int} {l : List Nat} {k : Nat} (hk : k < l.length) (h : ok1 w (at0 l k : Int) = false) : okAll w l = false := by
  unfold okAll
  rw [List.all_eq_false]
  refine ⟨at0 l k, ?_, by simp [h]⟩
  simp [at0, List.getElem?_eq_getElem hk]
theorem okAll_true {w : Int} {l : List Nat} (h : ∀ k, k < l.length → ok1 w (at0 l k : Int) = true) : okAll w l = true := by
  unfold okAll
  rw [List.all_eq_true]
  intro x hx
  obtain ⟨k, hk, rfl⟩ := List.mem_iff_getElem.1 hx
  have := h k hk
  simpa [at0, List.getElem?_eq_getElem hk] using this

set_option maxHeartbeats 1000000 in
theorem lof_bad (w : Int) (a : Option Addr) (len cap : Nat) (h : isW w = false ∨ ∃ m c : Nat, w = m ∧ IsW m ∧ 128 / m = c ∧ len ≠ c ∧ len ≤ 2 ^ 63 - 1) (W : World) (hT : WTabs W) :
    Calls Tryd.prog 19 #[.int .i64 w, .slice a len cap] W fun e W' => e = .returned (vecE ((0, 0), 2)) ∧ Below W.heap.size W W' := by
  have BB : Below W.heap.size W (W.alloc (.cells #[.int .u64 0, .int .u64 0] 24)) := below_two _ _
  have F := lisWidth_calls w _ (hT.later BB)
  have RB : Hide (VBlk (W.alloc (.cells #[.int .u64 0, .int .u64 0] 24)) W.heap.size (0, 0)) := hide (alloc_at rfl)
  have HB := hide BB
  clear BB hT
  unfold vecE vecV
  rcases h with h | ⟨m, c, rfl, hm, hc, hne, hlen⟩
  · rw [h] at F
    have F := hide F
    clear h
    go_enter Tryd.func19, Tryd.ntmps19
    go_wp2_with fail
    refine F.out.mono ?_
    rintro e w1 ⟨rfl, hb⟩
    have BN := hide (HB.out.trans (hb.mono HB.out.size))
    have R1 := hide (RB.out.later hb RB.out.lt)
    have g0 := R1.out.c0
    have g1 := R1.out.c1
    have z0 := R1.out.frozen 0
    have z1 := R1.out.frozen 1
    clear hb HB
    go_wp2
    refine bodyPost_ret (v := vecE ((0, 0), 2)) ((R1.out.set2 0 0).result2 (by rfl) _ rfl rfl) rfl ?_
    exact ⟨rfl, (BN.out.setCell (by simp) _).setCell (by simp) _⟩
  · rw [(isW_iff m).2 ⟨m, rfl, hm⟩] at F
    have F := hide F
    have hq := q128 hm
    rw [hc] at hq
    have hw0 : ((m : Int) == 0) = false := by have := hm.pos; simp; omega
    have hw1 : (m : Int) ≠ 0 := by have := hm.pos; omega
    have hc16 : c ≤ 16 := by rw [← hc]; rcases hm with rfl | rfl | rfl | rfl <;> decide
    have hwc : wrap64 (c : Int) = (c : Int) := by unfold wrap64; omega
    have hn1 : ((len : Int) == (c : Int)) = false := by simp; omega
    have hn2 : ((len : Int) != (c : Int)) = true := by simp; omega
    have hn3 : ¬ ((len : Int) = (c : Int)) := by omega
    clear hc hm
    go_enter Tryd.func19, Tryd.ntmps19
    go_wp2_with fail
    refine F.out.mono ?_
    rintro e w1 ⟨rfl, hb⟩
    have BN := hide (HB.out.trans (hb.mono HB.out.size))
    have R1 := hide (RB.out.later hb RB.out.lt)
    have g0 := R1.out.c0
    have g1 := R1.out.c1
    have z0 := R1.out.frozen 0
    have z1 := R1.out.frozen 1
    clear hb HB
    go_wp2
    refine bodyPost_ret (v := vecE ((0, 0), 2)) ((R1.out.set2 0 0).result2 (by rfl) _ rfl rfl) rfl ?_
    exact ⟨rfl, (BN.out.setCell (by simp) _).setCell (by simp) _⟩

set_option maxHeartbeats 1000000 in
theorem lof_ok {w c : Nat} (hw : IsW w) (hc : 128 / w = c) (b off cap : Nat) (l : List Nat) (hl : l.length = c) (h64 : ∀ i, at0 l i < 2 ^ 64) (W : World) (hT : WTabs W)
    (hcell : ∀ i, i < c → W.cell? ⟨b, off + i, none⟩ = some (.int .u64 (at0 l i : Int))) :
    Calls Tryd.prog 19 #[.int .i64 (w : Int), .slice (some ⟨b, off, none⟩) c cap] W fun e W' => e = .returned (vecE (if okAll w l then (vecN w l, 0) else ((0, 0), 2))) ∧ Below W.heap.size W W' := by
  have BB : Below W.heap.size W (W.alloc (.cells #[.int .u64 0, .int .u64 0] 24)) := below_two _ _
  have F := lisWidth_calls w _ (hT.later BB)
  have RB : Hide (VBlk (W.alloc (.cells #[.int .u64 0, .int .u64 0] 24)) W.heap.size (0, 0)) := hide (alloc_at rfl)
  have HB := hide BB
  rw [(isW_iff w).2 ⟨w, rfl, hw⟩] at F
  have F := hide F
  have HT := hide hT
  have CF := hide (fun n W1 hT1 => lfit_calls (w : Int) n W1 hT1)
  have CW : Hide (∀ (k : Nat), k < c → (∀ j, j ≤ k → ok1 (w : Int) (at0 l j : Int) = true) → ∀ W', Calls Tryd.prog 24 #[vecV (vecTo w l k), .int .i64 (w : Int), .int .i64 (k : Int), .int .u64 (at0 l k : Int)] W' fun e W'' => e = .returned (vecV (vecTo w l (k + 1))) ∧ Below W'.heap.size W' W'') := hide (fun k hk hok W' => by
    exact with_calls hw (i := k) (n := at0 l k) (by omega) (ok1_lt (hok k (Nat.le_refl _))) (vecTo w l k) (vecTo_ok2 hw k (by omega) (fun j hj => ok1_lt (hok j (by omega)))) W')
  have hq := q128 hw
  rw [hc] at hq
  have hw0 : ((w : Int) == 0) = false := by have := hw.pos; simp; omega
  have hw1 : (w : Int) ≠ 0 := by have := hw.pos; omega
  have hc16 : c ≤ 16 := by rw [← hc]; rcases hw with rfl | rfl | rfl | rfl <;> decide
  have hwc : wrap64 (c : Int) = (c : Int) := by unfold wrap64; omega
  have HN : Hide (vecN w l = vecTo w l c) := hide (by unfold vecN; rw [hc])
  have HL := hide hl
  have HC := hide hcell
  obtain ⟨R, hR⟩ : ∃ R, (if okAll w l then (vecN w l, 0) else (((0, 0) : Nat × Nat), (2 : Int))) = R := ⟨_, rfl⟩
  rw [hR]
  have HR := hide hR
  clear BB hT hl hc hw hcell hR h64
  unfold vecV at CW
  go_enter Tryd.func19, Tryd.ntmps19
  go_wp2_with fail
  refine F.out.mono ?_
  rintro e w1 ⟨rfl, hb⟩
  have BN := hide (HB.out.trans (hb.mono HB.out.size))
  have R1 := hide (RB.out.later hb RB.out.lt)
  have HG : Hide (W.heap.size < w1.heap.size) := hide R1.out.lt
  clear hb HB RB F
  go_wp2_with fail
  go_loopw [22] (fun x wr => ∃ k : Nat, x = .int .i64 (k : Int) ∧ k ≤ c ∧ (∀ j, j < k → ok1 (w : Int) (at0 l j : Int) = true) ∧ VAt W.heap.size w1.heap.size W (vecTo w l k) wr) (fun x _ => c - (intOf x).toNat)
  case atStart =>
    exact ⟨0, rfl, by omega, fun j hj => by omega, alloc_past R1.out, alloc_at rfl, BN.out.alloc BN.out.size _⟩
  case round =>
    obtain ⟨k, rfl, hk, hok, hr⟩ := hrel
    have HOK := hide hok
    have HQ := hide hq
    clear hq hok
    by_cases c0 : k < c
    · have c1 : (k : Int) < (c : Int) := by omega
      have c2 : (k : Int) < 16 := by omega
      have H := hide hr
      have hck : wr.cell? ⟨b, off + k, none⟩ = some (.int .u64 (at0 l k : Int)) := cell_later hr.2.2 (HC.out k c0) (Nat.le_refl _)
      have FK := CF.out (at0 l k : Int) wr (HT.out.later hr.2.2)
      cases ho : ok1 (w : Int) (at0 l k : Int) with
      | false =>
        rw [ho] at FK
        have FK := hide FK
        have e1 := okAll_false (w := (w : Int)) (k := k) (by rw [HL.out]; exact c0) ho
        have e2 : R = ((0, 0), 2) := by rw [← HR.out, e1]; rfl
        subst e2
        clear hr ho CW CF e1 HR
        generalize at0 l k = n at *
        go_wp2_with fail
        refine FK.out.mono ?_
        rintro e w2 ⟨rfl, hb⟩
        have K1 : Hide (VAt W.heap.size w1.heap.size W (vecTo w l k) w2) := by
          obtain ⟨a1, a2, a3⟩ := H.out
          exact hide ⟨a1.later hb a1.lt, a2.later hb a2.lt, a3.trans (hb.mono a3.size)⟩
        have g0 := K1.out.1.c0
        have g1 := K1.out.1.c1
        have z0 := K1.out.1.frozen 0
        have z1 := K1.out.1.frozen 1
        clear hb hck
        go_wp2
        refine bodyPost_ret (v := vecE ((0, 0), 2)) ((K1.out.1.set2 0 0).result2 (by rfl) _ rfl rfl) rfl ?_
        exact ⟨rfl, (K1.out.2.2.setCell (by simp) _).setCell (by simp) _⟩
      | true =>
        rw [ho] at FK
        have FK := hide FK
        have OK2 : Hide (∀ j, j < k + 1 → ok1 (w : Int) (at0 l j : Int) = true) := hide (fun j hj => by
          by_cases e : j = k
          · subst e; exact ho
          · exact HOK.out j (by omega))
        have CK := hide (CW.out k c0 (fun j hj => OK2.out j (by omega)))
        obtain ⟨⟨p, q⟩, hv'⟩ : ∃ v', vecTo w l (k + 1) = v' := ⟨_, rfl⟩
        have HV := hide hv'
        rw [hv'] at CK
        obtain ⟨⟨lo, hi⟩, hu⟩ : ∃ v', vecTo w l k = v' := ⟨_, rfl⟩
        rw [hu] at CK H
        clear hr ho CW CF hv' hu
        generalize at0 l k = n at *
        simp only at CK
        go_wp2_with fail
        refine FK.out.mono ?_
        rintro e w2 ⟨rfl, hb⟩
        have K1 : Hide (VAt W.heap.size w1.heap.size W (lo, hi) w2) := by
          obtain ⟨a1, a2, a3⟩ := H.out
          exact hide ⟨a1.later hb a1.lt, a2.later hb a2.lt, a3.trans (hb.mono a3.size)⟩
        have h0 := K1.out.2.1.c0
        have h1 := K1.out.2.1.c1
        simp only at h0 h1
        clear hb hck H
        go_wp2_with fail
        refine (CK.out _).mono ?_
        rintro e w3 ⟨rfl, hb⟩
        have K2 : Hide (VAt W.heap.size w1.heap.size W (lo, hi) w3) := by
          obtain ⟨a1, a2, a3⟩ := K1.out
          exact hide ⟨a1.later hb a1.lt, a2.later hb a2.lt, a3.trans (hb.mono a3.size)⟩
        have hc0 := K2.out.2.1.c0
        have hc1 := K2.out.2.1.c1
        have hz0 := K2.out.2.1.frozen 0
        have hz1 := K2.out.2.1.frozen 1
        clear h0 h1 hb K1
        go_wp2
        go_roundw
        case rel =>
          obtain ⟨a1, a2, a3⟩ := K2.out
          have hg := HG.out
          refine ⟨k + 1, by go_num, by omega, OK2.out, ?_, ?_, (a3.setCell (by simp; omega) _).setCell (by simp; omega) _⟩
          · exact (a1.other (by omega) _ _).other (by omega) _ _
          · rw [HV.out]; exact a2.set2 p q
        case measure => simp [intOf]; omega
    · obtain rfl : k = c := by omega
      have e2 : R = (vecN w l, 0) := by rw [← HR.out, okAll_true (by rw [HL.out]; exact HOK.out)]; rfl
      subst e2
      have H := hide hr
      have hr2 := hr.2.1
      obtain ⟨⟨fp, fq⟩, hF⟩ : ∃ F, vecTo w l k = F := ⟨_, rfl⟩
      have HF : Hide (vecN w l = (fp, fq)) := hide (by rw [HN.out, hF])
      rw [hF] at hr2
      have h0 := hr2.c0
      have h1 := hr2.c1
      have g0 := hr.1.c0
      have g1 := hr.1.c1
      have z0 := hr.1.frozen 0
      have z1 := hr.1.frozen 1
      clear hr hr2 CW HR HN hF CF
      simp only at h0 h1
      go_wp2
      refine bodyPost_ret (v := vecE ((fp, fq), 0)) ((H.out.1.set2 fp fq).result2 (by rfl) _ rfl rfl) rfl ?_
      exact ⟨by rw [HF.out], (H.out.2.2.setCell (by simp) _).setCell (by simp) _⟩

theorem lof_calls (w : Int) (a : Option Addr) (len cap : Nat) (l : List Nat) (W : World) (hT : WTabs W) (hr : RowW W a len l) :
    Calls Tryd.prog 19 #[.int .i64 w, .slice a len cap] W fun e W' => e = .returned (vecE (ofV w l)) ∧ Below W.heap.size W W' := by
  obtain ⟨h1, h2, h3, h4⟩ := hr
  unfold ofV
  cases h : isW w with
  | false => simpa using lof_bad w a len cap (.inl h) W hT
  | true =>
    obtain ⟨m, rfl, hm⟩ := (isW_iff w).1 h
    by_cases c : len = 128 / m
    · obtain ⟨b, off, rfl, hc⟩ := h4 (by rw [c]; rcases hm with rfl | rfl | rfl | rfl <;> decide)
      have e : (l.length == 128 / (m : Int).toNat) = true := by simp [h1, c]
      rw [e]
      subst c
      simpa using lof_ok hm rfl b off cap l h1 h3 W hT hc
    · have e : (l.length == 128 / (m : Int).toNat) = false := by simp [h1, c]
      rw [e]
      simpa using lof_bad m a len cap (.inr ⟨m, _, rfl, hm, rfl, c, h2⟩) W hT
end Go.Proofs.YtdhanapmknlobabDoor
