/-
  lanes.Get, Set, Splat.
-/
import Derived.Test.YtdhanapmknlobaaDoorLanOf
set_option linter.unusedVariables false
set_option linter.unusedSimpArgs false
namespace Go.Proofs.YtdhanapmknlobaaDoor
open Go.RowKit Lan

theorem isL_true {w i : Int} (h : isL w i = true) : ∃ n m : Nat, w = n ∧ i = m ∧ IsW n ∧ m < 128 / n := by
  unfold isL at h
  simp only [Bool.and_eq_true, decide_eq_true_eq] at h
  obtain ⟨h1, h2, h3⟩ := h
  obtain ⟨n, rfl, hn⟩ := (isW_iff w).1 h1
  obtain ⟨m, rfl⟩ := Int.eq_ofNat_of_zero_le h2
  refine ⟨n, m, rfl, rfl, hn, ?_⟩
  rcases hn with rfl | rfl | rfl | rfl <;> omega

theorem isL_of {n m : Nat} (hn : IsW n) (hm : m < 128 / n) : isL n m = true := by
  unfold isL
  rw [(isW_iff n).2 ⟨n, rfl, hn⟩]
  rcases hn with rfl | rfl | rfl | rfl <;> simp <;> omega

/-- What Get answers, and the error's number. -/
def getV (v : Nat × Nat) (w i : Int) : Int × Int := if isL w i then ((laneN v w.toNat i.toNat : Int), 0) else (0, 2)
/-- What Set answers. -/
def setV (v : Nat × Nat) (w i : Int) (n : Nat) : (Nat × Nat) × Int := if isL w i && ok1 w n then (withN v w.toNat i.toNat n, 0) else ((0, 0), 2)
def vecE (p : (Nat × Nat) × Int) : Value := .tuple #[vecV p.1, .int .i64 p.2]

theorem VBlk.result2 {w : World} {g : Nat} {v : Nat × Nat} (h : VBlk w g v) {fn : Func} {p q : Tmp} (hf : fn.results = #[.cell p 24, .tmp q]) (tmps : Array Value) (hp : tmps.getD p undef = .pointer (some ⟨g, 0, none⟩)) {x : Value} (hq : tmps.getD q undef = x) :
    (results fn tmps).run Tryd.prog w = .ok (.tuple #[vecV v, x]) w := by
  have hp' : tmps[p]?.getD undef = .pointer (some ⟨g, 0, none⟩) := by simpa using hp
  have hq' : tmps[q]?.getD undef = x := by simpa using hq
  simp [results, hf, hp', hq', asAddr, run_loadVar_row w g _ _ _ _ _ h Tryd.underlying24 rfl infoV]
  rfl

set_option maxHeartbeats 1000000 in
theorem lget_calls (v : Nat × Nat) (hv : Vok v) (w i : Int) (W : World) (hT : WTabs W) :
    Calls Tryd.prog 9 #[vecV v, .int .i64 w, .int .i64 i] W fun e W' => e = .returned (pairV (getV v w i)) ∧ Below W.heap.size W W' := by
  have BB : Below W.heap.size W (W.alloc (.cells #[.int .u64 (v.1 : Int), .int .u64 (v.2 : Int)] 24)) := below_two _ _
  have C := isLane_calls w i _ (hT.later BB)
  have HB := hide BB
  have VB : Hide (VBlk (W.alloc (.cells #[.int .u64 (v.1 : Int), .int .u64 (v.2 : Int)] 24)) W.heap.size v) := hide (alloc_at rfl)
  clear BB
  unfold getV
  cases h : isL w i with
  | false =>
    rw [h] at C
    have C := hide C
    simp only [Bool.false_eq_true, if_false]
    unfold vecV
    clear h hT hv VB
    go_enter Tryd.func9, Tryd.ntmps9
    go_wp2_with fail
    refine C.out.mono ?_
    rintro e w1 ⟨rfl, hb⟩
    have BN := hide (HB.out.trans (hb.mono HB.out.size))
    clear hb HB
    go_wp2
    refine bodyPost_ret (v := .tuple #[.int .u64 0, .int .i64 2]) (by simp [results, Tryd.results9, go_sem]) rfl ?_
    exact ⟨rfl, BN.out⟩
  | true =>
    obtain ⟨n, m, rfl, rfl, hn, hm⟩ := isL_true h
    rw [h] at C
    have C := hide C
    have D := hide (lane_calls hn hm v hv)
    simp only [if_true, Int.toNat_natCast]
    unfold vecV at D ⊢
    clear h hT hv hn hm
    go_enter Tryd.func9, Tryd.ntmps9
    go_wp2_with fail
    refine C.out.mono ?_
    rintro e w1 ⟨rfl, hb⟩
    have BN := hide (HB.out.trans (hb.mono HB.out.size))
    have V1 : VBlk w1 W.heap.size v := VB.out.later hb VB.out.lt
    have h0 := V1.c0
    have h1 := V1.c1
    clear hb HB V1 VB
    go_wp2_with fail
    refine (D.out _).mono ?_
    rintro e w2 ⟨rfl, hb⟩
    have BN2 := hide (BN.out.trans (hb.mono BN.out.size))
    clear hb h0 h1
    go_wp2
    refine bodyPost_ret (v := .tuple #[.int .u64 (laneN v n m : Int), .int .i64 0]) (by simp [results, Tryd.results9, go_sem]) rfl ?_
    exact ⟨rfl, BN2.out⟩

set_option maxHeartbeats 1000000 in
theorem lset_calls (v : Nat × Nat) (hv : Vok v) (w i : Int) (n : Nat) (W : World) (hT : WTabs W) :
    Calls Tryd.prog 11 #[vecV v, .int .i64 w, .int .i64 i, .int .u64 (n : Int)] W fun e W' => e = .returned (vecE (setV v w i n)) ∧ Below W.heap.size W W' := by
  have BB : Below W.heap.size W ((W.alloc (.cells #[.int .u64 (v.1 : Int), .int .u64 (v.2 : Int)] 24)).alloc (.cells #[.int .u64 0, .int .u64 0] 24)) := (below_two _ _).alloc (by simp) _
  have C := isLane_calls w i _ (hT.later BB)
  have HB := hide BB
  have VB : Hide (VBlk ((W.alloc (.cells #[.int .u64 (v.1 : Int), .int .u64 (v.2 : Int)] 24)).alloc (.cells #[.int .u64 0, .int .u64 0] 24)) W.heap.size v) := hide (alloc_past (alloc_at rfl))
  have RB : Hide (VBlk ((W.alloc (.cells #[.int .u64 (v.1 : Int), .int .u64 (v.2 : Int)] 24)).alloc (.cells #[.int .u64 0, .int .u64 0] 24)) (W.heap.size + 1) (0, 0)) := hide (alloc_at (by simp))
  have HT := hide hT
  clear BB hT
  unfold setV
  cases h : isL w i with
  | false =>
    rw [h] at C
    have C := hide C
    simp only [Bool.false_and, Bool.false_eq_true, if_false]
    unfold vecE vecV
    clear h hv VB
    go_enter Tryd.func11, Tryd.ntmps11
    go_wp2_with fail
    refine C.out.mono ?_
    rintro e w1 ⟨rfl, hb⟩
    have BN := hide (HB.out.trans (hb.mono HB.out.size))
    have R1 := hide (RB.out.later hb RB.out.lt)
    have g0 := R1.out.c0
    have g1 := R1.out.c1
    have z0 := R1.out.frozen 0
    have z1 := R1.out.frozen 1
    clear hb HB
    go_wp2
    refine bodyPost_ret (v := vecE ((0, 0), 2)) ((R1.out.set2 0 0).result2 (by rfl) _ rfl rfl) rfl ?_
    exact ⟨rfl, (BN.out.setCell (by simp) _).setCell (by simp) _⟩
  | true =>
    obtain ⟨nw, m, rfl, rfl, hn, hm⟩ := isL_true h
    rw [h] at C
    have C := hide C
    have F := hide (fun W1 hT1 => lfit_calls (nw : Int) (n : Int) W1 hT1)
    cases ho : ok1 (nw : Int) (n : Int) with
    | false =>
      rw [ho] at F
      simp only [Bool.and_false, Bool.false_eq_true, if_false]
      unfold vecE vecV
      clear h hv VB ho hn hm
      go_enter Tryd.func11, Tryd.ntmps11
      go_wp2_with fail
      refine C.out.mono ?_
      rintro e w1 ⟨rfl, hb⟩
      have BN := hide (HB.out.trans (hb.mono HB.out.size))
      have R1 := hide (RB.out.later hb RB.out.lt)
      clear hb HB
      go_wp2_with fail
      refine (F.out _ (HT.out.later BN.out)).mono ?_
      rintro e w2 ⟨rfl, hb⟩
      have BN2 := hide (BN.out.trans (hb.mono BN.out.size))
      have R2 := hide (R1.out.later hb R1.out.lt)
      have g0 := R2.out.c0
      have g1 := R2.out.c1
      have z0 := R2.out.frozen 0
      have z1 := R2.out.frozen 1
      clear hb
      go_wp2
      refine bodyPost_ret (v := vecE ((0, 0), 2)) ((R2.out.set2 0 0).result2 (by rfl) _ rfl rfl) rfl ?_
      exact ⟨rfl, (BN2.out.setCell (by simp) _).setCell (by simp) _⟩
    | true =>
      rw [ho] at F
      have hof : n < 2 ^ nw := by
        obtain ⟨n', e', _, h2⟩ := of_ok1 (by omega) ho
        obtain rfl : nw = n' := by omega
        have := h2.2
        exact_mod_cast this
      have D := hide (with_calls hn hm hof v hv)
      simp only [Bool.and_self, if_true, Int.toNat_natCast]
      obtain ⟨⟨p, q⟩, hpq⟩ : ∃ r, withN v nw m n = r := ⟨_, rfl⟩
      rw [hpq] at D ⊢
      unfold vecE
      unfold vecV at D ⊢
      simp only at D ⊢
      clear h hv ho hn hm hof hpq
      go_enter Tryd.func11, Tryd.ntmps11
      go_wp2_with fail
      refine C.out.mono ?_
      rintro e w1 ⟨rfl, hb⟩
      have BN := hide (HB.out.trans (hb.mono HB.out.size))
      have R1 := hide (RB.out.later hb RB.out.lt)
      have V1 := hide (VB.out.later hb VB.out.lt)
      clear hb HB
      go_wp2_with fail
      refine (F.out _ (HT.out.later BN.out)).mono ?_
      rintro e w2 ⟨rfl, hb⟩
      have BN2 := hide (BN.out.trans (hb.mono BN.out.size))
      have R2 := hide (R1.out.later hb R1.out.lt)
      have V2 := V1.out.later hb V1.out.lt
      have h0 := V2.c0
      have h1 := V2.c1
      clear hb V2
      go_wp2_with fail
      refine (D.out _).mono ?_
      rintro e w3 ⟨rfl, hb⟩
      have BN3 := hide (BN2.out.trans (hb.mono BN2.out.size))
      have R3 := hide (R2.out.later hb R2.out.lt)
      have g0 := R3.out.c0
      have g1 := R3.out.c1
      have z0 := R3.out.frozen 0
      have z1 := R3.out.frozen 1
      clear hb h0 h1
      go_wp2
      refine bodyPost_ret (v := vecE ((p, q), 0)) ((R3.out.set2 p q).result2 (by rfl) _ rfl rfl) rfl ?_
      exact ⟨rfl, (BN3.out.setCell (by simp) _).setCell (by simp) _⟩
end Go.Proofs.YtdhanapmknlobaaDoor
