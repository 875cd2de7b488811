/-
  VinBoth, VinEach, VinTwoFn, VinOps, VinClo.
-/
import Derived.Test.YtoihfmammmkloaaDoorPkLan
import Derived.Laws.EntriesVeiled
import Derived.Test.YtoihfmammmkloaaDoorPkVinA
import Derived.Test.YtoihfmammmkloaaDoorPkRef
/-
  vints.both, each: what a function value answers, lane by lane.
-/
set_option linter.unusedVariables false
set_option linter.unusedSimpArgs false
namespace Go.Proofs.YtoihfmammmkloaaDoor
open Go.RowKit Lan

/-- A function value of two words: what it answers at the first c words of two rows, from W on. -/
def Fun2 (g : Nat) (lb : Array Value) (c : Nat) (L M : List Nat) (R : Nat → Nat) (E : Int) (W : World) : Prop :=
  ∀ (W' : World) (i : Nat), i < c → Below W.heap.size W W' → Calls Tryd.prog g (#[.int .u64 (at0 L i : Int), .int .u64 (at0 M i : Int)] ++ lb) W' fun e W'' => e = .returned (.tuple #[.int .u64 (R i : Int), .int .i64 E]) ∧ Below W'.heap.size W' W''
/-- A function value of one word. -/
def Fun1 (g : Nat) (lb : Array Value) (c : Nat) (L : List Nat) (R : Nat → Nat) (E : Int) (W : World) : Prop :=
  ∀ (W' : World) (i : Nat), i < c → Below W.heap.size W W' → Calls Tryd.prog g (#[.int .u64 (at0 L i : Int)] ++ lb) W' fun e W'' => e = .returned (.tuple #[.int .u64 (R i : Int), .int .i64 E]) ∧ Below W'.heap.size W' W''
def Enters (g : Nat) : Prop := ∀ args w, (callFunc g args).run Tryd.prog w = .ok (.enter g args) w
/-- The words of a slice lie from here on. -/
def Words (W : World) (b o c : Nat) (L : List Nat) : Prop := ∀ i, i < c → W.cell? ⟨b, o + i, none⟩ = some (.int .u64 (at0 L i : Int))

theorem Fun2.later {g : Nat} {lb : Array Value} {c : Nat} {L M : List Nat} {R : Nat → Nat} {E : Int} {W W' : World} (h : Fun2 g lb c L M R E W) (hb : Below W.heap.size W W') : Fun2 g lb c L M R E W' :=
  fun V i hi hV => h V i hi (hb.trans (hV.mono hb.size))
theorem Fun1.later {g : Nat} {lb : Array Value} {c : Nat} {L : List Nat} {R : Nat → Nat} {E : Int} {W W' : World} (h : Fun1 g lb c L R E W) (hb : Below W.heap.size W W') : Fun1 g lb c L R E W' :=
  fun V i hi hV => h V i hi (hb.trans (hV.mono hb.size))
theorem Words.later {W W' : World} {b o c : Nat} {L : List Nat} (h : Words W b o c L) (hb : Below W.heap.size W W') : Words W' b o c L :=
  fun i hi => cell_later hb (h i hi) (Nat.le_refl _)
theorem WBlk.words {w : World} {g c : Nat} {L : List Nat} (h : WBlk w g L) (hl : L.length = c) : Words w g 0 c L := fun i hi => by rw [Nat.zero_add]; exact h.cell i (by omega)

set_option maxHeartbeats 1000000 in
theorem both_ok {w c : Nat} (hw : IsW w) (hc : 128 / w = c) (g : Nat) (lb : Array Value) (eg : Enters g) (bl ol cl bm om cm : Nat) (L M : List Nat) (R : Nat → Nat) (hR : ∀ i, i < c → R i < 2 ^ w)
    (W : World) (hT : WTabs W) (hL : Words W bl ol c L) (hM : Words W bm om c M) (hF : Fun2 g lb c L M R 0 W) :
    Calls Tryd.prog 77 #[.int .i64 (w : Int), .slice (some ⟨bl, ol, none⟩) c cl, .slice (some ⟨bm, om, none⟩) c cm, .func (.func g) #[] lb] W fun e W' =>
      e = .returned (vecE (vecN w ((List.range c).map R), 0)) ∧ Below W.heap.size W W' := by
  have BB : Below W.heap.size W (W.alloc (.cells #[.int .u64 0, .int .u64 0] 25)) := below_two _ _
  have VB : Hide (VBlk (W.alloc (.cells #[.int .u64 0, .int .u64 0] 25)) W.heap.size (0, 0)) := hide (alloc_at rfl)
  have BN := hide BB
  have hc16 : c ≤ 16 := by rw [← hc]; rcases hw with rfl | rfl | rfl | rfl <;> decide
  have hmk := run_make_row' (P := Tryd.prog) 51 23 (.int .u64 0) 8 Tryd.underlying51 infoW rfl .i64 .i64 c (by omega) (by omega)
  have FULL : Hide (fillC c R c = (List.range c).map R) := hide (fillC_all c R)
  have CO : Hide (∀ W', Below W.heap.size W W' → ∀ gg, WBlk W' gg ((List.range c).map R) → Calls Tryd.prog 104 #[.int .i64 (w : Int), .slice (some ⟨gg, 0, none⟩) c c] W' fun e W'' =>
      e = .returned (vecE (vecN w ((List.range c).map R), 0)) ∧ Below W'.heap.size W' W'') := hide (by
    intro W' hb gg hg
    have hlt : ∀ i, i < c → at0 ((List.range c).map R) i = R i := fun i hi => by simp [at0, List.getElem?_range hi]
    have hw64 : 2 ^ w ≤ 2 ^ 64 := Nat.pow_le_pow_right (by omega) (by rcases hw with rfl | rfl | rfl | rfl <;> decide)
    have h64 : ∀ i, at0 ((List.range c).map R) i < 2 ^ 64 := fun i => by
      by_cases hi : i < c
      · rw [hlt i hi]; exact Nat.lt_of_lt_of_le (hR i hi) hw64
      · simp [at0, List.getElem?_eq_none (show ((List.range c).map R).length ≤ i by simp; omega)]
    have := lof_ok hw hc gg 0 c ((List.range c).map R) (by simp) h64 W' (hT.later hb) (fun i hi => by rw [Nat.zero_add]; exact hg.cell i (by simpa using hi))
    rw [okAll_true (fun k hk => by
      have hk' : k < c := by simpa using hk
      rw [hlt k hk']
      exact ok1_of hw ⟨by omega, by exact_mod_cast hR k hk'⟩)] at this
    simpa using this)
  obtain ⟨⟨fp, fq⟩, hV⟩ : ∃ v, vecN w ((List.range c).map R) = v := ⟨_, rfl⟩
  rw [hV] at CO ⊢
  have HE := hide eg
  have HL := hide hL
  have HM := hide hM
  have HF := hide hF
  clear BB hT hw hc hR hV hL hM hF eg
  unfold vecE vecV at CO ⊢
  simp only at CO ⊢
  go_enter Tryd.func77, Tryd.ntmps77
  go_wp2_with fail
  go_loopw [20] (fun x wr => ∃ k : Nat, x = .int .i64 (k : Int) ∧ k ≤ c ∧ AllAt W.heap.size (W.heap.size + 1) W (0, 0) (fillC c R k) wr) (fun x _ => c - (intOf x).toNat)
  case atStart =>
    refine ⟨0, rfl, by omega, alloc_past VB.out, ?_, BN.out.alloc BN.out.size _⟩
    rw [fillC_zero, made_words]
    exact alloc_at (by simp)
  case round =>
    obtain ⟨k, rfl, hk, hr⟩ := hrel
    have HMK := hide hmk
    clear hmk
    by_cases c0 : k < c
    · have c1 : (k : Int) < (c : Int) := by omega
      have c2 : (k : Int) < 16 := by omega
      have H := hide hr
      have CF := hide (HF.out wr k c0 hr.2.2)
      have hl := cell_later hr.2.2 (HL.out k c0) (Nat.le_refl _)
      have hm := cell_later hr.2.2 (HM.out k c0) (Nat.le_refl _)
      have eg := HE.out
      unfold Enters at eg
      have ST := hide (fillC_set c R k c0)
      have HC := hide c0
      clear hr
      generalize R k = n at *
      generalize at0 L k = x at *
      generalize at0 M k = y at *
      go_wp2_with (go_at_fn g; refine CF.out.mono ?_; rintro e w2 ⟨rfl, hb⟩; have K1 : Hide (AllAt W.heap.size (W.heap.size + 1) W (0, 0) (fillC c R k) w2) := (by obtain ⟨a1, a2, a3⟩ := H.out; exact hide ⟨a1.later hb a1.lt, a2.later hb a2.lt, a3.trans (hb.mono a3.size)⟩); have hc : w2.cell? ⟨W.heap.size + 1, k, none⟩ = some (.int .u64 (at0 (fillC c R k) k : Int)) := K1.out.2.1.cell k (by rw [fillC_length]; exact HC.out); have hz : w2.frozen? ⟨W.heap.size + 1, k, none⟩ = false := K1.out.2.1.frozen k; clear hb hl hm eg)
      go_roundw
      case rel =>
        obtain ⟨a1, a2, a3⟩ := K1.out
        refine ⟨k + 1, by go_num, by omega, a1.other (by omega) _ _, ?_, a3.setCell (by simp) _⟩
        rw [← ST.out]; exact a2.set k n
      case measure => simp [intOf]; omega
    · obtain rfl : k = c := by omega
      have H := hide hr
      have CC := hide (CO.out wr hr.2.2 (W.heap.size + 1) (by rw [← FULL.out]; exact hr.2.1))
      clear hr CO
      go_wp2_with fail
      refine CC.out.mono ?_
      rintro e w2 ⟨rfl, hb⟩
      have K1 : Hide (VBlk w2 W.heap.size (0, 0)) := hide (H.out.1.later hb H.out.1.lt)
      have K2 : Hide (Below W.heap.size W w2) := hide (H.out.2.2.trans (hb.mono H.out.2.2.size))
      have g0 := K1.out.c0
      have g1 := K1.out.c1
      have z0 := K1.out.frozen 0
      have z1 := K1.out.frozen 1
      clear hb
      go_wp2
      refine bodyPost_ret (v := .tuple #[.agg #[.int .u64 (fp : Int), .int .u64 (fq : Int)], .int .i64 0]) ((K1.out.set2 fp fq).result2 (by rfl) _ rfl rfl) rfl ?_
      exact ⟨rfl, (K2.out.setCell (by simp) _).setCell (by simp) _⟩

set_option maxHeartbeats 1000000 in
theorem both_bad {w c : Nat} (h0 : 0 < c) (hc16 : c ≤ 16) (g : Nat) (lb : Array Value) (eg : Enters g) (bl ol cl bm om cm : Nat) (L M : List Nat) (R : Nat → Nat)
    (W : World) (hL : Words W bl ol c L) (hM : Words W bm om c M) (hF : Fun2 g lb c L M R 2 W) :
    Calls Tryd.prog 77 #[.int .i64 (w : Int), .slice (some ⟨bl, ol, none⟩) c cl, .slice (some ⟨bm, om, none⟩) c cm, .func (.func g) #[] lb] W fun e W' =>
      e = .returned (vecE ((0, 0), 2)) ∧ Below W.heap.size W W' := by
  have BB : Below W.heap.size W (W.alloc (.cells #[.int .u64 0, .int .u64 0] 25)) := below_two _ _
  have VB : Hide (VBlk (W.alloc (.cells #[.int .u64 0, .int .u64 0] 25)) W.heap.size (0, 0)) := hide (alloc_at rfl)
  have BN := hide BB
  have hmk := run_make_row' (P := Tryd.prog) 51 23 (.int .u64 0) 8 Tryd.underlying51 infoW rfl .i64 .i64 c (by omega) (by omega)
  have HE := hide eg
  have HL := hide hL
  have HM := hide hM
  have HF := hide hF
  clear BB hL hM hF eg
  unfold vecE vecV
  simp only
  go_enter Tryd.func77, Tryd.ntmps77
  go_wp2_with fail
  go_loopw [20] (fun x wr => x = .int .i64 0 ∧ VBlk wr W.heap.size (0, 0) ∧ Below W.heap.size W wr) (fun x _ => 0)
  case atStart => exact ⟨rfl, alloc_past VB.out, BN.out.alloc BN.out.size _⟩
  case round =>
    obtain ⟨rfl, hr⟩ := hrel
    have HMK := hide hmk
    clear hmk
    have c1 : (0 : Int) < (c : Int) := by omega
    have H := hide hr
    have CF := hide (HF.out wr 0 h0 hr.2)
    have hl := cell_later hr.2 (HL.out 0 h0) (Nat.le_refl _)
    have hm := cell_later hr.2 (HM.out 0 h0) (Nat.le_refl _)
    rw [Nat.add_zero] at hl hm
    have eg := HE.out
    unfold Enters at eg
    clear hr
    generalize R 0 = n at *
    generalize at0 L 0 = x at *
    generalize at0 M 0 = y at *
    go_wp2_with fail
    go_at_fn g
    refine CF.out.mono ?_
    rintro e w2 ⟨rfl, hb⟩
    have K1 : Hide (VBlk w2 W.heap.size (0, 0)) := hide (H.out.1.later hb H.out.1.lt)
    have K2 : Hide (Below W.heap.size W w2) := hide (H.out.2.trans (hb.mono H.out.2.size))
    have g0 := K1.out.c0
    have g1 := K1.out.c1
    have z0 := K1.out.frozen 0
    have z1 := K1.out.frozen 1
    clear hb hl hm eg
    go_wp2
    refine bodyPost_ret (v := .tuple #[.agg #[.int .u64 (0 : Int), .int .u64 (0 : Int)], .int .i64 2]) ((K1.out.set2 0 0).result2 (by rfl) _ rfl rfl) rfl ?_
    exact ⟨rfl, (K2.out.setCell (by simp) _).setCell (by simp) _⟩

set_option maxHeartbeats 1000000 in
/-- each's function value: the one that it was given, at the first word. -/
theorem each1_calls (g : Nat) (lb : Array Value) (eg : Enters g) (x y n : Nat) (E : Int) (q : Nat) (W : World) (hq : W.cell? ⟨q, 0, none⟩ = some (.func (.func g) #[] lb))
    (hF : Calls Tryd.prog g (#[.int .u64 (x : Int)] ++ lb) W fun e W'' => e = .returned (.tuple #[.int .u64 (n : Int), .int .i64 E]) ∧ Below W.heap.size W W'') :
    Calls Tryd.prog 94 #[.int .u64 (x : Int), .int .u64 (y : Int), .pointer (some ⟨q, 0, none⟩)] W fun e W'' => e = .returned (.tuple #[.int .u64 (n : Int), .int .i64 E]) ∧ Below W.heap.size W W'' := by
  have CF := hide hF
  unfold Enters at eg
  clear hF
  go_enter Tryd.func94, Tryd.ntmps94
  go_wp2_with (go_at_fn g; refine CF.out.mono ?_; rintro e w2 ⟨rfl, hb⟩)
  refine bodyPost_ret (v := .tuple #[.int .u64 (n : Int), .int .i64 E]) (by simp [results, Tryd.results94, go_sem]) rfl ?_
  exact ⟨rfl, by assumption⟩
end Go.Proofs.YtoihfmammmkloaaDoor
/-
  vints.each, one, two: what they answer of a function value.
-/
set_option linter.unusedVariables false
set_option linter.unusedSimpArgs false
namespace Go.Proofs.YtoihfmammmkloaaDoor
open Go.RowKit Lan

theorem each1_enters : Enters 94 := enters_of Tryd.func94 (by kernel_rfl) rfl

set_option maxHeartbeats 1000000 in
theorem each_r (w : Int) (lv : Value) (g : Nat) (lb : Array Value) (r : (Nat × Nat) × Int) (W : World)
    (hB : ∀ (W' : World) (q : Nat), Below W.heap.size W W' → W'.cell? ⟨q, 0, none⟩ = some (.func (.func g) #[] lb) →
      Calls Tryd.prog 77 #[.int .i64 w, lv, lv, .func (.func 94) #[] #[.pointer (some ⟨q, 0, none⟩)]] W' fun e W'' => e = .returned (vecE r) ∧ Below W'.heap.size W' W'') :
    Calls Tryd.prog 54 #[.int .i64 w, lv, .func (.func g) #[] lb] W fun e W' => e = .returned (vecE r) ∧ Below W.heap.size W W' := by
  obtain ⟨wa, hwa⟩ : ∃ wa, (W.alloc (.cells #[.func (.func g) #[] lb] 57)).alloc (.cells #[.int .u64 0, .int .u64 0] 25) = wa := ⟨_, rfl⟩
  have B1 : Below W.heap.size W (W.alloc (.cells #[.func (.func g) #[] lb] 57)) := below_two _ _
  have BA : Hide (Below W.heap.size W wa) := hide (by rw [← hwa]; exact B1.alloc B1.size _)
  have VA : Hide (VBlk wa (W.heap.size + 1) (0, 0)) := hide (by rw [← hwa]; exact alloc_at (by simp))
  have CA : wa.cell? ⟨W.heap.size, 0, none⟩ = some (.func (.func g) #[] lb) := by rw [← hwa]; simp [go_sem]
  have CB := hide (hB wa W.heap.size BA.out CA)
  have HWA := hide hwa
  clear B1 CA hB hwa
  obtain ⟨⟨rp, rq⟩, re⟩ := r
  unfold vecE vecV at CB ⊢
  simp only at CB ⊢
  have M := @Instr.makeFunc
  go_enter Tryd.func54, Tryd.ntmps54
  go_wp2_with fail
  rw [HWA.out]
  refine CB.out.mono ?_
  rintro e w2 ⟨rfl, hb⟩
  have K1 : Hide (VBlk w2 (W.heap.size + 1) (0, 0)) := hide (VA.out.later hb VA.out.lt)
  have K2 : Hide (Below W.heap.size W w2) := hide (BA.out.trans (hb.mono BA.out.size))
  have g0 := K1.out.c0
  have g1 := K1.out.c1
  have z0 := K1.out.frozen 0
  have z1 := K1.out.frozen 1
  clear hb
  go_wp2
  refine bodyPost_ret (v := .tuple #[.agg #[.int .u64 (rp : Int), .int .u64 (rq : Int)], .int .i64 re]) ((K1.out.set2 rp rq).result2 (by rfl) _ rfl rfl) rfl ?_
  exact ⟨rfl, (K2.out.setCell (by simp) _).setCell (by simp) _⟩

theorem each_ok {w c : Nat} (hw : IsW w) (hc : 128 / w = c) (g : Nat) (lb : Array Value) (eg : Enters g) (bl ol cl : Nat) (L : List Nat) (R : Nat → Nat) (hR : ∀ i, i < c → R i < 2 ^ w)
    (W : World) (hT : WTabs W) (hL : Words W bl ol c L) (hF : Fun1 g lb c L R 0 W) :
    Calls Tryd.prog 54 #[.int .i64 (w : Int), .slice (some ⟨bl, ol, none⟩) c cl, .func (.func g) #[] lb] W fun e W' => e = .returned (vecE (vecN w ((List.range c).map R), 0)) ∧ Below W.heap.size W W' :=
  each_r _ _ g lb _ W fun W' q hb hq => both_ok hw hc 94 _ each1_enters bl ol cl bl ol cl L L R hR W' (hT.later hb) (hL.later hb) (hL.later hb)
    fun V i hi hV => each1_calls g lb eg _ _ _ _ q V (cell_later hV hq (Nat.le_refl _)) (hF V i hi (hb.trans (hV.mono hb.size)))
theorem each_bad {w c : Nat} (h0 : 0 < c) (hc16 : c ≤ 16) (g : Nat) (lb : Array Value) (eg : Enters g) (bl ol cl : Nat) (L : List Nat) (R : Nat → Nat)
    (W : World) (hL : Words W bl ol c L) (hF : Fun1 g lb c L R 2 W) :
    Calls Tryd.prog 54 #[.int .i64 (w : Int), .slice (some ⟨bl, ol, none⟩) c cl, .func (.func g) #[] lb] W fun e W' => e = .returned (vecE ((0, 0), 2)) ∧ Below W.heap.size W W' :=
  each_r _ _ g lb _ W fun W' q hb hq => both_bad h0 hc16 94 _ each1_enters bl ol cl bl ol cl L L R W' (hL.later hb) (hL.later hb)
    fun V i hi hV => each1_calls g lb eg _ _ _ _ q V (cell_later hV hq (Nat.le_refl _)) (hF V i hi (hb.trans (hV.mono hb.size)))
end Go.Proofs.YtoihfmammmkloaaDoor
/-
  vints.one, two: what they answer of a function value.
-/
set_option linter.unusedVariables false
set_option linter.unusedSimpArgs false
namespace Go.Proofs.YtoihfmammmkloaaDoor
open Go.RowKit Lan

set_option maxHeartbeats 1000000 in
theorem two_width (w : Int) (a b : Nat × Nat) (fv : Value) (h : isW w = false) (W : World) (hT : WTabs W) :
    Calls Tryd.prog 35 #[.int .i64 w, vecV a, vecV b, fv] W fun e W' => e = .returned (vecE ((0, 0), 2)) ∧ Below W.heap.size W W' := by
  obtain ⟨wa, hwa⟩ : ∃ wa, ((W.alloc (.cells #[.int .u64 (a.1 : Int), .int .u64 (a.2 : Int)] 25)).alloc (.cells #[.int .u64 (b.1 : Int), .int .u64 (b.2 : Int)] 25)).alloc (.cells #[.int .u64 0, .int .u64 0] 25) = wa := ⟨_, rfl⟩
  have B1 : Below W.heap.size W (W.alloc (.cells #[.int .u64 (a.1 : Int), .int .u64 (a.2 : Int)] 25)) := below_two _ _
  have B2 := B1.alloc B1.size (.cells #[.int .u64 (b.1 : Int), .int .u64 (b.2 : Int)] 25)
  have BA : Hide (Below W.heap.size W wa) := hide (by rw [← hwa]; exact B2.alloc B2.size _)
  have VA : VBlk wa W.heap.size a := by rw [← hwa]; exact alloc_past (alloc_past (alloc_at rfl))
  have VZ : Hide (VBlk wa (W.heap.size + 2) (0, 0)) := hide (by rw [← hwa]; exact alloc_at (by simp))
  have CA := hide (lall_bad a w h wa (hT.later BA.out))
  have HWA := hide hwa
  clear B1 B2 hwa h hT
  obtain ⟨p, q⟩ := a
  have v0 := VA.c0
  have v1 := VA.c1
  clear VA
  unfold vecV at *
  unfold vecE
  unfold vecV
  simp only at CA v0 v1 ⊢
  go_enter Tryd.func35, Tryd.ntmps35
  go_wp2_with fail
  rw [HWA.out]
  go_wp2_with fail
  refine CA.out.mono ?_
  rintro e w2 ⟨rfl, hb⟩
  have K1 : Hide (VBlk w2 (W.heap.size + 2) (0, 0)) := hide (VZ.out.later hb VZ.out.lt)
  have K2 : Hide (Below W.heap.size W w2) := hide (BA.out.trans (hb.mono BA.out.size))
  have g0 := K1.out.c0
  have g1 := K1.out.c1
  have z0 := K1.out.frozen 0
  have z1 := K1.out.frozen 1
  clear hb
  go_wp2
  refine bodyPost_ret (v := .tuple #[.agg #[.int .u64 0, .int .u64 0], .int .i64 2]) ((K1.out.set2 0 0).result2 (by rfl) _ rfl rfl) rfl ?_
  exact ⟨rfl, (K2.out.setCell (by simp; omega) _).setCell (by simp; omega) _⟩

set_option maxHeartbeats 1000000 in
theorem one_width (w : Int) (a : Nat × Nat) (fv : Value) (h : isW w = false) (W : World) (hT : WTabs W) :
    Calls Tryd.prog 42 #[.int .i64 w, vecV a, fv] W fun e W' => e = .returned (vecE ((0, 0), 2)) ∧ Below W.heap.size W W' := by
  obtain ⟨wa, hwa⟩ : ∃ wa, (W.alloc (.cells #[.int .u64 (a.1 : Int), .int .u64 (a.2 : Int)] 25)).alloc (.cells #[.int .u64 0, .int .u64 0] 25) = wa := ⟨_, rfl⟩
  have B1 : Below W.heap.size W (W.alloc (.cells #[.int .u64 (a.1 : Int), .int .u64 (a.2 : Int)] 25)) := below_two _ _
  have BA : Hide (Below W.heap.size W wa) := hide (by rw [← hwa]; exact B1.alloc B1.size _)
  have VA : VBlk wa W.heap.size a := by rw [← hwa]; exact alloc_past (alloc_at rfl)
  have VZ : Hide (VBlk wa (W.heap.size + 1) (0, 0)) := hide (by rw [← hwa]; exact alloc_at (by simp))
  have CA := hide (lall_bad a w h wa (hT.later BA.out))
  have HWA := hide hwa
  clear B1 hwa h hT
  obtain ⟨p, q⟩ := a
  have v0 := VA.c0
  have v1 := VA.c1
  clear VA
  unfold vecV at *
  unfold vecE
  unfold vecV
  simp only at CA v0 v1 ⊢
  go_enter Tryd.func42, Tryd.ntmps42
  go_wp2_with fail
  rw [HWA.out]
  go_wp2_with fail
  refine CA.out.mono ?_
  rintro e w2 ⟨rfl, hb⟩
  have K1 : Hide (VBlk w2 (W.heap.size + 1) (0, 0)) := hide (VZ.out.later hb VZ.out.lt)
  have K2 : Hide (Below W.heap.size W w2) := hide (BA.out.trans (hb.mono BA.out.size))
  have g0 := K1.out.c0
  have g1 := K1.out.c1
  have z0 := K1.out.frozen 0
  have z1 := K1.out.frozen 1
  clear hb
  go_wp2
  refine bodyPost_ret (v := .tuple #[.agg #[.int .u64 0, .int .u64 0], .int .i64 2]) ((K1.out.set2 0 0).result2 (by rfl) _ rfl rfl) rfl ?_
  exact ⟨rfl, (K2.out.setCell (by simp) _).setCell (by simp) _⟩

set_option maxHeartbeats 1000000 in
theorem two_r {w c : Nat} (hw : IsW w) (hc : 128 / w = c) (a b : Nat × Nat) (ha : Vok a) (hb : Vok b) (fv : Value) (r : (Nat × Nat) × Int) (W : World) (hT : WTabs W)
    (hB : ∀ (W' : World) (bl bm : Nat), Below W.heap.size W W' → Words W' bl 0 c (listN a w) → Words W' bm 0 c (listN b w) →
      Calls Tryd.prog 77 #[.int .i64 (w : Int), .slice (some ⟨bl, 0, none⟩) c c, .slice (some ⟨bm, 0, none⟩) c c, fv] W' fun e W'' => e = .returned (vecE r) ∧ Below W'.heap.size W' W'') :
    Calls Tryd.prog 35 #[.int .i64 (w : Int), vecV a, vecV b, fv] W fun e W' => e = .returned (vecE r) ∧ Below W.heap.size W W' := by
  obtain ⟨wa, hwa⟩ : ∃ wa, ((W.alloc (.cells #[.int .u64 (a.1 : Int), .int .u64 (a.2 : Int)] 25)).alloc (.cells #[.int .u64 (b.1 : Int), .int .u64 (b.2 : Int)] 25)).alloc (.cells #[.int .u64 0, .int .u64 0] 25) = wa := ⟨_, rfl⟩
  have B1 : Below W.heap.size W (W.alloc (.cells #[.int .u64 (a.1 : Int), .int .u64 (a.2 : Int)] 25)) := below_two _ _
  have B2 := B1.alloc B1.size (.cells #[.int .u64 (b.1 : Int), .int .u64 (b.2 : Int)] 25)
  have BA : Hide (Below W.heap.size W wa) := hide (by rw [← hwa]; exact B2.alloc B2.size _)
  have VA : VBlk wa W.heap.size a := by rw [← hwa]; exact alloc_past (alloc_past (alloc_at rfl))
  have VB : Hide (VBlk wa (W.heap.size + 1) b) := hide (by rw [← hwa]; exact alloc_past (alloc_at (by simp)))
  have VZ : Hide (VBlk wa (W.heap.size + 2) (0, 0)) := hide (by rw [← hwa]; exact alloc_at (by simp))
  have CA := hide (lall_ok hw hc a ha wa (hT.later BA.out))
  have CB := hide (fun W' (h : Below W.heap.size W W') => lall_ok hw hc b hb W' (hT.later h))
  have CC := hide hB
  have HLA : Hide ((listN a w).length = c) := hide (by rw [listN_length, hc])
  have HLB : Hide ((listN b w).length = c) := hide (by rw [listN_length, hc])
  have HWA := hide hwa
  clear B1 B2 hwa hT hB hw hc ha hb
  generalize listN a w = LA at *
  generalize listN b w = LB at *
  obtain ⟨p, q⟩ := a
  obtain ⟨p', q'⟩ := b
  obtain ⟨⟨rp, rq⟩, re⟩ := r
  have v0 := VA.c0
  have v1 := VA.c1
  clear VA
  unfold vecE at CC ⊢
  unfold vecV at *
  simp only at CA CB CC v0 v1 ⊢
  go_enter Tryd.func35, Tryd.ntmps35
  go_wp2_with fail
  rw [HWA.out]
  go_wp2_with fail
  refine CA.out.mono ?_
  rintro e w2 ⟨ga, hga, rfl, hWa, hb⟩
  have K1 : Hide (VBlk w2 (W.heap.size + 2) (0, 0)) := hide (VZ.out.later hb VZ.out.lt)
  have KB := VB.out.later hb VB.out.lt
  have K2 : Hide (Below W.heap.size W w2) := hide (BA.out.trans (hb.mono BA.out.size))
  have KA := hide hWa
  have C2 := hide (CB.out w2 K2.out)
  have u0 := KB.c0
  have u1 := KB.c1
  simp only at u0 u1
  clear hb hWa hga CA CB VZ VB v0 v1 KB
  go_wp2_with fail
  refine C2.out.mono ?_
  rintro e w3 ⟨gb, hgb, rfl, hWb, hb⟩
  have J1 : Hide (VBlk w3 (W.heap.size + 2) (0, 0)) := hide (K1.out.later hb K1.out.lt)
  have J2 : Hide (Below W.heap.size W w3) := hide (K2.out.trans (hb.mono K2.out.size))
  have C3 := hide (CC.out w3 ga gb J2.out ((KA.out.later hb KA.out.lt).words HLA.out) (hWb.words HLB.out))
  clear hb hWb hgb CC C2 K1 K2 KA u0 u1
  go_wp2_with fail
  refine C3.out.mono ?_
  rintro e w4 ⟨rfl, hb⟩
  have I1 : Hide (VBlk w4 (W.heap.size + 2) (0, 0)) := hide (J1.out.later hb J1.out.lt)
  have I2 : Hide (Below W.heap.size W w4) := hide (J2.out.trans (hb.mono J2.out.size))
  have g0 := I1.out.c0
  have g1 := I1.out.c1
  have z0 := I1.out.frozen 0
  have z1 := I1.out.frozen 1
  clear hb C3
  go_wp2
  refine bodyPost_ret (v := .tuple #[.agg #[.int .u64 (rp : Int), .int .u64 (rq : Int)], .int .i64 re]) ((I1.out.set2 rp rq).result2 (by rfl) _ rfl rfl) rfl ?_
  exact ⟨rfl, (I2.out.setCell (by simp; omega) _).setCell (by simp; omega) _⟩

set_option maxHeartbeats 1000000 in
theorem one_r {w c : Nat} (hw : IsW w) (hc : 128 / w = c) (a : Nat × Nat) (ha : Vok a) (fv : Value) (r : (Nat × Nat) × Int) (W : World) (hT : WTabs W)
    (hB : ∀ (W' : World) (bl : Nat), Below W.heap.size W W' → Words W' bl 0 c (listN a w) →
      Calls Tryd.prog 54 #[.int .i64 (w : Int), .slice (some ⟨bl, 0, none⟩) c c, fv] W' fun e W'' => e = .returned (vecE r) ∧ Below W'.heap.size W' W'') :
    Calls Tryd.prog 42 #[.int .i64 (w : Int), vecV a, fv] W fun e W' => e = .returned (vecE r) ∧ Below W.heap.size W W' := by
  obtain ⟨wa, hwa⟩ : ∃ wa, (W.alloc (.cells #[.int .u64 (a.1 : Int), .int .u64 (a.2 : Int)] 25)).alloc (.cells #[.int .u64 0, .int .u64 0] 25) = wa := ⟨_, rfl⟩
  have B1 : Below W.heap.size W (W.alloc (.cells #[.int .u64 (a.1 : Int), .int .u64 (a.2 : Int)] 25)) := below_two _ _
  have BA : Hide (Below W.heap.size W wa) := hide (by rw [← hwa]; exact B1.alloc B1.size _)
  have VA : VBlk wa W.heap.size a := by rw [← hwa]; exact alloc_past (alloc_at rfl)
  have VZ : Hide (VBlk wa (W.heap.size + 1) (0, 0)) := hide (by rw [← hwa]; exact alloc_at (by simp))
  have CA := hide (lall_ok hw hc a ha wa (hT.later BA.out))
  have CC := hide hB
  have HLA : Hide ((listN a w).length = c) := hide (by rw [listN_length, hc])
  have HWA := hide hwa
  clear B1 hwa hT hB hw hc ha
  generalize listN a w = LA at *
  obtain ⟨p, q⟩ := a
  obtain ⟨⟨rp, rq⟩, re⟩ := r
  have v0 := VA.c0
  have v1 := VA.c1
  clear VA
  unfold vecE at CC ⊢
  unfold vecV at *
  simp only at CA CC v0 v1 ⊢
  go_enter Tryd.func42, Tryd.ntmps42
  go_wp2_with fail
  rw [HWA.out]
  go_wp2_with fail
  refine CA.out.mono ?_
  rintro e w2 ⟨ga, hga, rfl, hWa, hb⟩
  have K1 : Hide (VBlk w2 (W.heap.size + 1) (0, 0)) := hide (VZ.out.later hb VZ.out.lt)
  have K2 : Hide (Below W.heap.size W w2) := hide (BA.out.trans (hb.mono BA.out.size))
  have C3 := hide (CC.out w2 ga K2.out (hWa.words HLA.out))
  clear hb hWa hga CA CC VZ v0 v1
  go_wp2_with fail
  refine C3.out.mono ?_
  rintro e w4 ⟨rfl, hb⟩
  have I1 : Hide (VBlk w4 (W.heap.size + 1) (0, 0)) := hide (K1.out.later hb K1.out.lt)
  have I2 : Hide (Below W.heap.size W w4) := hide (K2.out.trans (hb.mono K2.out.size))
  have g0 := I1.out.c0
  have g1 := I1.out.c1
  have z0 := I1.out.frozen 0
  have z1 := I1.out.frozen 1
  clear hb C3
  go_wp2
  refine bodyPost_ret (v := .tuple #[.agg #[.int .u64 (rp : Int), .int .u64 (rq : Int)], .int .i64 re]) ((I1.out.set2 rp rq).result2 (by rfl) _ rfl rfl) rfl ?_
  exact ⟨rfl, (I2.out.setCell (by simp) _).setCell (by simp) _⟩
end Go.Proofs.YtoihfmammmkloaaDoor
/-
  vints.Two, One, Shift, Than: over what two and one answer of their function values (gencode7.py wrote it).
-/
set_option linter.unusedVariables false
set_option linter.unusedSimpArgs false
namespace Go.Proofs.YtoihfmammmkloaaDoor
open Go.RowKit Lan

theorem cell_of {w : World} {g : Nat} {v : Value} {t : TypeId} {fr : Nat × Nat} (h : w.heap[g]? = some (.cells #[v] t fr)) : w.cell? ⟨g, 0, none⟩ = some v := by simp [World.cell?, h]

set_option maxHeartbeats 1000000 in
theorem vtwo_r (op : Int) (w : Int) (a : Nat × Nat) (b : Nat × Nat) (r : (Nat × Nat) × Int) (h4 : (op == 4) = false) (h5 : (op == 5) = false) (h6 : (op == 6) = false) (h7 : (op == 7) = false) (h11 : (op == 11) = false) (h12 : (op == 12) = false) (h13 : (op == 13) = false) (h14 : (op == 14) = false) (h15 : (op == 15) = false) (W : World)
    (hB : ∀ (W' : World) (q0 q1 : Nat), Below W.heap.size W W' → W'.cell? ⟨q0, 0, none⟩ = some (.int .u8 op) → W'.cell? ⟨q1, 0, none⟩ = some (.int .i64 w) →
      Calls Tryd.prog 35 #[.int .i64 w, vecV a, vecV b, .func (.func 36) #[] #[.pointer (some ⟨q0, 0, none⟩), .pointer (some ⟨q1, 0, none⟩)]] W' fun e W'' => e = .returned (vecE r) ∧ Below W'.heap.size W' W'') :
    Calls Tryd.prog 9 #[.int .u8 op, .int .i64 w, vecV a, vecV b] W fun e W' => e = .returned (vecE r) ∧ Below W.heap.size W W' := by
  obtain ⟨wa, hwa⟩ : ∃ wa, (((((W.alloc (.cells #[.int .u8 op] 22)).alloc (.cells #[.int .i64 w] 3)).alloc (.cells #[.int .u64 (a.1 : Int), .int .u64 (a.2 : Int)] 25)).alloc (.cells #[.int .u64 (b.1 : Int), .int .u64 (b.2 : Int)] 25)).alloc (.cells #[.int .u64 0, .int .u64 0] 25)) = wa := ⟨_, rfl⟩
  have B0 : Below W.heap.size W W := Below.refl _ _
  have B1 := B0.alloc B0.size (.cells #[.int .u8 op] 22)
  have B2 := B1.alloc B1.size (.cells #[.int .i64 w] 3)
  have B3 := B2.alloc B2.size (.cells #[.int .u64 (a.1 : Int), .int .u64 (a.2 : Int)] 25)
  have B4 := B3.alloc B3.size (.cells #[.int .u64 (b.1 : Int), .int .u64 (b.2 : Int)] 25)
  have B5 := B4.alloc B4.size (.cells #[.int .u64 0, .int .u64 0] 25)
  have BA : Hide (Below W.heap.size W wa) := hide (by rw [← hwa]; exact B5)
  have Cop : wa.cell? ⟨W.heap.size, 0, none⟩ = some (.int .u8 op) := by rw [← hwa]; exact cell_of (alloc_past (alloc_past (alloc_past (alloc_past (alloc_at (by simp))))))
  have Cw : wa.cell? ⟨W.heap.size + 1, 0, none⟩ = some (.int .i64 w) := by rw [← hwa]; exact cell_of (alloc_past (alloc_past (alloc_past (alloc_at (by simp)))))
  have Va : VBlk wa (W.heap.size + 2) a := by rw [← hwa]; exact alloc_past (alloc_past (alloc_at (by simp)))
  have Vb : VBlk wa (W.heap.size + 3) b := by rw [← hwa]; exact alloc_past (alloc_at (by simp))
  have VZ : Hide (VBlk wa (W.heap.size + 4) (0, 0)) := hide (by rw [← hwa]; exact alloc_at (by simp))
  have HWA := hide hwa
  clear hwa B0 B1 B2 B3 B4 B5
  have CB := hide (hB wa W.heap.size (W.heap.size + 1) BA.out Cop Cw)
  clear hB
  obtain ⟨a0, a1⟩ := a
  have ac0 := Va.c0
  have ac1 := Va.c1
  clear Va
  obtain ⟨b0, b1⟩ := b
  have bc0 := Vb.c0
  have bc1 := Vb.c1
  clear Vb
  obtain ⟨⟨rp, rq⟩, re⟩ := r
  unfold vecE at CB ⊢
  unfold vecV at *
  simp only at *
  go_enter Tryd.func9, Tryd.ntmps9
  go_wp2_with fail
  rw [HWA.out]
  go_wp2_with fail
  refine CB.out.mono ?_
  rintro e w2 ⟨rfl, hb⟩
  have K1 : Hide (VBlk w2 (W.heap.size + 4) (0, 0)) := hide (VZ.out.later hb VZ.out.lt)
  have K2 : Hide (Below W.heap.size W w2) := hide (BA.out.trans (hb.mono BA.out.size))
  have g0 := K1.out.c0
  have g1 := K1.out.c1
  have z0 := K1.out.frozen 0
  have z1 := K1.out.frozen 1
  clear hb
  go_wp2
  refine bodyPost_ret (v := .tuple #[.agg #[.int .u64 (rp : Int), .int .u64 (rq : Int)], .int .i64 re]) ((K1.out.set2 rp rq).result2 (by rfl) _ rfl rfl) rfl ?_
  exact ⟨rfl, (K2.out.setCell (by simp; try omega) _).setCell (by simp; try omega) _⟩

set_option maxHeartbeats 1000000 in
theorem vthan_r (op : Int) (w : Int) (a : Nat × Nat) (b : Nat × Nat) (r : (Nat × Nat) × Int)  (W : World)
    (hB : ∀ (W' : World) (q0 q1 : Nat), Below W.heap.size W W' → W'.cell? ⟨q0, 0, none⟩ = some (.int .u8 op) → W'.cell? ⟨q1, 0, none⟩ = some (.int .i64 w) →
      Calls Tryd.prog 35 #[.int .i64 w, vecV a, vecV b, .func (.func 47) #[] #[.pointer (some ⟨q0, 0, none⟩), .pointer (some ⟨q1, 0, none⟩)]] W' fun e W'' => e = .returned (vecE r) ∧ Below W'.heap.size W' W'') :
    Calls Tryd.prog 16 #[.int .u8 op, .int .i64 w, vecV a, vecV b] W fun e W' => e = .returned (vecE r) ∧ Below W.heap.size W W' := by
  obtain ⟨wa, hwa⟩ : ∃ wa, (((((W.alloc (.cells #[.int .u8 op] 22)).alloc (.cells #[.int .i64 w] 3)).alloc (.cells #[.int .u64 (a.1 : Int), .int .u64 (a.2 : Int)] 25)).alloc (.cells #[.int .u64 (b.1 : Int), .int .u64 (b.2 : Int)] 25)).alloc (.cells #[.int .u64 0, .int .u64 0] 25)) = wa := ⟨_, rfl⟩
  have B0 : Below W.heap.size W W := Below.refl _ _
  have B1 := B0.alloc B0.size (.cells #[.int .u8 op] 22)
  have B2 := B1.alloc B1.size (.cells #[.int .i64 w] 3)
  have B3 := B2.alloc B2.size (.cells #[.int .u64 (a.1 : Int), .int .u64 (a.2 : Int)] 25)
  have B4 := B3.alloc B3.size (.cells #[.int .u64 (b.1 : Int), .int .u64 (b.2 : Int)] 25)
  have B5 := B4.alloc B4.size (.cells #[.int .u64 0, .int .u64 0] 25)
  have BA : Hide (Below W.heap.size W wa) := hide (by rw [← hwa]; exact B5)
  have Cop : wa.cell? ⟨W.heap.size, 0, none⟩ = some (.int .u8 op) := by rw [← hwa]; exact cell_of (alloc_past (alloc_past (alloc_past (alloc_past (alloc_at (by simp))))))
  have Cw : wa.cell? ⟨W.heap.size + 1, 0, none⟩ = some (.int .i64 w) := by rw [← hwa]; exact cell_of (alloc_past (alloc_past (alloc_past (alloc_at (by simp)))))
  have Va : VBlk wa (W.heap.size + 2) a := by rw [← hwa]; exact alloc_past (alloc_past (alloc_at (by simp)))
  have Vb : VBlk wa (W.heap.size + 3) b := by rw [← hwa]; exact alloc_past (alloc_at (by simp))
  have VZ : Hide (VBlk wa (W.heap.size + 4) (0, 0)) := hide (by rw [← hwa]; exact alloc_at (by simp))
  have HWA := hide hwa
  clear hwa B0 B1 B2 B3 B4 B5
  have CB := hide (hB wa W.heap.size (W.heap.size + 1) BA.out Cop Cw)
  clear hB
  obtain ⟨a0, a1⟩ := a
  have ac0 := Va.c0
  have ac1 := Va.c1
  clear Va
  obtain ⟨b0, b1⟩ := b
  have bc0 := Vb.c0
  have bc1 := Vb.c1
  clear Vb
  obtain ⟨⟨rp, rq⟩, re⟩ := r
  unfold vecE at CB ⊢
  unfold vecV at *
  simp only at *
  go_enter Tryd.func16, Tryd.ntmps16
  go_wp2_with fail
  rw [HWA.out]
  go_wp2_with fail
  refine CB.out.mono ?_
  rintro e w2 ⟨rfl, hb⟩
  have K1 : Hide (VBlk w2 (W.heap.size + 4) (0, 0)) := hide (VZ.out.later hb VZ.out.lt)
  have K2 : Hide (Below W.heap.size W w2) := hide (BA.out.trans (hb.mono BA.out.size))
  have g0 := K1.out.c0
  have g1 := K1.out.c1
  have z0 := K1.out.frozen 0
  have z1 := K1.out.frozen 1
  clear hb
  go_wp2
  refine bodyPost_ret (v := .tuple #[.agg #[.int .u64 (rp : Int), .int .u64 (rq : Int)], .int .i64 re]) ((K1.out.set2 rp rq).result2 (by rfl) _ rfl rfl) rfl ?_
  exact ⟨rfl, (K2.out.setCell (by simp; try omega) _).setCell (by simp; try omega) _⟩

set_option maxHeartbeats 1000000 in
theorem vtwo4_refuse (w : Int) (a : Nat × Nat) (b : Nat × Nat)  (W : World) :
    Calls Tryd.prog 9 #[.int .u8 4, .int .i64 w, vecV a, vecV b] W fun e W' => e = .returned (vecE ((0, 0), 2)) ∧ Below W.heap.size W W' := by
  obtain ⟨wa, hwa⟩ : ∃ wa, (((((W.alloc (.cells #[.int .u8 4] 22)).alloc (.cells #[.int .i64 w] 3)).alloc (.cells #[.int .u64 (a.1 : Int), .int .u64 (a.2 : Int)] 25)).alloc (.cells #[.int .u64 (b.1 : Int), .int .u64 (b.2 : Int)] 25)).alloc (.cells #[.int .u64 0, .int .u64 0] 25)) = wa := ⟨_, rfl⟩
  have B0 : Below W.heap.size W W := Below.refl _ _
  have B1 := B0.alloc B0.size (.cells #[.int .u8 4] 22)
  have B2 := B1.alloc B1.size (.cells #[.int .i64 w] 3)
  have B3 := B2.alloc B2.size (.cells #[.int .u64 (a.1 : Int), .int .u64 (a.2 : Int)] 25)
  have B4 := B3.alloc B3.size (.cells #[.int .u64 (b.1 : Int), .int .u64 (b.2 : Int)] 25)
  have B5 := B4.alloc B4.size (.cells #[.int .u64 0, .int .u64 0] 25)
  have BA : Hide (Below W.heap.size W wa) := hide (by rw [← hwa]; exact B5)
  have Cop : wa.cell? ⟨W.heap.size, 0, none⟩ = some (.int .u8 4) := by rw [← hwa]; exact cell_of (alloc_past (alloc_past (alloc_past (alloc_past (alloc_at (by simp))))))
  have Cw : wa.cell? ⟨W.heap.size + 1, 0, none⟩ = some (.int .i64 w) := by rw [← hwa]; exact cell_of (alloc_past (alloc_past (alloc_past (alloc_at (by simp)))))
  have Va : VBlk wa (W.heap.size + 2) a := by rw [← hwa]; exact alloc_past (alloc_past (alloc_at (by simp)))
  have Vb : VBlk wa (W.heap.size + 3) b := by rw [← hwa]; exact alloc_past (alloc_at (by simp))
  have VZ : Hide (VBlk wa (W.heap.size + 4) (0, 0)) := hide (by rw [← hwa]; exact alloc_at (by simp))
  have HWA := hide hwa
  clear hwa B0 B1 B2 B3 B4 B5
  clear Va
  obtain ⟨a0, a1⟩ := a
  clear Vb
  obtain ⟨b0, b1⟩ := b
  unfold vecE
  unfold vecV at *
  simp only at *
  have g0 := VZ.out.c0
  have g1 := VZ.out.c1
  have z0 := VZ.out.frozen 0
  have z1 := VZ.out.frozen 1
  go_enter Tryd.func9, Tryd.ntmps9
  go_wp2_with fail
  rw [HWA.out]
  refine bodyPost_ret (v := .tuple #[.agg #[.int .u64 0, .int .u64 0], .int .i64 2]) (VZ.out.result2 (by rfl) _ rfl rfl) rfl ?_
  exact ⟨rfl, BA.out⟩

set_option maxHeartbeats 1000000 in
theorem vtwo5_refuse (w : Int) (a : Nat × Nat) (b : Nat × Nat)  (W : World) :
    Calls Tryd.prog 9 #[.int .u8 5, .int .i64 w, vecV a, vecV b] W fun e W' => e = .returned (vecE ((0, 0), 2)) ∧ Below W.heap.size W W' := by
  obtain ⟨wa, hwa⟩ : ∃ wa, (((((W.alloc (.cells #[.int .u8 5] 22)).alloc (.cells #[.int .i64 w] 3)).alloc (.cells #[.int .u64 (a.1 : Int), .int .u64 (a.2 : Int)] 25)).alloc (.cells #[.int .u64 (b.1 : Int), .int .u64 (b.2 : Int)] 25)).alloc (.cells #[.int .u64 0, .int .u64 0] 25)) = wa := ⟨_, rfl⟩
  have B0 : Below W.heap.size W W := Below.refl _ _
  have B1 := B0.alloc B0.size (.cells #[.int .u8 5] 22)
  have B2 := B1.alloc B1.size (.cells #[.int .i64 w] 3)
  have B3 := B2.alloc B2.size (.cells #[.int .u64 (a.1 : Int), .int .u64 (a.2 : Int)] 25)
  have B4 := B3.alloc B3.size (.cells #[.int .u64 (b.1 : Int), .int .u64 (b.2 : Int)] 25)
  have B5 := B4.alloc B4.size (.cells #[.int .u64 0, .int .u64 0] 25)
  have BA : Hide (Below W.heap.size W wa) := hide (by rw [← hwa]; exact B5)
  have Cop : wa.cell? ⟨W.heap.size, 0, none⟩ = some (.int .u8 5) := by rw [← hwa]; exact cell_of (alloc_past (alloc_past (alloc_past (alloc_past (alloc_at (by simp))))))
  have Cw : wa.cell? ⟨W.heap.size + 1, 0, none⟩ = some (.int .i64 w) := by rw [← hwa]; exact cell_of (alloc_past (alloc_past (alloc_past (alloc_at (by simp)))))
  have Va : VBlk wa (W.heap.size + 2) a := by rw [← hwa]; exact alloc_past (alloc_past (alloc_at (by simp)))
  have Vb : VBlk wa (W.heap.size + 3) b := by rw [← hwa]; exact alloc_past (alloc_at (by simp))
  have VZ : Hide (VBlk wa (W.heap.size + 4) (0, 0)) := hide (by rw [← hwa]; exact alloc_at (by simp))
  have HWA := hide hwa
  clear hwa B0 B1 B2 B3 B4 B5
  clear Va
  obtain ⟨a0, a1⟩ := a
  clear Vb
  obtain ⟨b0, b1⟩ := b
  unfold vecE
  unfold vecV at *
  simp only at *
  have g0 := VZ.out.c0
  have g1 := VZ.out.c1
  have z0 := VZ.out.frozen 0
  have z1 := VZ.out.frozen 1
  go_enter Tryd.func9, Tryd.ntmps9
  go_wp2_with fail
  rw [HWA.out]
  refine bodyPost_ret (v := .tuple #[.agg #[.int .u64 0, .int .u64 0], .int .i64 2]) (VZ.out.result2 (by rfl) _ rfl rfl) rfl ?_
  exact ⟨rfl, BA.out⟩

set_option maxHeartbeats 1000000 in
theorem vtwo6_refuse (w : Int) (a : Nat × Nat) (b : Nat × Nat)  (W : World) :
    Calls Tryd.prog 9 #[.int .u8 6, .int .i64 w, vecV a, vecV b] W fun e W' => e = .returned (vecE ((0, 0), 2)) ∧ Below W.heap.size W W' := by
  obtain ⟨wa, hwa⟩ : ∃ wa, (((((W.alloc (.cells #[.int .u8 6] 22)).alloc (.cells #[.int .i64 w] 3)).alloc (.cells #[.int .u64 (a.1 : Int), .int .u64 (a.2 : Int)] 25)).alloc (.cells #[.int .u64 (b.1 : Int), .int .u64 (b.2 : Int)] 25)).alloc (.cells #[.int .u64 0, .int .u64 0] 25)) = wa := ⟨_, rfl⟩
  have B0 : Below W.heap.size W W := Below.refl _ _
  have B1 := B0.alloc B0.size (.cells #[.int .u8 6] 22)
  have B2 := B1.alloc B1.size (.cells #[.int .i64 w] 3)
  have B3 := B2.alloc B2.size (.cells #[.int .u64 (a.1 : Int), .int .u64 (a.2 : Int)] 25)
  have B4 := B3.alloc B3.size (.cells #[.int .u64 (b.1 : Int), .int .u64 (b.2 : Int)] 25)
  have B5 := B4.alloc B4.size (.cells #[.int .u64 0, .int .u64 0] 25)
  have BA : Hide (Below W.heap.size W wa) := hide (by rw [← hwa]; exact B5)
  have Cop : wa.cell? ⟨W.heap.size, 0, none⟩ = some (.int .u8 6) := by rw [← hwa]; exact cell_of (alloc_past (alloc_past (alloc_past (alloc_past (alloc_at (by simp))))))
  have Cw : wa.cell? ⟨W.heap.size + 1, 0, none⟩ = some (.int .i64 w) := by rw [← hwa]; exact cell_of (alloc_past (alloc_past (alloc_past (alloc_at (by simp)))))
  have Va : VBlk wa (W.heap.size + 2) a := by rw [← hwa]; exact alloc_past (alloc_past (alloc_at (by simp)))
  have Vb : VBlk wa (W.heap.size + 3) b := by rw [← hwa]; exact alloc_past (alloc_at (by simp))
  have VZ : Hide (VBlk wa (W.heap.size + 4) (0, 0)) := hide (by rw [← hwa]; exact alloc_at (by simp))
  have HWA := hide hwa
  clear hwa B0 B1 B2 B3 B4 B5
  clear Va
  obtain ⟨a0, a1⟩ := a
  clear Vb
  obtain ⟨b0, b1⟩ := b
  unfold vecE
  unfold vecV at *
  simp only at *
  have g0 := VZ.out.c0
  have g1 := VZ.out.c1
  have z0 := VZ.out.frozen 0
  have z1 := VZ.out.frozen 1
  go_enter Tryd.func9, Tryd.ntmps9
  go_wp2_with fail
  rw [HWA.out]
  refine bodyPost_ret (v := .tuple #[.agg #[.int .u64 0, .int .u64 0], .int .i64 2]) (VZ.out.result2 (by rfl) _ rfl rfl) rfl ?_
  exact ⟨rfl, BA.out⟩

set_option maxHeartbeats 1000000 in
theorem vtwo7_refuse (w : Int) (a : Nat × Nat) (b : Nat × Nat)  (W : World) :
    Calls Tryd.prog 9 #[.int .u8 7, .int .i64 w, vecV a, vecV b] W fun e W' => e = .returned (vecE ((0, 0), 2)) ∧ Below W.heap.size W W' := by
  obtain ⟨wa, hwa⟩ : ∃ wa, (((((W.alloc (.cells #[.int .u8 7] 22)).alloc (.cells #[.int .i64 w] 3)).alloc (.cells #[.int .u64 (a.1 : Int), .int .u64 (a.2 : Int)] 25)).alloc (.cells #[.int .u64 (b.1 : Int), .int .u64 (b.2 : Int)] 25)).alloc (.cells #[.int .u64 0, .int .u64 0] 25)) = wa := ⟨_, rfl⟩
  have B0 : Below W.heap.size W W := Below.refl _ _
  have B1 := B0.alloc B0.size (.cells #[.int .u8 7] 22)
  have B2 := B1.alloc B1.size (.cells #[.int .i64 w] 3)
  have B3 := B2.alloc B2.size (.cells #[.int .u64 (a.1 : Int), .int .u64 (a.2 : Int)] 25)
  have B4 := B3.alloc B3.size (.cells #[.int .u64 (b.1 : Int), .int .u64 (b.2 : Int)] 25)
  have B5 := B4.alloc B4.size (.cells #[.int .u64 0, .int .u64 0] 25)
  have BA : Hide (Below W.heap.size W wa) := hide (by rw [← hwa]; exact B5)
  have Cop : wa.cell? ⟨W.heap.size, 0, none⟩ = some (.int .u8 7) := by rw [← hwa]; exact cell_of (alloc_past (alloc_past (alloc_past (alloc_past (alloc_at (by simp))))))
  have Cw : wa.cell? ⟨W.heap.size + 1, 0, none⟩ = some (.int .i64 w) := by rw [← hwa]; exact cell_of (alloc_past (alloc_past (alloc_past (alloc_at (by simp)))))
  have Va : VBlk wa (W.heap.size + 2) a := by rw [← hwa]; exact alloc_past (alloc_past (alloc_at (by simp)))
  have Vb : VBlk wa (W.heap.size + 3) b := by rw [← hwa]; exact alloc_past (alloc_at (by simp))
  have VZ : Hide (VBlk wa (W.heap.size + 4) (0, 0)) := hide (by rw [← hwa]; exact alloc_at (by simp))
  have HWA := hide hwa
  clear hwa B0 B1 B2 B3 B4 B5
  clear Va
  obtain ⟨a0, a1⟩ := a
  clear Vb
  obtain ⟨b0, b1⟩ := b
  unfold vecE
  unfold vecV at *
  simp only at *
  have g0 := VZ.out.c0
  have g1 := VZ.out.c1
  have z0 := VZ.out.frozen 0
  have z1 := VZ.out.frozen 1
  go_enter Tryd.func9, Tryd.ntmps9
  go_wp2_with fail
  rw [HWA.out]
  refine bodyPost_ret (v := .tuple #[.agg #[.int .u64 0, .int .u64 0], .int .i64 2]) (VZ.out.result2 (by rfl) _ rfl rfl) rfl ?_
  exact ⟨rfl, BA.out⟩

set_option maxHeartbeats 1000000 in
theorem vtwo11_refuse (w : Int) (a : Nat × Nat) (b : Nat × Nat)  (W : World) :
    Calls Tryd.prog 9 #[.int .u8 11, .int .i64 w, vecV a, vecV b] W fun e W' => e = .returned (vecE ((0, 0), 2)) ∧ Below W.heap.size W W' := by
  obtain ⟨wa, hwa⟩ : ∃ wa, (((((W.alloc (.cells #[.int .u8 11] 22)).alloc (.cells #[.int .i64 w] 3)).alloc (.cells #[.int .u64 (a.1 : Int), .int .u64 (a.2 : Int)] 25)).alloc (.cells #[.int .u64 (b.1 : Int), .int .u64 (b.2 : Int)] 25)).alloc (.cells #[.int .u64 0, .int .u64 0] 25)) = wa := ⟨_, rfl⟩
  have B0 : Below W.heap.size W W := Below.refl _ _
  have B1 := B0.alloc B0.size (.cells #[.int .u8 11] 22)
  have B2 := B1.alloc B1.size (.cells #[.int .i64 w] 3)
  have B3 := B2.alloc B2.size (.cells #[.int .u64 (a.1 : Int), .int .u64 (a.2 : Int)] 25)
  have B4 := B3.alloc B3.size (.cells #[.int .u64 (b.1 : Int), .int .u64 (b.2 : Int)] 25)
  have B5 := B4.alloc B4.size (.cells #[.int .u64 0, .int .u64 0] 25)
  have BA : Hide (Below W.heap.size W wa) := hide (by rw [← hwa]; exact B5)
  have Cop : wa.cell? ⟨W.heap.size, 0, none⟩ = some (.int .u8 11) := by rw [← hwa]; exact cell_of (alloc_past (alloc_past (alloc_past (alloc_past (alloc_at (by simp))))))
  have Cw : wa.cell? ⟨W.heap.size + 1, 0, none⟩ = some (.int .i64 w) := by rw [← hwa]; exact cell_of (alloc_past (alloc_past (alloc_past (alloc_at (by simp)))))
  have Va : VBlk wa (W.heap.size + 2) a := by rw [← hwa]; exact alloc_past (alloc_past (alloc_at (by simp)))
  have Vb : VBlk wa (W.heap.size + 3) b := by rw [← hwa]; exact alloc_past (alloc_at (by simp))
  have VZ : Hide (VBlk wa (W.heap.size + 4) (0, 0)) := hide (by rw [← hwa]; exact alloc_at (by simp))
  have HWA := hide hwa
  clear hwa B0 B1 B2 B3 B4 B5
  clear Va
  obtain ⟨a0, a1⟩ := a
  clear Vb
  obtain ⟨b0, b1⟩ := b
  unfold vecE
  unfold vecV at *
  simp only at *
  have g0 := VZ.out.c0
  have g1 := VZ.out.c1
  have z0 := VZ.out.frozen 0
  have z1 := VZ.out.frozen 1
  go_enter Tryd.func9, Tryd.ntmps9
  go_wp2_with fail
  rw [HWA.out]
  refine bodyPost_ret (v := .tuple #[.agg #[.int .u64 0, .int .u64 0], .int .i64 2]) (VZ.out.result2 (by rfl) _ rfl rfl) rfl ?_
  exact ⟨rfl, BA.out⟩

set_option maxHeartbeats 1000000 in
theorem vtwo12_refuse (w : Int) (a : Nat × Nat) (b : Nat × Nat)  (W : World) :
    Calls Tryd.prog 9 #[.int .u8 12, .int .i64 w, vecV a, vecV b] W fun e W' => e = .returned (vecE ((0, 0), 2)) ∧ Below W.heap.size W W' := by
  obtain ⟨wa, hwa⟩ : ∃ wa, (((((W.alloc (.cells #[.int .u8 12] 22)).alloc (.cells #[.int .i64 w] 3)).alloc (.cells #[.int .u64 (a.1 : Int), .int .u64 (a.2 : Int)] 25)).alloc (.cells #[.int .u64 (b.1 : Int), .int .u64 (b.2 : Int)] 25)).alloc (.cells #[.int .u64 0, .int .u64 0] 25)) = wa := ⟨_, rfl⟩
  have B0 : Below W.heap.size W W := Below.refl _ _
  have B1 := B0.alloc B0.size (.cells #[.int .u8 12] 22)
  have B2 := B1.alloc B1.size (.cells #[.int .i64 w] 3)
  have B3 := B2.alloc B2.size (.cells #[.int .u64 (a.1 : Int), .int .u64 (a.2 : Int)] 25)
  have B4 := B3.alloc B3.size (.cells #[.int .u64 (b.1 : Int), .int .u64 (b.2 : Int)] 25)
  have B5 := B4.alloc B4.size (.cells #[.int .u64 0, .int .u64 0] 25)
  have BA : Hide (Below W.heap.size W wa) := hide (by rw [← hwa]; exact B5)
  have Cop : wa.cell? ⟨W.heap.size, 0, none⟩ = some (.int .u8 12) := by rw [← hwa]; exact cell_of (alloc_past (alloc_past (alloc_past (alloc_past (alloc_at (by simp))))))
  have Cw : wa.cell? ⟨W.heap.size + 1, 0, none⟩ = some (.int .i64 w) := by rw [← hwa]; exact cell_of (alloc_past (alloc_past (alloc_past (alloc_at (by simp)))))
  have Va : VBlk wa (W.heap.size + 2) a := by rw [← hwa]; exact alloc_past (alloc_past (alloc_at (by simp)))
  have Vb : VBlk wa (W.heap.size + 3) b := by rw [← hwa]; exact alloc_past (alloc_at (by simp))
  have VZ : Hide (VBlk wa (W.heap.size + 4) (0, 0)) := hide (by rw [← hwa]; exact alloc_at (by simp))
  have HWA := hide hwa
  clear hwa B0 B1 B2 B3 B4 B5
  clear Va
  obtain ⟨a0, a1⟩ := a
  clear Vb
  obtain ⟨b0, b1⟩ := b
  unfold vecE
  unfold vecV at *
  simp only at *
  have g0 := VZ.out.c0
  have g1 := VZ.out.c1
  have z0 := VZ.out.frozen 0
  have z1 := VZ.out.frozen 1
  go_enter Tryd.func9, Tryd.ntmps9
  go_wp2_with fail
  rw [HWA.out]
  refine bodyPost_ret (v := .tuple #[.agg #[.int .u64 0, .int .u64 0], .int .i64 2]) (VZ.out.result2 (by rfl) _ rfl rfl) rfl ?_
  exact ⟨rfl, BA.out⟩

set_option maxHeartbeats 1000000 in
theorem vtwo13_refuse (w : Int) (a : Nat × Nat) (b : Nat × Nat)  (W : World) :
    Calls Tryd.prog 9 #[.int .u8 13, .int .i64 w, vecV a, vecV b] W fun e W' => e = .returned (vecE ((0, 0), 2)) ∧ Below W.heap.size W W' := by
  obtain ⟨wa, hwa⟩ : ∃ wa, (((((W.alloc (.cells #[.int .u8 13] 22)).alloc (.cells #[.int .i64 w] 3)).alloc (.cells #[.int .u64 (a.1 : Int), .int .u64 (a.2 : Int)] 25)).alloc (.cells #[.int .u64 (b.1 : Int), .int .u64 (b.2 : Int)] 25)).alloc (.cells #[.int .u64 0, .int .u64 0] 25)) = wa := ⟨_, rfl⟩
  have B0 : Below W.heap.size W W := Below.refl _ _
  have B1 := B0.alloc B0.size (.cells #[.int .u8 13] 22)
  have B2 := B1.alloc B1.size (.cells #[.int .i64 w] 3)
  have B3 := B2.alloc B2.size (.cells #[.int .u64 (a.1 : Int), .int .u64 (a.2 : Int)] 25)
  have B4 := B3.alloc B3.size (.cells #[.int .u64 (b.1 : Int), .int .u64 (b.2 : Int)] 25)
  have B5 := B4.alloc B4.size (.cells #[.int .u64 0, .int .u64 0] 25)
  have BA : Hide (Below W.heap.size W wa) := hide (by rw [← hwa]; exact B5)
  have Cop : wa.cell? ⟨W.heap.size, 0, none⟩ = some (.int .u8 13) := by rw [← hwa]; exact cell_of (alloc_past (alloc_past (alloc_past (alloc_past (alloc_at (by simp))))))
  have Cw : wa.cell? ⟨W.heap.size + 1, 0, none⟩ = some (.int .i64 w) := by rw [← hwa]; exact cell_of (alloc_past (alloc_past (alloc_past (alloc_at (by simp)))))
  have Va : VBlk wa (W.heap.size + 2) a := by rw [← hwa]; exact alloc_past (alloc_past (alloc_at (by simp)))
  have Vb : VBlk wa (W.heap.size + 3) b := by rw [← hwa]; exact alloc_past (alloc_at (by simp))
  have VZ : Hide (VBlk wa (W.heap.size + 4) (0, 0)) := hide (by rw [← hwa]; exact alloc_at (by simp))
  have HWA := hide hwa
  clear hwa B0 B1 B2 B3 B4 B5
  clear Va
  obtain ⟨a0, a1⟩ := a
  clear Vb
  obtain ⟨b0, b1⟩ := b
  unfold vecE
  unfold vecV at *
  simp only at *
  have g0 := VZ.out.c0
  have g1 := VZ.out.c1
  have z0 := VZ.out.frozen 0
  have z1 := VZ.out.frozen 1
  go_enter Tryd.func9, Tryd.ntmps9
  go_wp2_with fail
  rw [HWA.out]
  refine bodyPost_ret (v := .tuple #[.agg #[.int .u64 0, .int .u64 0], .int .i64 2]) (VZ.out.result2 (by rfl) _ rfl rfl) rfl ?_
  exact ⟨rfl, BA.out⟩

set_option maxHeartbeats 1000000 in
theorem vtwo14_refuse (w : Int) (a : Nat × Nat) (b : Nat × Nat)  (W : World) :
    Calls Tryd.prog 9 #[.int .u8 14, .int .i64 w, vecV a, vecV b] W fun e W' => e = .returned (vecE ((0, 0), 2)) ∧ Below W.heap.size W W' := by
  obtain ⟨wa, hwa⟩ : ∃ wa, (((((W.alloc (.cells #[.int .u8 14] 22)).alloc (.cells #[.int .i64 w] 3)).alloc (.cells #[.int .u64 (a.1 : Int), .int .u64 (a.2 : Int)] 25)).alloc (.cells #[.int .u64 (b.1 : Int), .int .u64 (b.2 : Int)] 25)).alloc (.cells #[.int .u64 0, .int .u64 0] 25)) = wa := ⟨_, rfl⟩
  have B0 : Below W.heap.size W W := Below.refl _ _
  have B1 := B0.alloc B0.size (.cells #[.int .u8 14] 22)
  have B2 := B1.alloc B1.size (.cells #[.int .i64 w] 3)
  have B3 := B2.alloc B2.size (.cells #[.int .u64 (a.1 : Int), .int .u64 (a.2 : Int)] 25)
  have B4 := B3.alloc B3.size (.cells #[.int .u64 (b.1 : Int), .int .u64 (b.2 : Int)] 25)
  have B5 := B4.alloc B4.size (.cells #[.int .u64 0, .int .u64 0] 25)
  have BA : Hide (Below W.heap.size W wa) := hide (by rw [← hwa]; exact B5)
  have Cop : wa.cell? ⟨W.heap.size, 0, none⟩ = some (.int .u8 14) := by rw [← hwa]; exact cell_of (alloc_past (alloc_past (alloc_past (alloc_past (alloc_at (by simp))))))
  have Cw : wa.cell? ⟨W.heap.size + 1, 0, none⟩ = some (.int .i64 w) := by rw [← hwa]; exact cell_of (alloc_past (alloc_past (alloc_past (alloc_at (by simp)))))
  have Va : VBlk wa (W.heap.size + 2) a := by rw [← hwa]; exact alloc_past (alloc_past (alloc_at (by simp)))
  have Vb : VBlk wa (W.heap.size + 3) b := by rw [← hwa]; exact alloc_past (alloc_at (by simp))
  have VZ : Hide (VBlk wa (W.heap.size + 4) (0, 0)) := hide (by rw [← hwa]; exact alloc_at (by simp))
  have HWA := hide hwa
  clear hwa B0 B1 B2 B3 B4 B5
  clear Va
  obtain ⟨a0, a1⟩ := a
  clear Vb
  obtain ⟨b0, b1⟩ := b
  unfold vecE
  unfold vecV at *
  simp only at *
  have g0 := VZ.out.c0
  have g1 := VZ.out.c1
  have z0 := VZ.out.frozen 0
  have z1 := VZ.out.frozen 1
  go_enter Tryd.func9, Tryd.ntmps9
  go_wp2_with fail
  rw [HWA.out]
  refine bodyPost_ret (v := .tuple #[.agg #[.int .u64 0, .int .u64 0], .int .i64 2]) (VZ.out.result2 (by rfl) _ rfl rfl) rfl ?_
  exact ⟨rfl, BA.out⟩

set_option maxHeartbeats 1000000 in
theorem vtwo15_refuse (w : Int) (a : Nat × Nat) (b : Nat × Nat)  (W : World) :
    Calls Tryd.prog 9 #[.int .u8 15, .int .i64 w, vecV a, vecV b] W fun e W' => e = .returned (vecE ((0, 0), 2)) ∧ Below W.heap.size W W' := by
  obtain ⟨wa, hwa⟩ : ∃ wa, (((((W.alloc (.cells #[.int .u8 15] 22)).alloc (.cells #[.int .i64 w] 3)).alloc (.cells #[.int .u64 (a.1 : Int), .int .u64 (a.2 : Int)] 25)).alloc (.cells #[.int .u64 (b.1 : Int), .int .u64 (b.2 : Int)] 25)).alloc (.cells #[.int .u64 0, .int .u64 0] 25)) = wa := ⟨_, rfl⟩
  have B0 : Below W.heap.size W W := Below.refl _ _
  have B1 := B0.alloc B0.size (.cells #[.int .u8 15] 22)
  have B2 := B1.alloc B1.size (.cells #[.int .i64 w] 3)
  have B3 := B2.alloc B2.size (.cells #[.int .u64 (a.1 : Int), .int .u64 (a.2 : Int)] 25)
  have B4 := B3.alloc B3.size (.cells #[.int .u64 (b.1 : Int), .int .u64 (b.2 : Int)] 25)
  have B5 := B4.alloc B4.size (.cells #[.int .u64 0, .int .u64 0] 25)
  have BA : Hide (Below W.heap.size W wa) := hide (by rw [← hwa]; exact B5)
  have Cop : wa.cell? ⟨W.heap.size, 0, none⟩ = some (.int .u8 15) := by rw [← hwa]; exact cell_of (alloc_past (alloc_past (alloc_past (alloc_past (alloc_at (by simp))))))
  have Cw : wa.cell? ⟨W.heap.size + 1, 0, none⟩ = some (.int .i64 w) := by rw [← hwa]; exact cell_of (alloc_past (alloc_past (alloc_past (alloc_at (by simp)))))
  have Va : VBlk wa (W.heap.size + 2) a := by rw [← hwa]; exact alloc_past (alloc_past (alloc_at (by simp)))
  have Vb : VBlk wa (W.heap.size + 3) b := by rw [← hwa]; exact alloc_past (alloc_at (by simp))
  have VZ : Hide (VBlk wa (W.heap.size + 4) (0, 0)) := hide (by rw [← hwa]; exact alloc_at (by simp))
  have HWA := hide hwa
  clear hwa B0 B1 B2 B3 B4 B5
  clear Va
  obtain ⟨a0, a1⟩ := a
  clear Vb
  obtain ⟨b0, b1⟩ := b
  unfold vecE
  unfold vecV at *
  simp only at *
  have g0 := VZ.out.c0
  have g1 := VZ.out.c1
  have z0 := VZ.out.frozen 0
  have z1 := VZ.out.frozen 1
  go_enter Tryd.func9, Tryd.ntmps9
  go_wp2_with fail
  rw [HWA.out]
  refine bodyPost_ret (v := .tuple #[.agg #[.int .u64 0, .int .u64 0], .int .i64 2]) (VZ.out.result2 (by rfl) _ rfl rfl) rfl ?_
  exact ⟨rfl, BA.out⟩

set_option maxHeartbeats 1000000 in
theorem vone28_r (w : Int) (a : Nat × Nat) (r : (Nat × Nat) × Int)  (W : World)
    (hB : ∀ (W' : World) (q0 q1 : Nat), Below W.heap.size W W' → W'.cell? ⟨q0, 0, none⟩ = some (.int .u8 28) → W'.cell? ⟨q1, 0, none⟩ = some (.int .i64 w) →
      Calls Tryd.prog 42 #[.int .i64 w, vecV a, .func (.func 43) #[] #[.pointer (some ⟨q0, 0, none⟩), .pointer (some ⟨q1, 0, none⟩)]] W' fun e W'' => e = .returned (vecE r) ∧ Below W'.heap.size W' W'') :
    Calls Tryd.prog 12 #[.int .u8 28, .int .i64 w, vecV a] W fun e W' => e = .returned (vecE r) ∧ Below W.heap.size W W' := by
  obtain ⟨wa, hwa⟩ : ∃ wa, ((((W.alloc (.cells #[.int .u8 28] 22)).alloc (.cells #[.int .i64 w] 3)).alloc (.cells #[.int .u64 (a.1 : Int), .int .u64 (a.2 : Int)] 25)).alloc (.cells #[.int .u64 0, .int .u64 0] 25)) = wa := ⟨_, rfl⟩
  have B0 : Below W.heap.size W W := Below.refl _ _
  have B1 := B0.alloc B0.size (.cells #[.int .u8 28] 22)
  have B2 := B1.alloc B1.size (.cells #[.int .i64 w] 3)
  have B3 := B2.alloc B2.size (.cells #[.int .u64 (a.1 : Int), .int .u64 (a.2 : Int)] 25)
  have B4 := B3.alloc B3.size (.cells #[.int .u64 0, .int .u64 0] 25)
  have BA : Hide (Below W.heap.size W wa) := hide (by rw [← hwa]; exact B4)
  have Cop : wa.cell? ⟨W.heap.size, 0, none⟩ = some (.int .u8 28) := by rw [← hwa]; exact cell_of (alloc_past (alloc_past (alloc_past (alloc_at (by simp)))))
  have Cw : wa.cell? ⟨W.heap.size + 1, 0, none⟩ = some (.int .i64 w) := by rw [← hwa]; exact cell_of (alloc_past (alloc_past (alloc_at (by simp))))
  have Va : VBlk wa (W.heap.size + 2) a := by rw [← hwa]; exact alloc_past (alloc_at (by simp))
  have VZ : Hide (VBlk wa (W.heap.size + 3) (0, 0)) := hide (by rw [← hwa]; exact alloc_at (by simp))
  have HWA := hide hwa
  clear hwa B0 B1 B2 B3 B4
  have CB := hide (hB wa W.heap.size (W.heap.size + 1) BA.out Cop Cw)
  clear hB
  obtain ⟨a0, a1⟩ := a
  have ac0 := Va.c0
  have ac1 := Va.c1
  clear Va
  obtain ⟨⟨rp, rq⟩, re⟩ := r
  unfold vecE at CB ⊢
  unfold vecV at *
  simp only at *
  go_enter Tryd.func12, Tryd.ntmps12
  go_wp2_with fail
  rw [HWA.out]
  go_wp2_with fail
  refine CB.out.mono ?_
  rintro e w2 ⟨rfl, hb⟩
  have K1 : Hide (VBlk w2 (W.heap.size + 3) (0, 0)) := hide (VZ.out.later hb VZ.out.lt)
  have K2 : Hide (Below W.heap.size W w2) := hide (BA.out.trans (hb.mono BA.out.size))
  have g0 := K1.out.c0
  have g1 := K1.out.c1
  have z0 := K1.out.frozen 0
  have z1 := K1.out.frozen 1
  clear hb
  go_wp2
  refine bodyPost_ret (v := .tuple #[.agg #[.int .u64 (rp : Int), .int .u64 (rq : Int)], .int .i64 re]) ((K1.out.set2 rp rq).result2 (by rfl) _ rfl rfl) rfl ?_
  exact ⟨rfl, (K2.out.setCell (by simp; try omega) _).setCell (by simp; try omega) _⟩

set_option maxHeartbeats 1000000 in
theorem vone29_r (w : Int) (a : Nat × Nat) (r : (Nat × Nat) × Int)  (W : World)
    (hB : ∀ (W' : World) (q0 q1 : Nat), Below W.heap.size W W' → W'.cell? ⟨q0, 0, none⟩ = some (.int .u8 29) → W'.cell? ⟨q1, 0, none⟩ = some (.int .i64 w) →
      Calls Tryd.prog 42 #[.int .i64 w, vecV a, .func (.func 43) #[] #[.pointer (some ⟨q0, 0, none⟩), .pointer (some ⟨q1, 0, none⟩)]] W' fun e W'' => e = .returned (vecE r) ∧ Below W'.heap.size W' W'') :
    Calls Tryd.prog 12 #[.int .u8 29, .int .i64 w, vecV a] W fun e W' => e = .returned (vecE r) ∧ Below W.heap.size W W' := by
  obtain ⟨wa, hwa⟩ : ∃ wa, ((((W.alloc (.cells #[.int .u8 29] 22)).alloc (.cells #[.int .i64 w] 3)).alloc (.cells #[.int .u64 (a.1 : Int), .int .u64 (a.2 : Int)] 25)).alloc (.cells #[.int .u64 0, .int .u64 0] 25)) = wa := ⟨_, rfl⟩
  have B0 : Below W.heap.size W W := Below.refl _ _
  have B1 := B0.alloc B0.size (.cells #[.int .u8 29] 22)
  have B2 := B1.alloc B1.size (.cells #[.int .i64 w] 3)
  have B3 := B2.alloc B2.size (.cells #[.int .u64 (a.1 : Int), .int .u64 (a.2 : Int)] 25)
  have B4 := B3.alloc B3.size (.cells #[.int .u64 0, .int .u64 0] 25)
  have BA : Hide (Below W.heap.size W wa) := hide (by rw [← hwa]; exact B4)
  have Cop : wa.cell? ⟨W.heap.size, 0, none⟩ = some (.int .u8 29) := by rw [← hwa]; exact cell_of (alloc_past (alloc_past (alloc_past (alloc_at (by simp)))))
  have Cw : wa.cell? ⟨W.heap.size + 1, 0, none⟩ = some (.int .i64 w) := by rw [← hwa]; exact cell_of (alloc_past (alloc_past (alloc_at (by simp))))
  have Va : VBlk wa (W.heap.size + 2) a := by rw [← hwa]; exact alloc_past (alloc_at (by simp))
  have VZ : Hide (VBlk wa (W.heap.size + 3) (0, 0)) := hide (by rw [← hwa]; exact alloc_at (by simp))
  have HWA := hide hwa
  clear hwa B0 B1 B2 B3 B4
  have CB := hide (hB wa W.heap.size (W.heap.size + 1) BA.out Cop Cw)
  clear hB
  obtain ⟨a0, a1⟩ := a
  have ac0 := Va.c0
  have ac1 := Va.c1
  clear Va
  obtain ⟨⟨rp, rq⟩, re⟩ := r
  unfold vecE at CB ⊢
  unfold vecV at *
  simp only at *
  go_enter Tryd.func12, Tryd.ntmps12
  go_wp2_with fail
  rw [HWA.out]
  go_wp2_with fail
  refine CB.out.mono ?_
  rintro e w2 ⟨rfl, hb⟩
  have K1 : Hide (VBlk w2 (W.heap.size + 3) (0, 0)) := hide (VZ.out.later hb VZ.out.lt)
  have K2 : Hide (Below W.heap.size W w2) := hide (BA.out.trans (hb.mono BA.out.size))
  have g0 := K1.out.c0
  have g1 := K1.out.c1
  have z0 := K1.out.frozen 0
  have z1 := K1.out.frozen 1
  clear hb
  go_wp2
  refine bodyPost_ret (v := .tuple #[.agg #[.int .u64 (rp : Int), .int .u64 (rq : Int)], .int .i64 re]) ((K1.out.set2 rp rq).result2 (by rfl) _ rfl rfl) rfl ?_
  exact ⟨rfl, (K2.out.setCell (by simp; try omega) _).setCell (by simp; try omega) _⟩

set_option maxHeartbeats 1000000 in
theorem vone30_r (w : Int) (a : Nat × Nat) (r : (Nat × Nat) × Int)  (W : World)
    (hB : ∀ (W' : World) (q0 q1 : Nat), Below W.heap.size W W' → W'.cell? ⟨q0, 0, none⟩ = some (.int .u8 30) → W'.cell? ⟨q1, 0, none⟩ = some (.int .i64 w) →
      Calls Tryd.prog 42 #[.int .i64 w, vecV a, .func (.func 43) #[] #[.pointer (some ⟨q0, 0, none⟩), .pointer (some ⟨q1, 0, none⟩)]] W' fun e W'' => e = .returned (vecE r) ∧ Below W'.heap.size W' W'') :
    Calls Tryd.prog 12 #[.int .u8 30, .int .i64 w, vecV a] W fun e W' => e = .returned (vecE r) ∧ Below W.heap.size W W' := by
  obtain ⟨wa, hwa⟩ : ∃ wa, ((((W.alloc (.cells #[.int .u8 30] 22)).alloc (.cells #[.int .i64 w] 3)).alloc (.cells #[.int .u64 (a.1 : Int), .int .u64 (a.2 : Int)] 25)).alloc (.cells #[.int .u64 0, .int .u64 0] 25)) = wa := ⟨_, rfl⟩
  have B0 : Below W.heap.size W W := Below.refl _ _
  have B1 := B0.alloc B0.size (.cells #[.int .u8 30] 22)
  have B2 := B1.alloc B1.size (.cells #[.int .i64 w] 3)
  have B3 := B2.alloc B2.size (.cells #[.int .u64 (a.1 : Int), .int .u64 (a.2 : Int)] 25)
  have B4 := B3.alloc B3.size (.cells #[.int .u64 0, .int .u64 0] 25)
  have BA : Hide (Below W.heap.size W wa) := hide (by rw [← hwa]; exact B4)
  have Cop : wa.cell? ⟨W.heap.size, 0, none⟩ = some (.int .u8 30) := by rw [← hwa]; exact cell_of (alloc_past (alloc_past (alloc_past (alloc_at (by simp)))))
  have Cw : wa.cell? ⟨W.heap.size + 1, 0, none⟩ = some (.int .i64 w) := by rw [← hwa]; exact cell_of (alloc_past (alloc_past (alloc_at (by simp))))
  have Va : VBlk wa (W.heap.size + 2) a := by rw [← hwa]; exact alloc_past (alloc_at (by simp))
  have VZ : Hide (VBlk wa (W.heap.size + 3) (0, 0)) := hide (by rw [← hwa]; exact alloc_at (by simp))
  have HWA := hide hwa
  clear hwa B0 B1 B2 B3 B4
  have CB := hide (hB wa W.heap.size (W.heap.size + 1) BA.out Cop Cw)
  clear hB
  obtain ⟨a0, a1⟩ := a
  have ac0 := Va.c0
  have ac1 := Va.c1
  clear Va
  obtain ⟨⟨rp, rq⟩, re⟩ := r
  unfold vecE at CB ⊢
  unfold vecV at *
  simp only at *
  go_enter Tryd.func12, Tryd.ntmps12
  go_wp2_with fail
  rw [HWA.out]
  go_wp2_with fail
  refine CB.out.mono ?_
  rintro e w2 ⟨rfl, hb⟩
  have K1 : Hide (VBlk w2 (W.heap.size + 3) (0, 0)) := hide (VZ.out.later hb VZ.out.lt)
  have K2 : Hide (Below W.heap.size W w2) := hide (BA.out.trans (hb.mono BA.out.size))
  have g0 := K1.out.c0
  have g1 := K1.out.c1
  have z0 := K1.out.frozen 0
  have z1 := K1.out.frozen 1
  clear hb
  go_wp2
  refine bodyPost_ret (v := .tuple #[.agg #[.int .u64 (rp : Int), .int .u64 (rq : Int)], .int .i64 re]) ((K1.out.set2 rp rq).result2 (by rfl) _ rfl rfl) rfl ?_
  exact ⟨rfl, (K2.out.setCell (by simp; try omega) _).setCell (by simp; try omega) _⟩

set_option maxHeartbeats 1000000 in
theorem vone31_r (w : Int) (a : Nat × Nat) (r : (Nat × Nat) × Int)  (W : World)
    (hB : ∀ (W' : World) (q0 q1 : Nat), Below W.heap.size W W' → W'.cell? ⟨q0, 0, none⟩ = some (.int .u8 31) → W'.cell? ⟨q1, 0, none⟩ = some (.int .i64 w) →
      Calls Tryd.prog 42 #[.int .i64 w, vecV a, .func (.func 43) #[] #[.pointer (some ⟨q0, 0, none⟩), .pointer (some ⟨q1, 0, none⟩)]] W' fun e W'' => e = .returned (vecE r) ∧ Below W'.heap.size W' W'') :
    Calls Tryd.prog 12 #[.int .u8 31, .int .i64 w, vecV a] W fun e W' => e = .returned (vecE r) ∧ Below W.heap.size W W' := by
  obtain ⟨wa, hwa⟩ : ∃ wa, ((((W.alloc (.cells #[.int .u8 31] 22)).alloc (.cells #[.int .i64 w] 3)).alloc (.cells #[.int .u64 (a.1 : Int), .int .u64 (a.2 : Int)] 25)).alloc (.cells #[.int .u64 0, .int .u64 0] 25)) = wa := ⟨_, rfl⟩
  have B0 : Below W.heap.size W W := Below.refl _ _
  have B1 := B0.alloc B0.size (.cells #[.int .u8 31] 22)
  have B2 := B1.alloc B1.size (.cells #[.int .i64 w] 3)
  have B3 := B2.alloc B2.size (.cells #[.int .u64 (a.1 : Int), .int .u64 (a.2 : Int)] 25)
  have B4 := B3.alloc B3.size (.cells #[.int .u64 0, .int .u64 0] 25)
  have BA : Hide (Below W.heap.size W wa) := hide (by rw [← hwa]; exact B4)
  have Cop : wa.cell? ⟨W.heap.size, 0, none⟩ = some (.int .u8 31) := by rw [← hwa]; exact cell_of (alloc_past (alloc_past (alloc_past (alloc_at (by simp)))))
  have Cw : wa.cell? ⟨W.heap.size + 1, 0, none⟩ = some (.int .i64 w) := by rw [← hwa]; exact cell_of (alloc_past (alloc_past (alloc_at (by simp))))
  have Va : VBlk wa (W.heap.size + 2) a := by rw [← hwa]; exact alloc_past (alloc_at (by simp))
  have VZ : Hide (VBlk wa (W.heap.size + 3) (0, 0)) := hide (by rw [← hwa]; exact alloc_at (by simp))
  have HWA := hide hwa
  clear hwa B0 B1 B2 B3 B4
  have CB := hide (hB wa W.heap.size (W.heap.size + 1) BA.out Cop Cw)
  clear hB
  obtain ⟨a0, a1⟩ := a
  have ac0 := Va.c0
  have ac1 := Va.c1
  clear Va
  obtain ⟨⟨rp, rq⟩, re⟩ := r
  unfold vecE at CB ⊢
  unfold vecV at *
  simp only at *
  go_enter Tryd.func12, Tryd.ntmps12
  go_wp2_with fail
  rw [HWA.out]
  go_wp2_with fail
  refine CB.out.mono ?_
  rintro e w2 ⟨rfl, hb⟩
  have K1 : Hide (VBlk w2 (W.heap.size + 3) (0, 0)) := hide (VZ.out.later hb VZ.out.lt)
  have K2 : Hide (Below W.heap.size W w2) := hide (BA.out.trans (hb.mono BA.out.size))
  have g0 := K1.out.c0
  have g1 := K1.out.c1
  have z0 := K1.out.frozen 0
  have z1 := K1.out.frozen 1
  clear hb
  go_wp2
  refine bodyPost_ret (v := .tuple #[.agg #[.int .u64 (rp : Int), .int .u64 (rq : Int)], .int .i64 re]) ((K1.out.set2 rp rq).result2 (by rfl) _ rfl rfl) rfl ?_
  exact ⟨rfl, (K2.out.setCell (by simp; try omega) _).setCell (by simp; try omega) _⟩

set_option maxHeartbeats 1000000 in
theorem vone_refuse (op : Int) (w : Int) (a : Nat × Nat) (h29 : (op == 29) = false) (h30 : (op == 30) = false) (h28 : (op == 28) = false) (h31 : (op == 31) = false) (W : World) :
    Calls Tryd.prog 12 #[.int .u8 op, .int .i64 w, vecV a] W fun e W' => e = .returned (vecE ((0, 0), 2)) ∧ Below W.heap.size W W' := by
  obtain ⟨wa, hwa⟩ : ∃ wa, ((((W.alloc (.cells #[.int .u8 op] 22)).alloc (.cells #[.int .i64 w] 3)).alloc (.cells #[.int .u64 (a.1 : Int), .int .u64 (a.2 : Int)] 25)).alloc (.cells #[.int .u64 0, .int .u64 0] 25)) = wa := ⟨_, rfl⟩
  have B0 : Below W.heap.size W W := Below.refl _ _
  have B1 := B0.alloc B0.size (.cells #[.int .u8 op] 22)
  have B2 := B1.alloc B1.size (.cells #[.int .i64 w] 3)
  have B3 := B2.alloc B2.size (.cells #[.int .u64 (a.1 : Int), .int .u64 (a.2 : Int)] 25)
  have B4 := B3.alloc B3.size (.cells #[.int .u64 0, .int .u64 0] 25)
  have BA : Hide (Below W.heap.size W wa) := hide (by rw [← hwa]; exact B4)
  have Cop : wa.cell? ⟨W.heap.size, 0, none⟩ = some (.int .u8 op) := by rw [← hwa]; exact cell_of (alloc_past (alloc_past (alloc_past (alloc_at (by simp)))))
  have Cw : wa.cell? ⟨W.heap.size + 1, 0, none⟩ = some (.int .i64 w) := by rw [← hwa]; exact cell_of (alloc_past (alloc_past (alloc_at (by simp))))
  have Va : VBlk wa (W.heap.size + 2) a := by rw [← hwa]; exact alloc_past (alloc_at (by simp))
  have VZ : Hide (VBlk wa (W.heap.size + 3) (0, 0)) := hide (by rw [← hwa]; exact alloc_at (by simp))
  have HWA := hide hwa
  clear hwa B0 B1 B2 B3 B4
  clear Va
  obtain ⟨a0, a1⟩ := a
  unfold vecE
  unfold vecV at *
  simp only at *
  have g0 := VZ.out.c0
  have g1 := VZ.out.c1
  have z0 := VZ.out.frozen 0
  have z1 := VZ.out.frozen 1
  go_enter Tryd.func12, Tryd.ntmps12
  go_wp2_with fail
  rw [HWA.out]
  refine bodyPost_ret (v := .tuple #[.agg #[.int .u64 0, .int .u64 0], .int .i64 2]) (VZ.out.result2 (by rfl) _ rfl rfl) rfl ?_
  exact ⟨rfl, BA.out⟩

set_option maxHeartbeats 1000000 in
theorem vshift11_r (w : Int) (a : Nat × Nat) (n : Nat) (r : (Nat × Nat) × Int)  (W : World)
    (hB : ∀ (W' : World) (q0 q1 q2 : Nat), Below W.heap.size W W' → W'.cell? ⟨q0, 0, none⟩ = some (.int .u8 11) → W'.cell? ⟨q1, 0, none⟩ = some (.int .i64 w) → W'.cell? ⟨q2, 0, none⟩ = some (.int .u64 (n : Int)) →
      Calls Tryd.prog 42 #[.int .i64 w, vecV a, .func (.func 46) #[] #[.pointer (some ⟨q0, 0, none⟩), .pointer (some ⟨q1, 0, none⟩), .pointer (some ⟨q2, 0, none⟩)]] W' fun e W'' => e = .returned (vecE r) ∧ Below W'.heap.size W' W'') :
    Calls Tryd.prog 14 #[.int .u8 11, .int .i64 w, vecV a, .int .u64 (n : Int)] W fun e W' => e = .returned (vecE r) ∧ Below W.heap.size W W' := by
  obtain ⟨wa, hwa⟩ : ∃ wa, (((((W.alloc (.cells #[.int .u8 11] 22)).alloc (.cells #[.int .i64 w] 3)).alloc (.cells #[.int .u64 (a.1 : Int), .int .u64 (a.2 : Int)] 25)).alloc (.cells #[.int .u64 (n : Int)] 23)).alloc (.cells #[.int .u64 0, .int .u64 0] 25)) = wa := ⟨_, rfl⟩
  have B0 : Below W.heap.size W W := Below.refl _ _
  have B1 := B0.alloc B0.size (.cells #[.int .u8 11] 22)
  have B2 := B1.alloc B1.size (.cells #[.int .i64 w] 3)
  have B3 := B2.alloc B2.size (.cells #[.int .u64 (a.1 : Int), .int .u64 (a.2 : Int)] 25)
  have B4 := B3.alloc B3.size (.cells #[.int .u64 (n : Int)] 23)
  have B5 := B4.alloc B4.size (.cells #[.int .u64 0, .int .u64 0] 25)
  have BA : Hide (Below W.heap.size W wa) := hide (by rw [← hwa]; exact B5)
  have Cop : wa.cell? ⟨W.heap.size, 0, none⟩ = some (.int .u8 11) := by rw [← hwa]; exact cell_of (alloc_past (alloc_past (alloc_past (alloc_past (alloc_at (by simp))))))
  have Cw : wa.cell? ⟨W.heap.size + 1, 0, none⟩ = some (.int .i64 w) := by rw [← hwa]; exact cell_of (alloc_past (alloc_past (alloc_past (alloc_at (by simp)))))
  have Va : VBlk wa (W.heap.size + 2) a := by rw [← hwa]; exact alloc_past (alloc_past (alloc_at (by simp)))
  have Cn : wa.cell? ⟨W.heap.size + 3, 0, none⟩ = some (.int .u64 (n : Int)) := by rw [← hwa]; exact cell_of (alloc_past (alloc_at (by simp)))
  have VZ : Hide (VBlk wa (W.heap.size + 4) (0, 0)) := hide (by rw [← hwa]; exact alloc_at (by simp))
  have HWA := hide hwa
  clear hwa B0 B1 B2 B3 B4 B5
  have CB := hide (hB wa W.heap.size (W.heap.size + 1) (W.heap.size + 3) BA.out Cop Cw Cn)
  clear hB
  obtain ⟨a0, a1⟩ := a
  have ac0 := Va.c0
  have ac1 := Va.c1
  clear Va
  obtain ⟨⟨rp, rq⟩, re⟩ := r
  unfold vecE at CB ⊢
  unfold vecV at *
  simp only at *
  go_enter Tryd.func14, Tryd.ntmps14
  go_wp2_with fail
  rw [HWA.out]
  go_wp2_with fail
  refine CB.out.mono ?_
  rintro e w2 ⟨rfl, hb⟩
  have K1 : Hide (VBlk w2 (W.heap.size + 4) (0, 0)) := hide (VZ.out.later hb VZ.out.lt)
  have K2 : Hide (Below W.heap.size W w2) := hide (BA.out.trans (hb.mono BA.out.size))
  have g0 := K1.out.c0
  have g1 := K1.out.c1
  have z0 := K1.out.frozen 0
  have z1 := K1.out.frozen 1
  clear hb
  go_wp2
  refine bodyPost_ret (v := .tuple #[.agg #[.int .u64 (rp : Int), .int .u64 (rq : Int)], .int .i64 re]) ((K1.out.set2 rp rq).result2 (by rfl) _ rfl rfl) rfl ?_
  exact ⟨rfl, (K2.out.setCell (by simp; try omega) _).setCell (by simp; try omega) _⟩

set_option maxHeartbeats 1000000 in
theorem vshift12_r (w : Int) (a : Nat × Nat) (n : Nat) (r : (Nat × Nat) × Int)  (W : World)
    (hB : ∀ (W' : World) (q0 q1 q2 : Nat), Below W.heap.size W W' → W'.cell? ⟨q0, 0, none⟩ = some (.int .u8 12) → W'.cell? ⟨q1, 0, none⟩ = some (.int .i64 w) → W'.cell? ⟨q2, 0, none⟩ = some (.int .u64 (n : Int)) →
      Calls Tryd.prog 42 #[.int .i64 w, vecV a, .func (.func 46) #[] #[.pointer (some ⟨q0, 0, none⟩), .pointer (some ⟨q1, 0, none⟩), .pointer (some ⟨q2, 0, none⟩)]] W' fun e W'' => e = .returned (vecE r) ∧ Below W'.heap.size W' W'') :
    Calls Tryd.prog 14 #[.int .u8 12, .int .i64 w, vecV a, .int .u64 (n : Int)] W fun e W' => e = .returned (vecE r) ∧ Below W.heap.size W W' := by
  obtain ⟨wa, hwa⟩ : ∃ wa, (((((W.alloc (.cells #[.int .u8 12] 22)).alloc (.cells #[.int .i64 w] 3)).alloc (.cells #[.int .u64 (a.1 : Int), .int .u64 (a.2 : Int)] 25)).alloc (.cells #[.int .u64 (n : Int)] 23)).alloc (.cells #[.int .u64 0, .int .u64 0] 25)) = wa := ⟨_, rfl⟩
  have B0 : Below W.heap.size W W := Below.refl _ _
  have B1 := B0.alloc B0.size (.cells #[.int .u8 12] 22)
  have B2 := B1.alloc B1.size (.cells #[.int .i64 w] 3)
  have B3 := B2.alloc B2.size (.cells #[.int .u64 (a.1 : Int), .int .u64 (a.2 : Int)] 25)
  have B4 := B3.alloc B3.size (.cells #[.int .u64 (n : Int)] 23)
  have B5 := B4.alloc B4.size (.cells #[.int .u64 0, .int .u64 0] 25)
  have BA : Hide (Below W.heap.size W wa) := hide (by rw [← hwa]; exact B5)
  have Cop : wa.cell? ⟨W.heap.size, 0, none⟩ = some (.int .u8 12) := by rw [← hwa]; exact cell_of (alloc_past (alloc_past (alloc_past (alloc_past (alloc_at (by simp))))))
  have Cw : wa.cell? ⟨W.heap.size + 1, 0, none⟩ = some (.int .i64 w) := by rw [← hwa]; exact cell_of (alloc_past (alloc_past (alloc_past (alloc_at (by simp)))))
  have Va : VBlk wa (W.heap.size + 2) a := by rw [← hwa]; exact alloc_past (alloc_past (alloc_at (by simp)))
  have Cn : wa.cell? ⟨W.heap.size + 3, 0, none⟩ = some (.int .u64 (n : Int)) := by rw [← hwa]; exact cell_of (alloc_past (alloc_at (by simp)))
  have VZ : Hide (VBlk wa (W.heap.size + 4) (0, 0)) := hide (by rw [← hwa]; exact alloc_at (by simp))
  have HWA := hide hwa
  clear hwa B0 B1 B2 B3 B4 B5
  have CB := hide (hB wa W.heap.size (W.heap.size + 1) (W.heap.size + 3) BA.out Cop Cw Cn)
  clear hB
  obtain ⟨a0, a1⟩ := a
  have ac0 := Va.c0
  have ac1 := Va.c1
  clear Va
  obtain ⟨⟨rp, rq⟩, re⟩ := r
  unfold vecE at CB ⊢
  unfold vecV at *
  simp only at *
  go_enter Tryd.func14, Tryd.ntmps14
  go_wp2_with fail
  rw [HWA.out]
  go_wp2_with fail
  refine CB.out.mono ?_
  rintro e w2 ⟨rfl, hb⟩
  have K1 : Hide (VBlk w2 (W.heap.size + 4) (0, 0)) := hide (VZ.out.later hb VZ.out.lt)
  have K2 : Hide (Below W.heap.size W w2) := hide (BA.out.trans (hb.mono BA.out.size))
  have g0 := K1.out.c0
  have g1 := K1.out.c1
  have z0 := K1.out.frozen 0
  have z1 := K1.out.frozen 1
  clear hb
  go_wp2
  refine bodyPost_ret (v := .tuple #[.agg #[.int .u64 (rp : Int), .int .u64 (rq : Int)], .int .i64 re]) ((K1.out.set2 rp rq).result2 (by rfl) _ rfl rfl) rfl ?_
  exact ⟨rfl, (K2.out.setCell (by simp; try omega) _).setCell (by simp; try omega) _⟩

set_option maxHeartbeats 1000000 in
theorem vshift13_r (w : Int) (a : Nat × Nat) (n : Nat) (r : (Nat × Nat) × Int)  (W : World)
    (hB : ∀ (W' : World) (q0 q1 q2 : Nat), Below W.heap.size W W' → W'.cell? ⟨q0, 0, none⟩ = some (.int .u8 13) → W'.cell? ⟨q1, 0, none⟩ = some (.int .i64 w) → W'.cell? ⟨q2, 0, none⟩ = some (.int .u64 (n : Int)) →
      Calls Tryd.prog 42 #[.int .i64 w, vecV a, .func (.func 46) #[] #[.pointer (some ⟨q0, 0, none⟩), .pointer (some ⟨q1, 0, none⟩), .pointer (some ⟨q2, 0, none⟩)]] W' fun e W'' => e = .returned (vecE r) ∧ Below W'.heap.size W' W'') :
    Calls Tryd.prog 14 #[.int .u8 13, .int .i64 w, vecV a, .int .u64 (n : Int)] W fun e W' => e = .returned (vecE r) ∧ Below W.heap.size W W' := by
  obtain ⟨wa, hwa⟩ : ∃ wa, (((((W.alloc (.cells #[.int .u8 13] 22)).alloc (.cells #[.int .i64 w] 3)).alloc (.cells #[.int .u64 (a.1 : Int), .int .u64 (a.2 : Int)] 25)).alloc (.cells #[.int .u64 (n : Int)] 23)).alloc (.cells #[.int .u64 0, .int .u64 0] 25)) = wa := ⟨_, rfl⟩
  have B0 : Below W.heap.size W W := Below.refl _ _
  have B1 := B0.alloc B0.size (.cells #[.int .u8 13] 22)
  have B2 := B1.alloc B1.size (.cells #[.int .i64 w] 3)
  have B3 := B2.alloc B2.size (.cells #[.int .u64 (a.1 : Int), .int .u64 (a.2 : Int)] 25)
  have B4 := B3.alloc B3.size (.cells #[.int .u64 (n : Int)] 23)
  have B5 := B4.alloc B4.size (.cells #[.int .u64 0, .int .u64 0] 25)
  have BA : Hide (Below W.heap.size W wa) := hide (by rw [← hwa]; exact B5)
  have Cop : wa.cell? ⟨W.heap.size, 0, none⟩ = some (.int .u8 13) := by rw [← hwa]; exact cell_of (alloc_past (alloc_past (alloc_past (alloc_past (alloc_at (by simp))))))
  have Cw : wa.cell? ⟨W.heap.size + 1, 0, none⟩ = some (.int .i64 w) := by rw [← hwa]; exact cell_of (alloc_past (alloc_past (alloc_past (alloc_at (by simp)))))
  have Va : VBlk wa (W.heap.size + 2) a := by rw [← hwa]; exact alloc_past (alloc_past (alloc_at (by simp)))
  have Cn : wa.cell? ⟨W.heap.size + 3, 0, none⟩ = some (.int .u64 (n : Int)) := by rw [← hwa]; exact cell_of (alloc_past (alloc_at (by simp)))
  have VZ : Hide (VBlk wa (W.heap.size + 4) (0, 0)) := hide (by rw [← hwa]; exact alloc_at (by simp))
  have HWA := hide hwa
  clear hwa B0 B1 B2 B3 B4 B5
  have CB := hide (hB wa W.heap.size (W.heap.size + 1) (W.heap.size + 3) BA.out Cop Cw Cn)
  clear hB
  obtain ⟨a0, a1⟩ := a
  have ac0 := Va.c0
  have ac1 := Va.c1
  clear Va
  obtain ⟨⟨rp, rq⟩, re⟩ := r
  unfold vecE at CB ⊢
  unfold vecV at *
  simp only at *
  go_enter Tryd.func14, Tryd.ntmps14
  go_wp2_with fail
  rw [HWA.out]
  go_wp2_with fail
  refine CB.out.mono ?_
  rintro e w2 ⟨rfl, hb⟩
  have K1 : Hide (VBlk w2 (W.heap.size + 4) (0, 0)) := hide (VZ.out.later hb VZ.out.lt)
  have K2 : Hide (Below W.heap.size W w2) := hide (BA.out.trans (hb.mono BA.out.size))
  have g0 := K1.out.c0
  have g1 := K1.out.c1
  have z0 := K1.out.frozen 0
  have z1 := K1.out.frozen 1
  clear hb
  go_wp2
  refine bodyPost_ret (v := .tuple #[.agg #[.int .u64 (rp : Int), .int .u64 (rq : Int)], .int .i64 re]) ((K1.out.set2 rp rq).result2 (by rfl) _ rfl rfl) rfl ?_
  exact ⟨rfl, (K2.out.setCell (by simp; try omega) _).setCell (by simp; try omega) _⟩

set_option maxHeartbeats 1000000 in
theorem vshift_refuse (op : Int) (w : Int) (a : Nat × Nat) (n : Nat) (h11 : (op == 11) = false) (h12 : (op == 12) = false) (h13 : (op == 13) = false) (W : World) :
    Calls Tryd.prog 14 #[.int .u8 op, .int .i64 w, vecV a, .int .u64 (n : Int)] W fun e W' => e = .returned (vecE ((0, 0), 2)) ∧ Below W.heap.size W W' := by
  obtain ⟨wa, hwa⟩ : ∃ wa, (((((W.alloc (.cells #[.int .u8 op] 22)).alloc (.cells #[.int .i64 w] 3)).alloc (.cells #[.int .u64 (a.1 : Int), .int .u64 (a.2 : Int)] 25)).alloc (.cells #[.int .u64 (n : Int)] 23)).alloc (.cells #[.int .u64 0, .int .u64 0] 25)) = wa := ⟨_, rfl⟩
  have B0 : Below W.heap.size W W := Below.refl _ _
  have B1 := B0.alloc B0.size (.cells #[.int .u8 op] 22)
  have B2 := B1.alloc B1.size (.cells #[.int .i64 w] 3)
  have B3 := B2.alloc B2.size (.cells #[.int .u64 (a.1 : Int), .int .u64 (a.2 : Int)] 25)
  have B4 := B3.alloc B3.size (.cells #[.int .u64 (n : Int)] 23)
  have B5 := B4.alloc B4.size (.cells #[.int .u64 0, .int .u64 0] 25)
  have BA : Hide (Below W.heap.size W wa) := hide (by rw [← hwa]; exact B5)
  have Cop : wa.cell? ⟨W.heap.size, 0, none⟩ = some (.int .u8 op) := by rw [← hwa]; exact cell_of (alloc_past (alloc_past (alloc_past (alloc_past (alloc_at (by simp))))))
  have Cw : wa.cell? ⟨W.heap.size + 1, 0, none⟩ = some (.int .i64 w) := by rw [← hwa]; exact cell_of (alloc_past (alloc_past (alloc_past (alloc_at (by simp)))))
  have Va : VBlk wa (W.heap.size + 2) a := by rw [← hwa]; exact alloc_past (alloc_past (alloc_at (by simp)))
  have Cn : wa.cell? ⟨W.heap.size + 3, 0, none⟩ = some (.int .u64 (n : Int)) := by rw [← hwa]; exact cell_of (alloc_past (alloc_at (by simp)))
  have VZ : Hide (VBlk wa (W.heap.size + 4) (0, 0)) := hide (by rw [← hwa]; exact alloc_at (by simp))
  have HWA := hide hwa
  clear hwa B0 B1 B2 B3 B4 B5
  clear Va
  obtain ⟨a0, a1⟩ := a
  unfold vecE
  unfold vecV at *
  simp only at *
  have g0 := VZ.out.c0
  have g1 := VZ.out.c1
  have z0 := VZ.out.frozen 0
  have z1 := VZ.out.frozen 1
  go_enter Tryd.func14, Tryd.ntmps14
  go_wp2_with fail
  rw [HWA.out]
  refine bodyPost_ret (v := .tuple #[.agg #[.int .u64 0, .int .u64 0], .int .i64 2]) (VZ.out.result2 (by rfl) _ rfl rfl) rfl ?_
  exact ⟨rfl, BA.out⟩
end Go.Proofs.YtoihfmammmkloaaDoor
/-
  vints: the function values that Two, One, Shift and Than hand on.
-/
set_option linter.unusedVariables false
set_option linter.unusedSimpArgs false
namespace Go.Proofs.YtoihfmammmkloaaDoor
open Go.RowKit Lan

theorem two1_enters : Enters 36 := enters_of Tryd.func36 (by kernel_rfl) rfl
theorem one1_enters : Enters 43 := enters_of Tryd.func43 (by kernel_rfl) rfl
theorem shift1_enters : Enters 46 := enters_of Tryd.func46 (by kernel_rfl) rfl
theorem than1_enters : Enters 47 := enters_of Tryd.func47 (by kernel_rfl) rfl

set_option maxHeartbeats 1000000 in
theorem two1_walk (op w x y n E : Int) (q0 q1 : Nat) (W : World) (h0 : W.cell? ⟨q0, 0, none⟩ = some (.int .u8 op)) (h1 : W.cell? ⟨q1, 0, none⟩ = some (.int .i64 w))
    (hC : Calls Tryd.prog 34 #[.int .u8 op, .int .i64 w, .int .u64 x, .int .u64 y] W fun e W' => e = .returned (Z.pairV (n, E)) ∧ Below W.heap.size W W') :
    Calls Tryd.prog 36 #[.int .u64 x, .int .u64 y, .pointer (some ⟨q0, 0, none⟩), .pointer (some ⟨q1, 0, none⟩)] W fun e W' => e = .returned (.tuple #[.int .u64 n, .int .i64 E]) ∧ Below W.heap.size W W' := by
  have C := hide hC
  clear hC
  unfold Z.pairV at C
  go_enter Tryd.func36, Tryd.ntmps36
  go_wp2_with fail
  refine C.out.mono ?_
  rintro e w2 ⟨rfl, hb⟩
  have HB := hide hb
  clear hb
  go_wp2
  refine bodyPost_ret (v := .tuple #[.int .u64 n, .int .i64 E]) (by simp [results, Tryd.results36, go_sem]) rfl ?_
  exact ⟨rfl, HB.out⟩

set_option maxHeartbeats 1000000 in
theorem one1_walk (op w x n E : Int) (q0 q1 : Nat) (W : World) (h0 : W.cell? ⟨q0, 0, none⟩ = some (.int .u8 op)) (h1 : W.cell? ⟨q1, 0, none⟩ = some (.int .i64 w))
    (hC : Calls Tryd.prog 44 #[.int .u8 op, .int .i64 w, .int .u64 x] W fun e W' => e = .returned (Z.pairV (n, E)) ∧ Below W.heap.size W W') :
    Calls Tryd.prog 43 #[.int .u64 x, .pointer (some ⟨q0, 0, none⟩), .pointer (some ⟨q1, 0, none⟩)] W fun e W' => e = .returned (.tuple #[.int .u64 n, .int .i64 E]) ∧ Below W.heap.size W W' := by
  have C := hide hC
  clear hC
  unfold Z.pairV at C
  go_enter Tryd.func43, Tryd.ntmps43
  go_wp2_with fail
  refine C.out.mono ?_
  rintro e w2 ⟨rfl, hb⟩
  have HB := hide hb
  clear hb
  go_wp2
  refine bodyPost_ret (v := .tuple #[.int .u64 n, .int .i64 E]) (by simp [results, Tryd.results43, go_sem]) rfl ?_
  exact ⟨rfl, HB.out⟩

set_option maxHeartbeats 1000000 in
/-- Than's: it holds. -/
theorem than1_true (op w x y n E : Int) (q0 q1 : Nat) (W : World) (h0 : W.cell? ⟨q0, 0, none⟩ = some (.int .u8 op)) (h1 : W.cell? ⟨q1, 0, none⟩ = some (.int .i64 w))
    (hC : Calls Tryd.prog 48 #[.int .u8 op, .int .i64 w, .int .u64 x, .int .u64 y] W fun e W' => e = .returned (Z.pairB (true, 0)) ∧ Below W.heap.size W W')
    (hD : ∀ W', Below W.heap.size W W' → Calls Tryd.prog 44 #[.int .u8 31, .int .i64 w, .int .u64 0] W' fun e W'' => e = .returned (Z.pairV (n, E)) ∧ Below W'.heap.size W' W'') :
    Calls Tryd.prog 47 #[.int .u64 x, .int .u64 y, .pointer (some ⟨q0, 0, none⟩), .pointer (some ⟨q1, 0, none⟩)] W fun e W' => e = .returned (.tuple #[.int .u64 n, .int .i64 E]) ∧ Below W.heap.size W W' := by
  have C := hide hC
  have D := hide hD
  have H1 := hide h1
  clear hC hD
  unfold Z.pairB at C
  unfold Z.pairV at D
  simp only at C D
  go_enter Tryd.func47, Tryd.ntmps47
  go_wp2_with fail
  refine C.out.mono ?_
  rintro e w2 ⟨rfl, hb⟩
  have D2 := hide (D.out w2 hb)
  have h2 := cell_later hb H1.out (Nat.le_refl _)
  have HB := hide hb
  clear hb D h0 h1
  go_wp2_with fail
  refine D2.out.mono ?_
  rintro e w3 ⟨rfl, hb⟩
  have HB3 := hide (HB.out.trans (hb.mono HB.out.size))
  clear hb
  go_wp2
  refine bodyPost_ret (v := .tuple #[.int .u64 n, .int .i64 E]) (by simp [results, Tryd.results47, go_sem]) rfl ?_
  exact ⟨rfl, HB3.out⟩

set_option maxHeartbeats 1000000 in
/-- Than's: it does not hold, or is refused. -/
theorem than1_false (op w x y E : Int) (q0 q1 : Nat) (hE : E = 0 ∨ E = 2) (W : World) (h0 : W.cell? ⟨q0, 0, none⟩ = some (.int .u8 op)) (h1 : W.cell? ⟨q1, 0, none⟩ = some (.int .i64 w))
    (hC : Calls Tryd.prog 48 #[.int .u8 op, .int .i64 w, .int .u64 x, .int .u64 y] W fun e W' => e = .returned (Z.pairB (false, E)) ∧ Below W.heap.size W W') :
    Calls Tryd.prog 47 #[.int .u64 x, .int .u64 y, .pointer (some ⟨q0, 0, none⟩), .pointer (some ⟨q1, 0, none⟩)] W fun e W' => e = .returned (.tuple #[.int .u64 0, .int .i64 E]) ∧ Below W.heap.size W W' := by
  have C := hide hC
  clear hC
  unfold Z.pairB at C
  simp only at C
  rcases hE with rfl | rfl
  all_goals
    go_enter Tryd.func47, Tryd.ntmps47
    go_wp2_with fail
    refine C.out.mono ?_
    rintro e w2 ⟨rfl, hb⟩
    have HB := hide hb
    clear hb
    go_wp2
  · refine bodyPost_ret (v := .tuple #[.int .u64 0, .int .i64 0]) (by simp [results, Tryd.results47, go_sem]) rfl ?_
    exact ⟨rfl, HB.out⟩
  · refine bodyPost_ret (v := .tuple #[.int .u64 0, .int .i64 2]) (by simp [results, Tryd.results47, go_sem]) rfl ?_
    exact ⟨rfl, HB.out⟩

set_option maxRecDepth 100000 in
set_option maxHeartbeats 1000000 in
theorem shift1_walk (op w x m n E : Int) (q0 q1 q2 : Nat) (W : World) (h0 : W.cell? ⟨q0, 0, none⟩ = some (.int .u8 op)) (h1 : W.cell? ⟨q1, 0, none⟩ = some (.int .i64 w)) (h2 : W.cell? ⟨q2, 0, none⟩ = some (.int .u64 n))
    (hw : IntKind.u64.wrap w = w) (hz : ¬ w = 0) (hr : n.tmod w = m)
    (r e : Int) (hC : ∀ W' : World, Below W.heap.size W W' → Calls Tryd.prog 34 #[.int .u8 op, .int .i64 w, .int .u64 x, .int .u64 m] W' fun e' W'' => e' = .returned (Z.pairV (r, e)) ∧ Below W'.heap.size W' W'') :
    Calls Tryd.prog 46 #[.int .u64 x, .pointer (some ⟨q0, 0, none⟩), .pointer (some ⟨q1, 0, none⟩), .pointer (some ⟨q2, 0, none⟩)] W fun e' W' => e' = .returned (.tuple #[.int .u64 r, .int .i64 e]) ∧ Below W.heap.size W W' := by
  have CC := hC
  unfold Z.pairV at CC
  simp only at CC
  obtain ⟨I, F, _, hF, hin⟩ := family W
  have E := hide (in_family hF hin (f := 34) (args := #[.int .u8 op, .int .i64 w, .int .u64 x, .int .u64 m]) (r := .returned (.tuple #[.int .u64 r, .int .i64 e])) (fun W1 hW1 => (CC W1 hW1).mono fun e' W'' ⟨he, hb⟩ => ⟨he, hW1.trans (hb.mono hW1.size)⟩))
  have k0 : ∀ i, (F i).cell? ⟨q0, 0, none⟩ = some (.int .u8 op) := fun i => cell_later (hF i) h0 (Nat.le_refl _)
  have k1 : ∀ i, (F i).cell? ⟨q1, 0, none⟩ = some (.int .i64 w) := fun i => cell_later (hF i) h1 (Nat.le_refl _)
  have k2 : ∀ i, (F i).cell? ⟨q2, 0, none⟩ = some (.int .u64 n) := fun i => cell_later (hF i) h2 (Nat.le_refl _)
  have HF := hide hF
  have IN := hide hin
  clear hF hin hC CC h0 h1 h2
  go_enter Tryd.func46, Tryd.ntmps46
  go_wp2_with fail
  refine wp_region_class F (by kernel_rfl) (by kernel_rfl) ?_ ?_
  · exact IN.out _ (Below.refl _ _).drew
  repeat (refine wpQuiet_step (fun K hK => ?_); go_simp; first | (refine hK _ ?_; clear hK K) | (apply Exists.intro; refine ⟨fun _ => ?_, hK _ ?_⟩; (first | exact E.out _); clear hK K))
  refine wpQuiet_nil ?_
  rintro _ ⟨i, rfl⟩
  go_wp2
  refine bodyPost_ret (v := .tuple #[.int .u64 r, .int .i64 e]) (by simp [results, Tryd.results46, go_sem]) rfl ?_
  exact ⟨rfl, HF.out i⟩
end Go.Proofs.YtoihfmammmkloaaDoor
