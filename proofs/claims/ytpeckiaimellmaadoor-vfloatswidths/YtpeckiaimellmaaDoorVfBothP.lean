/-
  vfloats.both: what a function value answers of each two lanes (gen8both.py wrote it).
-/
import Derived.Test.YtpeckiaimellmaaDoorVfRowP
import Derived.Test.YtpeckiaimellmaaDoorPkBase
set_option linter.unusedVariables false
set_option linter.unusedSimpArgs false
namespace Go.Proofs.YtpeckiaimellmaaDoor
open Go.RowKit Lan

/-- A row of the call's own, if it is there by now: A if it was written by now, else zeros. -/
def OwnR (there full : Bool) (v : Value) (b : Nat) (A : List Nat) (w : World) : Prop := (full = true → there = true) ∧ (there = true → ∃ g, v = .pointer (some ⟨g, 0, none⟩) ∧ b ≤ g ∧ RBlk w g (if full then A else zero4))
theorem OwnR.later {t f : Bool} {v : Value} {b : Nat} {A : List Nat} {w w' : World} (h : OwnR t f v b A w) (hb : Below w.heap.size w w') : OwnR t f v b A w' :=
  ⟨h.1, fun ht => let ⟨g, e, hg, hk⟩ := h.2 ht; ⟨g, e, hg, hk.later hb hk.lt⟩⟩
theorem OwnR.fresh {t f : Bool} {v : Value} {b : Nat} {A : List Nat} {w w' : World} (h : OwnR t f v b A w) (ht : t = false) {wa : World} (hs : wa.heap.size ≤ w.heap.size) (hk : w'.heap[w.heap.size]? = some (.cells (cellsW zero4) 62 (0, 0))) :
    OwnR true f (.pointer (some ⟨w.heap.size, 0, none⟩)) wa.heap.size A w' := by
  have hf : f = false := by
    cases f with
    | false => rfl
    | true => rw [h.1 rfl] at ht; cases ht
  subst hf
  exact ⟨fun h => rfl, fun _ => ⟨_, rfl, hs, hk⟩⟩
theorem OwnR.ne {t f : Bool} {v : Value} {b : Nat} {A : List Nat} {w : World} (h : OwnR t f v b A w) (ht : t = true) {g : Nat} (hg : g = w.heap.size) : v ≠ .pointer (some ⟨g, 0, none⟩) := by
  obtain ⟨g', rfl, _, hk⟩ := h.2 ht
  intro e
  have hlt := hk.lt
  simp only [Value.pointer.injEq, Option.some.injEq, Addr.mk.injEq] at e
  omega
theorem setRow_apartR {w : World} {g g' : Nat} (h : g' ≠ g) (cs : Array Value) : (w.setRow g cs).heap[g']? = w.heap[g']? := by
  simp only [World.setRow, Array.getElem?_modify]
  rw [if_neg (by omega)]
theorem OwnR.other {t f : Bool} {v : Value} {b : Nat} {A : List Nat} {w : World} {g : Nat} {cs : Array Value} (h : OwnR t f v b A w) (hne : t = true → Value.pointer (some ⟨g, 0, none⟩) ≠ v) : OwnR t f v b A (w.setRow g cs) := by
  refine ⟨h.1, fun ht => ?_⟩
  obtain ⟨g', rfl, hg, hk⟩ := h.2 ht
  have hn : g' ≠ g := fun e => hne ht (by rw [e])
  exact ⟨g', rfl, hg, (setRow_apartR hn cs).trans hk⟩
def ParR (F V1 V2 : Value) (A B : List Nat) (wa : World) (d : Nat → Bool) (vs : List Value) (w : World) : Prop :=
  (d 0 = true → vs[0]?.getD undef = F) ∧ (d 1 = true → vs[1]?.getD undef = V1) ∧ (d 2 = true → vs[2]?.getD undef = .agg (cellsW A)) ∧ (d 3 = true → vs[3]?.getD undef = F) ∧ (d 4 = true → vs[4]?.getD undef = V2) ∧ (d 5 = true → vs[5]?.getD undef = .agg (cellsW B)) ∧ OwnR (d 6) (d 8) (vs[6]?.getD undef) wa.heap.size A w ∧ OwnR (d 7) (d 9) (vs[7]?.getD undef) wa.heap.size B w ∧ (d 6 = true → d 7 = true → vs[6]?.getD undef ≠ vs[7]?.getD undef) ∧ Below wa.heap.size wa w
def CallJ (V : Value) (kz : Int) (k x y n : Nat) (E : Int) (g1 g2 : Nat) (wa : World) (d : Nat → Bool) (vs : List Value) (w : World) : Prop :=
  (d 0 = true → vs[0]?.getD undef = V) ∧ (d 1 = true → vs[1]?.getD undef = .int .i64 kz) ∧ (d 2 = true → vs[2]?.getD undef = .pointer (some ⟨g1, k, none⟩)) ∧ (d 3 = true → vs[3]?.getD undef = .int .u64 (x : Int)) ∧ (d 4 = true → vs[4]?.getD undef = .int .i64 kz) ∧ (d 5 = true → vs[5]?.getD undef = .pointer (some ⟨g2, k, none⟩)) ∧ (d 6 = true → vs[6]?.getD undef = .int .u64 (y : Int)) ∧ (d 7 = true → vs[7]?.getD undef = .tuple #[.int .u64 (n : Int), .int .i64 E]) ∧ (d 8 = true → vs[8]?.getD undef = .tuple #[.int .u64 (n : Int), .int .i64 E]) ∧ (d 9 = true → vs[9]?.getD undef = .int .u64 (n : Int)) ∧ (d 10 = true → vs[10]?.getD undef = .int .i64 E) ∧ (d 11 = true → vs[11]?.getD undef = .int .u64 (n : Int)) ∧ (d 12 = true → vs[12]?.getD undef = .int .i64 E) ∧ Below wa.heap.size wa w

/-- In the loop: the result's block, the two rows, the row of answers. -/
def BothAt (W : World) (g1 g2 g3 : Nat) (A B O : List Nat) (wr : World) : Prop :=
  VBlk wr (W.heap.size + 1 + 1) (0, 0) ∧ RBlk wr g1 A ∧ RBlk wr g2 B ∧ RBlk wr g3 O ∧ Below W.heap.size W wr
theorem BothAt.later {W : World} {g1 g2 g3 : Nat} {A B O : List Nat} {w w' : World} (h : BothAt W g1 g2 g3 A B O w) (hb : Below w.heap.size w w') : BothAt W g1 g2 g3 A B O w' :=
  ⟨h.1.later hb h.1.lt, h.2.1.later hb h.2.1.lt, h.2.2.1.later hb h.2.2.1.lt, h.2.2.2.1.later hb h.2.2.2.1.lt, h.2.2.2.2.trans (hb.mono h.2.2.2.2.size)⟩
theorem BothAt.put {W : World} {g1 g2 g3 : Nat} {A B O : List Nat} {w : World} (h : BothAt W g1 g2 g3 A B O w) (k y : Nat) (hr : W.heap.size + 1 + 1 ≠ g3) (h1 : g1 ≠ g3) (h2 : g2 ≠ g3) (hW : W.heap.size ≤ g3) :
    BothAt W g1 g2 g3 A B (O.set k y) (w.setCell ⟨g3, k, none⟩ (.int .u64 (y : Int))) :=
  ⟨h.1.other hr _ _, h.2.1.other h1 _ _, h.2.2.1.other h2 _ _, h.2.2.2.1.set k y, h.2.2.2.2.setCell hW _⟩
theorem mix_own {A : List Nat} (h : A.length = 4) (R : Nat → Nat) : mixC 4 R (at0 A) 0 = A := by
  rw [mix_zero]
  match A, h with
  | [a, b, c, d], _ => rfl

set_option maxHeartbeats 1000000 in
theorem fboth_refuse (fr to : Int) (a b : Nat × Nat) (g : Nat) (lb : Array Value) (h : isF fr = false ∨ (isF fr = true ∧ isF to = false)) (W : World) :
    Calls Tryd.prog 26 #[.int .i64 fr, .int .i64 to, vecV a, vecV b, .func (.func g) #[] lb] W fun e W' => e = .returned (vecE ((0, 0), 2)) ∧ Below W.heap.size W W' := by
  obtain ⟨wa, hwa⟩ : ∃ wa, ((W.alloc (.cells #[.int .u64 (a.1 : Int), .int .u64 (a.2 : Int)] 25)).alloc (.cells #[.int .u64 (b.1 : Int), .int .u64 (b.2 : Int)] 25)).alloc (.cells #[.int .u64 0, .int .u64 0] 25) = wa := ⟨_, rfl⟩
  have BA : Hide (Below W.heap.size W wa) := hide (by rw [← hwa]; exact ((below_two _ _).alloc (by simp) _).alloc (by simp; omega) _)
  have VZ : Hide (VBlk wa (W.heap.size + 1 + 1) (0, 0)) := hide (by rw [← hwa]; exact alloc_at (by simp))
  have C1 := fun W => fisWidth_calls fr W
  have C2 := fun W => fisWidth_calls to W
  have HWA := hide hwa
  obtain ⟨a0, a1⟩ := a
  obtain ⟨b0, b1⟩ := b
  unfold vecE vecV
  clear hwa
  rcases h with h | ⟨h, h'⟩
  · rw [h] at C1
    have C1 := hide C1
    clear h C2
    go_enter Tryd.func26, Tryd.ntmps26
    go_wp2_with fail
    rw [HWA.out]
    refine (C1.out _).mono ?_
    rintro e w1 ⟨rfl, hb⟩
    have K1 : Hide (VBlk w1 (W.heap.size + 1 + 1) (0, 0)) := hide (VZ.out.later hb VZ.out.lt)
    have K2 : Hide (Below W.heap.size W w1) := hide (BA.out.trans (hb.mono BA.out.size))
    have g0 := K1.out.c0
    have g1 := K1.out.c1
    have z0 := K1.out.frozen 0
    have z1 := K1.out.frozen 1
    clear hb
    go_wp2
    refine bodyPost_ret (v := .tuple #[.agg #[.int .u64 (0 : Int), .int .u64 (0 : Int)], .int .i64 2]) ((K1.out.set2 0 0).result2 (by rfl) _ rfl rfl) rfl ?_
    exact ⟨rfl, (K2.out.setCell (by simp; try omega) _).setCell (by simp; try omega) _⟩
  · rw [h] at C1
    rw [h'] at C2
    have C1 := hide C1
    have C2 := hide C2
    clear h h'
    go_enter Tryd.func26, Tryd.ntmps26
    go_wp2_with fail
    rw [HWA.out]
    refine (C1.out _).mono ?_
    rintro e w1 ⟨rfl, hb⟩
    have K1 : Hide (VBlk w1 (W.heap.size + 1 + 1) (0, 0)) := hide (VZ.out.later hb VZ.out.lt)
    have K2 : Hide (Below W.heap.size W w1) := hide (BA.out.trans (hb.mono BA.out.size))
    clear hb
    go_wp2_with fail
    refine (C2.out _).mono ?_
    rintro e w2 ⟨rfl, hb⟩
    have K1 : Hide (VBlk w2 (W.heap.size + 1 + 1) (0, 0)) := hide (K1.out.later hb K1.out.lt)
    have K2 : Hide (Below W.heap.size W w2) := hide (K2.out.trans (hb.mono K2.out.size))
    have g0 := K1.out.c0
    have g1 := K1.out.c1
    have z0 := K1.out.frozen 0
    have z1 := K1.out.frozen 1
    clear hb
    go_wp2
    refine bodyPost_ret (v := .tuple #[.agg #[.int .u64 (0 : Int), .int .u64 (0 : Int)], .int .i64 2]) ((K1.out.set2 0 0).result2 (by rfl) _ rfl rfl) rfl ?_
    exact ⟨rfl, (K2.out.setCell (by simp; try omega) _).setCell (by simp; try omega) _⟩

set_option maxRecDepth 100000 in
set_option maxHeartbeats 4000000 in
theorem fboth_ok_walk (fr to : Int) (cf ct n : Nat) (a b : Nat × Nat) (g : Nat) (lb : Array Value) (eg : Enters g) (A B : List Nat) (hA : A.length = 4) (hB : B.length = 4) (rp rq : Nat)
    (hn : min (cf : Int) (ct : Int) = (n : Int)) (hn4 : n ≤ 4) (hn0 : 0 < n) (R : Nat → Nat) (W : World)
    (h1 : ∀ W', Calls Tryd.prog 57 #[.int .i64 fr] W' fun e W'' => e = .returned (.bool true) ∧ Below W'.heap.size W' W'')
    (h2 : ∀ W', Calls Tryd.prog 57 #[.int .i64 to] W' fun e W'' => e = .returned (.bool true) ∧ Below W'.heap.size W' W'')
    (ha : ∀ W', Below W.heap.size W W' → Calls Tryd.prog 58 #[.int .i64 fr, vecV a] W' fun e W'' => e = .returned (rowV A) ∧ Below W'.heap.size W' W'')
    (hb : ∀ W', Below W.heap.size W W' → Calls Tryd.prog 58 #[.int .i64 fr, vecV b] W' fun e W'' => e = .returned (rowV B) ∧ Below W'.heap.size W' W'')
    (hf : ∀ W', Calls Tryd.prog 59 #[.int .i64 fr] W' fun e W'' => e = .returned (.int .i64 (cf : Int)) ∧ W'' = W')
    (ht : ∀ W', Calls Tryd.prog 59 #[.int .i64 to] W' fun e W'' => e = .returned (.int .i64 (ct : Int)) ∧ W'' = W')
    (hF : Fun2 g lb n A B R 0 W)
    (ho : ∀ W', Below W.heap.size W W' → Calls Tryd.prog 60 #[.int .i64 to, rowV (mixC 4 R (at0 A) n)] W' fun e W'' => e = .returned (vecV (rp, rq)) ∧ Below W'.heap.size W' W'') :
    Calls Tryd.prog 26 #[.int .i64 fr, .int .i64 to, vecV a, vecV b, .func (.func g) #[] lb] W fun e W' => e = .returned (vecE ((rp, rq), 0)) ∧ Below W.heap.size W W' := by
  obtain ⟨wa, hwa⟩ : ∃ wa, ((W.alloc (.cells #[.int .u64 (a.1 : Int), .int .u64 (a.2 : Int)] 25)).alloc (.cells #[.int .u64 (b.1 : Int), .int .u64 (b.2 : Int)] 25)).alloc (.cells #[.int .u64 0, .int .u64 0] 25) = wa := ⟨_, rfl⟩
  have BA0 : Hide (Below W.heap.size W wa) := hide (by rw [← hwa]; exact ((below_two _ _).alloc (by simp) _).alloc (by simp; omega) _)
  have VA0 : Hide (VBlk wa W.heap.size a) := hide (by rw [← hwa]; exact alloc_past (alloc_past (alloc_at rfl)))
  have VB0 : Hide (VBlk wa (W.heap.size + 1) b) := hide (by rw [← hwa]; exact alloc_past (alloc_at (by simp)))
  have VZ0 : Hide (VBlk wa (W.heap.size + 1 + 1) (0, 0)) := hide (by rw [← hwa]; exact alloc_at (by simp))
  have HWA := hide hwa
  have D1 := hide h1
  have D2 := hide h2
  have CA := hide ha
  have CB := hide hb
  have NF := hide hf
  have NT := hide ht
  have HF := hide hF
  have HE := hide eg
  have HA := hide hA
  have HB := hide hB
  have HN4 := hide hn4
  have HN0 := hide hn0
  have CO := hide ho
  clear ho
  clear hwa h1 h2 ha hb hf ht hF eg hA hB hn4 hn0
  obtain ⟨a0, a1⟩ := a
  obtain ⟨b0, b1⟩ := b
  unfold vecV at CA CB CO ⊢
  unfold rowV at CA CB CO
  unfold vecE vecV
  simp only at CA CB CO ⊢
  go_enter Tryd.func26, Tryd.ntmps26
  go_wp2_with fail
  rw [HWA.out]
  refine (D1.out _).mono ?_
  rintro e w1 ⟨rfl, hb⟩
  have VA1 := hide (VA0.out.later hb VA0.out.lt)
  have VB1 := hide (VB0.out.later hb VB0.out.lt)
  have VZ1 := hide (VZ0.out.later hb VZ0.out.lt)
  have BA1 := hide (BA0.out.trans (hb.mono BA0.out.size))
  clear hb VA0 VB0 VZ0 BA0 HWA D1
  go_wp2_with fail
  refine (D2.out _).mono ?_
  rintro e w2 ⟨rfl, hb⟩
  have VA := hide (VA1.out.later hb VA1.out.lt)
  have VB := hide (VB1.out.later hb VB1.out.lt)
  have VZ := hide (VZ1.out.later hb VZ1.out.lt)
  have BA := hide (BA1.out.trans (hb.mono BA1.out.size))
  clear hb VA1 VB1 VZ1 BA1 D2
  have HN := hide hn
  clear hn
  go_wp2_with fail
  refine wp_region_par [27, 28, 29, 30, 31, 32, 12, 13] (ParR (.int .i64 fr) (.agg #[.int .u64 (a0 : Int), .int .u64 (a1 : Int)]) (.agg #[.int .u64 (b0 : Int), .int .u64 (b1 : Int)]) A B w2) (by kernel_rfl) (by kernel_rfl) ?_ ?_ ?_
  · intro vs
    exact ⟨(fun h => by cases h), (fun h => by cases h), (fun h => by cases h), (fun h => by cases h), (fun h => by cases h), (fun h => by cases h), ⟨(fun h => by cases h), (fun h => by cases h)⟩, ⟨(fun h => by cases h), (fun h => by cases h)⟩, (fun h => by cases h), (Below.refl _ _).drew⟩
  · intro d vs w1 hd hl hJ
    match vs, hl with
    | [x0, x1, x2, x3, x4, x5, x6, x7], _ =>
    obtain ⟨j0, j1, j2, j3, j4, j5, o0, o1, u01, jb⟩ := hJ
    simp only [List.getElem?_cons_zero, List.getElem?_cons_succ, Option.some.injEq, Option.getD_some] at j0 j1 j2 j3 j4 j5 o0 o1 u01
    obtain rfl := j0 (hd 0 (by decide))
    obtain rfl := j1 (hd 1 (by decide))
    obtain rfl := j2 (hd 2 (by decide))
    obtain rfl := j3 (hd 3 (by decide))
    obtain rfl := j4 (hd 4 (by decide))
    obtain rfl := j5 (hd 5 (by decide))
    obtain ⟨g1, e1, hg1, hk1⟩ := o0.2 (hd 6 (by decide))
    subst e1
    rw [hd 8 (by decide), if_pos rfl] at hk1
    have K1 := hide hk1
    obtain ⟨g2, e2, hg2, hk2⟩ := o1.2 (hd 7 (by decide))
    subst e2
    rw [hd 9 (by decide), if_pos rfl] at hk2
    have K2 := hide hk2
    have BW := hide (BA.out.trans (jb.mono BA.out.size))
    have ZW := hide (VZ.out.later jb VZ.out.lt)
    clear hd hl jb j0 j1 j2 j3 j4 j5 o0 o1 u01 hk1 hk2 hg1 hg2
    simp only [putL, Act.put, List.setIfInBounds_toArray, List.set_cons_succ, List.set_cons_zero]
    have HG1 : Hide (g1 < w1.heap.size) := hide K1.out.lt
    have HG2 : Hide (g2 < w1.heap.size) := hide K2.out.lt
    have HZ : Hide (W.heap.size + 1 + 1 < w1.heap.size) := hide ZW.out.lt
    have AZ : Hide (RBlk (w1.alloc (.cells (cellsW zero4) 62)) w1.heap.size zero4) := hide (alloc_at rfl)
    obtain ⟨w3, hw3⟩ : ∃ w3, (w1.alloc (.cells (cellsW zero4) 62)).setRow w1.heap.size (cellsW A) = w3 := ⟨_, rfl⟩
    have S0 : Hide (BothAt W g1 g2 w1.heap.size A B A w3) := hide (by
      rw [← hw3]
      exact ⟨(setRow_apartR (by have := HZ.out; omega) _).trans (alloc_past ZW.out), (setRow_apartR (by have := HG1.out; omega) _).trans (alloc_past K1.out), (setRow_apartR (by have := HG2.out; omega) _).trans (alloc_past K2.out), setRow_heap _ _ _ _ _ _ AZ.out, below_setRow (BW.out.alloc BW.out.size _) BW.out.size _⟩)
    have HW3 : Hide ((w1.alloc (.cells #[.int .u64 0, .int .u64 0, .int .u64 0, .int .u64 0] 62)).setRow w1.heap.size (cellsW A) = w3) := hide hw3
    clear hw3 VA VB VZ CA CB BA
    go_wp2_with (first | refine wpList_load_row rfl 62 _ rfl g1 rfl 62 (cellsW A) (0, 0) _ K1.out underR rfl (infoR' HA.out) ?_ | refine wpList_store_row rfl 62 _ _ rfl w1.heap.size (cellsW A) rfl rfl 62 (cellsW zero4) AZ.out (infoR' HA.out) (by rw [cellsW_size, cellsW_size, HA.out]; rfl) (cellsW_one A) ?_)
    rw [HW3.out]
    go_wp2_with ((with_reducible refine (NF.out _).mono ?_); rintro e w4 ⟨rfl, hww⟩; replace hww := hww.symm; subst hww)
    go_wp2_with ((with_reducible refine (NT.out _).mono ?_); rintro e w5 ⟨rfl, hww⟩; replace hww := hww.symm; subst hww)
    have hn := HN.out
    go_wp2_with fail
    rw [hn]
    go_loopw [39] (fun x wr => ∃ k : Nat, x = .int .i64 (k : Int) ∧ k ≤ n ∧ BothAt W g1 g2 w1.heap.size A B (mixC 4 R (at0 A) k) wr) (fun x _ => n - (intOf x).toNat)
    case atStart => exact ⟨0, rfl, by omega, by rw [mix_own HA.out]; exact S0.out⟩
    case round =>
      obtain ⟨k, rfl, hk, hr⟩ := hrel
      have H := hide hr
      clear hr S0 hn K1 K2 AZ HW3 BW ZW
      by_cases c : k < n
      · have c1 : (k : Int) < (n : Int) := by omega
        have C2 : Hide ((k : Int) < 4) := hide (by have := HN4.out; omega)
        have X1 : Hide (wr.cell? ⟨g1, k, none⟩ = some (.int .u64 (at0 A k : Int))) := hide (H.out.2.1.cell k (by have := HN4.out; rw [HA.out]; omega))
        have X2 : Hide (wr.cell? ⟨g2, k, none⟩ = some (.int .u64 (at0 B k : Int))) := hide (H.out.2.2.1.cell k (by have := HN4.out; rw [HB.out]; omega))
        have ST := hide (mix_set 4 R (at0 A) k (by have := HN4.out; omega))
        have HC := hide c
        have CF : Hide (∀ W', Below wr.heap.size wr W' → Calls Tryd.prog g (#[.int .u64 (at0 A k : Int), .int .u64 (at0 B k : Int)] ++ lb) W' fun e W'' => e = .returned (.tuple #[.int .u64 (R k : Int), .int .i64 0]) ∧ Below W'.heap.size W' W'') :=
          hide (fun W' hb => HF.out W' k c (H.out.2.2.2.2.trans (hb.mono H.out.2.2.2.2.size)))
        generalize R k = y at *
        generalize at0 A k = xa at *
        generalize at0 B k = xb at *
        go_wp2_with fail
        refine wp_region_par [43, 44, 45, 46, 47, 48, 49, 50, 42, 51, 52, 16, 17] (CallJ (.func (.func g) #[] lb) (k : Int) k xa xb y 0 g1 g2 wr) (by kernel_rfl) (by kernel_rfl) ?_ ?_ ?_
        · intro vs
          exact ⟨(fun h => by cases h), (fun h => by cases h), (fun h => by cases h), (fun h => by cases h), (fun h => by cases h), (fun h => by cases h), (fun h => by cases h), (fun h => by cases h), (fun h => by cases h), (fun h => by cases h), (fun h => by cases h), (fun h => by cases h), (fun h => by cases h), (Below.refl _ _).drew⟩
        · intro d vs w2 hd hl hJ
          match vs, hl with
          | [x0, x1, x2, x3, x4, x5, x6, x7, x8, x9, x10, x11, x12], _ =>
          obtain ⟨j0, j1, j2, j3, j4, j5, j6, j7, j8, j9, j10, j11, j12, jb⟩ := hJ
          simp only [List.getElem?_cons_zero, List.getElem?_cons_succ, Option.some.injEq, Option.getD_some] at j0 j1 j2 j3 j4 j5 j6 j7 j8 j9 j10 j11 j12
          obtain rfl := j0 (hd 0 (by decide))
          obtain rfl := j1 (hd 1 (by decide))
          obtain rfl := j2 (hd 2 (by decide))
          obtain rfl := j3 (hd 3 (by decide))
          obtain rfl := j4 (hd 4 (by decide))
          obtain rfl := j5 (hd 5 (by decide))
          obtain rfl := j6 (hd 6 (by decide))
          obtain rfl := j7 (hd 7 (by decide))
          obtain rfl := j8 (hd 8 (by decide))
          obtain rfl := j9 (hd 9 (by decide))
          obtain rfl := j10 (hd 10 (by decide))
          obtain rfl := j11 (hd 11 (by decide))
          obtain rfl := j12 (hd 12 (by decide))
          have K1 := hide (H.out.later jb)
          clear hd hl jb j0 j1 j2 j3 j4 j5 j6 j7 j8 j9 j10 j11 j12
          simp only [putL, Act.put, List.setIfInBounds_toArray, List.set_cons_succ, List.set_cons_zero]
          have hc : w2.cell? ⟨w1.heap.size, k, none⟩ = some (.int .u64 (at0 (mixC 4 R (at0 A) k) k : Int)) := K1.out.2.2.2.1.cell k (by rw [mix_length]; have := C2.out; omega)
          have hz : w2.frozen? ⟨w1.heap.size, k, none⟩ = false := K1.out.2.2.2.1.frozen k
          have c2 := C2.out
          clear H X1 X2 CF
          go_wp2
          go_roundw
          case rel =>
            exact ⟨k + 1, by go_num, HC.out, by rw [← ST.out]; exact K1.out.put k y (by have := HZ.out; omega) (by have := HG1.out; omega) (by have := HG2.out; omega) (by have := HZ.out; omega)⟩
          case measure => simp [intOf]; omega
        · intro i o ho d vs w hl hJ hi hw
          match vs, hl with
          | [x0, x1, x2, x3, x4, x5, x6, x7, x8, x9, x10, x11, x12], _ =>
          have hin : i < 13 := (List.getElem?_eq_some_iff.1 ho).1
          obtain ⟨j0, j1, j2, j3, j4, j5, j6, j7, j8, j9, j10, j11, j12, jb⟩ := hJ
          simp only [List.getElem?_cons_zero, List.getElem?_cons_succ, Option.some.injEq, Option.getD_some] at j0 j1 j2 j3 j4 j5 j6 j7 j8 j9 j10 j11 j12
          rcases (show i = 0 ∨ i = 1 ∨ i = 2 ∨ i = 3 ∨ i = 4 ∨ i = 5 ∨ i = 6 ∨ i = 7 ∨ i = 8 ∨ i = 9 ∨ i = 10 ∨ i = 11 ∨ i = 12 by omega) with rfl | rfl | rfl | rfl | rfl | rfl | rfl | rfl | rfl | rfl | rfl | rfl | rfl
          · simp only [List.getElem?_cons_zero, List.getElem?_cons_succ, Option.some.injEq] at ho
            subst ho
            simp only [putL, Act.put, List.setIfInBounds_toArray, List.set_cons_succ, List.set_cons_zero]
            go_wp2
            exact ⟨rfl, [_, x1, x2, x3, x4, x5, x6, x7, x8, x9, x10, x11, x12], rfl, (by simp only [putL, Act.put, List.setIfInBounds_toArray, List.set_cons_succ, List.set_cons_zero]), (fun _ => rfl), j1, j2, j3, j4, j5, j6, j7, j8, j9, j10, j11, j12, jb⟩
          · simp only [List.getElem?_cons_zero, List.getElem?_cons_succ, Option.some.injEq] at ho
            subst ho
            simp only [putL, Act.put, List.setIfInBounds_toArray, List.set_cons_succ, List.set_cons_zero]
            go_wp2
            exact ⟨rfl, [x0, _, x2, x3, x4, x5, x6, x7, x8, x9, x10, x11, x12], rfl, (by simp only [putL, Act.put, List.setIfInBounds_toArray, List.set_cons_succ, List.set_cons_zero]), j0, (fun _ => rfl), j2, j3, j4, j5, j6, j7, j8, j9, j10, j11, j12, jb⟩
          · simp only [List.getElem?_cons_zero, List.getElem?_cons_succ, Option.some.injEq] at ho
            subst ho
            obtain rfl := j1 (List.all_eq_true.1 hw 1 (by decide))
            have c2 := C2.out
            simp only [putL, Act.put, List.setIfInBounds_toArray, List.set_cons_succ, List.set_cons_zero]
            go_wp2
            exact ⟨rfl, [x0, _, _, x3, x4, x5, x6, x7, x8, x9, x10, x11, x12], rfl, (by simp only [putL, Act.put, List.setIfInBounds_toArray, List.set_cons_succ, List.set_cons_zero]), j0, (fun _ => rfl), (fun _ => rfl), j3, j4, j5, j6, j7, j8, j9, j10, j11, j12, jb⟩
          · simp only [List.getElem?_cons_zero, List.getElem?_cons_succ, Option.some.injEq] at ho
            subst ho
            obtain rfl := j2 (List.all_eq_true.1 hw 2 (by decide))
            have h0 := cell_later jb X1.out (Nat.le_refl _)
            simp only [putL, Act.put, List.setIfInBounds_toArray, List.set_cons_succ, List.set_cons_zero] at h0 ⊢
            go_wp2
            exact ⟨rfl, [x0, x1, _, _, x4, x5, x6, x7, x8, x9, x10, x11, x12], rfl, (by simp only [putL, Act.put, List.setIfInBounds_toArray, List.set_cons_succ, List.set_cons_zero]), j0, j1, (fun _ => rfl), (fun _ => rfl), j4, j5, j6, j7, j8, j9, j10, j11, j12, jb⟩
          · simp only [List.getElem?_cons_zero, List.getElem?_cons_succ, Option.some.injEq] at ho
            subst ho
            simp only [putL, Act.put, List.setIfInBounds_toArray, List.set_cons_succ, List.set_cons_zero]
            go_wp2
            exact ⟨rfl, [x0, x1, x2, x3, _, x5, x6, x7, x8, x9, x10, x11, x12], rfl, (by simp only [putL, Act.put, List.setIfInBounds_toArray, List.set_cons_succ, List.set_cons_zero]), j0, j1, j2, j3, (fun _ => rfl), j5, j6, j7, j8, j9, j10, j11, j12, jb⟩
          · simp only [List.getElem?_cons_zero, List.getElem?_cons_succ, Option.some.injEq] at ho
            subst ho
            obtain rfl := j4 (List.all_eq_true.1 hw 4 (by decide))
            have c2 := C2.out
            simp only [putL, Act.put, List.setIfInBounds_toArray, List.set_cons_succ, List.set_cons_zero]
            go_wp2
            exact ⟨rfl, [x0, x1, x2, x3, _, _, x6, x7, x8, x9, x10, x11, x12], rfl, (by simp only [putL, Act.put, List.setIfInBounds_toArray, List.set_cons_succ, List.set_cons_zero]), j0, j1, j2, j3, (fun _ => rfl), (fun _ => rfl), j6, j7, j8, j9, j10, j11, j12, jb⟩
          · simp only [List.getElem?_cons_zero, List.getElem?_cons_succ, Option.some.injEq] at ho
            subst ho
            obtain rfl := j5 (List.all_eq_true.1 hw 5 (by decide))
            have h0 := cell_later jb X2.out (Nat.le_refl _)
            simp only [putL, Act.put, List.setIfInBounds_toArray, List.set_cons_succ, List.set_cons_zero] at h0 ⊢
            go_wp2
            exact ⟨rfl, [x0, x1, x2, x3, x4, _, _, x7, x8, x9, x10, x11, x12], rfl, (by simp only [putL, Act.put, List.setIfInBounds_toArray, List.set_cons_succ, List.set_cons_zero]), j0, j1, j2, j3, j4, (fun _ => rfl), (fun _ => rfl), j7, j8, j9, j10, j11, j12, jb⟩
          · simp only [List.getElem?_cons_zero, List.getElem?_cons_succ, Option.some.injEq] at ho
            subst ho
            obtain rfl := j0 (List.all_eq_true.1 hw 0 (by decide))
            obtain rfl := j3 (List.all_eq_true.1 hw 3 (by decide))
            obtain rfl := j6 (List.all_eq_true.1 hw 6 (by decide))
            have eg := HE.out
            unfold Enters at eg
            simp only [putL, Act.put, List.setIfInBounds_toArray, List.set_cons_succ, List.set_cons_zero]
            go_wp2_with (go_at_fn g; refine (CF.out _ jb).mono ?_; rintro e w1 ⟨rfl, hb⟩)
            exact ⟨rfl, [_, x1, x2, _, x4, x5, _, _, x8, x9, x10, x11, x12], rfl, (by simp only [putL, Act.put, List.setIfInBounds_toArray, List.set_cons_succ, List.set_cons_zero]), (fun _ => rfl), j1, j2, (fun _ => rfl), j4, j5, (fun _ => rfl), (fun _ => rfl), j8, j9, j10, j11, j12, (jb.trans (hb.mono jb.size))⟩
          · simp only [List.getElem?_cons_zero, List.getElem?_cons_succ, Option.some.injEq] at ho
            subst ho
            obtain rfl := j7 (List.all_eq_true.1 hw 7 (by decide))
            simp only [putL, Act.put, List.setIfInBounds_toArray, List.set_cons_succ, List.set_cons_zero]
            go_wp2
            exact ⟨rfl, [x0, x1, x2, x3, x4, x5, x6, _, _, x9, x10, x11, x12], rfl, (by simp only [putL, Act.put, List.setIfInBounds_toArray, List.set_cons_succ, List.set_cons_zero]), j0, j1, j2, j3, j4, j5, j6, (fun _ => rfl), (fun _ => rfl), j9, j10, j11, j12, jb⟩
          · simp only [List.getElem?_cons_zero, List.getElem?_cons_succ, Option.some.injEq] at ho
            subst ho
            obtain rfl := j8 (List.all_eq_true.1 hw 8 (by decide))
            simp only [putL, Act.put, List.setIfInBounds_toArray, List.set_cons_succ, List.set_cons_zero]
            go_wp2
            exact ⟨rfl, [x0, x1, x2, x3, x4, x5, x6, x7, _, _, x10, x11, x12], rfl, (by simp only [putL, Act.put, List.setIfInBounds_toArray, List.set_cons_succ, List.set_cons_zero]), j0, j1, j2, j3, j4, j5, j6, j7, (fun _ => rfl), (fun _ => rfl), j10, j11, j12, jb⟩
          · simp only [List.getElem?_cons_zero, List.getElem?_cons_succ, Option.some.injEq] at ho
            subst ho
            obtain rfl := j8 (List.all_eq_true.1 hw 8 (by decide))
            simp only [putL, Act.put, List.setIfInBounds_toArray, List.set_cons_succ, List.set_cons_zero]
            go_wp2
            exact ⟨rfl, [x0, x1, x2, x3, x4, x5, x6, x7, _, x9, _, x11, x12], rfl, (by simp only [putL, Act.put, List.setIfInBounds_toArray, List.set_cons_succ, List.set_cons_zero]), j0, j1, j2, j3, j4, j5, j6, j7, (fun _ => rfl), j9, (fun _ => rfl), j11, j12, jb⟩
          · simp only [List.getElem?_cons_zero, List.getElem?_cons_succ, Option.some.injEq] at ho
            subst ho
            obtain rfl := j9 (List.all_eq_true.1 hw 9 (by decide))
            simp only [putL, Act.put, List.setIfInBounds_toArray, List.set_cons_succ, List.set_cons_zero]
            go_wp2
            exact ⟨rfl, [x0, x1, x2, x3, x4, x5, x6, x7, x8, _, x10, _, x12], rfl, (by simp only [putL, Act.put, List.setIfInBounds_toArray, List.set_cons_succ, List.set_cons_zero]), j0, j1, j2, j3, j4, j5, j6, j7, j8, (fun _ => rfl), j10, (fun _ => rfl), j12, jb⟩
          · simp only [List.getElem?_cons_zero, List.getElem?_cons_succ, Option.some.injEq] at ho
            subst ho
            obtain rfl := j10 (List.all_eq_true.1 hw 10 (by decide))
            simp only [putL, Act.put, List.setIfInBounds_toArray, List.set_cons_succ, List.set_cons_zero]
            go_wp2
            exact ⟨rfl, [x0, x1, x2, x3, x4, x5, x6, x7, x8, x9, _, x11, _], rfl, (by simp only [putL, Act.put, List.setIfInBounds_toArray, List.set_cons_succ, List.set_cons_zero]), j0, j1, j2, j3, j4, j5, j6, j7, j8, j9, (fun _ => rfl), j11, (fun _ => rfl), jb⟩
      · obtain rfl : k = n := by omega
        have hl := mix_length 4 R (at0 A) k
        have CC := hide (CO.out wr H.out.2.2.2.2)
        obtain ⟨O, hO⟩ : ∃ O, mixC 4 R (at0 A) k = O := ⟨_, rfl⟩
        rw [hO] at hl CC
        have RO : Hide (RBlk wr w1.heap.size O) := hide (by rw [← hO]; exact H.out.2.2.2.1)
        have HO := hide hl
        clear hl hO CO
        go_wp2_with (refine wpList_load_row rfl 62 _ rfl w1.heap.size rfl 62 (cellsW O) (0, 0) _ RO.out underR rfl (infoR' HO.out) ?_)
        refine CC.out.mono ?_
        rintro e w2 ⟨rfl, hb⟩
        have K1 : Hide (VBlk w2 (W.heap.size + 1 + 1) (0, 0)) := hide (H.out.1.later hb H.out.1.lt)
        have K2 : Hide (Below W.heap.size W w2) := hide (H.out.2.2.2.2.trans (hb.mono H.out.2.2.2.2.size))
        have g0 := K1.out.c0
        have g1 := K1.out.c1
        have z0 := K1.out.frozen 0
        have z1 := K1.out.frozen 1
        clear hb
        go_wp2
        refine bodyPost_ret (v := .tuple #[.agg #[.int .u64 (rp : Int), .int .u64 (rq : Int)], .int .i64 0]) ((K1.out.set2 rp rq).result2 (by rfl) _ rfl rfl) rfl ?_
        exact ⟨rfl, (K2.out.setCell (by simp; try omega) _).setCell (by simp; try omega) _⟩
  · intro i o ho d vs w hl hJ hi hw
    match vs, hl with
    | [x0, x1, x2, x3, x4, x5, x6, x7], _ =>
    have hin : i < 10 := (List.getElem?_eq_some_iff.1 ho).1
    obtain ⟨j0, j1, j2, j3, j4, j5, o0, o1, u01, jb⟩ := hJ
    simp only [List.getElem?_cons_zero, List.getElem?_cons_succ, Option.some.injEq, Option.getD_some] at j0 j1 j2 j3 j4 j5 o0 o1 u01
    rcases (show i = 0 ∨ i = 1 ∨ i = 2 ∨ i = 3 ∨ i = 4 ∨ i = 5 ∨ i = 6 ∨ i = 7 ∨ i = 8 ∨ i = 9 by omega) with rfl | rfl | rfl | rfl | rfl | rfl | rfl | rfl | rfl | rfl
    · simp only [List.getElem?_cons_zero, List.getElem?_cons_succ, Option.some.injEq] at ho
      subst ho
      simp only [putL, Act.put, List.setIfInBounds_toArray, List.set_cons_succ, List.set_cons_zero]
      go_wp2
      exact ⟨rfl, [_, x1, x2, x3, x4, x5, x6, x7], rfl, (by simp only [putL, Act.put, List.setIfInBounds_toArray, List.set_cons_succ, List.set_cons_zero]), (fun _ => rfl), j1, j2, j3, j4, j5, o0, o1, u01, jb⟩
    · simp only [List.getElem?_cons_zero, List.getElem?_cons_succ, Option.some.injEq] at ho
      subst ho
      have h0 := (VA.out.later jb VA.out.lt).c0
      have h1 := (VA.out.later jb VA.out.lt).c1
      simp only [putL, Act.put, List.setIfInBounds_toArray, List.set_cons_succ, List.set_cons_zero] at h0 h1 ⊢
      go_wp2
      exact ⟨rfl, [x0, _, x2, x3, x4, x5, x6, x7], rfl, (by simp only [putL, Act.put, List.setIfInBounds_toArray, List.set_cons_succ, List.set_cons_zero]), j0, (fun _ => rfl), j2, j3, j4, j5, o0, o1, u01, jb⟩
    · simp only [List.getElem?_cons_zero, List.getElem?_cons_succ, Option.some.injEq] at ho
      subst ho
      obtain rfl := j0 (List.all_eq_true.1 hw 0 (by decide))
      obtain rfl := j1 (List.all_eq_true.1 hw 1 (by decide))
      simp only [putL, Act.put, List.setIfInBounds_toArray, List.set_cons_succ, List.set_cons_zero]
      go_wp2_with ((with_reducible refine (CA.out _ (BA.out.trans (jb.mono BA.out.size))).mono ?_); rintro e w1 ⟨rfl, hb⟩)
      exact ⟨rfl, [_, _, _, x3, x4, x5, x6, x7], rfl, (by simp only [putL, Act.put, List.setIfInBounds_toArray, List.set_cons_succ, List.set_cons_zero]), (fun _ => rfl), (fun _ => rfl), (fun _ => rfl), j3, j4, j5, (o0.later hb), (o1.later hb), u01, (jb.trans (hb.mono jb.size))⟩
    · simp only [List.getElem?_cons_zero, List.getElem?_cons_succ, Option.some.injEq] at ho
      subst ho
      simp only [putL, Act.put, List.setIfInBounds_toArray, List.set_cons_succ, List.set_cons_zero]
      go_wp2
      exact ⟨rfl, [x0, x1, x2, _, x4, x5, x6, x7], rfl, (by simp only [putL, Act.put, List.setIfInBounds_toArray, List.set_cons_succ, List.set_cons_zero]), j0, j1, j2, (fun _ => rfl), j4, j5, o0, o1, u01, jb⟩
    · simp only [List.getElem?_cons_zero, List.getElem?_cons_succ, Option.some.injEq] at ho
      subst ho
      have h0 := (VB.out.later jb VB.out.lt).c0
      have h1 := (VB.out.later jb VB.out.lt).c1
      simp only [putL, Act.put, List.setIfInBounds_toArray, List.set_cons_succ, List.set_cons_zero] at h0 h1 ⊢
      go_wp2
      exact ⟨rfl, [x0, x1, x2, x3, _, x5, x6, x7], rfl, (by simp only [putL, Act.put, List.setIfInBounds_toArray, List.set_cons_succ, List.set_cons_zero]), j0, j1, j2, j3, (fun _ => rfl), j5, o0, o1, u01, jb⟩
    · simp only [List.getElem?_cons_zero, List.getElem?_cons_succ, Option.some.injEq] at ho
      subst ho
      obtain rfl := j3 (List.all_eq_true.1 hw 3 (by decide))
      obtain rfl := j4 (List.all_eq_true.1 hw 4 (by decide))
      simp only [putL, Act.put, List.setIfInBounds_toArray, List.set_cons_succ, List.set_cons_zero]
      go_wp2_with ((with_reducible refine (CB.out _ (BA.out.trans (jb.mono BA.out.size))).mono ?_); rintro e w1 ⟨rfl, hb⟩)
      exact ⟨rfl, [x0, x1, x2, _, _, _, x6, x7], rfl, (by simp only [putL, Act.put, List.setIfInBounds_toArray, List.set_cons_succ, List.set_cons_zero]), j0, j1, j2, (fun _ => rfl), (fun _ => rfl), (fun _ => rfl), (o0.later hb), (o1.later hb), u01, (jb.trans (hb.mono jb.size))⟩
    · simp only [List.getElem?_cons_zero, List.getElem?_cons_succ, Option.some.injEq] at ho
      subst ho
      simp only [putL, Act.put, List.setIfInBounds_toArray, List.set_cons_succ, List.set_cons_zero]
      go_wp2
      exact ⟨rfl, [x0, x1, x2, x3, x4, x5, _, x7], rfl, (by simp only [putL, Act.put, List.setIfInBounds_toArray, List.set_cons_succ, List.set_cons_zero]), j0, j1, j2, j3, j4, j5, (o0.fresh hi jb.size (alloc_at rfl)), (o1.later (below_two w _)), (fun _ h => Ne.symm (o1.ne h rfl)), (jb.alloc jb.size _)⟩
    · simp only [List.getElem?_cons_zero, List.getElem?_cons_succ, Option.some.injEq] at ho
      subst ho
      simp only [putL, Act.put, List.setIfInBounds_toArray, List.set_cons_succ, List.set_cons_zero]
      go_wp2
      exact ⟨rfl, [x0, x1, x2, x3, x4, x5, x6, _], rfl, (by simp only [putL, Act.put, List.setIfInBounds_toArray, List.set_cons_succ, List.set_cons_zero]), j0, j1, j2, j3, j4, j5, (o0.later (below_two w _)), (o1.fresh hi jb.size (alloc_at rfl)), (fun h _ => (o0.ne h rfl)), (jb.alloc jb.size _)⟩
    · simp only [List.getElem?_cons_zero, List.getElem?_cons_succ, Option.some.injEq] at ho
      subst ho
      have hd : d 6 = true := List.all_eq_true.1 hw 6 (by decide)
      obtain rfl := j2 (List.all_eq_true.1 hw 2 (by decide))
      obtain ⟨g, rfl, hg, hk⟩ := o0.2 hd
      rw [hi] at hk
      have HK := hide hk
      clear hk
      simp only [putL, Act.put, List.setIfInBounds_toArray, List.set_cons_succ, List.set_cons_zero]
      go_wp2_with (refine wpList_store_row rfl 62 _ _ rfl g (cellsW A) rfl rfl 62 (cellsW zero4) HK.out (infoR' HA.out) (by rw [cellsW_size, cellsW_size, HA.out]; rfl) (cellsW_one A) ?_)
      exact ⟨rfl, [x0, x1, _, x3, x4, x5, _, x7], rfl, (by simp only [putL, Act.put, List.setIfInBounds_toArray, List.set_cons_succ, List.set_cons_zero]), j0, j1, (fun _ => rfl), j3, j4, j5, ⟨fun _ => hd, fun _ => ⟨g, rfl, hg, setRow_heap _ _ _ _ _ _ HK.out⟩⟩, (o1.other fun h => u01 hd h), u01, (below_setRow jb hg _)⟩
    · simp only [List.getElem?_cons_zero, List.getElem?_cons_succ, Option.some.injEq] at ho
      subst ho
      have hd : d 7 = true := List.all_eq_true.1 hw 7 (by decide)
      obtain rfl := j5 (List.all_eq_true.1 hw 5 (by decide))
      obtain ⟨g, rfl, hg, hk⟩ := o1.2 hd
      rw [hi] at hk
      have HK := hide hk
      clear hk
      simp only [putL, Act.put, List.setIfInBounds_toArray, List.set_cons_succ, List.set_cons_zero]
      go_wp2_with (refine wpList_store_row rfl 62 _ _ rfl g (cellsW B) rfl rfl 62 (cellsW zero4) HK.out (infoR' HB.out) (by rw [cellsW_size, cellsW_size, HB.out]; rfl) (cellsW_one B) ?_)
      exact ⟨rfl, [x0, x1, x2, x3, x4, _, x6, _], rfl, (by simp only [putL, Act.put, List.setIfInBounds_toArray, List.set_cons_succ, List.set_cons_zero]), j0, j1, j2, j3, j4, (fun _ => rfl), (o0.other fun h => Ne.symm (u01 h hd)), ⟨fun _ => hd, fun _ => ⟨g, rfl, hg, setRow_heap _ _ _ _ _ _ HK.out⟩⟩, u01, (below_setRow jb hg _)⟩

set_option maxRecDepth 100000 in
set_option maxHeartbeats 4000000 in
theorem fboth_bad_walk (fr to : Int) (cf ct n : Nat) (a b : Nat × Nat) (g : Nat) (lb : Array Value) (eg : Enters g) (A B : List Nat) (hA : A.length = 4) (hB : B.length = 4)
    (hn : min (cf : Int) (ct : Int) = (n : Int)) (hn4 : n ≤ 4) (hn0 : 0 < n) (R : Nat → Nat) (W : World)
    (h1 : ∀ W', Calls Tryd.prog 57 #[.int .i64 fr] W' fun e W'' => e = .returned (.bool true) ∧ Below W'.heap.size W' W'')
    (h2 : ∀ W', Calls Tryd.prog 57 #[.int .i64 to] W' fun e W'' => e = .returned (.bool true) ∧ Below W'.heap.size W' W'')
    (ha : ∀ W', Below W.heap.size W W' → Calls Tryd.prog 58 #[.int .i64 fr, vecV a] W' fun e W'' => e = .returned (rowV A) ∧ Below W'.heap.size W' W'')
    (hb : ∀ W', Below W.heap.size W W' → Calls Tryd.prog 58 #[.int .i64 fr, vecV b] W' fun e W'' => e = .returned (rowV B) ∧ Below W'.heap.size W' W'')
    (hf : ∀ W', Calls Tryd.prog 59 #[.int .i64 fr] W' fun e W'' => e = .returned (.int .i64 (cf : Int)) ∧ W'' = W')
    (ht : ∀ W', Calls Tryd.prog 59 #[.int .i64 to] W' fun e W'' => e = .returned (.int .i64 (ct : Int)) ∧ W'' = W')
    (hF : Fun2 g lb n A B R 2 W) :
    Calls Tryd.prog 26 #[.int .i64 fr, .int .i64 to, vecV a, vecV b, .func (.func g) #[] lb] W fun e W' => e = .returned (vecE ((0, 0), 2)) ∧ Below W.heap.size W W' := by
  obtain ⟨wa, hwa⟩ : ∃ wa, ((W.alloc (.cells #[.int .u64 (a.1 : Int), .int .u64 (a.2 : Int)] 25)).alloc (.cells #[.int .u64 (b.1 : Int), .int .u64 (b.2 : Int)] 25)).alloc (.cells #[.int .u64 0, .int .u64 0] 25) = wa := ⟨_, rfl⟩
  have BA0 : Hide (Below W.heap.size W wa) := hide (by rw [← hwa]; exact ((below_two _ _).alloc (by simp) _).alloc (by simp; omega) _)
  have VA0 : Hide (VBlk wa W.heap.size a) := hide (by rw [← hwa]; exact alloc_past (alloc_past (alloc_at rfl)))
  have VB0 : Hide (VBlk wa (W.heap.size + 1) b) := hide (by rw [← hwa]; exact alloc_past (alloc_at (by simp)))
  have VZ0 : Hide (VBlk wa (W.heap.size + 1 + 1) (0, 0)) := hide (by rw [← hwa]; exact alloc_at (by simp))
  have HWA := hide hwa
  have D1 := hide h1
  have D2 := hide h2
  have CA := hide ha
  have CB := hide hb
  have NF := hide hf
  have NT := hide ht
  have HF := hide hF
  have HE := hide eg
  have HA := hide hA
  have HB := hide hB
  have HN4 := hide hn4
  have HN0 := hide hn0
  clear hwa h1 h2 ha hb hf ht hF eg hA hB hn4 hn0
  obtain ⟨a0, a1⟩ := a
  obtain ⟨b0, b1⟩ := b
  unfold vecV at CA CB ⊢
  unfold rowV at CA CB 
  unfold vecE vecV
  simp only at CA CB ⊢
  go_enter Tryd.func26, Tryd.ntmps26
  go_wp2_with fail
  rw [HWA.out]
  refine (D1.out _).mono ?_
  rintro e w1 ⟨rfl, hb⟩
  have VA1 := hide (VA0.out.later hb VA0.out.lt)
  have VB1 := hide (VB0.out.later hb VB0.out.lt)
  have VZ1 := hide (VZ0.out.later hb VZ0.out.lt)
  have BA1 := hide (BA0.out.trans (hb.mono BA0.out.size))
  clear hb VA0 VB0 VZ0 BA0 HWA D1
  go_wp2_with fail
  refine (D2.out _).mono ?_
  rintro e w2 ⟨rfl, hb⟩
  have VA := hide (VA1.out.later hb VA1.out.lt)
  have VB := hide (VB1.out.later hb VB1.out.lt)
  have VZ := hide (VZ1.out.later hb VZ1.out.lt)
  have BA := hide (BA1.out.trans (hb.mono BA1.out.size))
  clear hb VA1 VB1 VZ1 BA1 D2
  have HN := hide hn
  clear hn
  go_wp2_with fail
  refine wp_region_par [27, 28, 29, 30, 31, 32, 12, 13] (ParR (.int .i64 fr) (.agg #[.int .u64 (a0 : Int), .int .u64 (a1 : Int)]) (.agg #[.int .u64 (b0 : Int), .int .u64 (b1 : Int)]) A B w2) (by kernel_rfl) (by kernel_rfl) ?_ ?_ ?_
  · intro vs
    exact ⟨(fun h => by cases h), (fun h => by cases h), (fun h => by cases h), (fun h => by cases h), (fun h => by cases h), (fun h => by cases h), ⟨(fun h => by cases h), (fun h => by cases h)⟩, ⟨(fun h => by cases h), (fun h => by cases h)⟩, (fun h => by cases h), (Below.refl _ _).drew⟩
  · intro d vs w1 hd hl hJ
    match vs, hl with
    | [x0, x1, x2, x3, x4, x5, x6, x7], _ =>
    obtain ⟨j0, j1, j2, j3, j4, j5, o0, o1, u01, jb⟩ := hJ
    simp only [List.getElem?_cons_zero, List.getElem?_cons_succ, Option.some.injEq, Option.getD_some] at j0 j1 j2 j3 j4 j5 o0 o1 u01
    obtain rfl := j0 (hd 0 (by decide))
    obtain rfl := j1 (hd 1 (by decide))
    obtain rfl := j2 (hd 2 (by decide))
    obtain rfl := j3 (hd 3 (by decide))
    obtain rfl := j4 (hd 4 (by decide))
    obtain rfl := j5 (hd 5 (by decide))
    obtain ⟨g1, e1, hg1, hk1⟩ := o0.2 (hd 6 (by decide))
    subst e1
    rw [hd 8 (by decide), if_pos rfl] at hk1
    have K1 := hide hk1
    obtain ⟨g2, e2, hg2, hk2⟩ := o1.2 (hd 7 (by decide))
    subst e2
    rw [hd 9 (by decide), if_pos rfl] at hk2
    have K2 := hide hk2
    have BW := hide (BA.out.trans (jb.mono BA.out.size))
    have ZW := hide (VZ.out.later jb VZ.out.lt)
    clear hd hl jb j0 j1 j2 j3 j4 j5 o0 o1 u01 hk1 hk2 hg1 hg2
    simp only [putL, Act.put, List.setIfInBounds_toArray, List.set_cons_succ, List.set_cons_zero]
    have HG1 : Hide (g1 < w1.heap.size) := hide K1.out.lt
    have HG2 : Hide (g2 < w1.heap.size) := hide K2.out.lt
    have HZ : Hide (W.heap.size + 1 + 1 < w1.heap.size) := hide ZW.out.lt
    have AZ : Hide (RBlk (w1.alloc (.cells (cellsW zero4) 62)) w1.heap.size zero4) := hide (alloc_at rfl)
    obtain ⟨w3, hw3⟩ : ∃ w3, (w1.alloc (.cells (cellsW zero4) 62)).setRow w1.heap.size (cellsW A) = w3 := ⟨_, rfl⟩
    have S0 : Hide (BothAt W g1 g2 w1.heap.size A B A w3) := hide (by
      rw [← hw3]
      exact ⟨(setRow_apartR (by have := HZ.out; omega) _).trans (alloc_past ZW.out), (setRow_apartR (by have := HG1.out; omega) _).trans (alloc_past K1.out), (setRow_apartR (by have := HG2.out; omega) _).trans (alloc_past K2.out), setRow_heap _ _ _ _ _ _ AZ.out, below_setRow (BW.out.alloc BW.out.size _) BW.out.size _⟩)
    have HW3 : Hide ((w1.alloc (.cells #[.int .u64 0, .int .u64 0, .int .u64 0, .int .u64 0] 62)).setRow w1.heap.size (cellsW A) = w3) := hide hw3
    clear hw3 VA VB VZ CA CB BA
    go_wp2_with (first | refine wpList_load_row rfl 62 _ rfl g1 rfl 62 (cellsW A) (0, 0) _ K1.out underR rfl (infoR' HA.out) ?_ | refine wpList_store_row rfl 62 _ _ rfl w1.heap.size (cellsW A) rfl rfl 62 (cellsW zero4) AZ.out (infoR' HA.out) (by rw [cellsW_size, cellsW_size, HA.out]; rfl) (cellsW_one A) ?_)
    rw [HW3.out]
    go_wp2_with ((with_reducible refine (NF.out _).mono ?_); rintro e w4 ⟨rfl, hww⟩; replace hww := hww.symm; subst hww)
    go_wp2_with ((with_reducible refine (NT.out _).mono ?_); rintro e w5 ⟨rfl, hww⟩; replace hww := hww.symm; subst hww)
    have hn := HN.out
    go_wp2_with fail
    rw [hn]
    go_loopw [39] (fun x wr => x = .int .i64 0 ∧ BothAt W g1 g2 w1.heap.size A B A wr) (fun x _ => 0)
    case atStart => exact ⟨rfl, S0.out⟩
    case round =>
      obtain ⟨rfl, hr⟩ := hrel
      have H := hide hr
      clear hr S0 hn K1 K2 AZ HW3 BW ZW
      have c1 : 0 < n := HN0.out
      have C2 : Hide ((0 : Int) < 4) := hide (by omega)
      have X1 : Hide (wr.cell? ⟨g1, 0, none⟩ = some (.int .u64 (at0 A 0 : Int))) := hide (H.out.2.1.cell 0 (by rw [HA.out]; omega))
      have X2 : Hide (wr.cell? ⟨g2, 0, none⟩ = some (.int .u64 (at0 B 0 : Int))) := hide (H.out.2.2.1.cell 0 (by rw [HB.out]; omega))
      have CF : Hide (∀ W', Below wr.heap.size wr W' → Calls Tryd.prog g (#[.int .u64 (at0 A 0 : Int), .int .u64 (at0 B 0 : Int)] ++ lb) W' fun e W'' => e = .returned (.tuple #[.int .u64 (R 0 : Int), .int .i64 2]) ∧ Below W'.heap.size W' W'') :=
        hide (fun W' hb => HF.out W' 0 HN0.out (H.out.2.2.2.2.trans (hb.mono H.out.2.2.2.2.size)))
      generalize R 0 = y at *
      generalize at0 A 0 = xa at *
      generalize at0 B 0 = xb at *
      go_wp2_with fail
      refine wp_region_par [43, 44, 45, 46, 47, 48, 49, 50, 42, 51, 52, 16, 17] (CallJ (.func (.func g) #[] lb) 0 0 xa xb y 2 g1 g2 wr) (by kernel_rfl) (by kernel_rfl) ?_ ?_ ?_
      · intro vs
        exact ⟨(fun h => by cases h), (fun h => by cases h), (fun h => by cases h), (fun h => by cases h), (fun h => by cases h), (fun h => by cases h), (fun h => by cases h), (fun h => by cases h), (fun h => by cases h), (fun h => by cases h), (fun h => by cases h), (fun h => by cases h), (fun h => by cases h), (Below.refl _ _).drew⟩
      · intro d vs w2 hd hl hJ
        match vs, hl with
        | [x0, x1, x2, x3, x4, x5, x6, x7, x8, x9, x10, x11, x12], _ =>
        obtain ⟨j0, j1, j2, j3, j4, j5, j6, j7, j8, j9, j10, j11, j12, jb⟩ := hJ
        simp only [List.getElem?_cons_zero, List.getElem?_cons_succ, Option.some.injEq, Option.getD_some] at j0 j1 j2 j3 j4 j5 j6 j7 j8 j9 j10 j11 j12
        obtain rfl := j0 (hd 0 (by decide))
        obtain rfl := j1 (hd 1 (by decide))
        obtain rfl := j2 (hd 2 (by decide))
        obtain rfl := j3 (hd 3 (by decide))
        obtain rfl := j4 (hd 4 (by decide))
        obtain rfl := j5 (hd 5 (by decide))
        obtain rfl := j6 (hd 6 (by decide))
        obtain rfl := j7 (hd 7 (by decide))
        obtain rfl := j8 (hd 8 (by decide))
        obtain rfl := j9 (hd 9 (by decide))
        obtain rfl := j10 (hd 10 (by decide))
        obtain rfl := j11 (hd 11 (by decide))
        obtain rfl := j12 (hd 12 (by decide))
        have K1 := hide (H.out.later jb)
        clear hd hl jb j0 j1 j2 j3 j4 j5 j6 j7 j8 j9 j10 j11 j12
        simp only [putL, Act.put, List.setIfInBounds_toArray, List.set_cons_succ, List.set_cons_zero]
        have K2 : Hide (Below W.heap.size W w2) := hide K1.out.2.2.2.2
        have g0 := K1.out.1.c0
        have g1 := K1.out.1.c1
        have z0 := K1.out.1.frozen 0
        have z1 := K1.out.1.frozen 1
        clear H X1 X2 CF
        go_wp2
        refine bodyPost_ret (v := .tuple #[.agg #[.int .u64 (0 : Int), .int .u64 (0 : Int)], .int .i64 2]) ((K1.out.1.set2 0 0).result2 (by rfl) _ rfl rfl) rfl ?_
        exact ⟨rfl, (K2.out.setCell (by simp; try omega) _).setCell (by simp; try omega) _⟩
      · intro i o ho d vs w hl hJ hi hw
        match vs, hl with
        | [x0, x1, x2, x3, x4, x5, x6, x7, x8, x9, x10, x11, x12], _ =>
        have hin : i < 13 := (List.getElem?_eq_some_iff.1 ho).1
        obtain ⟨j0, j1, j2, j3, j4, j5, j6, j7, j8, j9, j10, j11, j12, jb⟩ := hJ
        simp only [List.getElem?_cons_zero, List.getElem?_cons_succ, Option.some.injEq, Option.getD_some] at j0 j1 j2 j3 j4 j5 j6 j7 j8 j9 j10 j11 j12
        rcases (show i = 0 ∨ i = 1 ∨ i = 2 ∨ i = 3 ∨ i = 4 ∨ i = 5 ∨ i = 6 ∨ i = 7 ∨ i = 8 ∨ i = 9 ∨ i = 10 ∨ i = 11 ∨ i = 12 by omega) with rfl | rfl | rfl | rfl | rfl | rfl | rfl | rfl | rfl | rfl | rfl | rfl | rfl
        · simp only [List.getElem?_cons_zero, List.getElem?_cons_succ, Option.some.injEq] at ho
          subst ho
          simp only [putL, Act.put, List.setIfInBounds_toArray, List.set_cons_succ, List.set_cons_zero]
          go_wp2
          exact ⟨rfl, [_, x1, x2, x3, x4, x5, x6, x7, x8, x9, x10, x11, x12], rfl, (by simp only [putL, Act.put, List.setIfInBounds_toArray, List.set_cons_succ, List.set_cons_zero]), (fun _ => rfl), j1, j2, j3, j4, j5, j6, j7, j8, j9, j10, j11, j12, jb⟩
        · simp only [List.getElem?_cons_zero, List.getElem?_cons_succ, Option.some.injEq] at ho
          subst ho
          simp only [putL, Act.put, List.setIfInBounds_toArray, List.set_cons_succ, List.set_cons_zero]
          go_wp2
          exact ⟨rfl, [x0, _, x2, x3, x4, x5, x6, x7, x8, x9, x10, x11, x12], rfl, (by simp only [putL, Act.put, List.setIfInBounds_toArray, List.set_cons_succ, List.set_cons_zero]), j0, (fun _ => rfl), j2, j3, j4, j5, j6, j7, j8, j9, j10, j11, j12, jb⟩
        · simp only [List.getElem?_cons_zero, List.getElem?_cons_succ, Option.some.injEq] at ho
          subst ho
          obtain rfl := j1 (List.all_eq_true.1 hw 1 (by decide))
          have c2 := C2.out
          simp only [putL, Act.put, List.setIfInBounds_toArray, List.set_cons_succ, List.set_cons_zero]
          go_wp2
          exact ⟨rfl, [x0, _, _, x3, x4, x5, x6, x7, x8, x9, x10, x11, x12], rfl, (by simp only [putL, Act.put, List.setIfInBounds_toArray, List.set_cons_succ, List.set_cons_zero]), j0, (fun _ => rfl), (fun _ => rfl), j3, j4, j5, j6, j7, j8, j9, j10, j11, j12, jb⟩
        · simp only [List.getElem?_cons_zero, List.getElem?_cons_succ, Option.some.injEq] at ho
          subst ho
          obtain rfl := j2 (List.all_eq_true.1 hw 2 (by decide))
          have h0 := cell_later jb X1.out (Nat.le_refl _)
          simp only [putL, Act.put, List.setIfInBounds_toArray, List.set_cons_succ, List.set_cons_zero] at h0 ⊢
          go_wp2
          exact ⟨rfl, [x0, x1, _, _, x4, x5, x6, x7, x8, x9, x10, x11, x12], rfl, (by simp only [putL, Act.put, List.setIfInBounds_toArray, List.set_cons_succ, List.set_cons_zero]), j0, j1, (fun _ => rfl), (fun _ => rfl), j4, j5, j6, j7, j8, j9, j10, j11, j12, jb⟩
        · simp only [List.getElem?_cons_zero, List.getElem?_cons_succ, Option.some.injEq] at ho
          subst ho
          simp only [putL, Act.put, List.setIfInBounds_toArray, List.set_cons_succ, List.set_cons_zero]
          go_wp2
          exact ⟨rfl, [x0, x1, x2, x3, _, x5, x6, x7, x8, x9, x10, x11, x12], rfl, (by simp only [putL, Act.put, List.setIfInBounds_toArray, List.set_cons_succ, List.set_cons_zero]), j0, j1, j2, j3, (fun _ => rfl), j5, j6, j7, j8, j9, j10, j11, j12, jb⟩
        · simp only [List.getElem?_cons_zero, List.getElem?_cons_succ, Option.some.injEq] at ho
          subst ho
          obtain rfl := j4 (List.all_eq_true.1 hw 4 (by decide))
          have c2 := C2.out
          simp only [putL, Act.put, List.setIfInBounds_toArray, List.set_cons_succ, List.set_cons_zero]
          go_wp2
          exact ⟨rfl, [x0, x1, x2, x3, _, _, x6, x7, x8, x9, x10, x11, x12], rfl, (by simp only [putL, Act.put, List.setIfInBounds_toArray, List.set_cons_succ, List.set_cons_zero]), j0, j1, j2, j3, (fun _ => rfl), (fun _ => rfl), j6, j7, j8, j9, j10, j11, j12, jb⟩
        · simp only [List.getElem?_cons_zero, List.getElem?_cons_succ, Option.some.injEq] at ho
          subst ho
          obtain rfl := j5 (List.all_eq_true.1 hw 5 (by decide))
          have h0 := cell_later jb X2.out (Nat.le_refl _)
          simp only [putL, Act.put, List.setIfInBounds_toArray, List.set_cons_succ, List.set_cons_zero] at h0 ⊢
          go_wp2
          exact ⟨rfl, [x0, x1, x2, x3, x4, _, _, x7, x8, x9, x10, x11, x12], rfl, (by simp only [putL, Act.put, List.setIfInBounds_toArray, List.set_cons_succ, List.set_cons_zero]), j0, j1, j2, j3, j4, (fun _ => rfl), (fun _ => rfl), j7, j8, j9, j10, j11, j12, jb⟩
        · simp only [List.getElem?_cons_zero, List.getElem?_cons_succ, Option.some.injEq] at ho
          subst ho
          obtain rfl := j0 (List.all_eq_true.1 hw 0 (by decide))
          obtain rfl := j3 (List.all_eq_true.1 hw 3 (by decide))
          obtain rfl := j6 (List.all_eq_true.1 hw 6 (by decide))
          have eg := HE.out
          unfold Enters at eg
          simp only [putL, Act.put, List.setIfInBounds_toArray, List.set_cons_succ, List.set_cons_zero]
          go_wp2_with (go_at_fn g; refine (CF.out _ jb).mono ?_; rintro e w1 ⟨rfl, hb⟩)
          exact ⟨rfl, [_, x1, x2, _, x4, x5, _, _, x8, x9, x10, x11, x12], rfl, (by simp only [putL, Act.put, List.setIfInBounds_toArray, List.set_cons_succ, List.set_cons_zero]), (fun _ => rfl), j1, j2, (fun _ => rfl), j4, j5, (fun _ => rfl), (fun _ => rfl), j8, j9, j10, j11, j12, (jb.trans (hb.mono jb.size))⟩
        · simp only [List.getElem?_cons_zero, List.getElem?_cons_succ, Option.some.injEq] at ho
          subst ho
          obtain rfl := j7 (List.all_eq_true.1 hw 7 (by decide))
          simp only [putL, Act.put, List.setIfInBounds_toArray, List.set_cons_succ, List.set_cons_zero]
          go_wp2
          exact ⟨rfl, [x0, x1, x2, x3, x4, x5, x6, _, _, x9, x10, x11, x12], rfl, (by simp only [putL, Act.put, List.setIfInBounds_toArray, List.set_cons_succ, List.set_cons_zero]), j0, j1, j2, j3, j4, j5, j6, (fun _ => rfl), (fun _ => rfl), j9, j10, j11, j12, jb⟩
        · simp only [List.getElem?_cons_zero, List.getElem?_cons_succ, Option.some.injEq] at ho
          subst ho
          obtain rfl := j8 (List.all_eq_true.1 hw 8 (by decide))
          simp only [putL, Act.put, List.setIfInBounds_toArray, List.set_cons_succ, List.set_cons_zero]
          go_wp2
          exact ⟨rfl, [x0, x1, x2, x3, x4, x5, x6, x7, _, _, x10, x11, x12], rfl, (by simp only [putL, Act.put, List.setIfInBounds_toArray, List.set_cons_succ, List.set_cons_zero]), j0, j1, j2, j3, j4, j5, j6, j7, (fun _ => rfl), (fun _ => rfl), j10, j11, j12, jb⟩
        · simp only [List.getElem?_cons_zero, List.getElem?_cons_succ, Option.some.injEq] at ho
          subst ho
          obtain rfl := j8 (List.all_eq_true.1 hw 8 (by decide))
          simp only [putL, Act.put, List.setIfInBounds_toArray, List.set_cons_succ, List.set_cons_zero]
          go_wp2
          exact ⟨rfl, [x0, x1, x2, x3, x4, x5, x6, x7, _, x9, _, x11, x12], rfl, (by simp only [putL, Act.put, List.setIfInBounds_toArray, List.set_cons_succ, List.set_cons_zero]), j0, j1, j2, j3, j4, j5, j6, j7, (fun _ => rfl), j9, (fun _ => rfl), j11, j12, jb⟩
        · simp only [List.getElem?_cons_zero, List.getElem?_cons_succ, Option.some.injEq] at ho
          subst ho
          obtain rfl := j9 (List.all_eq_true.1 hw 9 (by decide))
          simp only [putL, Act.put, List.setIfInBounds_toArray, List.set_cons_succ, List.set_cons_zero]
          go_wp2
          exact ⟨rfl, [x0, x1, x2, x3, x4, x5, x6, x7, x8, _, x10, _, x12], rfl, (by simp only [putL, Act.put, List.setIfInBounds_toArray, List.set_cons_succ, List.set_cons_zero]), j0, j1, j2, j3, j4, j5, j6, j7, j8, (fun _ => rfl), j10, (fun _ => rfl), j12, jb⟩
        · simp only [List.getElem?_cons_zero, List.getElem?_cons_succ, Option.some.injEq] at ho
          subst ho
          obtain rfl := j10 (List.all_eq_true.1 hw 10 (by decide))
          simp only [putL, Act.put, List.setIfInBounds_toArray, List.set_cons_succ, List.set_cons_zero]
          go_wp2
          exact ⟨rfl, [x0, x1, x2, x3, x4, x5, x6, x7, x8, x9, _, x11, _], rfl, (by simp only [putL, Act.put, List.setIfInBounds_toArray, List.set_cons_succ, List.set_cons_zero]), j0, j1, j2, j3, j4, j5, j6, j7, j8, j9, (fun _ => rfl), j11, (fun _ => rfl), jb⟩
  · intro i o ho d vs w hl hJ hi hw
    match vs, hl with
    | [x0, x1, x2, x3, x4, x5, x6, x7], _ =>
    have hin : i < 10 := (List.getElem?_eq_some_iff.1 ho).1
    obtain ⟨j0, j1, j2, j3, j4, j5, o0, o1, u01, jb⟩ := hJ
    simp only [List.getElem?_cons_zero, List.getElem?_cons_succ, Option.some.injEq, Option.getD_some] at j0 j1 j2 j3 j4 j5 o0 o1 u01
    rcases (show i = 0 ∨ i = 1 ∨ i = 2 ∨ i = 3 ∨ i = 4 ∨ i = 5 ∨ i = 6 ∨ i = 7 ∨ i = 8 ∨ i = 9 by omega) with rfl | rfl | rfl | rfl | rfl | rfl | rfl | rfl | rfl | rfl
    · simp only [List.getElem?_cons_zero, List.getElem?_cons_succ, Option.some.injEq] at ho
      subst ho
      simp only [putL, Act.put, List.setIfInBounds_toArray, List.set_cons_succ, List.set_cons_zero]
      go_wp2
      exact ⟨rfl, [_, x1, x2, x3, x4, x5, x6, x7], rfl, (by simp only [putL, Act.put, List.setIfInBounds_toArray, List.set_cons_succ, List.set_cons_zero]), (fun _ => rfl), j1, j2, j3, j4, j5, o0, o1, u01, jb⟩
    · simp only [List.getElem?_cons_zero, List.getElem?_cons_succ, Option.some.injEq] at ho
      subst ho
      have h0 := (VA.out.later jb VA.out.lt).c0
      have h1 := (VA.out.later jb VA.out.lt).c1
      simp only [putL, Act.put, List.setIfInBounds_toArray, List.set_cons_succ, List.set_cons_zero] at h0 h1 ⊢
      go_wp2
      exact ⟨rfl, [x0, _, x2, x3, x4, x5, x6, x7], rfl, (by simp only [putL, Act.put, List.setIfInBounds_toArray, List.set_cons_succ, List.set_cons_zero]), j0, (fun _ => rfl), j2, j3, j4, j5, o0, o1, u01, jb⟩
    · simp only [List.getElem?_cons_zero, List.getElem?_cons_succ, Option.some.injEq] at ho
      subst ho
      obtain rfl := j0 (List.all_eq_true.1 hw 0 (by decide))
      obtain rfl := j1 (List.all_eq_true.1 hw 1 (by decide))
      simp only [putL, Act.put, List.setIfInBounds_toArray, List.set_cons_succ, List.set_cons_zero]
      go_wp2_with ((with_reducible refine (CA.out _ (BA.out.trans (jb.mono BA.out.size))).mono ?_); rintro e w1 ⟨rfl, hb⟩)
      exact ⟨rfl, [_, _, _, x3, x4, x5, x6, x7], rfl, (by simp only [putL, Act.put, List.setIfInBounds_toArray, List.set_cons_succ, List.set_cons_zero]), (fun _ => rfl), (fun _ => rfl), (fun _ => rfl), j3, j4, j5, (o0.later hb), (o1.later hb), u01, (jb.trans (hb.mono jb.size))⟩
    · simp only [List.getElem?_cons_zero, List.getElem?_cons_succ, Option.some.injEq] at ho
      subst ho
      simp only [putL, Act.put, List.setIfInBounds_toArray, List.set_cons_succ, List.set_cons_zero]
      go_wp2
      exact ⟨rfl, [x0, x1, x2, _, x4, x5, x6, x7], rfl, (by simp only [putL, Act.put, List.setIfInBounds_toArray, List.set_cons_succ, List.set_cons_zero]), j0, j1, j2, (fun _ => rfl), j4, j5, o0, o1, u01, jb⟩
    · simp only [List.getElem?_cons_zero, List.getElem?_cons_succ, Option.some.injEq] at ho
      subst ho
      have h0 := (VB.out.later jb VB.out.lt).c0
      have h1 := (VB.out.later jb VB.out.lt).c1
      simp only [putL, Act.put, List.setIfInBounds_toArray, List.set_cons_succ, List.set_cons_zero] at h0 h1 ⊢
      go_wp2
      exact ⟨rfl, [x0, x1, x2, x3, _, x5, x6, x7], rfl, (by simp only [putL, Act.put, List.setIfInBounds_toArray, List.set_cons_succ, List.set_cons_zero]), j0, j1, j2, j3, (fun _ => rfl), j5, o0, o1, u01, jb⟩
    · simp only [List.getElem?_cons_zero, List.getElem?_cons_succ, Option.some.injEq] at ho
      subst ho
      obtain rfl := j3 (List.all_eq_true.1 hw 3 (by decide))
      obtain rfl := j4 (List.all_eq_true.1 hw 4 (by decide))
      simp only [putL, Act.put, List.setIfInBounds_toArray, List.set_cons_succ, List.set_cons_zero]
      go_wp2_with ((with_reducible refine (CB.out _ (BA.out.trans (jb.mono BA.out.size))).mono ?_); rintro e w1 ⟨rfl, hb⟩)
      exact ⟨rfl, [x0, x1, x2, _, _, _, x6, x7], rfl, (by simp only [putL, Act.put, List.setIfInBounds_toArray, List.set_cons_succ, List.set_cons_zero]), j0, j1, j2, (fun _ => rfl), (fun _ => rfl), (fun _ => rfl), (o0.later hb), (o1.later hb), u01, (jb.trans (hb.mono jb.size))⟩
    · simp only [List.getElem?_cons_zero, List.getElem?_cons_succ, Option.some.injEq] at ho
      subst ho
      simp only [putL, Act.put, List.setIfInBounds_toArray, List.set_cons_succ, List.set_cons_zero]
      go_wp2
      exact ⟨rfl, [x0, x1, x2, x3, x4, x5, _, x7], rfl, (by simp only [putL, Act.put, List.setIfInBounds_toArray, List.set_cons_succ, List.set_cons_zero]), j0, j1, j2, j3, j4, j5, (o0.fresh hi jb.size (alloc_at rfl)), (o1.later (below_two w _)), (fun _ h => Ne.symm (o1.ne h rfl)), (jb.alloc jb.size _)⟩
    · simp only [List.getElem?_cons_zero, List.getElem?_cons_succ, Option.some.injEq] at ho
      subst ho
      simp only [putL, Act.put, List.setIfInBounds_toArray, List.set_cons_succ, List.set_cons_zero]
      go_wp2
      exact ⟨rfl, [x0, x1, x2, x3, x4, x5, x6, _], rfl, (by simp only [putL, Act.put, List.setIfInBounds_toArray, List.set_cons_succ, List.set_cons_zero]), j0, j1, j2, j3, j4, j5, (o0.later (below_two w _)), (o1.fresh hi jb.size (alloc_at rfl)), (fun h _ => (o0.ne h rfl)), (jb.alloc jb.size _)⟩
    · simp only [List.getElem?_cons_zero, List.getElem?_cons_succ, Option.some.injEq] at ho
      subst ho
      have hd : d 6 = true := List.all_eq_true.1 hw 6 (by decide)
      obtain rfl := j2 (List.all_eq_true.1 hw 2 (by decide))
      obtain ⟨g, rfl, hg, hk⟩ := o0.2 hd
      rw [hi] at hk
      have HK := hide hk
      clear hk
      simp only [putL, Act.put, List.setIfInBounds_toArray, List.set_cons_succ, List.set_cons_zero]
      go_wp2_with (refine wpList_store_row rfl 62 _ _ rfl g (cellsW A) rfl rfl 62 (cellsW zero4) HK.out (infoR' HA.out) (by rw [cellsW_size, cellsW_size, HA.out]; rfl) (cellsW_one A) ?_)
      exact ⟨rfl, [x0, x1, _, x3, x4, x5, _, x7], rfl, (by simp only [putL, Act.put, List.setIfInBounds_toArray, List.set_cons_succ, List.set_cons_zero]), j0, j1, (fun _ => rfl), j3, j4, j5, ⟨fun _ => hd, fun _ => ⟨g, rfl, hg, setRow_heap _ _ _ _ _ _ HK.out⟩⟩, (o1.other fun h => u01 hd h), u01, (below_setRow jb hg _)⟩
    · simp only [List.getElem?_cons_zero, List.getElem?_cons_succ, Option.some.injEq] at ho
      subst ho
      have hd : d 7 = true := List.all_eq_true.1 hw 7 (by decide)
      obtain rfl := j5 (List.all_eq_true.1 hw 5 (by decide))
      obtain ⟨g, rfl, hg, hk⟩ := o1.2 hd
      rw [hi] at hk
      have HK := hide hk
      clear hk
      simp only [putL, Act.put, List.setIfInBounds_toArray, List.set_cons_succ, List.set_cons_zero]
      go_wp2_with (refine wpList_store_row rfl 62 _ _ rfl g (cellsW B) rfl rfl 62 (cellsW zero4) HK.out (infoR' HB.out) (by rw [cellsW_size, cellsW_size, HB.out]; rfl) (cellsW_one B) ?_)
      exact ⟨rfl, [x0, x1, x2, x3, x4, _, x6, _], rfl, (by simp only [putL, Act.put, List.setIfInBounds_toArray, List.set_cons_succ, List.set_cons_zero]), j0, j1, j2, j3, j4, (fun _ => rfl), (o0.other fun h => Ne.symm (u01 h hd)), ⟨fun _ => hd, fun _ => ⟨g, rfl, hg, setRow_heap _ _ _ _ _ _ HK.out⟩⟩, u01, (below_setRow jb hg _)⟩
end Go.Proofs.YtpeckiaimellmaaDoor
