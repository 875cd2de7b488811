/-
  The document's Limits.
-/
import Derived.Test.YteacjhmbamcegaaTypCells
set_option linter.unusedVariables false
set_option linter.unusedSimpArgs false
namespace Go.Proofs.Yteacjhmbamcegaa
open Go.RowKit Typ

theorem SBlk.set3 {w : World} {g : Nat} {t : TypeId} {a b c : Value} (h : SBlk w g t #[a, b, c]) (x y z : Value) : SBlk (((w.setCell ⟨g, 0, none⟩ x).setCell ⟨g, 1, none⟩ y).setCell ⟨g, 2, none⟩ z) g t #[x, y, z] :=
  ((h.set 0 x).set 1 y).set 2 z
def limR (r : (Int × Int × Bool) × Int × Int) : Value := .tuple #[limV r.1.1 r.1.2.1 r.1.2.2, .int .i64 r.2.1, .int .i64 r.2.2]

theorem limAt_bad {l : List Int} {p : Int} (h : p < 0 ∨ (l.length : Int) < p) : limAt l p = ((0, 0, false), 0, 2) := by unfold limAt; rw [if_pos h]
theorem limAt_end (l : List Int) : limAt l (l.length : Int) = ((0, 0, false), 0, 4) := by unfold limAt; rw [if_neg (by omega), if_pos (.inl rfl)]
theorem limAt_big {l : List Int} {q : Nat} (h : q < l.length) (hx : 1 < l[q]?.getD 0) : limAt l (q : Int) = ((0, 0, false), 0, 4) := by
  unfold limAt
  rw [if_neg (by omega)]
  simp only [Int.toNat_natCast]
  rw [if_pos (.inr hx)]
theorem limAt_err {l : List Int} {q : Nat} (h : q < l.length) (hr : Leb.readU l ((q : Int) + 1) 32 = (0, 0, 4)) : limAt l (q : Int) = ((0, 0, false), 0, 4) := by
  unfold limAt
  rw [if_neg (by omega)]
  simp only [Int.toNat_natCast]
  split
  · rfl
  · rw [hr, if_pos (by simp)]
theorem limAt_one {l : List Int} {q : Nat} {n f : Int} (h : q < l.length) (hx : l[q]?.getD 0 = 0) (hr : Leb.readU l ((q : Int) + 1) 32 = (n, f, 0)) : limAt l (q : Int) = ((n, 0, false), f, 0) := by
  unfold limAt
  rw [if_neg (by omega)]
  simp only [Int.toNat_natCast, hx, hr]
  rw [if_neg (by omega), if_neg (by simp), if_pos trivial]
theorem limAt_err2 {l : List Int} {q : Nat} {n f : Int} (h : q < l.length) (hx : l[q]?.getD 0 = 1) (hr : Leb.readU l ((q : Int) + 1) 32 = (n, f, 0)) (hr2 : Leb.readU l f 32 = (0, 0, 4)) : limAt l (q : Int) = ((0, 0, false), 0, 4) := by
  unfold limAt
  rw [if_neg (by omega)]
  simp only [Int.toNat_natCast, hx, hr, hr2]
  rw [if_neg (by omega), if_neg (by simp), if_neg (by decide), if_pos (by simp)]
theorem limAt_two {l : List Int} {q : Nat} {n f m g : Int} (h : q < l.length) (hx : l[q]?.getD 0 = 1) (hr : Leb.readU l ((q : Int) + 1) 32 = (n, f, 0)) (hr2 : Leb.readU l f 32 = (m, g, 0)) : limAt l (q : Int) = ((n, m, true), g, 0) := by
  unfold limAt
  rw [if_neg (by omega)]
  simp only [Int.toNat_natCast, hx, hr, hr2]
  rw [if_neg (by omega), if_neg (by simp), if_neg (by decide), if_neg (by simp)]
theorem wrap_32 {N : Nat} (h : N < 4294967296) : IntKind.u32.wrap (N : Int) = (N : Int) := by
  simp [IntKind.wrap, IntKind.bits, IntKind.signed]
  omega

set_option maxHeartbeats 4000000 in
theorem rLimits_calls (a : Option Addr) (len cap : Nat) (l : List Int) (p : Int) (w : World) (H : Row w a len cap l) :
    Calls Try.prog 32 #[.slice a len cap, .int .i64 p] w fun e w' => e = .returned (limR (limAt l p)) ∧ Below w.heap.size w w' := by
  have HH := hideT H
  obtain ⟨wa, hwa⟩ : ∃ wa, w.alloc (.cells #[.int .u32 0, .int .u32 0, .bool false] 33) = wa := ⟨_, rfl⟩
  have KZ : Hid (SBlk wa w.heap.size 33 #[.int .u32 0, .int .u32 0, .bool false]) := hideT (by rw [← hwa]; exact sblk_new _ _ _)
  have BA : Hid (Below w.heap.size w wa) := hideT (by rw [← hwa]; exact (Below.refl _ _).alloc (Nat.le_refl _) _)
  have z0 : wa.cell? ⟨w.heap.size, 0, none⟩ = some (.int .u32 0) := KZ.out.cell rfl
  have z1 : wa.cell? ⟨w.heap.size, 1, none⟩ = some (.int .u32 0) := KZ.out.cell rfl
  have z2 : wa.cell? ⟨w.heap.size, 2, none⟩ = some (.bool false) := KZ.out.cell rfl
  have f0 := KZ.out.frozen 0
  have f1 := KZ.out.frozen 1
  have f2 := KZ.out.frozen 2
  have HWA := hideT hwa
  obtain ⟨hl, hcap, hcm, hb, ha, hc⟩ := H
  unfold maxLen at hcm
  unfold limR limV
  by_cases c1 : p < 0
  · have e1 : decide (p < 0) = true := by simp [c1]
    have E : Hid (limAt l p = ((0, 0, false), 0, 2)) := hideT (limAt_bad (.inl c1))
    clear c1 hc hb ha hwa
    go_enter Try.func32, Try.ntmps32
    go_wp2_with fail
    rw [HWA.out]
    refine bodyPost_ret (v := .tuple #[.agg #[.int .u32 0, .int .u32 0, .bool false], .int .i64 0, .int .i64 2]) (resultL KZ.out (by rfl) _ rfl rfl rfl) rfl ?_
    exact ⟨by rw [E.out], BA.out⟩
  · by_cases c2 : (len : Int) < p
    · have e1 : decide (p < 0) = false := by simp; omega
      have E : Hid (limAt l p = ((0, 0, false), 0, 2)) := hideT (limAt_bad (.inr (by rw [hl]; exact c2)))
      clear c1 hc hb ha hwa
      go_enter Try.func32, Try.ntmps32
      go_wp2_with fail
      rw [HWA.out]
      refine bodyPost_ret (v := .tuple #[.agg #[.int .u32 0, .int .u32 0, .bool false], .int .i64 0, .int .i64 2]) (resultL KZ.out (by rfl) _ rfl rfl rfl) rfl ?_
      exact ⟨by rw [E.out], BA.out⟩
    · obtain ⟨q, rfl⟩ : ∃ q : Nat, p = (q : Int) := ⟨p.toNat, by omega⟩
      have hq : q ≤ len := by omega
      by_cases c3 : q = len
      · subst c3
        have E : Hid (limAt l (q : Int) = ((0, 0, false), 0, 4)) := hideT (by have := limAt_end l; rw [hl] at this; exact this)
        clear c1 c2 hc hb ha hwa
        go_enter Try.func32, Try.ntmps32
        go_wp2_with fail
        rw [HWA.out]
        refine bodyPost_ret (v := .tuple #[.agg #[.int .u32 0, .int .u32 0, .bool false], .int .i64 0, .int .i64 4]) (resultL KZ.out (by rfl) _ rfl rfl rfl) rfl ?_
        exact ⟨by rw [E.out], BA.out⟩
      · have hlt : q < len := by omega
        obtain ⟨b, off, rfl, hcell⟩ := hc (by omega)
        have h1 : wa.cell? ⟨b, off + q, none⟩ = some (.int .u8 (l[q]?.getD 0)) := cell_later BA.out (hcell q hlt)
        have h1' := h1
        rw [← hwa] at h1'
        have hcq := hideT (hcell q hlt)
        have n1 : ((q : Int) == (len : Int)) = false := by simp; omega
        have m1 : q + 1 ≤ len := by omega
        have m2 : len ≤ 2 ^ 63 - 1 := by omega
        have hb0 := hb q
        have HQ : Hid (q < l.length) := by show q < l.length; omega
        have C1 := hideT (refU_calls (some ⟨b, off, none⟩) len cap l ((q : Int) + 1) 32 wa (HH.out.later BA.out))
        by_cases big : 1 < l[q]?.getD 0
        · have E : Hid (limAt l (q : Int) = ((0, 0, false), 0, 4)) := hideT (limAt_big HQ.out big)
          have t1 : decide (1 < l[q]?.getD 0) = true := by simp [big]
          have hcx := hcell q hlt
          clear hc hcell hb ha c1 c2 c3 hb0 C1 hwa big
          generalize l[q]?.getD 0 = x at *
          go_enter Try.func32, Try.ntmps32
          go_wp2_with fail
          rw [HWA.out]
          refine bodyPost_ret (v := .tuple #[.agg #[.int .u32 0, .int .u32 0, .bool false], .int .i64 0, .int .i64 4]) (resultL KZ.out (by rfl) _ rfl rfl rfl) rfl ?_
          exact ⟨by rw [E.out], BA.out⟩
        · have t1 : decide (1 < l[q]?.getD 0) = false := by simp; omega
          have hcx := hcell q hlt
          have HIN := readU_in (l := l) (p := (q : Int) + 1) (by omega) (by rw [hl]; omega)
          rcases HIN with hr | ⟨N, f, hr, hN, hf1, hf2⟩
          · have E : Hid (limAt l (q : Int) = ((0, 0, false), 0, 4)) := hideT (limAt_err HQ.out hr)
            rw [hr] at C1
            clear hc hcell hb ha c1 c2 c3 hb0 hwa big hr
            generalize l[q]?.getD 0 = x at *
            go_enter Try.func32, Try.ntmps32
            go_wp2_with fail
            rw [HWA.out]
            refine C1.out.mono ?_
            rintro e w1 ⟨rfl, hb1⟩
            have K1 : Hid (SBlk w1 w.heap.size 33 #[.int .u32 0, .int .u32 0, .bool false]) := hideT (KZ.out.later hb1 KZ.out.lt)
            have B1 : Hid (Below w.heap.size w w1) := hideT (BA.out.trans (hb1.mono BA.out.size))
            clear hb1 z0 z1 z2 f0 f1 f2 h1 h1'
            have z0 : w1.cell? ⟨w.heap.size, 0, none⟩ = some (.int .u32 0) := K1.out.cell rfl
            have z1 : w1.cell? ⟨w.heap.size, 1, none⟩ = some (.int .u32 0) := K1.out.cell rfl
            have z2 : w1.cell? ⟨w.heap.size, 2, none⟩ = some (.bool false) := K1.out.cell rfl
            have f0 := K1.out.frozen 0
            have f1 := K1.out.frozen 1
            have f2 := K1.out.frozen 2
            simp only [triU]
            go_wp2
            refine bodyPost_ret (v := .tuple #[.agg #[.int .u32 0, .int .u32 0, .bool false], .int .i64 0, .int .i64 4]) (resultL (K1.out.set3 _ _ _) (by rfl) _ rfl rfl rfl) rfl ?_
            exact ⟨by rw [E.out], ((B1.out.setCell (by simp) _).setCell (by simp) _).setCell (by simp) _⟩
          · rw [hr] at C1
            have w32 := wrap_32 hN
            rcases (show l[q]?.getD 0 = 0 ∨ l[q]?.getD 0 = 1 by omega) with hx | hx
            · have E : Hid (limAt l (q : Int) = (((N : Int), 0, false), (f : Int), 0)) := hideT (limAt_one HQ.out hx hr)
              rw [hx] at hcx h1 h1' t1
              have HCX := hideT hcx
              clear hc hcell hb ha c1 c2 c3 hb0 hwa big hr hx hcq t1
              go_enter Try.func32, Try.ntmps32
              go_wp2_with fail
              rw [HWA.out]
              refine C1.out.mono ?_
              rintro e w1 ⟨rfl, hb1⟩
              have K1 : Hid (SBlk w1 w.heap.size 33 #[.int .u32 0, .int .u32 0, .bool false]) := hideT (KZ.out.later hb1 KZ.out.lt)
              have B1 : Hid (Below w.heap.size w w1) := hideT (BA.out.trans (hb1.mono BA.out.size))
              clear hb1 z0 z1 z2 f0 f1 f2 h1 h1' hcx
              have hcy : w1.cell? ⟨b, off + q, none⟩ = some (.int .u8 0) := cell_later B1.out HCX.out
              have z0 : w1.cell? ⟨w.heap.size, 0, none⟩ = some (.int .u32 0) := K1.out.cell rfl
              have z1 : w1.cell? ⟨w.heap.size, 1, none⟩ = some (.int .u32 0) := K1.out.cell rfl
              have z2 : w1.cell? ⟨w.heap.size, 2, none⟩ = some (.bool false) := K1.out.cell rfl
              have f0 := K1.out.frozen 0
              have f1 := K1.out.frozen 1
              have f2 := K1.out.frozen 2
              simp only [triU]
              go_wp2
              refine bodyPost_ret (v := .tuple #[.agg #[.int .u32 (N : Int), .int .u32 0, .bool false], .int .i64 (f : Int), .int .i64 0]) (resultL (K1.out.set3 _ _ _) (by rfl) _ rfl rfl rfl) rfl ?_
              exact ⟨by rw [E.out], ((B1.out.setCell (by simp) _).setCell (by simp) _).setCell (by simp) _⟩
            · rw [hx] at hcx h1 h1' t1
              have HCX := hideT hcx
              have HIN2 := readU_in (l := l) (p := (f : Int)) (by omega) (by omega)
              have C2 := hideT (fun V hV => refU_calls (some ⟨b, off, none⟩) len cap l (f : Int) 32 V (HH.out.later (w' := V) hV))
              have X2 := hideT (fun h => limAt_err2 (n := (N : Int)) (f := (f : Int)) HQ.out hx hr h)
              have Y2 := hideT (fun m g h => limAt_two (n := (N : Int)) (f := (f : Int)) (m := m) (g := g) HQ.out hx hr h)
              clear hc hcell hb ha c1 c2 c3 hb0 hwa big hr hx hcq t1
              go_enter Try.func32, Try.ntmps32
              go_wp2_with fail
              rw [HWA.out]
              refine C1.out.mono ?_
              rintro e w1 ⟨rfl, hb1⟩
              have K1 : Hid (SBlk w1 w.heap.size 33 #[.int .u32 0, .int .u32 0, .bool false]) := hideT (KZ.out.later hb1 KZ.out.lt)
              have B1 : Hid (Below w.heap.size w w1) := hideT (BA.out.trans (hb1.mono BA.out.size))
              clear hb1 z0 z1 z2 f0 f1 f2 h1 h1' hcx
              have hcy : w1.cell? ⟨b, off + q, none⟩ = some (.int .u8 1) := cell_later B1.out HCX.out
              have C3 := C2.out w1 B1.out
              rcases HIN2 with hr2 | ⟨M, g, hr2, hM, hg1, hg2⟩
              · have E := hideT (X2.out hr2)
                rw [hr2] at C3
                have C3 := hideT C3
                clear hr2 X2 Y2
                simp only [triU]
                go_wp2_with fail
                refine C3.out.mono ?_
                rintro e w2 ⟨rfl, hb2⟩
                have K2 : Hid (SBlk w2 w.heap.size 33 #[.int .u32 0, .int .u32 0, .bool false]) := hideT (K1.out.later hb2 K1.out.lt)
                have B2 : Hid (Below w.heap.size w w2) := hideT (B1.out.trans (hb2.mono B1.out.size))
                clear hb2 hcy
                have z0 : w2.cell? ⟨w.heap.size, 0, none⟩ = some (.int .u32 0) := K2.out.cell rfl
                have z1 : w2.cell? ⟨w.heap.size, 1, none⟩ = some (.int .u32 0) := K2.out.cell rfl
                have z2 : w2.cell? ⟨w.heap.size, 2, none⟩ = some (.bool false) := K2.out.cell rfl
                have f0 := K2.out.frozen 0
                have f1 := K2.out.frozen 1
                have f2 := K2.out.frozen 2
                simp only [triU]
                go_wp2
                refine bodyPost_ret (v := .tuple #[.agg #[.int .u32 0, .int .u32 0, .bool false], .int .i64 0, .int .i64 4]) (resultL (K2.out.set3 _ _ _) (by rfl) _ rfl rfl rfl) rfl ?_
                exact ⟨by rw [E.out], ((B2.out.setCell (by simp) _).setCell (by simp) _).setCell (by simp) _⟩
              · have E := hideT (Y2.out _ _ hr2)
                rw [hr2] at C3
                have C3 := hideT C3
                have w33 := wrap_32 hM
                clear hr2 X2 Y2
                simp only [triU]
                go_wp2_with fail
                refine C3.out.mono ?_
                rintro e w2 ⟨rfl, hb2⟩
                have K2 : Hid (SBlk w2 w.heap.size 33 #[.int .u32 0, .int .u32 0, .bool false]) := hideT (K1.out.later hb2 K1.out.lt)
                have B2 : Hid (Below w.heap.size w w2) := hideT (B1.out.trans (hb2.mono B1.out.size))
                clear hb2 hcy
                have z0 : w2.cell? ⟨w.heap.size, 0, none⟩ = some (.int .u32 0) := K2.out.cell rfl
                have z1 : w2.cell? ⟨w.heap.size, 1, none⟩ = some (.int .u32 0) := K2.out.cell rfl
                have z2 : w2.cell? ⟨w.heap.size, 2, none⟩ = some (.bool false) := K2.out.cell rfl
                have f0 := K2.out.frozen 0
                have f1 := K2.out.frozen 1
                have f2 := K2.out.frozen 2
                simp only [triU]
                go_wp2
                refine bodyPost_ret (v := .tuple #[.agg #[.int .u32 (N : Int), .int .u32 (M : Int), .bool true], .int .i64 (g : Int), .int .i64 0]) (resultL (K2.out.set3 _ _ _) (by rfl) _ rfl rfl rfl) rfl ?_
                exact ⟨by rw [E.out], ((B2.out.setCell (by simp) _).setCell (by simp) _).setCell (by simp) _⟩
end Go.Proofs.Yteacjhmbamcegaa
