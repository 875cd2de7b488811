/-
  The document's Func.
-/
import Derived.Test.YteacjhmbamcegaaTypGlob
import Derived.OneCell
set_option linter.unusedVariables false
set_option linter.unusedSimpArgs false
namespace Go.Proofs.Yteacjhmbamcegaa
open Go.RowKit Typ

/-- A row of values' types of the call's own. -/
def OwnT (w : World) (b : Nat) (v : Value) (l : List Int) : Prop := w.ownsRow b 22 1 v l.length (l.map (Value.int .u8))
theorem OwnT.nil (w : World) (b : Nat) : OwnT w b (.slice none 0 0) [] := World.ownsRow_nil _ _ _ _
theorem OwnT.later {w w' : World} {b : Nat} {v : Value} {l : List Int} (h : OwnT w b v l) (hb : Below w.heap.size w w') : OwnT w' b v l := by
  unfold OwnT at *
  obtain ⟨h1, h2 | ⟨g, cap, cur, e, hg, hblk, h3⟩⟩ := h
  · exact ⟨h1, .inl h2⟩
  · exact ⟨h1, .inr ⟨g, cap, cur, e, hg, (hb.block g (Array.getElem?_eq_some_iff.1 hblk).1).trans hblk, h3⟩⟩
theorem OwnT.mono {w : World} {b b' : Nat} {v : Value} {l : List Int} (h : OwnT w b v l) (hb : b' ≤ b) : OwnT w b' v l := ownsRow_mono h hb
theorem OwnT.set {w : World} {b : Nat} {v : Value} {l : List Int} (h : OwnT w b v l) {g : Nat} (hg : g < b) (k : Nat) (u : Value) : OwnT (w.setCell ⟨g, k, none⟩ u) b v l := ownsRow_setCell_below h hg u
theorem OwnT.shape {w : World} {b : Nat} {v : Value} {l : List Int} (h : OwnT w b v l) : ∃ a c, v = .slice a l.length c := shape_own h

def FuncPost (R : (List Int × List Int) × Int × Int) (w : World) (e : Ending) (w' : World) : Prop :=
  ∃ v1 v2, e = .returned (.tuple #[.agg #[v1, v2], .int .i64 R.2.1, .int .i64 R.2.2]) ∧ OwnT w' w.heap.size v1 R.1.1 ∧ OwnT w' w.heap.size v2 R.1.2 ∧ Below w.heap.size w w'

theorem funcAt_bad {l : List Int} {p : Int} (h : p < 0 ∨ (l.length : Int) < p) : funcAt l p = (([], []), 0, 2) := by unfold funcAt; rw [if_pos h]
theorem funcAt_end (l : List Int) : funcAt l (l.length : Int) = (([], []), 0, 4) := by unfold funcAt; rw [if_neg (by omega), if_pos (.inl rfl)]
theorem funcAt_not {l : List Int} {q : Nat} (h : q < l.length) (hx : l[q]?.getD 0 ≠ 96) : funcAt l (q : Int) = (([], []), 0, 4) := by
  unfold funcAt
  rw [if_neg (by omega)]
  simp only [Int.toNat_natCast]
  rw [if_pos (.inr hx)]
theorem funcAt_in {l : List Int} {q : Nat} (h : q < l.length) (hx : l[q]?.getD 0 = 96) : funcAt l (q : Int) =
    if (listAt l ((q : Int) + 1)).2.2 ≠ 0 then (([], []), 0, 4) else if (listAt l (listAt l ((q : Int) + 1)).2.1).2.2 ≠ 0 then (([], []), 0, 4)
    else (((listAt l ((q : Int) + 1)).1, (listAt l (listAt l ((q : Int) + 1)).2.1).1), (listAt l (listAt l ((q : Int) + 1)).2.1).2.1, 0) := by
  unfold funcAt
  rw [if_neg (by omega)]
  simp only [Int.toNat_natCast]
  rw [if_neg (by rw [hx]; simp; omega)]

set_option maxHeartbeats 4000000 in
theorem rFunc_calls (a : Option Addr) (len cap : Nat) (l : List Int) (p : Int) (w : World) (H : Row w a len cap l) :
    Calls Try.prog 28 #[.slice a len cap, .int .i64 p] w fun e w' => FuncPost (funcAt l p) w e w' := by
  have HH := hideT H
  obtain ⟨wa, hwa⟩ : ∃ wa, w.alloc (.cells #[.slice none 0 0, .slice none 0 0] 38) = wa := ⟨_, rfl⟩
  have KZ : Hid (SBlk wa w.heap.size 38 #[.slice none 0 0, .slice none 0 0]) := hideT (by rw [← hwa]; exact sblk_new _ _ _)
  have BA : Hid (Below w.heap.size w wa) := hideT (by rw [← hwa]; exact (Below.refl _ _).alloc (Nat.le_refl _) _)
  have z0 : wa.cell? ⟨w.heap.size, 0, none⟩ = some (.slice none 0 0) := KZ.out.cell rfl
  have z1 : wa.cell? ⟨w.heap.size, 1, none⟩ = some (.slice none 0 0) := KZ.out.cell rfl
  have f0 := KZ.out.frozen 0
  have f1 := KZ.out.frozen 1
  have HWA := hideT hwa
  obtain ⟨hl, hcap, hcm, hb, ha, hc⟩ := H
  unfold maxLen at hcm
  by_cases c1 : p < 0
  · have e1 : decide (p < 0) = true := by simp [c1]
    have E : Hid (funcAt l p = (([], []), 0, 2)) := hideT (funcAt_bad (.inl c1))
    clear c1 hc hb ha hwa
    go_enter Try.func28, Try.ntmps28
    go_wp2_with fail
    rw [HWA.out]
    refine bodyPost_ret (v := .tuple #[.agg #[.slice none 0 0, .slice none 0 0], .int .i64 0, .int .i64 2]) (resultF KZ.out (by rfl) _ rfl rfl rfl) rfl ?_
    exact ⟨_, _, by rw [E.out], by rw [E.out]; exact OwnT.nil _ _, by rw [E.out]; exact OwnT.nil _ _, BA.out⟩
  · by_cases c2 : (len : Int) < p
    · have e1 : decide (p < 0) = false := by simp; omega
      have E : Hid (funcAt l p = (([], []), 0, 2)) := hideT (funcAt_bad (.inr (by rw [hl]; exact c2)))
      clear c1 hc hb ha hwa
      go_enter Try.func28, Try.ntmps28
      go_wp2_with fail
      rw [HWA.out]
      refine bodyPost_ret (v := .tuple #[.agg #[.slice none 0 0, .slice none 0 0], .int .i64 0, .int .i64 2]) (resultF KZ.out (by rfl) _ rfl rfl rfl) rfl ?_
      exact ⟨_, _, by rw [E.out], by rw [E.out]; exact OwnT.nil _ _, by rw [E.out]; exact OwnT.nil _ _, BA.out⟩
    · obtain ⟨q, rfl⟩ : ∃ q : Nat, p = (q : Int) := ⟨p.toNat, by omega⟩
      have hq : q ≤ len := by omega
      by_cases c3 : q = len
      · subst c3
        have E : Hid (funcAt l (q : Int) = (([], []), 0, 4)) := hideT (by have := funcAt_end l; rw [hl] at this; exact this)
        clear c1 c2 hc hb ha hwa
        go_enter Try.func28, Try.ntmps28
        go_wp2_with fail
        rw [HWA.out]
        refine bodyPost_ret (v := .tuple #[.agg #[.slice none 0 0, .slice none 0 0], .int .i64 0, .int .i64 4]) (resultF KZ.out (by rfl) _ rfl rfl rfl) rfl ?_
        exact ⟨_, _, by rw [E.out], by rw [E.out]; exact OwnT.nil _ _, by rw [E.out]; exact OwnT.nil _ _, BA.out⟩
      · have hlt : q < len := by omega
        obtain ⟨b, off, rfl, hcell⟩ := hc (by omega)
        have h1 : wa.cell? ⟨b, off + q, none⟩ = some (.int .u8 (l[q]?.getD 0)) := cell_later BA.out (hcell q hlt)
        rw [← hwa] at h1
        have n1 : ((q : Int) == (len : Int)) = false := by simp; omega
        have m1 : q + 1 ≤ len := by omega
        have m2 : len ≤ 2 ^ 63 - 1 := by omega
        have HQ : Hid (q < l.length) := by show q < l.length; omega
        by_cases x96 : l[q]?.getD 0 = 96
        · have EG := funcAt_in HQ.out x96
          rw [x96] at h1
          have C1 := hideT (rlist_calls (some ⟨b, off, none⟩) len cap l ((q : Int) + 1) wa (HH.out.later BA.out))
          have C2 := hideT (fun nx V hV => rlist_calls (some ⟨b, off, none⟩) len cap l nx V (HH.out.later (w' := V) hV))
          unfold TysPost at C1 C2
          generalize listAt l ((q : Int) + 1) = R1 at *
          obtain ⟨l1, nx1, e1⟩ := R1
          simp only at EG
          have C1 : Hid (Calls Try.prog 46 #[.slice (some ⟨b, off, none⟩) len cap, .int .i64 ((q : Int) + 1)] wa fun e w' => Below wa.heap.size wa w' ∧ ∃ v, e = .returned (.tuple #[v, .int .i64 nx1, .int .i64 e1]) ∧ OwnT w' wa.heap.size v l1) := C1
          clear hc hcell hb ha c1 c2 c3 hwa x96
          go_enter Try.func28, Try.ntmps28
          go_wp2_with fail
          rw [HWA.out]
          refine C1.out.mono ?_
          rintro e w1 ⟨hb1, v1, rfl, ho1⟩
          have K1 : Hid (SBlk w1 w.heap.size 38 #[.slice none 0 0, .slice none 0 0]) := hideT (KZ.out.later hb1 KZ.out.lt)
          have B1 : Hid (Below w.heap.size w w1) := hideT (BA.out.trans (hb1.mono BA.out.size))
          have O1 := hideT ho1
          have GB : Hid (w.heap.size < wa.heap.size) := KZ.out.lt
          clear hb1 z0 z1 f0 f1 h1 ho1
          by_cases e0 : e1 = 0
          · subst e0
            rw [if_neg (by simp)] at EG
            have C3 := C2.out nx1 w1 B1.out
            generalize listAt l nx1 = R2 at *
            obtain ⟨l2, nx2, e2⟩ := R2
            simp only at EG
            have C3 : Hid (Calls Try.prog 46 #[.slice (some ⟨b, off, none⟩) len cap, .int .i64 nx1] w1 fun e w' => Below w1.heap.size w1 w' ∧ ∃ v, e = .returned (.tuple #[v, .int .i64 nx2, .int .i64 e2]) ∧ OwnT w' w1.heap.size v l2) := C3
            clear C2
            obtain ⟨av, cv, hv⟩ := O1.out.shape
            subst hv
            go_wp2_with fail
            refine C3.out.mono ?_
            rintro e w2 ⟨hb2, v2, rfl, ho2⟩
            have K2 : Hid (SBlk w2 w.heap.size 38 #[.slice none 0 0, .slice none 0 0]) := hideT (K1.out.later hb2 K1.out.lt)
            have B2 : Hid (Below w.heap.size w w2) := hideT (B1.out.trans (hb2.mono B1.out.size))
            have P1 := hideT (O1.out.later hb2)
            have P2 := hideT ho2
            have GB2 : Hid (w.heap.size < w1.heap.size) := K1.out.lt
            clear hb2 ho2
            have z0 : w2.cell? ⟨w.heap.size, 0, none⟩ = some (.slice none 0 0) := K2.out.cell rfl
            have z1 : w2.cell? ⟨w.heap.size, 1, none⟩ = some (.slice none 0 0) := K2.out.cell rfl
            have f0 := K2.out.frozen 0
            have f1 := K2.out.frozen 1
            obtain ⟨aw, cw, hw⟩ := P2.out.shape
            subst hw
            by_cases e0 : e2 = 0
            · subst e0
              rw [if_neg (by simp)] at EG
              have E := hideT EG
              clear EG
              go_wp2
              refine bodyPost_ret (v := .tuple #[.agg #[.slice av l1.length cv, .slice aw l2.length cw], .int .i64 nx2, .int .i64 0]) (resultF (K2.out.set2 _ _) (by rfl) _ rfl rfl rfl) rfl ?_
              exact ⟨_, _, by rw [E.out], by rw [E.out]; exact ((P1.out.set GB.out 0 _).set GB.out 1 _).mono (Nat.le_of_lt GB.out), by rw [E.out]; exact ((P2.out.set GB2.out 0 _).set GB2.out 1 _).mono (Nat.le_of_lt GB2.out), (B2.out.setCell (by simp) _).setCell (by simp) _⟩
            · rw [if_pos e0] at EG
              have E := hideT EG
              have hx0 : (e2 != 0) = true := by simp [e0]
              clear EG
              go_wp2
              refine bodyPost_ret (v := .tuple #[.agg #[.slice none 0 0, .slice none 0 0], .int .i64 0, .int .i64 4]) (resultF (K2.out.set2 _ _) (by rfl) _ rfl rfl rfl) rfl ?_
              exact ⟨_, _, by rw [E.out], by rw [E.out]; exact OwnT.nil _ _, by rw [E.out]; exact OwnT.nil _ _, (B2.out.setCell (by simp) _).setCell (by simp) _⟩
          · rw [if_pos e0] at EG
            have E := hideT EG
            have hx0 : (e1 != 0) = true := by simp [e0]
            have z0 : w1.cell? ⟨w.heap.size, 0, none⟩ = some (.slice none 0 0) := K1.out.cell rfl
            have z1 : w1.cell? ⟨w.heap.size, 1, none⟩ = some (.slice none 0 0) := K1.out.cell rfl
            have f0 := K1.out.frozen 0
            have f1 := K1.out.frozen 1
            obtain ⟨av, cv, hv⟩ := O1.out.shape
            subst hv
            clear EG C2
            go_wp2
            refine bodyPost_ret (v := .tuple #[.agg #[.slice none 0 0, .slice none 0 0], .int .i64 0, .int .i64 4]) (resultF (K1.out.set2 _ _) (by rfl) _ rfl rfl rfl) rfl ?_
            exact ⟨_, _, by rw [E.out], by rw [E.out]; exact OwnT.nil _ _, by rw [E.out]; exact OwnT.nil _ _, (B1.out.setCell (by simp) _).setCell (by simp) _⟩
        · have E : Hid (funcAt l (q : Int) = (([], []), 0, 4)) := hideT (funcAt_not HQ.out x96)
          have t1 : (l[q]?.getD 0 != 96) = true := by simp [x96]
          clear hc hcell hb ha c1 c2 c3 hwa x96
          generalize l[q]?.getD 0 = x at *
          go_enter Try.func28, Try.ntmps28
          go_wp2_with fail
          rw [HWA.out]
          refine bodyPost_ret (v := .tuple #[.agg #[.slice none 0 0, .slice none 0 0], .int .i64 0, .int .i64 4]) (resultF KZ.out (by rfl) _ rfl rfl rfl) rfl ?_
          exact ⟨_, _, by rw [E.out], by rw [E.out]; exact OwnT.nil _ _, by rw [E.out]; exact OwnT.nil _ _, BA.out⟩
end Go.Proofs.Yteacjhmbamcegaa
