/-
  What Of answers; the same types, the same rows (genopsame.py wrote it).
-/
import Derived.Test.YthggbimnjneeaaaDoorOpsRow
import Derived.BigQuiet
import Derived.Deep.QuietTactic
import Derived.OneCell
set_option linter.unusedVariables false
set_option maxRecDepth 100000
set_option linter.unusedSimpArgs false
namespace Go.Proofs.YthggbimnjneeaaaDoor
open Go.RowKit Opp

theorem cell_laterY {w w' : World} {p : Addr} {v : Value} (hb : Below w.heap.size w w') (h : w.cell? p = some v) : w'.cell? p = some v := by
  obtain ⟨g, k, spot⟩ := p
  by_cases hg : g < w.heap.size
  · exact (hb.cell (p := ⟨g, k, spot⟩) hg).trans h
  · simp [World.cell?, Array.getElem?_eq_none (show w.heap.size ≤ g by omega)] at h
theorem below_drewNq {B : Nat} {a w : World} (h : Below B a w) (q : Nat) : Below B a (w.drewN q) := h.trans ⟨rfl, rfl, rfl, Nat.le_refl _, fun _ _ => rfl⟩

/-- What a walk is told of a slice of values' types: its numbers. -/
def RowT (w : World) (v : Value) (l : List Int) : Prop :=
  ∃ a cap, v = .slice a l.length cap ∧ l.length ≤ cap ∧ cap ≤ maxLen ∧ (0 < l.length → ∃ b off, a = some ⟨b, off, none⟩ ∧ ∀ i, i < l.length → w.cell? ⟨b, off + i, none⟩ = some (.int .u8 (l[i]?.getD 0)))
theorem RowT.later {w w' : World} {v : Value} {l : List Int} (h : RowT w v l) (hb : Below w.heap.size w w') : RowT w' v l := by
  obtain ⟨a, cap, e, h1, h2, h3⟩ := h
  refine ⟨a, cap, e, h1, h2, fun h0 => ?_⟩
  obtain ⟨b, off, ha, hc⟩ := h3 h0
  exact ⟨b, off, ha, fun i hi => cell_laterY hb (hc i hi)⟩
theorem RowT.nil (w : World) : RowT w (.slice none 0 0) [] := ⟨none, 0, rfl, Nat.le_refl _, Nat.zero_le _, fun h => absurd h (by decide)⟩
theorem OwnY.row {w : World} {b : Nat} {v : Value} {l : List Int} (h : OwnY w b v l) : RowT w v l := by
  obtain ⟨_, ⟨rfl, h0⟩ | ⟨g, cap, cur, rfl, _, hblk, hn, hm, hsz, htake⟩⟩ := id h
  · have hl : l = [] := List.eq_nil_of_length_eq_zero h0
    subst hl
    exact RowT.nil w
  · refine ⟨_, cap, rfl, hn, hm, fun h0 => ⟨g, 0, rfl, fun i hi => ?_⟩⟩
    have hx := World.ownsRow.cells (g := g) h rfl i (.int .u8 (l[i]?.getD 0)) (by rw [List.getElem?_map, List.getElem?_eq_getElem hi]; rfl)
    rw [Nat.zero_add]
    by_cases hz : i = 0
    · subst hz; simpa [Addr.add] using hx
    · simpa [Addr.add, hz] using hx

set_option maxHeartbeats 1000000 in
theorem types_some (b1 o1 c1 b2 o2 c2 : Nat) (l m : List Int) (w : World) (hlm : m.length = l.length) (hm : l.length ≤ 2 ^ 63 - 1)
    (h1 : ∀ i, i < l.length → w.cell? ⟨b1, o1 + i, none⟩ = some (.int .u8 (l[i]?.getD 0))) (h2 : ∀ i, i < l.length → w.cell? ⟨b2, o2 + i, none⟩ = some (.int .u8 (m[i]?.getD 0))) :
    Calls Tryd.prog 24 #[.slice (some ⟨b1, o1, none⟩) l.length c1, .slice (some ⟨b2, o2, none⟩) l.length c2] w fun e w' => e = .returned (.bool (l == m)) ∧ Below w.heap.size w w' := by
  have YES : Hid ((∀ i, i < l.length → l[i]?.getD 0 = m[i]?.getD 0) → (l == m) = true) := hideT (fun h => by
    rw [beq_iff_eq]
    refine List.ext_getElem hlm.symm fun i hi hj => ?_
    have := h i hi
    rw [List.getElem?_eq_getElem hi, List.getElem?_eq_getElem hj] at this
    exact this)
  have NO : Hid (∀ i, i < l.length → l[i]?.getD 0 ≠ m[i]?.getD 0 → (l == m) = false) := hideT (fun i hi h => by
    cases e : l == m with
    | false => rfl
    | true => exact absurd (by rw [eq_of_beq e]) h)
  generalize hL : l.length = len at *
  generalize (l == m) = r at *
  clear hlm hL
  go_enter Tryd.func24, Tryd.ntmps24
  go_wp2
  go_loopw [5] (fun x wr => ∃ k : Nat, x = .int .i64 k ∧ k ≤ len ∧ (∀ i, i < k → l[i]?.getD 0 = m[i]?.getD 0) ∧ Below w.heap.size w wr) (fun x _ => len - (intOf x).toNat)
  case atStart => exact ⟨0, rfl, Nat.zero_le _, fun i hi => by omega, Below.refl _ _⟩
  case round =>
    obtain ⟨k, rfl, hk, hall, hr0⟩ := hrel
    have HR := hideT hr0
    by_cases hlt : k < len
    · have g1 := cell_laterY HR.out (h1 k hlt)
      have g2 := cell_laterY HR.out (h2 k hlt)
      have NK := hideT (NO.out k hlt)
      have YK := hideT (show l[k]?.getD 0 = m[k]?.getD 0 → ∀ i, i < k + 1 → l[i]?.getD 0 = m[i]?.getD 0 from fun he i hi => by
        by_cases e : i = k
        · subst e; exact he
        · exact hall i (by omega))
      clear h1 h2 YES NO hall hr0
      generalize l[k]?.getD 0 = c at *
      generalize m[k]?.getD 0 = d at *
      by_cases e : c = d
      · have YK2 := hideT (YK.out e)
        subst e
        clear NK YK
        go_wp2
        go_quiet (fail)
        go_wp2
        go_roundw
        case rel => exact ⟨k + 1, by go_num, by omega, YK2.out, below_drewNq HR.out _⟩
        case measure => simp [intOf]; omega
      · have hr := NK.out e
        subst hr
        have t1 : (c != d) = true := by simp [e]
        clear NK YK e
        go_wp2
        go_quiet (fail)
        go_wp2
        go_ret
        exact ⟨rfl, below_drewNq HR.out _⟩
    · obtain rfl : k = len := by omega
      have hr := YES.out hall
      subst hr
      clear YES NO hall h1 h2 hr0
      go_wp2
      go_ret
      exact ⟨rfl, HR.out⟩

set_option maxHeartbeats 1000000 in
theorem types_empty (a1 a2 : Option Addr) (c1 c2 : Nat) (w : World) :
    Calls Tryd.prog 24 #[.slice a1 0 c1, .slice a2 0 c2] w fun e w' => e = .returned (.bool true) ∧ Below w.heap.size w w' := by
  go_enter Tryd.func24, Tryd.ntmps24
  go_wp2
  go_loop [5] (fun x => x = .int .i64 0) (fun _ => 0)
  case atStart => exact rfl
  case round =>
    obtain rfl := hrel
    go_wp2
    go_ret
    exact ⟨rfl, Below.refl _ _⟩

set_option maxHeartbeats 1000000 in
theorem types_len (a1 a2 : Option Addr) (n1 n2 c1 c2 : Nat) (h : n1 ≠ n2) (w : World) :
    Calls Tryd.prog 24 #[.slice a1 n1 c1, .slice a2 n2 c2] w fun e w' => e = .returned (.bool false) ∧ Below w.heap.size w w' := by
  have t1 : ((n1 : Int) != (n2 : Int)) = true := by simp; omega
  clear h
  go_enter Tryd.func24, Tryd.ntmps24
  go_wp2
  go_ret
  exact ⟨rfl, Below.refl _ _⟩

theorem types_calls (v1 v2 : Value) (l m : List Int) (w : World) (H1 : RowT w v1 l) (H2 : RowT w v2 m) :
    Calls Tryd.prog 24 #[v1, v2] w fun e w' => e = .returned (.bool (l == m)) ∧ Below w.heap.size w w' := by
  obtain ⟨a1, c1, rfl, g1, g2, g3⟩ := H1
  obtain ⟨a2, c2, rfl, k1, k2, k3⟩ := H2
  by_cases hl : l.length = m.length
  · by_cases h0 : 0 < l.length
    · obtain ⟨b1, o1, rfl, x1⟩ := g3 h0
      obtain ⟨b2, o2, rfl, x2⟩ := k3 (by omega)
      rw [← hl]
      unfold maxLen at g2
      exact types_some b1 o1 c1 b2 o2 c2 l m w hl.symm (by omega) x1 (fun i hi => x2 i (by omega))
    · have e1 : l = [] := List.eq_nil_of_length_eq_zero (by omega)
      have e2 : m = [] := List.eq_nil_of_length_eq_zero (by omega)
      subst e1; subst e2
      exact types_empty a1 a2 c1 c2 w
  · have e : (l == m) = false := by
      cases h : l == m with
      | false => rfl
      | true => exact absurd (by rw [eq_of_beq h]) hl
    rw [e]
    exact types_len a1 a2 _ _ c1 c2 hl w


/-- A row of the table, as it is answered: its lists are the call's own. -/
def InfoV (w : World) (b : Nat) (v : Value) (R : InfoD) : Prop :=
  ∃ a1 c1 a2 c2, v = .agg #[.int .u16 (R.op : Int), .string (str R.name), .int .u8 (R.imm : Int), .slice a1 R.fr.length c1, .slice a2 R.to.length c2, .int .i64 (R.bits : Int), .bool R.plain] ∧
    OwnY w b (.slice a1 R.fr.length c1) R.fr ∧ OwnY w b (.slice a2 R.to.length c2) R.to
theorem InfoPost.info {R : InfoD} {w : World} {e : Ending} {w' : World} (h : InfoPost R w e w') : ∃ v, e = .returned v ∧ InfoV w' w.heap.size v R ∧ Below w.heap.size w w' := by
  obtain ⟨v1, v2, rfl, h1, h2, hb⟩ := h
  obtain ⟨a1, c1, rfl⟩ := OwnY.shape h1
  obtain ⟨a2, c2, rfl⟩ := OwnY.shape h2
  exact ⟨_, rfl, ⟨a1, c1, a2, c2, rfl, h1, h2⟩, hb⟩
theorem InfoV.later {w w' : World} {b : Nat} {v : Value} {R : InfoD} (h : InfoV w b v R) (hb : Below w.heap.size w w') : InfoV w' b v R := by
  obtain ⟨a1, c1, a2, c2, e, h1, h2⟩ := h
  exact ⟨a1, c1, a2, c2, e, OwnY.later h1 hb, OwnY.later h2 hb⟩
theorem InfoV.mono {w : World} {b b' : Nat} {v : Value} {R : InfoD} (h : InfoV w b v R) (hb : b' ≤ b) : InfoV w b' v R := by
  obtain ⟨a1, c1, a2, c2, e, h1, h2⟩ := h
  exact ⟨a1, c1, a2, c2, e, OwnY.mono h1 hb, OwnY.mono h2 hb⟩
def zeroD : InfoD := ⟨0, [], 0, [], [], 0, false⟩
theorem InfoV.zero (w : World) (b : Nat) : InfoV w b (.agg #[.int .u16 0, .string ⟨#[]⟩, .int .u8 0, .slice none 0 0, .slice none 0 0, .int .i64 0, .bool false]) zeroD :=
  ⟨none, 0, none, 0, rfl, World.ownsRow_nil _ _ _ _, World.ownsRow_nil _ _ _ _⟩

set_option maxHeartbeats 4000000 in
theorem f0Info_calls (v u : Value) (R : InfoD) (b b' : Nat) (w : World) (H : InfoV w b v R) (G : InfoV w b' u R) :
    Calls Tryd.prog 11 #[v, u] w fun e w' => e = .returned (.bool true) ∧ Below w.heap.size w w' := by
  obtain ⟨a1, c1, a2, c2, rfl, h1, h2⟩ := H
  obtain ⟨a3, c3, a4, c4, rfl, g1, g2⟩ := G
  obtain ⟨op, name, imm, fr, to, bits, plain⟩ := R
  simp only at h1 h2 g1 g2 ⊢
  obtain ⟨wa, hwa⟩ : ∃ wa, (w.alloc (.cells #[.int .u16 (op : Int), .string (str name), .int .u8 (imm : Int), .slice a1 fr.length c1, .slice a2 to.length c2, .int .i64 (bits : Int), .bool plain] 27)).alloc (.cells #[.int .u16 (op : Int), .string (str name), .int .u8 (imm : Int), .slice a3 fr.length c3, .slice a4 to.length c4, .int .i64 (bits : Int), .bool plain] 27) = wa := ⟨_, rfl⟩
  have BA : Hid (Below w.heap.size w wa) := hideT (by rw [← hwa]; exact ((Below.refl _ _).alloc (Nat.le_refl _) _).alloc (by simp) _)
  have KA : Hid (wa.heap[w.heap.size]? = some (.cells #[.int .u16 (op : Int), .string (str name), .int .u8 (imm : Int), .slice a1 fr.length c1, .slice a2 to.length c2, .int .i64 (bits : Int), .bool plain] 27 (0, 0))) := hideT (by
    rw [← hwa]; exact (heap_alloc_old _ _ (by simp)).trans (heap_alloc_new w _))
  have KB : Hid (wa.heap[w.heap.size + 1]? = some (.cells #[.int .u16 (op : Int), .string (str name), .int .u8 (imm : Int), .slice a3 fr.length c3, .slice a4 to.length c4, .int .i64 (bits : Int), .bool plain] 27 (0, 0))) := hideT (by
    rw [← hwa]
    have := heap_alloc_new (w.alloc (.cells #[.int .u16 (op : Int), .string (str name), .int .u8 (imm : Int), .slice a1 fr.length c1, .slice a2 to.length c2, .int .i64 (bits : Int), .bool plain] 27)) (.cells #[.int .u16 (op : Int), .string (str name), .int .u8 (imm : Int), .slice a3 fr.length c3, .slice a4 to.length c4, .int .i64 (bits : Int), .bool plain] 27)
    simpa using this)
  have C1 := types_calls _ _ fr fr wa ((OwnY.row h1).later BA.out) ((OwnY.row g1).later BA.out)
  rw [show (fr == fr) = true by simp] at C1
  have C2 := hideT (fun V hV => types_calls _ _ to to V ((OwnY.row h2).later (w' := V) hV) ((OwnY.row g2).later (w' := V) hV))
  have C1 := hideT C1
  have HWA := hideT hwa
  generalize str name = s at *
  clear hwa h1 h2 g1 g2
  go_enter Tryd.func11, Tryd.ntmps11
  go_wp2_with fail
  rw [HWA.out]
  refine C1.out.mono ?_
  rintro e w1 ⟨rfl, hb1⟩
  have B1 := hideT (BA.out.trans (hb1.mono BA.out.size))
  have ha := (hb1.block _ (Array.getElem?_eq_some_iff.1 KA.out).1).trans KA.out
  have hb := (hb1.block _ (Array.getElem?_eq_some_iff.1 KB.out).1).trans KB.out
  have HA := hideT ha
  have HB := hideT hb
  have z4 : w1.cell? ⟨w.heap.size, 4, none⟩ = some (.slice a2 to.length c2) := by simp [World.cell?, ha]
  have y4 : w1.cell? ⟨w.heap.size + 1, 4, none⟩ = some (.slice a4 to.length c4) := by simp [World.cell?, hb]
  have C3 := C2.out w1 B1.out
  rw [show (to == to) = true by simp] at C3
  have C3 := hideT C3
  clear hb1 ha hb C2 C1
  go_wp2_with fail
  refine C3.out.mono ?_
  rintro e w2 ⟨rfl, hb2⟩
  have B2 := hideT (B1.out.trans (hb2.mono B1.out.size))
  have ha := (hb2.block _ (Array.getElem?_eq_some_iff.1 HA.out).1).trans HA.out
  have hb := (hb2.block _ (Array.getElem?_eq_some_iff.1 HB.out).1).trans HB.out
  have z5 : w2.cell? ⟨w.heap.size, 5, none⟩ = some (.int .i64 (bits : Int)) := by simp [World.cell?, ha]
  have y5 : w2.cell? ⟨w.heap.size + 1, 5, none⟩ = some (.int .i64 (bits : Int)) := by simp [World.cell?, hb]
  have z6 : w2.cell? ⟨w.heap.size, 6, none⟩ = some (.bool plain) := by simp [World.cell?, ha]
  have y6 : w2.cell? ⟨w.heap.size + 1, 6, none⟩ = some (.bool plain) := by simp [World.cell?, hb]
  clear hb2 ha hb z4 y4
  go_wp2
  go_ret
  exact ⟨rfl, B2.out⟩
end Go.Proofs.YthggbimnjneeaaaDoor
