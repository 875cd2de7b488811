/-
  The walk of the document's 'number'.
-/
import Derived.Test.YteacjhmbamcegaaLebWorks
import Derived.Test.YteacjhmbamcegaaRefMath
import Derived.OwnWalk
namespace Go.Proofs.Yteacjhmbamcegaa
open Go.RowKit
set_option linter.unusedVariables false

/-- What a walk is told of a slice of digits. -/
def RowD (w : World) (a : Option Addr) (len cap : Nat) (ds : List Int) : Prop :=
  ds.length = len ∧ len ≤ cap ∧ len ≤ 10 ∧ Leb.Digits ds ∧
  (0 < len → ∃ b off, a = some ⟨b, off, none⟩ ∧ ∀ i, i < len → w.cell? ⟨b, off + i, none⟩ = some (.int .u64 (ds[i]?.getD 0)))

def numb (ds : List Int) (M : Int) : Value := if Leb.dval ds ≤ M then .tuple #[.int .u64 (Leb.dval ds), .bool true] else .tuple #[.int .u64 0, .bool false]

set_option maxHeartbeats 400000 in
theorem number_walk (b off len cap : Nat) (ds : List Int) (M : Int) (w : World) (hlen : ds.length = len) (h10 : len ≤ 10) (hd : Leb.Digits ds) (hM0 : 0 ≤ M) (hM : M ≤ 18446744073709551615)
    (hc : ∀ i, i < len → w.cell? ⟨b, off + i, none⟩ = some (.int .u64 (ds[i]?.getD 0))) :
    Calls Try.prog 56 #[.slice (some ⟨b, off, none⟩) len cap, .int .u64 M] w fun e w' => e = .returned (numb ds M) ∧ w' = w := by
  go_enter Try.func56, Try.ntmps56
  go_wp2
  go_loop [6, 7] (fun n i => ∃ k : Nat, k ≤ len ∧ i = .int .i64 ((k : Int) - 1) ∧ n = .int .u64 (Leb.dval (ds.drop k)) ∧ Leb.dval (ds.drop k) ≤ M) (fun _ i => (intOf i + 1).toNat)
  case atStart => exact ⟨len, Nat.le_refl _, rfl, by rw [List.drop_eq_nil_of_le (by omega)]; rfl, by rw [List.drop_eq_nil_of_le (by omega)]; exact hM0⟩
  case round =>
    obtain ⟨k, hk, rfl, rfl, hle⟩ := hrel
    cases k with
    | zero =>
      have HLE := hide hle
      clear hle
      go_wp2
      go_ret2
      refine ⟨?_, rfl⟩
      have h := HLE.out
      simp only [List.drop_zero] at h
      unfold numb; rw [if_pos h]; rfl
    | succ k =>
      have hck := hc k (by omega)
      have hdk := hd k
      have hst := Leb.dval_drop_step ds k (by omega)
      have h0 := Leb.dval_nonneg _ (Leb.digits_drop hd (k + 1))
      have hbig := Leb.dval_drop_le ds hd k
      have hki : ((k + 1 : Nat) : Int) - 1 = k := by omega
      rw [hki]
      generalize Leb.dval (ds.drop (k + 1)) = n at *
      have HST := hide hst
      have HBIG := hide hbig
      clear hst hbig hc hki
      generalize ds[k]?.getD 0 = d at *
      by_cases hfit : d + 128 * n ≤ M
      · have f1 : d ≤ M := by omega
        have f2 : n ≤ (M - d) / 128 := by omega
        go_wp2
        exact ⟨⟨k, by omega, rfl, by rw [HST.out, Int.add_comm], by rw [HST.out]; exact hfit⟩, by simp [intOf]⟩
      · have hno : numb ds M = .tuple #[.int .u64 0, .bool false] := by
          unfold numb; rw [if_neg (by have h1 := HST.out; have h2 := HBIG.out; omega)]
        have HNO := hide hno
        clear hno
        rcases (show M < d ∧ 0 < n ∨ M < d ∧ n = 0 ∨ d ≤ M ∧ (M - d) / 128 < n by omega) with ⟨f1, f2⟩ | ⟨f1, f2⟩ | ⟨f1, f2⟩
        · have f3 : ¬ d ≤ M := by omega
          go_wp2
          go_ret2
          exact ⟨by rw [HNO.out]; rfl, rfl⟩
        · subst f2
          go_wp2
          go_ret2
          exact ⟨by rw [HNO.out]; rfl, rfl⟩
        · go_wp2
          go_ret2
          exact ⟨by rw [HNO.out]; rfl, rfl⟩

theorem Try.infoWord : (Try.prog.info? 23).map (fun i => (i.zero, i.size, i.bytes)) = some (some (.int .u64 0), 1, 8) := by kernel_rfl

theorem one_cell64 (x : Int) : ∀ u ∈ [Value.int .u64 x], u.oneCell' = true := by
  intro u hu; simp at hu; subst hu; rfl

theorem own_shape {w : World} {base e size : Nat} {v : Value} {n : Nat} {xs : List Value} (h : w.ownsRow base e size v n xs) : ∃ a c, v = .slice a n c := by
  obtain ⟨_, ⟨rfl, rfl⟩ | ⟨g, cap, cur, rfl, _⟩⟩ := h
  · exact ⟨_, _, rfl⟩
  · exact ⟨_, _, rfl⟩

theorem own_slice64 {w : World} {base : Nat} {v : Value} {n : Nat} {l : List Int} (hl : l.length = n) (h : w.ownsRow base 23 1 v n (l.map (Value.int .u64))) (h1 : 1 ≤ n) :
    ∃ g cap, v = .slice (some ⟨g, 0, none⟩) n cap ∧ base ≤ g ∧ n ≤ cap ∧ ∀ i, i < n → w.cell? ⟨g, 0 + i, none⟩ = some (.int .u64 (l[i]?.getD 0)) := by
  obtain ⟨_, ⟨rfl, h0⟩ | ⟨g, cap, cur, rfl, hbase, hblk, hn, hm, hsz, htake⟩⟩ := id h
  · omega
  · refine ⟨g, cap, rfl, hbase, hn, fun i hi => ?_⟩
    have hc := h.cellAt i (by omega)
    rw [Nat.zero_add, hc, List.getElem?_map, List.getElem?_eq_getElem (by omega)]
    simp

/-- What the document's 'groups' answers: nothing, where the digits don't end; or they, in memory of its own. -/
def GroupsPost (L : List Int) (most : Int) (w : World) (e : Ending) (w' : World) : Prop :=
  Below w.heap.size w w' ∧
    (Leb.fin L most.toNat = none ∧ e = .returned (.tuple #[.slice none 0 0, .bool false]) ∨
     ∃ k v, Leb.fin L most.toNat = some k ∧ e = .returned (.tuple #[v, .bool true]) ∧ w'.ownsRow w.heap.size 23 1 v (k + 1) ((Leb.low L (k + 1)).map (Value.int .u64)))

set_option maxHeartbeats 400000 in
theorem refgroups_walk (b off len cap : Nat) (L : List Int) (p : Nat) (most : Int) (w : World) (hL : L.length = len - p) (hm : len ≤ 2 ^ 63 - 1) (hp : p < len) (h1 : 1 ≤ most) (h10 : most ≤ 10)
    (hb : Leb.Bytes L) (hc : ∀ i, i < len - p → w.cell? ⟨b, off + (p + i), none⟩ = some (.int .u8 (L[i]?.getD 0))) :
    Calls Try.prog 55 #[.slice (some ⟨b, off, none⟩) len cap, .int .i64 p, .int .i64 most] w fun e w' => GroupsPost L most w e w' := by
  obtain ⟨i0, hi, hz0, hz1, hz2⟩ := info_parts Try.infoWord
  go_enter Try.func55, Try.ntmps55
  go_wp2
  go_loopw [1, 8] (fun x v wr => ∃ k : Nat, x = .int .i64 ((p + k : Nat) : Int) ∧ (k : Int) ≤ most ∧ k ≤ len - p ∧ (∀ i, i < k → 128 ≤ L[i]?.getD 0) ∧
      wr.ownsRow w.heap.size 23 1 v k ((Leb.low L k).map (Value.int .u64)) ∧ Below w.heap.size w wr) (fun x _ _ => (len - intOf x).toNat)
  case atStart => exact ⟨0, rfl, by omega, by omega, (fun i hi => by omega), World.ownsRow_nil _ _ _ _, Below.refl _ _⟩
  case round =>
    obtain ⟨k, rfl, hk1, hk2, hge, hown, hbel⟩ := hrel
    obtain ⟨va, vc, rfl⟩ := own_shape hown
    have HG := hide hge
    have HB := hide hbel
    clear hge
    by_cases hlt : (k : Int) < most
    · by_cases he : k < len - p
      · have hck := cell_later hbel (hc k he)
        have hbk := hb k
        have he2 : ((p + k : Nat) : Int) < len := by omega
        have HC := hide (hc k he)
        clear hbel hc hb
        have hlow := Leb.low_succ L k (by omega)
        have HLOW := hide hlow
        clear hlow
        have HL := hide hL
        clear hL
        generalize hcd : L[k]?.getD 0 = c at *
        have HCD := hide hcd
        clear hcd
        have hrem : c.tmod 128 = c % 128 := Int.tmod_eq_emod_of_nonneg hbk.1
        have hwr : IntKind.u64.wrap (c % 128) = c % 128 := by rw [IntKind.wrap_u64]; omega
        have C3 : Hid (k + 1 ≤ maxLen) := by show k + 1 ≤ maxLen; unfold maxLen; omega
        have C4 : Hid ((k + 1) * 8 ≤ 140737488355328) := by show (k + 1) * 8 ≤ 140737488355328; omega
        have C5 : Hid (∀ o : Obj, w.heap.size ≤ (wr.alloc o).heap.size) := by intro o; have := HB.out.size; simp; omega
        go_wp2_with (at_builtin; refine wpList_append_own _ rfl _ _ 80 rfl w.heap.size 23 i0 (.int .u64 0) 1 8 Try.underlying80 hi hz0 hz1 hz2 rfl (by decide) _ _ _ rfl (hown.alloc _) ⟨wr.heap.size, 0, none⟩ 1 1 [.int .u64 (c % 128)] rfl rfl (cell_one_new _ _ _) (one_cell64 _) C3.out C4.out (C5.out _) ?_)
        intro v' w1 hown' hgrow _
        have hown2 : w1.ownsRow w.heap.size 23 1 v' (k + 1) ((Leb.low L (k + 1)).map (Value.int .u64)) := by
          rw [HLOW.out]; simpa using hown'
        have hbel1 : Below w.heap.size w w1 := (HB.out.alloc HB.out.size _).grown hgrow (by have := HB.out.size; simp; omega) (fun k hk => (hown.lt k hk).1)
        have hck1 := cell_later hbel1 HC.out
        have H2 := hide hown2
        have H3 := hide hbel1
        clear hown2 hbel1 hown' hgrow hown hck HC HLOW
        by_cases hs : c < 128
        · go_wp2
          go_ret2
          refine ⟨H3.out, .inr ⟨k, _, ?_, rfl, H2.out⟩⟩
          exact Leb.fin_of (by omega) (by rw [HL.out]; exact he) (by rw [HCD.out]; exact hs) HG.out
        · go_wp2
          go_roundw
          case rel =>
            refine ⟨k + 1, by go_num, by omega, by omega, ?_, H2.out, H3.out⟩
            intro i hi
            by_cases e : i = k
            · subst e; rw [HCD.out]; omega
            · exact HG.out i (by omega)
          case measure => simp [intOf]; omega
      · have he2 : ¬ ((p + k : Nat) : Int) < len := by omega
        go_wp2
        go_ret2
        refine ⟨HB.out, .inl ⟨?_, rfl⟩⟩
        exact Leb.fin_none (k := k) (by omega) HG.out (by omega) (by omega)
    · have he2 : decide ((k : Int) < most) = false := by simp; omega
      go_wp2
      go_ret2
      refine ⟨HB.out, .inl ⟨?_, rfl⟩⟩
      exact Leb.fin_none (k := k) (by omega) HG.out (by omega) (by omega)
end Go.Proofs.Yteacjhmbamcegaa
