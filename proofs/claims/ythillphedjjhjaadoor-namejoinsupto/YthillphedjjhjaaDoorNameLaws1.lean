/-
  The document's 'Put'; the walks of NameLetters and NamePuts.
-/
import Derived.Test.YthillphedjjhjaaDoorNameWorks
set_option linter.unusedVariables false
namespace Go.Proofs.YthillphedjjhjaaDoor
open Go.RowKit

theorem append_rowB {w : World} {ops : Array Oper} {rest : List Oper} {o : Oper} {a : Act} {Q : Exit → Act → World → Prop} (hgd : o.guard = none) (s x : Operand)
    (ho : o.op = .call { callee := .builtin .append, args := #[s, x], argTypes := #[22, 22] })
    (base : Nat) (v : Value) (n : Nat) (xs : List Value) (hs : a.eval s = v) (hown : w.ownsRow base 5 1 v n xs)
    (ad : Option Addr) (m c : Nat) (l : List Int) (hx : a.eval x = .slice ad m c) (H : Row w ad m c l) (h63 : n + m ≤ 140737488355328) (hbase : base ≤ w.heap.size)
    (h : ∀ v' w', w'.ownsRow base 5 1 v' (n + m) (xs ++ l.map (Value.int .u8)) → w.grownBy w' v.ownBlock → wpList Tryd.prog ops Q rest (a.put o.dst v') w') :
    wpList Tryd.prog ops Q (o :: rest) a w := by
  obtain ⟨i0, hi, hz0, hz1, hz2⟩ := info_parts Tryd.infoByte
  obtain ⟨hl, hcap, hcm, hb, ha, hc⟩ := H
  cases ad with
  | none =>
    obtain rfl := ha rfl
    obtain rfl : m = 0 := by omega
    have hl0 : l = [] := List.eq_nil_of_length_eq_zero hl
    subst hl0
    refine wpList_append_own_none hgd s x 22 ho base 5 i0 1 Tryd.underlying22 hi v n xs hs hown hx ?_
    exact h v w (by simpa using hown) (World.grownBy.refl _ _)
  | some ad =>
    refine wpList_append_own w hgd s x 22 ho base 5 i0 (.int .u8 0) 1 1 Tryd.underlying22 hi hz0 hz1 hz2 rfl (by decide) v n xs hs hown ad m c (l.map (Value.int .u8)) hx (by simp [hl]) ?_ (ints_oneCell .u8 l) (by unfold maxLen; omega) (by omega) hbase (fun v' w' h1 h2 _ => h v' w' h1 h2)
    intro j u hj
    rw [List.getElem?_map] at hj
    by_cases hjm : j < m
    · obtain ⟨b, off, e, hcell⟩ := hc (by omega)
      simp only [Option.some.injEq] at e
      subst e
      have hg := hcell j hjm
      rw [List.getElem?_eq_getElem (by omega)] at hj hg
      simp only [Option.map_some, Option.some.injEq] at hj
      subst hj
      simp only [Option.getD_some] at hg
      by_cases h0 : j = 0
      · subst h0; simpa [Addr.add] using hg
      · simpa [Addr.add, h0] using hg
    · rw [List.getElem?_eq_none (by omega)] at hj
      simp at hj

set_option maxHeartbeats 1000000 in
theorem rPut_calls (a : Option Addr) (len cap : Nat) (l : List Int) (w : World) (H : RowR w a len cap l) (hb : len * 4 ≤ 140737488355328) :
    Calls Tryd.prog 16 #[.slice a len cap] w fun e w' => PutPostN l w e w' := by
  obtain ⟨hl, hcap, hcm, hr32, _, hc⟩ := H
  unfold maxLen at hcm
  have hm : len ≤ 2 ^ 63 - 1 := by omega
  clear hcm
  go_enter Tryd.func16, Tryd.ntmps16
  go_wp2
  go_loopw [4, 5] (fun v i wr => ∃ k : Nat, i = .int .i64 k ∧ k ≤ len ∧ Hid (Utf.allLetters (l.take k) = true) ∧ Hid (wr.ownsRow w.heap.size 5 1 v (Utf.text (l.take k)).length ((Utf.text (l.take k)).map (Value.int .u8))) ∧ Hid (Below w.heap.size w wr)) (fun _ i _ => len - (intOf i).toNat)
  case atStart => exact ⟨0, rfl, by omega, rfl, World.ownsRow_nil _ _ _ _, Below.refl _ _⟩
  case round =>
    obtain ⟨k, rfl, hk, hall, hown, hbel⟩ := hrel
    by_cases hlt : k < len
    · have t1 : decide ((k : Int) < (len : Int)) = true := by simp; omega
      have hltz : (k : Int) < (len : Int) := by omega
      obtain ⟨b, off, rfl, hcell⟩ := hc (by omega)
      have hcell' := hcell k hlt
      have hrk := hr32 k
      have hck : wr.cell? ⟨b, off + k, none⟩ = some (.int .i32 (l[k]?.getD 0)) := cell_later hbel.out hcell'
      have hnx := text_next (l := l) (k := k) (by omega)
      have han := all_next (l := l) (k := k) (by omega) hall.out
      have htl := Utf.text_len (l.take k)
      rw [List.length_take] at htl
      obtain ⟨r, hre⟩ : ∃ r, l[k]?.getD 0 = r := ⟨_, rfl⟩
      rw [hre] at hrk hck hnx han
      have C1 := hide (Letter_calls r wr)
      cases hlr : Utf.letter r with
      | true =>
        rw [hlr] at C1
        have hrl := letter_true hlr
        have hel := Utf.enc_len r
        have C2 := hide (bytes_calls r wr hrl.1 hrl.2.1)
        have HEB := hide (Utf.enc_bytes r hlr)
        have HN := hide hnx
        have HA := hide (han.trans hlr)
        have HLIM : Hid ((Utf.text (l.take k)).length + (Utf.enc r).length ≤ 140737488355328) := by show _ ≤ _; omega
        clear hc hcell hcell' hr32 hnx han hre htl hl hrl hel
        go_wp2_with fail
        refine C1.out.mono ?_
        rintro e w1 ⟨rfl, rfl⟩
        go_wp2_with fail
        refine C2.out.mono ?_
        rintro e w2 ⟨rfl, rfl⟩
        have hrow : Row (w1.alloc (.cells ((Utf.enc r).map (Value.int .u8)).toArray 5)) (some ⟨w1.heap.size, 0, none⟩) (Utf.enc r).length (Utf.enc r).length (Utf.enc r) := row_lit w1 (Utf.enc r) HEB.out (by have := Utf.enc_len r; omega)
        have HROW := hide hrow
        have O2 := hide (hown.out.alloc (.cells ((Utf.enc r).map (Value.int .u8)).toArray 5))
        have B2 := hide (hbel.out.alloc hbel.out.size (.cells ((Utf.enc r).map (Value.int .u8)).toArray 5))
        generalize w1.alloc (.cells ((Utf.enc r).map (Value.int .u8)).toArray 5) = w2 at HROW O2 B2 ⊢
        generalize (some (⟨w1.heap.size, 0, none⟩ : Addr)) = ad at HROW ⊢
        clear hrow C1 C2 hown hbel
        go_wp2_with (at_builtin; go_must (refine append_rowB rfl _ _ rfl w.heap.size _ _ _ rfl O2.out ad _ _ (Utf.enc r) rfl HROW.out HLIM.out B2.out.size ?_))
        intro v3 w3 hown3 hgrow3
        have H5 : Hid (w3.ownsRow w.heap.size 5 1 v3 (Utf.text (l.take (k + 1))).length ((Utf.text (l.take (k + 1))).map (Value.int .u8))) := by
          show World.ownsRow _ _ _ _ _ _ _
          rw [HN.out, List.length_append, List.map_append]; exact hown3
        have H4 : Hid (Below w.heap.size w w3) := B2.out.grown hgrow3 B2.out.size (fun j hj => (O2.out.lt j hj).1)
        clear hown3 hgrow3 O2 B2 HROW
        go_wp2
        go_roundw
        case rel => exact ⟨k + 1, by simp, by omega, HA, H5, H4⟩
        case measure => simp [intOf]; omega
      | false =>
        rw [hlr] at C1
        have hst : Utf.allLetters l = false := all_stop (k := k) (by omega) (by rw [hre]; exact hlr)
        clear hc hcell hcell' hr32 hnx han hre htl hl
        go_wp2_with fail
        refine C1.out.mono ?_
        rintro e w1 ⟨rfl, rfl⟩
        have HS := hide hst
        clear hst
        go_wp2
        refine bodyPost_ret (v := .tuple #[.slice none 0 0, .int .i64 2]) (by simp [results, Tryd.results16, go_sem]) rfl ?_
        exact ⟨hbel.out, .inr ⟨HS.out, rfl⟩⟩
    · have t1 : decide ((k : Int) < (len : Int)) = false := by simp; omega
      have hkl : k = len := by omega
      subst hkl
      rw [List.take_of_length_le (by omega)] at hall hown
      obtain ⟨av, cv, hv⟩ := own_shape hown.out
      subst hv
      go_wp2
      refine bodyPost_ret (v := .tuple #[.slice av (Utf.text l).length cv, .int .i64 0]) (by simp [results, Tryd.results16, go_sem]) rfl ?_
      exact ⟨hbel.out, .inl ⟨hall.out, _, rfl, hown.out⟩⟩

set_option maxHeartbeats 1000000 in
theorem nameLetters_calls (a : Option Addr) (len cap : Nat) (l : List Int) (w : World) (H : Row w a len cap l) (hT : Tabs w) (nb : len ≤ 1048576) :
    Calls Tryd.prog 3 #[.slice a len cap] w fun e w' => e = .returned (.bool true) ∧ Below w.heap.size w w' := by
  have HH := hide H
  have HT := hide hT
  have HBY := hide H.2.2.2.1
  have HLIM : Hid (len * 4 ≤ 140737488355328) := by show _ ≤ _; omega
  clear H hT nb
  go_enter Tryd.func3, Tryd.ntmps3
  go_wp2_with fail
  refine (Letters_calls a len cap l w HH.out HT.out HLIM.out).mono ?_
  intro e w1 hp
  obtain ⟨hb1, a1, c1, rfl, hr1, _⟩ := hp.one HBY.out
  have B1 := hide hb1
  have R1 := hide hr1
  clear hp hb1 hr1
  go_wp2_with fail
  refine (rLetters_calls a len cap l w1 (HH.out.later B1.out) HLIM.out).mono ?_
  intro e w2 hp
  obtain ⟨hb2, a2, c2, rfl, hr2, _⟩ := hp.one HBY.out
  have B2 := hide (B1.out.trans (hb2.mono B1.out.size))
  have R2 := hide hr2
  have R1' := hide (R1.out.later hb2)
  clear hp hb2 hr2 R1
  go_wp2_with fail
  refine (runes_calls' a1 a2 c1 c2 _ (lets l) w2 R1'.out R2.out).mono ?_
  rintro e w3 ⟨rfl, n3, rfl⟩
  have B3 := hide (below_drewNq B2.out n3)
  generalize w2.drewN n3 = w3 at B3 ⊢
  clear R1' R2
  go_wp2_with fail
  refine (Is_calls a len cap l w3 (HH.out.later B3.out) (HT.out.later B3.out)).mono ?_
  rintro e w4 ⟨rfl, hb4⟩
  have B4 := hide (B3.out.trans (hb4.mono B3.out.size))
  clear hb4
  go_wp2_with fail
  refine (rIs_calls a len cap l w4 (HH.out.later B4.out) HLIM.out).mono ?_
  rintro e w5 ⟨rfl, hb5⟩
  have B5 := hide (B4.out.trans (hb5.mono B4.out.size))
  clear hb5
  go_wp2_with fail
  refine (works_calls w5 (HT.out.later B5.out)).mono ?_
  rintro e w6 ⟨rfl, hb6⟩
  have B6 := hide (B5.out.trans (hb6.mono B5.out.size))
  clear hb6
  go_wp2
  go_ret
  exact ⟨rfl, B6.out⟩

set_option maxHeartbeats 1000000 in
theorem namePuts_calls (a : Option Addr) (len cap : Nat) (l : List Int) (w : World) (H : RowR w a len cap l) (hT : Tabs w) (nb : len * 4 ≤ 140737488355328) :
    Calls Tryd.prog 4 #[.slice a len cap] w fun e w' => e = .returned (.bool true) ∧ Below w.heap.size w w' := by
  have HH := hide H
  have HT := hide hT
  have HLIM := hide nb
  clear H hT nb
  go_enter Tryd.func4, Tryd.ntmps4
  go_wp2_with fail
  refine (Put_calls a len cap l w HH.out HLIM.out).mono ?_
  intro e w1 hp
  obtain ⟨hb1, a1, c1, rfl, hr1, _⟩ := hp.one
  have B1 := hide hb1
  have R1 := hide hr1
  clear hp hb1 hr1
  go_wp2_with fail
  refine (rPut_calls a len cap l w1 (HH.out.later B1.out) HLIM.out).mono ?_
  intro e w2 hp
  obtain ⟨hb2, a2, c2, rfl, hr2, _⟩ := hp.one
  have B2 := hide (B1.out.trans (hb2.mono B1.out.size))
  have R2 := hide hr2
  have R1' := hide (R1.out.later hb2)
  clear hp hb2 hr2 R1
  go_wp2_with fail
  refine (same_calls' a1 a2 c1 c2 _ (puts l) w2 R1'.out R2.out).mono ?_
  rintro e w3 ⟨rfl, n3, rfl⟩
  have B3 := hide (below_drewNq B2.out n3)
  generalize w2.drewN n3 = w3 at B3 ⊢
  clear R1' R2
  go_wp2_with fail
  refine (works_calls w3 (HT.out.later B3.out)).mono ?_
  rintro e w6 ⟨rfl, hb6⟩
  have B6 := hide (B3.out.trans (hb6.mono B3.out.size))
  clear hb6
  go_wp2
  go_ret
  exact ⟨rfl, B6.out⟩

end Go.Proofs.YthillphedjjhjaaDoor
