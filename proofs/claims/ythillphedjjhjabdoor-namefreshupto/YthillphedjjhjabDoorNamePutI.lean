/-
  'utf8.AppendRune', 'name.Put', 'name.Row', 'name.PutRow', with the spare cells of what they make told.
-/
import Derived.Test.YthillphedjjhjabDoorNameRowsWalk
import Derived.Test.YthillphedjjhjabDoorNameLaws3
import Derived.Test.YthillphedjjhjabDoorLebPutsI
set_option linter.unusedVariables false
namespace Go.Proofs.YthillphedjjhjabDoor
open Go.RowKit

theorem OwnI.shape {w : World} {base : Nat} {e : TypeId} {k : IntKind} {v : Value} {l : List Int} (h : OwnI w base e k v l) : ∃ a c, v = .slice a l.length c := by
  rcases h with ⟨rfl, rfl⟩ | ⟨g, cap, zs, rfl, _⟩
  · exact ⟨none, 0, rfl⟩
  · exact ⟨_, cap, rfl⟩

/-- What an append to an own row of bytes leaves: the row grown, and nothing below it changed. -/
def GrewPostI (base : Nat) (l : List Int) (w : World) (e : Ending) (w' : World) : Prop :=
  ∃ v, e = .returned v ∧ OwnI w' base 5 .u8 v l ∧ Below base w w'

set_option maxHeartbeats 1000000 in
theorem append1I (r : Int) (l : List Int) (base : Nat) (v : Value) (w : World) (hown : OwnI w base 5 .u8 v l) (hbase : base ≤ w.heap.size) (hlen : l.length + 1 ≤ 140737488355328) (h0 : 0 ≤ r) (h1 : r < 128) :
    Calls Tryd.prog 17 #[v, .int .i32 r] w fun e w' => GrewPostI base (l ++ [r]) w e w' := by
  obtain ⟨i0, hi, hz0, hz1, hz2⟩ := info_parts Tryd.infoByte
  have t1 : decide (r ≤ 127) = true := by simp; omega
  have C3 : Hid (l.length + 1 ≤ maxLen) := by show l.length + 1 ≤ maxLen; unfold maxLen; omega
  have C4 : Hid ((l.length + 1) * 1 ≤ 140737488355328) := by show (l.length + 1) * 1 ≤ 140737488355328; omega
  have C5 : Hid (∀ o : Obj, base ≤ (w.alloc o).heap.size) := by intro o; simp; omega
  have HW : Hid (∀ z ∈ ([r] : List Int), (Lit.int .u8 z).wf = true) := by
    intro z hz
    simp at hz
    subst hz
    exact wf8 _ (by omega) (by omega)
  have H0 := hide hown
  clear hlen hown
  go_enter Tryd.func17, Tryd.ntmps17
  go_wp2_with (at_builtin; go_must (refine wpList_append_ownI _ rfl _ _ 23 rfl base 5 i0 .u8 1 Tryd.underlying23 hi hz0 hz1 hz2 _ _ rfl (H0.out.alloc _) ⟨w.heap.size, 0, none⟩ 1 1 [r] rfl rfl (cell_news _ _ _) HW.out C3.out C4.out (C5.out _) ?_))
  intro v' w1 hown' hgrow
  have hown2 : OwnI w1 base 5 .u8 v' (l ++ [r]) := by
    exact hown'
  have hbel : Below base w w1 := ((Below.refl _ w).alloc hbase _).grown hgrow (C5.out _) (fun k hk => (H0.out.row.lt k hk).1)
  clear hown' hgrow
  have H2 := hide hown2
  have H3 := hide hbel
  clear hown2 hbel H0
  go_wp2
  go_ret
  exact ⟨_, rfl, H2.out, H3.out⟩

set_option maxHeartbeats 1000000 in
theorem append2I (r : Int) (l : List Int) (base : Nat) (v : Value) (w : World) (hown : OwnI w base 5 .u8 v l) (hbase : base ≤ w.heap.size) (hlen : l.length + 2 ≤ 140737488355328) (h0 : 128 ≤ r) (h1 : r < 2048) :
    Calls Tryd.prog 21 #[v, .int .i32 r] w fun e w' => GrewPostI base (l ++ [192 + r / 64, 128 + r % 64]) w e w' := by
  obtain ⟨i0, hi, hz0, hz1, hz2⟩ := info_parts Tryd.infoByte
  have t1 : decide (r ≤ 2047) = true := by simp; omega
  have C3 : Hid (l.length + 2 ≤ maxLen) := by show l.length + 2 ≤ maxLen; unfold maxLen; omega
  have C4 : Hid ((l.length + 2) * 1 ≤ 140737488355328) := by show (l.length + 2) * 1 ≤ 140737488355328; omega
  have C5 : Hid (∀ o : Obj, base ≤ (w.alloc o).heap.size) := by intro o; simp; omega
  have HW : Hid (∀ z ∈ ([192 + r / 64, 128 + r % 64] : List Int), (Lit.int .u8 z).wf = true) := by
    intro z hz
    simp at hz
    rcases hz with rfl | rfl <;> exact wf8 _ (by omega) (by omega)
  have H0 := hide hown
  clear hlen hown
  go_enter Tryd.func21, Tryd.ntmps21
  go_wp2_with (at_builtin; go_must (refine wpList_append_ownI _ rfl _ _ 23 rfl base 5 i0 .u8 1 Tryd.underlying23 hi hz0 hz1 hz2 _ _ rfl (H0.out.alloc _) ⟨w.heap.size, 0, none⟩ 2 2 [192 + r / 64, 128 + r % 64] rfl rfl (cell_news _ _ _) HW.out C3.out C4.out (C5.out _) ?_))
  intro v' w1 hown' hgrow
  have hown2 : OwnI w1 base 5 .u8 v' (l ++ [192 + r / 64, 128 + r % 64]) := by
    exact hown'
  have hbel : Below base w w1 := ((Below.refl _ w).alloc hbase _).grown hgrow (C5.out _) (fun k hk => (H0.out.row.lt k hk).1)
  clear hown' hgrow
  have H2 := hide hown2
  have H3 := hide hbel
  clear hown2 hbel H0
  go_wp2
  go_ret
  exact ⟨_, rfl, H2.out, H3.out⟩

set_option maxHeartbeats 1000000 in
theorem append3I (r : Int) (l : List Int) (base : Nat) (v : Value) (w : World) (hown : OwnI w base 5 .u8 v l) (hbase : base ≤ w.heap.size) (hlen : l.length + 3 ≤ 140737488355328) (h0 : 2048 ≤ r) (h1 : r < 65536) (h2 : r < 55296) :
    Calls Tryd.prog 21 #[v, .int .i32 r] w fun e w' => GrewPostI base (l ++ [224 + r / 4096, 128 + r / 64 % 64, 128 + r % 64]) w e w' := by
  obtain ⟨i0, hi, hz0, hz1, hz2⟩ := info_parts Tryd.infoByte
  have t1 : decide (r ≤ 2047) = false := by simp; omega
  have t2 : decide (r < 55296) = true := by simp; omega
  have C3 : Hid (l.length + 3 ≤ maxLen) := by show l.length + 3 ≤ maxLen; unfold maxLen; omega
  have C4 : Hid ((l.length + 3) * 1 ≤ 140737488355328) := by show (l.length + 3) * 1 ≤ 140737488355328; omega
  have C5 : Hid (∀ o : Obj, base ≤ (w.alloc o).heap.size) := by intro o; simp; omega
  have HW : Hid (∀ z ∈ ([224 + r / 4096, 128 + r / 64 % 64, 128 + r % 64] : List Int), (Lit.int .u8 z).wf = true) := by
    intro z hz
    simp at hz
    rcases hz with rfl | rfl | rfl <;> exact wf8 _ (by omega) (by omega)
  have H0 := hide hown
  clear hlen hown
  go_enter Tryd.func21, Tryd.ntmps21
  go_wp2_with (at_builtin; go_must (refine wpList_append_ownI _ rfl _ _ 23 rfl base 5 i0 .u8 1 Tryd.underlying23 hi hz0 hz1 hz2 _ _ rfl (H0.out.alloc _) ⟨w.heap.size, 0, none⟩ 3 3 [224 + r / 4096, 128 + r / 64 % 64, 128 + r % 64] rfl rfl (cell_news _ _ _) HW.out C3.out C4.out (C5.out _) ?_))
  intro v' w1 hown' hgrow
  have hown2 : OwnI w1 base 5 .u8 v' (l ++ [224 + r / 4096, 128 + r / 64 % 64, 128 + r % 64]) := by
    exact hown'
  have hbel : Below base w w1 := ((Below.refl _ w).alloc hbase _).grown hgrow (C5.out _) (fun k hk => (H0.out.row.lt k hk).1)
  clear hown' hgrow
  have H2 := hide hown2
  have H3 := hide hbel
  clear hown2 hbel H0
  go_wp2
  go_ret
  exact ⟨_, rfl, H2.out, H3.out⟩

set_option maxHeartbeats 1000000 in
theorem append3bI (r : Int) (l : List Int) (base : Nat) (v : Value) (w : World) (hown : OwnI w base 5 .u8 v l) (hbase : base ≤ w.heap.size) (hlen : l.length + 3 ≤ 140737488355328) (h0 : 2048 ≤ r) (h1 : r < 65536) (h2 : 57343 < r) :
    Calls Tryd.prog 21 #[v, .int .i32 r] w fun e w' => GrewPostI base (l ++ [224 + r / 4096, 128 + r / 64 % 64, 128 + r % 64]) w e w' := by
  obtain ⟨i0, hi, hz0, hz1, hz2⟩ := info_parts Tryd.infoByte
  have t1 : decide (r ≤ 2047) = false := by simp; omega
  have t2 : decide (r < 55296) = false := by simp; omega
  have t3 : decide (57343 < r) = true := by simp; omega
  have t4 : decide (r ≤ 65535) = true := by simp; omega
  have C3 : Hid (l.length + 3 ≤ maxLen) := by show l.length + 3 ≤ maxLen; unfold maxLen; omega
  have C4 : Hid ((l.length + 3) * 1 ≤ 140737488355328) := by show (l.length + 3) * 1 ≤ 140737488355328; omega
  have C5 : Hid (∀ o : Obj, base ≤ (w.alloc o).heap.size) := by intro o; simp; omega
  have HW : Hid (∀ z ∈ ([224 + r / 4096, 128 + r / 64 % 64, 128 + r % 64] : List Int), (Lit.int .u8 z).wf = true) := by
    intro z hz
    simp at hz
    rcases hz with rfl | rfl | rfl <;> exact wf8 _ (by omega) (by omega)
  have H0 := hide hown
  clear hlen hown
  go_enter Tryd.func21, Tryd.ntmps21
  go_wp2_with (at_builtin; go_must (refine wpList_append_ownI _ rfl _ _ 23 rfl base 5 i0 .u8 1 Tryd.underlying23 hi hz0 hz1 hz2 _ _ rfl (H0.out.alloc _) ⟨w.heap.size, 0, none⟩ 3 3 [224 + r / 4096, 128 + r / 64 % 64, 128 + r % 64] rfl rfl (cell_news _ _ _) HW.out C3.out C4.out (C5.out _) ?_))
  intro v' w1 hown' hgrow
  have hown2 : OwnI w1 base 5 .u8 v' (l ++ [224 + r / 4096, 128 + r / 64 % 64, 128 + r % 64]) := by
    exact hown'
  have hbel : Below base w w1 := ((Below.refl _ w).alloc hbase _).grown hgrow (C5.out _) (fun k hk => (H0.out.row.lt k hk).1)
  clear hown' hgrow
  have H2 := hide hown2
  have H3 := hide hbel
  clear hown2 hbel H0
  go_wp2
  go_ret
  exact ⟨_, rfl, H2.out, H3.out⟩

set_option maxHeartbeats 1000000 in
theorem append4I (r : Int) (l : List Int) (base : Nat) (v : Value) (w : World) (hown : OwnI w base 5 .u8 v l) (hbase : base ≤ w.heap.size) (hlen : l.length + 4 ≤ 140737488355328) (h0 : 65536 ≤ r) (h1 : r ≤ 1114111) :
    Calls Tryd.prog 21 #[v, .int .i32 r] w fun e w' => GrewPostI base (l ++ [240 + r / 262144, 128 + r / 4096 % 64, 128 + r / 64 % 64, 128 + r % 64]) w e w' := by
  obtain ⟨i0, hi, hz0, hz1, hz2⟩ := info_parts Tryd.infoByte
  have t1 : decide (r ≤ 2047) = false := by simp; omega
  have t2 : decide (r < 55296) = false := by simp; omega
  have t3 : decide (57343 < r) = true := by simp; omega
  have t4 : decide (r ≤ 65535) = false := by simp; omega
  have t5 : decide (65535 < r) = true := by simp; omega
  have t6 : decide (r ≤ 1114111) = true := by simp; omega
  have C3 : Hid (l.length + 4 ≤ maxLen) := by show l.length + 4 ≤ maxLen; unfold maxLen; omega
  have C4 : Hid ((l.length + 4) * 1 ≤ 140737488355328) := by show (l.length + 4) * 1 ≤ 140737488355328; omega
  have C5 : Hid (∀ o : Obj, base ≤ (w.alloc o).heap.size) := by intro o; simp; omega
  have HW : Hid (∀ z ∈ ([240 + r / 262144, 128 + r / 4096 % 64, 128 + r / 64 % 64, 128 + r % 64] : List Int), (Lit.int .u8 z).wf = true) := by
    intro z hz
    simp at hz
    rcases hz with rfl | rfl | rfl | rfl <;> exact wf8 _ (by omega) (by omega)
  have H0 := hide hown
  clear hlen hown
  go_enter Tryd.func21, Tryd.ntmps21
  go_wp2_with (at_builtin; go_must (refine wpList_append_ownI _ rfl _ _ 23 rfl base 5 i0 .u8 1 Tryd.underlying23 hi hz0 hz1 hz2 _ _ rfl (H0.out.alloc _) ⟨w.heap.size, 0, none⟩ 4 4 [240 + r / 262144, 128 + r / 4096 % 64, 128 + r / 64 % 64, 128 + r % 64] rfl rfl (cell_news _ _ _) HW.out C3.out C4.out (C5.out _) ?_))
  intro v' w1 hown' hgrow
  have hown2 : OwnI w1 base 5 .u8 v' (l ++ [240 + r / 262144, 128 + r / 4096 % 64, 128 + r / 64 % 64, 128 + r % 64]) := by
    exact hown'
  have hbel : Below base w w1 := ((Below.refl _ w).alloc hbase _).grown hgrow (C5.out _) (fun k hk => (H0.out.row.lt k hk).1)
  clear hown' hgrow
  have H2 := hide hown2
  have H3 := hide hbel
  clear hown2 hbel H0
  go_wp2
  go_ret
  exact ⟨_, rfl, H2.out, H3.out⟩

theorem appendNon_callsI (r : Int) (l : List Int) (base : Nat) (v : Value) (w : World) (hown : OwnI w base 5 .u8 v l) (hbase : base ≤ w.heap.size) (hlen : l.length + 4 ≤ 140737488355328)
    (hr : Utf.letter r = true) (h1 : 128 ≤ r) :
    Calls Tryd.prog 21 #[v, .int .i32 r] w fun e w' => GrewPostI base (l ++ Utf.enc r) w e w' := by
  have hl := letter_true hr
  unfold Utf.enc
  rw [if_neg (by omega)]
  by_cases h2 : r < 2048
  · rw [if_pos h2]; exact append2I r l base v w hown hbase (by omega) h1 h2
  · rw [if_neg h2]
    by_cases h3 : r < 65536
    · rw [if_pos h3]
      by_cases h4 : r < 55296
      · exact append3I r l base v w hown hbase (by omega) (by omega) h3 h4
      · exact append3bI r l base v w hown hbase (by omega) (by omega) h3 (by omega)
    · rw [if_neg h3]
      exact append4I r l base v w hown hbase (by omega) (by omega) (by omega)

/-- 'utf8.AppendRune' of a letter, to a row of the caller's own. -/
theorem AppendRune_callsI (r : Int) (l : List Int) (base : Nat) (v : Value) (w : World) (hown : OwnI w base 5 .u8 v l) (hbase : base ≤ w.heap.size) (hlen : l.length + 4 ≤ 140737488355328)
    (hr : Utf.letter r = true) :
    Calls Tryd.prog 17 #[v, .int .i32 r] w fun e w' => GrewPostI base (l ++ Utf.enc r) w e w' := by
  have hl := letter_true hr
  by_cases h : r < 128
  · have e : Utf.enc r = [r] := by unfold Utf.enc; rw [if_pos h]
    rw [e]
    exact append1I r l base v w hown hbase (by omega) hl.1 h
  · have C := hide (appendNon_callsI r l base v w hown hbase hlen hr (by omega))
    have t1 : decide (r ≤ 127) = false := by simp; omega
    have h0 := hl.1
    have h1 := hl.2.1
    clear hown hlen hl hr
    generalize l ++ Utf.enc r = L at C ⊢
    go_enter Tryd.func17, Tryd.ntmps17
    go_wp2_with fail
    refine C.out.mono ?_
    rintro e w1 ⟨v1, rfl, h2, h3⟩
    have H2 := hide h2
    have H3 := hide h3
    clear h2 h3 C
    go_wp2
    go_ret
    exact ⟨_, rfl, H2.out, H3.out⟩

def PutPostI (ls : List Int) (w : World) (e : Ending) (w' : World) : Prop :=
  Below w.heap.size w w' ∧
    ((Utf.allLetters ls = true ∧ ∃ v, e = .returned (.tuple #[v, .int .i64 0]) ∧ OwnI w' w.heap.size 5 .u8 v (Utf.text ls)) ∨
     (Utf.allLetters ls = false ∧ e = .returned (.tuple #[.slice none 0 0, .int .i64 2])))

set_option maxHeartbeats 1000000 in
theorem Put_callsI (a : Option Addr) (len cap : Nat) (l : List Int) (w : World) (H : RowR w a len cap l) (hb : len * 4 ≤ 140737488355328) :
    Calls Tryd.prog 7 #[.slice a len cap] w fun e w' => PutPostI l w e w' := by
  obtain ⟨hl, hcap, hcm, hr32, _, hc⟩ := H
  unfold maxLen at hcm
  have hm : len ≤ 2 ^ 63 - 1 := by omega
  clear hcm
  go_enter Tryd.func7, Tryd.ntmps7
  go_wp2
  go_loopw [4, 9] (fun v i wr => ∃ k : Nat, i = .int .i64 k ∧ k ≤ len ∧ Hid (Utf.allLetters (l.take k) = true) ∧ Hid (OwnI wr w.heap.size 5 .u8 v (Utf.text (l.take k))) ∧ Hid (Below w.heap.size w wr)) (fun _ i _ => len - (intOf i).toNat)
  case atStart => exact ⟨0, rfl, by omega, rfl, OwnI.nil _ _ _ _, Below.refl _ _⟩
  case round =>
    obtain ⟨k, rfl, hk, hall, hown, hbel⟩ := hrel
    by_cases hlt : k < len
    · have t1 : decide ((k : Int) < (len : Int)) = true := by simp; omega
      have hltz : (k : Int) < (len : Int) := by omega
      obtain ⟨b, off, rfl, hcell⟩ := hc (by omega)
      have hcell' := hcell k hlt
      have hrk := hr32 k
      have hck : wr.cell? ⟨b, off + k, none⟩ = some (.int .i32 (l[k]?.getD 0)) := cell_later hbel.out hcell'
      have hnx := text_next (l := l) (k := k) (by omega)
      have han := all_next (l := l) (k := k) (by omega) hall.out
      have htl := Utf.text_len (l.take k)
      rw [List.length_take] at htl
      obtain ⟨r, hre⟩ : ∃ r, l[k]?.getD 0 = r := ⟨_, rfl⟩
      rw [hre] at hrk hck hnx han
      have C1 := hide (ValidRune_calls r wr)
      cases hlr : Utf.letter r with
      | true =>
        rw [hlr] at C1
        have C2 := hide (AppendRune_callsI r (Utf.text (l.take k)) w.heap.size _ wr hown.out hbel.out.size (by omega) hlr)
        rw [← hnx] at C2
        have HN := hide hnx
        have HA := hide (han.trans hlr)
        clear hc hcell hcell' hr32 hnx han hre htl hl
        go_wp2_with fail
        refine C1.out.mono ?_
        rintro e w1 ⟨rfl, rfl⟩
        go_wp2_with fail
        refine C2.out.mono ?_
        rintro e w2 ⟨v2, rfl, hown2, hbel2⟩
        have H2 := hide hown2
        have H3 := hide (hbel.out.trans hbel2)
        clear hown2 hbel2 C1 C2
        go_wp2
        go_roundw
        case rel => exact ⟨k + 1, by simp, by omega, HA, H2, H3⟩
        case measure => simp [intOf]; omega
      | false =>
        rw [hlr] at C1
        have hst : Utf.allLetters l = false := all_stop (k := k) (by omega) (by rw [hre]; exact hlr)
        clear hc hcell hcell' hr32 hnx han hre htl hl
        go_wp2_with fail
        refine C1.out.mono ?_
        rintro e w1 ⟨rfl, rfl⟩
        have HS := hide hst
        clear hst
        go_wp2
        refine bodyPost_ret (v := .tuple #[.slice none 0 0, .int .i64 2]) (by simp [results, Tryd.results7, go_sem]) rfl ?_
        exact ⟨hbel.out, .inr ⟨HS.out, rfl⟩⟩
    · have t1 : decide ((k : Int) < (len : Int)) = false := by simp; omega
      have hkl : k = len := by omega
      subst hkl
      rw [List.take_of_length_le (by omega)] at hall hown
      obtain ⟨av, cv, hv⟩ := OwnI.shape hown.out
      subst hv
      go_wp2
      refine bodyPost_ret (v := .tuple #[.slice av (Utf.text l).length cv, .int .i64 0]) (by simp [results, Tryd.results7, go_sem]) rfl ?_
      exact ⟨hbel.out, .inl ⟨hall.out, _, rfl, hown.out⟩⟩

theorem wf_bytes {l : List Int} (hb : Leb.Bytes l) : ∀ z ∈ l, (Lit.int .u8 z).wf = true := by
  intro z hz
  obtain ⟨i, hi, rfl⟩ := List.getElem_of_mem hz
  have := hb i
  rw [List.getElem?_eq_getElem hi] at this
  simp at this
  exact wf8 _ this.1 this.2

theorem append_rowI {w : World} {ops : Array Oper} {rest : List Oper} {o : Oper} {a : Act} {Q : Exit → Act → World → Prop} (hgd : o.guard = none) (s x : Operand)
    (ho : o.op = .call { callee := .builtin .append, args := #[s, x], argTypes := #[23, 23] })
    (base : Nat) (v : Value) (l0 : List Int) (hs : a.eval s = v) (hown : OwnI w base 5 .u8 v l0)
    (ad : Option Addr) (m c : Nat) (l : List Int) (hx : a.eval x = .slice ad m c) (H : Row w ad m c l) (h63 : l0.length + m ≤ 140737488355328) (hbase : base ≤ w.heap.size)
    (h : ∀ v' w', OwnI w' base 5 .u8 v' (l0 ++ l) → w.grownBy w' v.ownBlock → wpList Tryd.prog ops Q rest (a.put o.dst v') w') :
    wpList Tryd.prog ops Q (o :: rest) a w := by
  obtain ⟨i0, hi, hz0, hz1, hz2⟩ := info_parts Tryd.infoByte
  obtain ⟨hl, hcap, hcm, hb, ha, hc⟩ := H
  cases ad with
  | none =>
    obtain rfl := ha rfl
    obtain rfl : m = 0 := by omega
    have hl0 : l = [] := List.eq_nil_of_length_eq_zero hl
    subst hl0
    refine wpList_append_own_none hgd s x 23 ho base 5 i0 1 Tryd.underlying23 hi v l0.length (l0.map (Value.int .u8)) hs hown.row hx ?_
    exact h v w (by simpa using hown) (World.grownBy.refl _ _)
  | some ad =>
    refine wpList_append_ownI w hgd s x 23 ho base 5 i0 .u8 1 Tryd.underlying23 hi hz0 hz1 hz2 v l0 hs hown ad m c l hx hl ?_ (wf_bytes hb) (by unfold maxLen; omega) (by omega) hbase h
    intro j u hj
    rw [List.getElem?_map] at hj
    by_cases hjm : j < m
    · obtain ⟨b, off, e, hcell⟩ := hc (by omega)
      simp only [Option.some.injEq] at e
      subst e
      have hg := hcell j hjm
      rw [List.getElem?_eq_getElem (by omega)] at hj hg
      simp only [Option.map_some, Option.some.injEq] at hj
      subst hj
      simp only [Option.getD_some] at hg
      by_cases h0 : j = 0
      · subst h0; simpa [Addr.add] using hg
      · simpa [Addr.add, h0] using hg
    · rw [List.getElem?_eq_none (by omega)] at hj
      simp at hj

def RowPostI (l : List Int) (p : Int) (w : World) (e : Ending) (w' : World) : Prop :=
  Below w.heap.size w w' ∧ ∃ v, e = .returned (.tuple #[v, .int .i64 (rowAt l p).2.1, .int .i64 (rowAt l p).2.2]) ∧ OwnI w' w.heap.size 5 .u8 v (rowAt l p).1

set_option maxHeartbeats 1000000 in
theorem Row_callsI (a : Option Addr) (len cap : Nat) (l : List Int) (p : Int) (w : World) (H : Row w a len cap l) :
    Calls Tryd.prog 10 #[.slice a len cap, .int .i64 p] w fun e w' => RowPostI l p w e w' := by
  have C1 := hide (cut_calls a len cap l p w H)
  clear H
  go_enter Tryd.func10, Tryd.ntmps10
  go_wp2_with fail
  refine C1.out.mono ?_
  rintro e w1 ⟨a1, m, c, rfl, hrow, n1, rfl⟩
  have hlen := rowAt_len l p
  have hm : (rowAt l p).1.length = m := hrow.1
  have R := hide hrow
  have HLIM : Hid (([] : List Int).length + m ≤ 140737488355328) := by show _ ≤ _; simp; omega
  clear hlen hrow C1
  have hb1 : Below w.heap.size w (w.drewN n1) := below_drewNq (Below.refl _ _) n1
  generalize w.drewN n1 = w1 at R hb1 ⊢
  have B1 := hide hb1
  clear hb1
  obtain ⟨nx, hnx⟩ : ∃ nx, (rowAt l p).2.1 = nx := ⟨_, rfl⟩
  obtain ⟨er, her⟩ : ∃ er, (rowAt l p).2.2 = er := ⟨_, rfl⟩
  rw [hnx, her]
  have HNX := hide hnx
  have HER := hide her
  have HM := hide hm
  clear hnx her hm
  go_wp2_with (at_builtin; go_must (refine append_rowI rfl _ _ rfl w.heap.size _ [] rfl (OwnI.nil _ _ _ _) a1 m c (rowAt l p).1 rfl R.out HLIM.out B1.out.size ?_))
  intro v2 w2 hown2 hgrow2
  have H4 : Hid (Below w.heap.size w w2) := B1.out.grown hgrow2 B1.out.size (fun j hj => by simp [Value.ownBlock] at hj)
  have H5 : Hid (OwnI w2 w.heap.size 5 .u8 v2 (rowAt l p).1) := by
    show OwnI _ _ _ _ _ _
    simpa using hown2
  clear hown2 hgrow2 R B1
  obtain ⟨av, cv, hv⟩ := OwnI.shape H5.out
  subst hv
  go_wp2
  refine bodyPost_ret (v := .tuple #[.slice av (rowAt l p).1.length cv, .int .i64 nx, .int .i64 er]) (by simp [results, Tryd.results10, go_sem]) rfl ?_
  exact ⟨H4.out, _, by rw [HNX.out, HER.out], H5.out⟩

def PutRowPostI (l : List Int) (w : World) (e : Ending) (w' : World) : Prop :=
  Below w.heap.size w w' ∧ ∃ v, e = .returned v ∧ OwnI w' w.heap.size 5 .u8 v (rowP l)

set_option maxHeartbeats 1000000 in
theorem PutRow_callsI (a : Option Addr) (len cap : Nat) (l : List Int) (w : World) (H : Row w a len cap l) (hlim : len ≤ 140737488355000) :
    Calls Tryd.prog 12 #[.slice a len cap] w fun e w' => PutRowPostI l w e w' := by
  have HH := hide H
  have hl := H.1
  have hpl := putU_len len
  have C1 := hide (PutU_walkI len w (by omega) (by omega))
  have hlz : (len : Int) ≤ 140737488355000 := by omega
  have HL := hide hl
  have HPL := hide hpl
  clear H hl hpl
  go_enter Tryd.func12, Tryd.ntmps12
  go_wp2_with fail
  refine C1.out.mono ?_
  rintro e w1 ⟨v1, rfl, hown, hb1⟩
  have B1 := hide hb1
  have O1 := hide hown
  have R1 := hide (HH.out.later hb1)
  have HLIM : Hid ((Leb.putU (len : Int)).length + len ≤ 140737488355328) := by show _ ≤ _; have := HPL.out; omega
  clear hb1 hown C1
  go_wp2_with (at_builtin; go_must (refine append_rowI rfl _ _ rfl w.heap.size _ _ rfl O1.out a len cap l rfl R1.out HLIM.out B1.out.size ?_))
  intro v2 w2 hown2 hgrow2
  have H4 : Hid (Below w.heap.size w w2) := B1.out.grown hgrow2 B1.out.size (fun j hj => (O1.out.row.lt j hj).1)
  have O3 : Hid (OwnI w2 w.heap.size 5 .u8 v2 (rowP l)) := by
    show OwnI _ _ _ _ _ _
    unfold rowP; rw [HL.out]; exact hown2
  clear hown2 hgrow2 O1 R1 B1
  go_wp2
  go_ret
  exact ⟨H4.out, v2, rfl, O3.out⟩

end Go.Proofs.YthillphedjjhjabDoor
