/-
  'utf8.ValidRune', 'utf8.AppendRune', 'name.Put'.
-/
import Derived.Test.YthillphedjjhjabDoorNameMath
import Derived.Test.YthillphedjjhjabDoorLebBackWalk
set_option linter.unusedVariables false
namespace Go.Proofs.YthillphedjjhjabDoor
open Go.RowKit

theorem Tryd.infoRune : (Tryd.prog.info? 21).map (fun i => (i.zero, i.size, i.bytes)) = some (some (.int .i32 0), 1, 4) := by kernel_rfl

theorem letter_true {r : Int} (h : Utf.letter r = true) : 0 ≤ r ∧ r ≤ 1114111 ∧ (r < 55296 ∨ 57343 < r) := by simpa [Utf.letter] using h
theorem letter_false {r : Int} (h : Utf.letter r = false) : r < 0 ∨ 1114111 < r ∨ (55296 ≤ r ∧ r ≤ 57343) := by simp [Utf.letter] at h; omega

theorem ValidRune_calls (r : Int) (w : World) : Calls Tryd.prog 16 #[.int .i32 r] w fun e w' => e = .returned (.bool (Utf.letter r)) ∧ w' = w := by
  by_cases t1 : 0 ≤ r
  · have u1 : decide (0 ≤ r) = true := by simp; omega
    by_cases t2 : r < 55296
    · have u2 : decide (r < 55296) = true := by simp; omega
      have e : Utf.letter r = true := by simp [Utf.letter]; omega
      rw [e]
      clear e
      go_enter Tryd.func16, Tryd.ntmps16
      go_wp2
      go_ret
      exact ⟨rfl, rfl⟩
    · have u2 : decide (r < 55296) = false := by simp; omega
      by_cases t3 : 57343 < r
      · have u3 : decide (57343 < r) = true := by simp; omega
        by_cases t4 : r ≤ 1114111
        · have u4 : decide (r ≤ 1114111) = true := by simp; omega
          have e : Utf.letter r = true := by simp [Utf.letter]; omega
          rw [e]
          clear e
          go_enter Tryd.func16, Tryd.ntmps16
          go_wp2
          go_ret
          exact ⟨rfl, rfl⟩
        · have u4 : decide (r ≤ 1114111) = false := by simp; omega
          have e : Utf.letter r = false := by simp [Utf.letter]; omega
          rw [e]
          clear e
          go_enter Tryd.func16, Tryd.ntmps16
          go_wp2
          go_ret
          exact ⟨rfl, rfl⟩
      · have u3 : decide (57343 < r) = false := by simp; omega
        have e : Utf.letter r = false := by simp [Utf.letter]; omega
        rw [e]
        clear e
        go_enter Tryd.func16, Tryd.ntmps16
        go_wp2
        go_ret
        exact ⟨rfl, rfl⟩
  · have u1 : decide (0 ≤ r) = false := by simp; omega
    have u3 : decide (57343 < r) = false := by simp; omega
    have e : Utf.letter r = false := by simp [Utf.letter]; omega
    rw [e]
    clear e
    go_enter Tryd.func16, Tryd.ntmps16
    go_wp2
    go_ret
    exact ⟨rfl, rfl⟩

/-- What an append to an own row of bytes leaves: the row grown, and nothing below it changed. -/
def GrewPost (base : Nat) (l : List Int) (w : World) (e : Ending) (w' : World) : Prop :=
  ∃ v, e = .returned v ∧ w'.ownsRow base 5 1 v l.length (l.map (Value.int .u8)) ∧ Below base w w'

theorem cell_news (w : World) (xs : List Value) (t : TypeId) : ∀ j u, xs[j]? = some u → (w.alloc (.cells xs.toArray t)).cell? ((⟨w.heap.size, 0, none⟩ : Addr).add j) = some u := by
  intro j u hj
  by_cases h : j = 0
  · subst h; simpa [Addr.add] using hj
  · simpa [Addr.add, h] using hj

theorem one_cells (l : List Int) (k : IntKind) : ∀ u ∈ l.map (Value.int k), u.oneCell' = true := by
  intro u hu; simp at hu; obtain ⟨z, _, rfl⟩ := hu; rfl

set_option maxHeartbeats 1000000 in
theorem append1 (r : Int) (l : List Int) (base : Nat) (v : Value) (w : World) (hown : w.ownsRow base 5 1 v l.length (l.map (Value.int .u8))) (hbase : base ≤ w.heap.size) (hlen : l.length + 1 ≤ 140737488355328) (h0 : 0 ≤ r) (h1 : r < 128) :
    Calls Tryd.prog 17 #[v, .int .i32 r] w fun e w' => GrewPost base (l ++ [r]) w e w' := by
  obtain ⟨i0, hi, hz0, hz1, hz2⟩ := info_parts Tryd.infoByte
  have t1 : decide (r ≤ 127) = true := by simp; omega
  have C3 : Hid (l.length + 1 ≤ maxLen) := by show l.length + 1 ≤ maxLen; unfold maxLen; omega
  have C4 : Hid ((l.length + 1) * 1 ≤ 140737488355328) := by show (l.length + 1) * 1 ≤ 140737488355328; omega
  have C5 : Hid (∀ o : Obj, base ≤ (w.alloc o).heap.size) := by intro o; simp; omega
  have H0 := hide hown
  clear hlen hown
  go_enter Tryd.func17, Tryd.ntmps17
  go_wp2_with (at_builtin; go_must (refine wpList_append_own _ rfl _ _ 23 rfl base 5 i0 (.int .u8 0) 1 1 Tryd.underlying23 hi hz0 hz1 hz2 rfl (by decide) _ _ _ rfl (H0.out.alloc _) ⟨w.heap.size, 0, none⟩ 1 1 [.int .u8 (r)] rfl rfl (cell_news _ [.int .u8 (r)] _) (one_cells [r] .u8) C3.out C4.out (C5.out _) ?_))
  intro v' w1 hown' hgrow _
  have hown2 : w1.ownsRow base 5 1 v' (l ++ [r]).length ((l ++ [r]).map (Value.int .u8)) := by
    simpa using hown'
  have hbel : Below base w w1 := ((Below.refl _ w).alloc hbase _).grown hgrow (C5.out _) (fun k hk => (H0.out.lt k hk).1)
  clear hown' hgrow
  have H2 := hide hown2
  have H3 := hide hbel
  clear hown2 hbel H0
  go_wp2
  go_ret
  exact ⟨_, rfl, H2.out, H3.out⟩

set_option maxHeartbeats 1000000 in
theorem append2 (r : Int) (l : List Int) (base : Nat) (v : Value) (w : World) (hown : w.ownsRow base 5 1 v l.length (l.map (Value.int .u8))) (hbase : base ≤ w.heap.size) (hlen : l.length + 2 ≤ 140737488355328) (h0 : 128 ≤ r) (h1 : r < 2048) :
    Calls Tryd.prog 21 #[v, .int .i32 r] w fun e w' => GrewPost base (l ++ [192 + r / 64, 128 + r % 64]) w e w' := by
  obtain ⟨i0, hi, hz0, hz1, hz2⟩ := info_parts Tryd.infoByte
  have t1 : decide (r ≤ 2047) = true := by simp; omega
  have C3 : Hid (l.length + 2 ≤ maxLen) := by show l.length + 2 ≤ maxLen; unfold maxLen; omega
  have C4 : Hid ((l.length + 2) * 1 ≤ 140737488355328) := by show (l.length + 2) * 1 ≤ 140737488355328; omega
  have C5 : Hid (∀ o : Obj, base ≤ (w.alloc o).heap.size) := by intro o; simp; omega
  have H0 := hide hown
  clear hlen hown
  go_enter Tryd.func21, Tryd.ntmps21
  go_wp2_with (at_builtin; go_must (refine wpList_append_own _ rfl _ _ 23 rfl base 5 i0 (.int .u8 0) 1 1 Tryd.underlying23 hi hz0 hz1 hz2 rfl (by decide) _ _ _ rfl (H0.out.alloc _) ⟨w.heap.size, 0, none⟩ 2 2 [.int .u8 (192 + r / 64), .int .u8 (128 + r % 64)] rfl rfl (cell_news _ [.int .u8 (192 + r / 64), .int .u8 (128 + r % 64)] _) (one_cells [192 + r / 64, 128 + r % 64] .u8) C3.out C4.out (C5.out _) ?_))
  intro v' w1 hown' hgrow _
  have hown2 : w1.ownsRow base 5 1 v' (l ++ [192 + r / 64, 128 + r % 64]).length ((l ++ [192 + r / 64, 128 + r % 64]).map (Value.int .u8)) := by
    simpa using hown'
  have hbel : Below base w w1 := ((Below.refl _ w).alloc hbase _).grown hgrow (C5.out _) (fun k hk => (H0.out.lt k hk).1)
  clear hown' hgrow
  have H2 := hide hown2
  have H3 := hide hbel
  clear hown2 hbel H0
  go_wp2
  go_ret
  exact ⟨_, rfl, H2.out, H3.out⟩

set_option maxHeartbeats 1000000 in
theorem append3 (r : Int) (l : List Int) (base : Nat) (v : Value) (w : World) (hown : w.ownsRow base 5 1 v l.length (l.map (Value.int .u8))) (hbase : base ≤ w.heap.size) (hlen : l.length + 3 ≤ 140737488355328) (h0 : 2048 ≤ r) (h1 : r < 65536) (h2 : r < 55296) :
    Calls Tryd.prog 21 #[v, .int .i32 r] w fun e w' => GrewPost base (l ++ [224 + r / 4096, 128 + r / 64 % 64, 128 + r % 64]) w e w' := by
  obtain ⟨i0, hi, hz0, hz1, hz2⟩ := info_parts Tryd.infoByte
  have t1 : decide (r ≤ 2047) = false := by simp; omega
  have t2 : decide (r < 55296) = true := by simp; omega
  have C3 : Hid (l.length + 3 ≤ maxLen) := by show l.length + 3 ≤ maxLen; unfold maxLen; omega
  have C4 : Hid ((l.length + 3) * 1 ≤ 140737488355328) := by show (l.length + 3) * 1 ≤ 140737488355328; omega
  have C5 : Hid (∀ o : Obj, base ≤ (w.alloc o).heap.size) := by intro o; simp; omega
  have H0 := hide hown
  clear hlen hown
  go_enter Tryd.func21, Tryd.ntmps21
  go_wp2_with (at_builtin; go_must (refine wpList_append_own _ rfl _ _ 23 rfl base 5 i0 (.int .u8 0) 1 1 Tryd.underlying23 hi hz0 hz1 hz2 rfl (by decide) _ _ _ rfl (H0.out.alloc _) ⟨w.heap.size, 0, none⟩ 3 3 [.int .u8 (224 + r / 4096), .int .u8 (128 + r / 64 % 64), .int .u8 (128 + r % 64)] rfl rfl (cell_news _ [.int .u8 (224 + r / 4096), .int .u8 (128 + r / 64 % 64), .int .u8 (128 + r % 64)] _) (one_cells [224 + r / 4096, 128 + r / 64 % 64, 128 + r % 64] .u8) C3.out C4.out (C5.out _) ?_))
  intro v' w1 hown' hgrow _
  have hown2 : w1.ownsRow base 5 1 v' (l ++ [224 + r / 4096, 128 + r / 64 % 64, 128 + r % 64]).length ((l ++ [224 + r / 4096, 128 + r / 64 % 64, 128 + r % 64]).map (Value.int .u8)) := by
    simpa using hown'
  have hbel : Below base w w1 := ((Below.refl _ w).alloc hbase _).grown hgrow (C5.out _) (fun k hk => (H0.out.lt k hk).1)
  clear hown' hgrow
  have H2 := hide hown2
  have H3 := hide hbel
  clear hown2 hbel H0
  go_wp2
  go_ret
  exact ⟨_, rfl, H2.out, H3.out⟩

set_option maxHeartbeats 1000000 in
theorem append3b (r : Int) (l : List Int) (base : Nat) (v : Value) (w : World) (hown : w.ownsRow base 5 1 v l.length (l.map (Value.int .u8))) (hbase : base ≤ w.heap.size) (hlen : l.length + 3 ≤ 140737488355328) (h0 : 2048 ≤ r) (h1 : r < 65536) (h2 : 57343 < r) :
    Calls Tryd.prog 21 #[v, .int .i32 r] w fun e w' => GrewPost base (l ++ [224 + r / 4096, 128 + r / 64 % 64, 128 + r % 64]) w e w' := by
  obtain ⟨i0, hi, hz0, hz1, hz2⟩ := info_parts Tryd.infoByte
  have t1 : decide (r ≤ 2047) = false := by simp; omega
  have t2 : decide (r < 55296) = false := by simp; omega
  have t3 : decide (57343 < r) = true := by simp; omega
  have t4 : decide (r ≤ 65535) = true := by simp; omega
  have C3 : Hid (l.length + 3 ≤ maxLen) := by show l.length + 3 ≤ maxLen; unfold maxLen; omega
  have C4 : Hid ((l.length + 3) * 1 ≤ 140737488355328) := by show (l.length + 3) * 1 ≤ 140737488355328; omega
  have C5 : Hid (∀ o : Obj, base ≤ (w.alloc o).heap.size) := by intro o; simp; omega
  have H0 := hide hown
  clear hlen hown
  go_enter Tryd.func21, Tryd.ntmps21
  go_wp2_with (at_builtin; go_must (refine wpList_append_own _ rfl _ _ 23 rfl base 5 i0 (.int .u8 0) 1 1 Tryd.underlying23 hi hz0 hz1 hz2 rfl (by decide) _ _ _ rfl (H0.out.alloc _) ⟨w.heap.size, 0, none⟩ 3 3 [.int .u8 (224 + r / 4096), .int .u8 (128 + r / 64 % 64), .int .u8 (128 + r % 64)] rfl rfl (cell_news _ [.int .u8 (224 + r / 4096), .int .u8 (128 + r / 64 % 64), .int .u8 (128 + r % 64)] _) (one_cells [224 + r / 4096, 128 + r / 64 % 64, 128 + r % 64] .u8) C3.out C4.out (C5.out _) ?_))
  intro v' w1 hown' hgrow _
  have hown2 : w1.ownsRow base 5 1 v' (l ++ [224 + r / 4096, 128 + r / 64 % 64, 128 + r % 64]).length ((l ++ [224 + r / 4096, 128 + r / 64 % 64, 128 + r % 64]).map (Value.int .u8)) := by
    simpa using hown'
  have hbel : Below base w w1 := ((Below.refl _ w).alloc hbase _).grown hgrow (C5.out _) (fun k hk => (H0.out.lt k hk).1)
  clear hown' hgrow
  have H2 := hide hown2
  have H3 := hide hbel
  clear hown2 hbel H0
  go_wp2
  go_ret
  exact ⟨_, rfl, H2.out, H3.out⟩

set_option maxHeartbeats 1000000 in
theorem append4 (r : Int) (l : List Int) (base : Nat) (v : Value) (w : World) (hown : w.ownsRow base 5 1 v l.length (l.map (Value.int .u8))) (hbase : base ≤ w.heap.size) (hlen : l.length + 4 ≤ 140737488355328) (h0 : 65536 ≤ r) (h1 : r ≤ 1114111) :
    Calls Tryd.prog 21 #[v, .int .i32 r] w fun e w' => GrewPost base (l ++ [240 + r / 262144, 128 + r / 4096 % 64, 128 + r / 64 % 64, 128 + r % 64]) w e w' := by
  obtain ⟨i0, hi, hz0, hz1, hz2⟩ := info_parts Tryd.infoByte
  have t1 : decide (r ≤ 2047) = false := by simp; omega
  have t2 : decide (r < 55296) = false := by simp; omega
  have t3 : decide (57343 < r) = true := by simp; omega
  have t4 : decide (r ≤ 65535) = false := by simp; omega
  have t5 : decide (65535 < r) = true := by simp; omega
  have t6 : decide (r ≤ 1114111) = true := by simp; omega
  have C3 : Hid (l.length + 4 ≤ maxLen) := by show l.length + 4 ≤ maxLen; unfold maxLen; omega
  have C4 : Hid ((l.length + 4) * 1 ≤ 140737488355328) := by show (l.length + 4) * 1 ≤ 140737488355328; omega
  have C5 : Hid (∀ o : Obj, base ≤ (w.alloc o).heap.size) := by intro o; simp; omega
  have H0 := hide hown
  clear hlen hown
  go_enter Tryd.func21, Tryd.ntmps21
  go_wp2_with (at_builtin; go_must (refine wpList_append_own _ rfl _ _ 23 rfl base 5 i0 (.int .u8 0) 1 1 Tryd.underlying23 hi hz0 hz1 hz2 rfl (by decide) _ _ _ rfl (H0.out.alloc _) ⟨w.heap.size, 0, none⟩ 4 4 [.int .u8 (240 + r / 262144), .int .u8 (128 + r / 4096 % 64), .int .u8 (128 + r / 64 % 64), .int .u8 (128 + r % 64)] rfl rfl (cell_news _ [.int .u8 (240 + r / 262144), .int .u8 (128 + r / 4096 % 64), .int .u8 (128 + r / 64 % 64), .int .u8 (128 + r % 64)] _) (one_cells [240 + r / 262144, 128 + r / 4096 % 64, 128 + r / 64 % 64, 128 + r % 64] .u8) C3.out C4.out (C5.out _) ?_))
  intro v' w1 hown' hgrow _
  have hown2 : w1.ownsRow base 5 1 v' (l ++ [240 + r / 262144, 128 + r / 4096 % 64, 128 + r / 64 % 64, 128 + r % 64]).length ((l ++ [240 + r / 262144, 128 + r / 4096 % 64, 128 + r / 64 % 64, 128 + r % 64]).map (Value.int .u8)) := by
    simpa using hown'
  have hbel : Below base w w1 := ((Below.refl _ w).alloc hbase _).grown hgrow (C5.out _) (fun k hk => (H0.out.lt k hk).1)
  clear hown' hgrow
  have H2 := hide hown2
  have H3 := hide hbel
  clear hown2 hbel H0
  go_wp2
  go_ret
  exact ⟨_, rfl, H2.out, H3.out⟩

theorem appendNon_calls (r : Int) (l : List Int) (base : Nat) (v : Value) (w : World) (hown : w.ownsRow base 5 1 v l.length (l.map (Value.int .u8))) (hbase : base ≤ w.heap.size) (hlen : l.length + 4 ≤ 140737488355328)
    (hr : Utf.letter r = true) (h1 : 128 ≤ r) :
    Calls Tryd.prog 21 #[v, .int .i32 r] w fun e w' => GrewPost base (l ++ Utf.enc r) w e w' := by
  have hl := letter_true hr
  unfold Utf.enc
  rw [if_neg (by omega)]
  by_cases h2 : r < 2048
  · rw [if_pos h2]; exact append2 r l base v w hown hbase (by omega) h1 h2
  · rw [if_neg h2]
    by_cases h3 : r < 65536
    · rw [if_pos h3]
      by_cases h4 : r < 55296
      · exact append3 r l base v w hown hbase (by omega) (by omega) h3 h4
      · exact append3b r l base v w hown hbase (by omega) (by omega) h3 (by omega)
    · rw [if_neg h3]
      exact append4 r l base v w hown hbase (by omega) (by omega) (by omega)

/-- 'utf8.AppendRune' of a letter, to a row of the caller's own. -/
theorem AppendRune_calls (r : Int) (l : List Int) (base : Nat) (v : Value) (w : World) (hown : w.ownsRow base 5 1 v l.length (l.map (Value.int .u8))) (hbase : base ≤ w.heap.size) (hlen : l.length + 4 ≤ 140737488355328)
    (hr : Utf.letter r = true) :
    Calls Tryd.prog 17 #[v, .int .i32 r] w fun e w' => GrewPost base (l ++ Utf.enc r) w e w' := by
  have hl := letter_true hr
  by_cases h : r < 128
  · have e : Utf.enc r = [r] := by unfold Utf.enc; rw [if_pos h]
    rw [e]
    exact append1 r l base v w hown hbase (by omega) hl.1 h
  · have C := hide (appendNon_calls r l base v w hown hbase hlen hr (by omega))
    have t1 : decide (r ≤ 127) = false := by simp; omega
    have h0 := hl.1
    have h1 := hl.2.1
    clear hown hlen hl hr
    generalize l ++ Utf.enc r = L at C ⊢
    go_enter Tryd.func17, Tryd.ntmps17
    go_wp2_with fail
    refine C.out.mono ?_
    rintro e w1 ⟨v1, rfl, h2, h3⟩
    have H2 := hide h2
    have H3 := hide h3
    clear h2 h3 C
    go_wp2
    go_ret
    exact ⟨_, rfl, H2.out, H3.out⟩

end Go.Proofs.YthillphedjjhjabDoor
