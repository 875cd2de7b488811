/-
  The document's All; the walk of LanesLists.
-/
import Derived.Test.YtdhanapmknlobaaDoorLanWorks
import Derived.Test.YtdhanapmknlobaaDoorLanRef6
set_option linter.unusedVariables false
set_option linter.unusedSimpArgs false
namespace Go.Proofs.YtdhanapmknlobaaDoor
open Go.RowKit Lan

/-- What All answers, and the error's number. -/
def allV (v : Nat × Nat) (w : Int) : List Nat × Int := if isW w then (listN v w.toNat, 0) else ([], 2)
/-- A row of words, and an error's number. -/
def RowRes (W : World) (p : List Nat × Int) (e : Ending) (W' : World) : Prop :=
  ∃ a len cap, e = .returned (.tuple #[.slice a len cap, .int .i64 p.2]) ∧ RowW W' a len p.1 ∧ Below W.heap.size W W'

theorem row_nil (W : World) : RowW W none 0 [] := ⟨rfl, Nat.zero_le _, fun i => by simp [at0], fun h => absurd h (by decide)⟩
theorem list_64 {w : Nat} (hw : IsW w) (v : Nat × Nat) (i : Nat) : at0 (listN v w) i < 2 ^ 64 :=
  Nat.lt_of_lt_of_le (list_lanes v w i) (Nat.pow_le_pow_right (by decide) hw.le)

theorem lall_res (v : Nat × Nat) (hv : Vok v) (w : Int) (W : World) (hT : WTabs W) :
    Calls Tryd.prog 14 #[vecV v, .int .i64 w] W fun e W' => RowRes W (allV v w) e W' := by
  unfold allV
  cases h : isW w with
  | false => exact (lall_bad v w h W hT).mono fun e W' ⟨he, hb⟩ => ⟨none, 0, 0, he, row_nil _, hb⟩
  | true =>
    obtain ⟨n, rfl, hn⟩ := (isW_iff w).1 h
    refine (lall_ok hn rfl v hv W hT).mono fun e W' ⟨g, _, he, hk, hb⟩ => ⟨some ⟨g, 0, none⟩, 128 / n, 128 / n, he, ?_, hb⟩
    have := hk.row (by rw [listN_length]; rcases hn with rfl | rfl | rfl | rfl <;> decide) (list_64 hn v)
    rwa [listN_length] at this

set_option maxHeartbeats 1000000 in
theorem rall_res (v : Nat × Nat) (w : Int) (W : World) :
    Calls Tryd.prog 15 #[vecV v, .int .i64 w] W fun e W' => RowRes W (allV v w) e W' := by
  have HB := hide (below_two W (.cells #[.int .u64 (v.1 : Int), .int .u64 (v.2 : Int)] 24))
  have CW := width_calls w
  unfold allV
  cases h : isW w with
  | false =>
    rw [h] at CW
    have CW := hide CW
    clear h
    simp only [Bool.false_eq_true, if_false]
    unfold vecV
    go_enter Tryd.func15, Tryd.ntmps15
    go_wp2_with ((with_reducible refine (CW.out _).mono ?_); rintro e w1 ⟨rfl, rfl⟩)
    refine bodyPost_ret (v := .tuple #[.slice none 0 0, .int .i64 2]) (by simp [results, Tryd.results15, go_sem]) rfl ?_
    exact ⟨none, 0, 0, rfl, row_nil _, HB.out⟩
  | true =>
    obtain ⟨n, rfl, hn⟩ := (isW_iff w).1 h
    rw [h] at CW
    have CW := hide CW
    have CL := hide (fun W' => rlist_calls hn rfl v W')
    have H64 := hide (list_64 hn v)
    have HC : Hide (128 / n ≤ 16) := hide (by rcases hn with rfl | rfl | rfl | rfl <;> decide)
    have HL : Hide ((listN v n).length = 128 / n) := hide (listN_length v n)
    simp only [if_true, Int.toNat_natCast]
    generalize listN v n = L at *
    generalize 128 / n = c at *
    unfold vecV at CL ⊢
    clear h hn
    go_enter Tryd.func15, Tryd.ntmps15
    go_wp2_with ((with_reducible refine (CW.out _).mono ?_); rintro e w1 ⟨rfl, rfl⟩)
    refine (CL.out _).mono ?_
    rintro e w2 ⟨g, cap, cur, hg, rfl, hcap, hblk, hcell, hb⟩
    have BN := hide (HB.out.trans (hb.mono HB.out.size))
    have RW : Hide (RowW w2 (some ⟨g, 0, none⟩) c L) := hide ⟨HL.out, by have := HC.out; omega, H64.out, fun _ => ⟨g, 0, rfl, fun i hi => by rw [Nat.zero_add]; exact row_cell hblk (hcell i hi)⟩⟩
    clear hb hcell hblk hg hcap
    go_wp2
    refine bodyPost_ret (v := .tuple #[.slice (some ⟨g, 0, none⟩) c cap, .int .i64 0]) (by simp [results, Tryd.results15, go_sem]) rfl ?_
    exact ⟨_, _, _, rfl, RW.out, BN.out⟩

theorem words_below (a b : Option Addr) (la lb ca cb : Nat) (l : List Nat) (W : World) (ha : RowW W a la l) (hb : RowW W b lb l) :
    Calls Tryd.prog 20 #[.slice a la ca, .slice b lb cb] W fun e W' => e = .returned (.bool true) ∧ Below W.heap.size W W' := by
  have e : la = lb := ha.1.symm.trans hb.1
  subst e
  exact (words_calls a b la ca cb l W ha hb).mono fun e W' ⟨he, q, hq⟩ => ⟨he, by rw [hq]; exact below_drewNq (Below.refl _ _) q⟩

set_option maxHeartbeats 1000000 in
theorem lists_walk (v0 v1 : Nat) (w : Int) (a : Option Addr) (len cap : Nat) (l : List Nat) (n : Nat) (A : List Nat) (ae oe se : Int) (o0 o1 s0 s1 : Nat)
    (C1 : Hide (∀ W : World, WTabs W → Calls Tryd.prog 14 #[vecV (v0, v1), .int .i64 w] W fun e W' => RowRes W (A, ae) e W'))
    (C2 : Hide (∀ W : World, Calls Tryd.prog 15 #[vecV (v0, v1), .int .i64 w] W fun e W' => RowRes W (A, ae) e W'))
    (C3 : Hide (∀ W : World, WTabs W → RowW W a len l → Calls Tryd.prog 16 #[.int .i64 w, .slice a len cap] W fun e W' => e = .returned (vecE ((o0, o1), oe)) ∧ Below W.heap.size W W'))
    (C4 : Hide (∀ W : World, RowW W a len l → Calls Tryd.prog 17 #[.int .i64 w, .slice a len cap] W fun e W' => e = .returned (vecE ((o0, o1), oe)) ∧ Below W.heap.size W W'))
    (C5 : Hide (∀ W : World, WTabs W → Calls Tryd.prog 18 #[.int .i64 w, .int .u64 (n : Int)] W fun e W' => e = .returned (vecE ((s0, s1), se)) ∧ Below W.heap.size W W'))
    (C6 : Hide (∀ W : World, Calls Tryd.prog 19 #[.int .i64 w, .int .u64 (n : Int)] W fun e W' => e = .returned (vecE ((s0, s1), se)) ∧ Below W.heap.size W W'))
    (W : World) (HT : Hide (WTabs W)) (HR : Hide (RowW W a len l)) :
    Calls Tryd.prog 4 #[vecV (v0, v1), .int .i64 w, .slice a len cap, .int .u64 (n : Int)] W fun e W' => e = .returned (.bool true) ∧ Below W.heap.size W W' := by
  have HB : Hide (Below W.heap.size W (W.alloc (.cells #[.int .u64 (v0 : Int), .int .u64 (v1 : Int)] 24))) := hide (below_two _ _)
  have VB : Hide (VBlk (W.alloc (.cells #[.int .u64 (v0 : Int), .int .u64 (v1 : Int)] 24)) W.heap.size (v0, v1)) := hide (alloc_at rfl)
  unfold vecE at C3 C4 C5 C6
  unfold vecV at C1 C2 C3 C4 C5 C6 ⊢
  simp only at C1 C2 C3 C4 C5 C6 ⊢
  go_enter Tryd.func4, Tryd.ntmps4
  go_wp2_with fail
  refine (C1.out _ (HT.out.later HB.out)).mono ?_
  rintro e w1 ⟨a1, n1, k1, rfl, r1, hb⟩
  have B1 := hide (HB.out.trans (hb.mono HB.out.size))
  have V1 := hide (VB.out.later hb VB.out.lt)
  have R1 := hide r1
  have h0 := V1.out.c0
  have h1 := V1.out.c1
  simp only at h0 h1
  clear hb r1
  go_wp2_with fail
  refine (C2.out _).mono ?_
  rintro e w2 ⟨a2, n2, k2, rfl, r2, hb⟩
  have B2 := hide (B1.out.trans (hb.mono B1.out.size))
  replace R1 := hide (R1.out.later hb)
  have R2 := hide r2
  clear hb r2 h0 h1
  go_wp2_with fail
  refine (C3.out _ (HT.out.later B2.out) (HR.out.later B2.out)).mono ?_
  rintro e w3 ⟨rfl, hb⟩
  have B3 := hide ((B2.out.trans (hb.mono B2.out.size)).alloc (Nat.le_trans B2.out.size hb.size) (.cells #[.int .u64 (o0 : Int), .int .u64 (o1 : Int)] 24))
  replace R1 := hide ((R1.out.later hb).later (below_two _ (.cells #[.int .u64 (o0 : Int), .int .u64 (o1 : Int)] 24)))
  replace R2 := hide ((R2.out.later hb).later (below_two _ (.cells #[.int .u64 (o0 : Int), .int .u64 (o1 : Int)] 24)))
  have X3 : Hide (VBlk (w3.alloc (.cells #[.int .u64 (o0 : Int), .int .u64 (o1 : Int)] 24)) w3.heap.size (o0, o1)) := hide (alloc_at rfl)
  clear hb
  go_wp2_with fail
  refine (C4.out _ (HR.out.later B3.out)).mono ?_
  rintro e w4 ⟨rfl, hb⟩
  have B4 := hide ((B3.out.trans (hb.mono B3.out.size)).alloc (Nat.le_trans B3.out.size hb.size) (.cells #[.int .u64 (o0 : Int), .int .u64 (o1 : Int)] 24))
  replace R1 := hide ((R1.out.later hb).later (below_two _ (.cells #[.int .u64 (o0 : Int), .int .u64 (o1 : Int)] 24)))
  replace R2 := hide ((R2.out.later hb).later (below_two _ (.cells #[.int .u64 (o0 : Int), .int .u64 (o1 : Int)] 24)))
  replace X3 : Hide (VBlk (w4.alloc (.cells #[.int .u64 (o0 : Int), .int .u64 (o1 : Int)] 24)) w3.heap.size (o0, o1)) := hide (alloc_past (X3.out.later hb X3.out.lt))
  have X4 : Hide (VBlk (w4.alloc (.cells #[.int .u64 (o0 : Int), .int .u64 (o1 : Int)] 24)) w4.heap.size (o0, o1)) := hide (alloc_at rfl)
  clear hb
  go_wp2_with fail
  refine (C5.out _ (HT.out.later B4.out)).mono ?_
  rintro e w5 ⟨rfl, hb⟩
  have B5 := hide ((B4.out.trans (hb.mono B4.out.size)).alloc (Nat.le_trans B4.out.size hb.size) (.cells #[.int .u64 (s0 : Int), .int .u64 (s1 : Int)] 24))
  replace R1 := hide ((R1.out.later hb).later (below_two _ (.cells #[.int .u64 (s0 : Int), .int .u64 (s1 : Int)] 24)))
  replace R2 := hide ((R2.out.later hb).later (below_two _ (.cells #[.int .u64 (s0 : Int), .int .u64 (s1 : Int)] 24)))
  replace X3 : Hide (VBlk (w5.alloc (.cells #[.int .u64 (s0 : Int), .int .u64 (s1 : Int)] 24)) w3.heap.size (o0, o1)) := hide (alloc_past (X3.out.later hb X3.out.lt))
  replace X4 : Hide (VBlk (w5.alloc (.cells #[.int .u64 (s0 : Int), .int .u64 (s1 : Int)] 24)) w4.heap.size (o0, o1)) := hide (alloc_past (X4.out.later hb X4.out.lt))
  have X5 : Hide (VBlk (w5.alloc (.cells #[.int .u64 (s0 : Int), .int .u64 (s1 : Int)] 24)) w5.heap.size (s0, s1)) := hide (alloc_at rfl)
  clear hb
  go_wp2_with fail
  refine (C6.out _).mono ?_
  rintro e w6 ⟨rfl, hb⟩
  have B6 := hide ((B5.out.trans (hb.mono B5.out.size)).alloc (Nat.le_trans B5.out.size hb.size) (.cells #[.int .u64 (s0 : Int), .int .u64 (s1 : Int)] 24))
  replace R1 := hide ((R1.out.later hb).later (below_two _ (.cells #[.int .u64 (s0 : Int), .int .u64 (s1 : Int)] 24)))
  replace R2 := hide ((R2.out.later hb).later (below_two _ (.cells #[.int .u64 (s0 : Int), .int .u64 (s1 : Int)] 24)))
  replace X3 : Hide (VBlk (w6.alloc (.cells #[.int .u64 (s0 : Int), .int .u64 (s1 : Int)] 24)) w3.heap.size (o0, o1)) := hide (alloc_past (X3.out.later hb X3.out.lt))
  replace X4 : Hide (VBlk (w6.alloc (.cells #[.int .u64 (s0 : Int), .int .u64 (s1 : Int)] 24)) w4.heap.size (o0, o1)) := hide (alloc_past (X4.out.later hb X4.out.lt))
  replace X5 : Hide (VBlk (w6.alloc (.cells #[.int .u64 (s0 : Int), .int .u64 (s1 : Int)] 24)) w5.heap.size (s0, s1)) := hide (alloc_past (X5.out.later hb X5.out.lt))
  have X6 : Hide (VBlk (w6.alloc (.cells #[.int .u64 (s0 : Int), .int .u64 (s1 : Int)] 24)) w6.heap.size (s0, s1)) := hide (alloc_at rfl)
  clear hb
  go_wp2_with fail
  refine (words_below _ _ _ _ _ _ A _ R1.out R2.out).mono ?_
  rintro e w7 ⟨rfl, hb⟩
  have B7 := hide (B6.out.trans (hb.mono B6.out.size))
  have Y3 := X3.out.later hb X3.out.lt
  have Y4 := X4.out.later hb X4.out.lt
  have Y5 := X5.out.later hb X5.out.lt
  have Y6 := X6.out.later hb X6.out.lt
  have x30 := Y3.c0
  have x31 := Y3.c1
  have x40 := Y4.c0
  have x41 := Y4.c1
  have x50 := Y5.c0
  have x51 := Y5.c1
  have x60 := Y6.c0
  have x61 := Y6.c1
  simp only at x30 x31 x40 x41 x50 x51 x60 x61
  clear hb Y3 Y4 Y5 Y6
  go_wp2_with fail
  refine (works_calls _ (HT.out.later B7.out)).mono ?_
  rintro e w8 ⟨rfl, hb⟩
  have B8 := hide (B7.out.trans (hb.mono B7.out.size))
  clear hb
  go_wp2
  go_ret
  exact ⟨rfl, B8.out⟩

theorem lanesLists_calls (v : Nat × Nat) (hv : Vok v) (w : Int) (a : Option Addr) (len cap : Nat) (l : List Nat) (n : Nat) (_ : n < 2 ^ 64) (W : World) (hT : WTabs W) (hr : RowW W a len l) (_ : len * 8 ≤ 140737488351232) :
    Calls Tryd.prog 4 #[vecV v, .int .i64 w, .slice a len cap, .int .u64 (n : Int)] W fun e W' => e = .returned (.bool true) ∧ Below W.heap.size W W' :=
  lists_walk v.1 v.2 w a len cap l n (allV v w).1 (allV v w).2 (ofV w l).2 (splatV w n).2 (ofV w l).1.1 (ofV w l).1.2 (splatV w n).1.1 (splatV w n).1.2
    (hide fun W hT => lall_res v hv w W hT) (hide fun W => rall_res v w W) (hide fun W hT hr => lof_calls w a len cap l W hT hr) (hide fun W hr => rof_calls w a len cap l W hr)
    (hide fun W hT => lsplat_calls w n W hT) (hide fun W => rsplat_calls w n W) W (hide hT) (hide hr)
end Go.Proofs.YtdhanapmknlobaaDoor
