/-
  The walk of LanesGets.
-/
import Derived.Test.YtdhanapmknlobaaDoorLanWorks
import Derived.Test.YtdhanapmknlobaaDoorLanRef6
set_option linter.unusedVariables false
set_option linter.unusedSimpArgs false
namespace Go.Proofs.YtdhanapmknlobaaDoor
open Go.RowKit Lan

set_option maxHeartbeats 1000000 in
theorem lanesGets_calls (v : Nat × Nat) (hv : Vok v) (w i : Int) (n : Nat) (_ : n < 2 ^ 64) (W : World) (hT : WTabs W) :
    Calls Tryd.prog 3 #[vecV v, .int .i64 w, .int .i64 i, .int .u64 (n : Int)] W fun e W' => e = .returned (.bool true) ∧ Below W.heap.size W W' := by
  have HB := hide (below_two W (.cells #[.int .u64 (v.1 : Int), .int .u64 (v.2 : Int)] 24))
  have VB : Hide (VBlk (W.alloc (.cells #[.int .u64 (v.1 : Int), .int .u64 (v.2 : Int)] 24)) W.heap.size v) := hide (alloc_at rfl)
  have HT := hide hT
  have C1 := hide (fun W' hT' => lget_calls v hv w i W' hT')
  have C2 := hide (fun W' => rget_calls v w i W')
  have C3 := hide (fun W' hT' => lset_calls v hv w i n W' hT')
  have C4 := hide (fun W' => rset_calls v hv w i n W')
  obtain ⟨⟨gv, ge⟩, hg⟩ : ∃ r, getV v w i = r := ⟨_, rfl⟩
  obtain ⟨⟨⟨p, q⟩, se⟩, hs⟩ : ∃ r, setV v w i n = r := ⟨_, rfl⟩
  rw [hg] at C1 C2
  rw [hs] at C3 C4
  unfold pairV at C1 C2
  unfold vecE at C3 C4
  unfold vecV at C1 C2 C3 C4 ⊢
  simp only at C1 C2 C3 C4
  clear hT hv hg hs
  obtain ⟨lo, hi⟩ := v
  simp only at C1 C2 C3 C4 HB VB ⊢
  go_enter Tryd.func3, Tryd.ntmps3
  go_wp2_with fail
  refine (C1.out _ (HT.out.later HB.out)).mono ?_
  rintro e w1 ⟨rfl, hb⟩
  have B1 := hide (HB.out.trans (hb.mono HB.out.size))
  have V1 := hide (VB.out.later hb VB.out.lt)
  have h0 := V1.out.c0
  have h1 := V1.out.c1
  simp only at h0 h1
  clear hb
  go_wp2_with fail
  refine (C2.out _).mono ?_
  rintro e w2 ⟨rfl, hb⟩
  have B2 := hide (B1.out.trans (hb.mono B1.out.size))
  have V2 := hide (V1.out.later hb V1.out.lt)
  clear h0 h1
  have h0 := V2.out.c0
  have h1 := V2.out.c1
  simp only at h0 h1
  clear hb
  go_wp2_with fail
  refine (C3.out _ (HT.out.later B2.out)).mono ?_
  rintro e w3 ⟨rfl, hb⟩
  have B3 := hide (B2.out.trans (hb.mono B2.out.size))
  have V3 := hide (V2.out.later hb V2.out.lt)
  clear h0 h1
  have hlt : W.heap.size < w3.heap.size := V3.out.lt
  have h0 := V3.out.c0
  have h1 := V3.out.c1
  simp only at h0 h1
  clear hb
  go_wp2_with fail
  refine (C4.out _).mono ?_
  rintro e w4 ⟨rfl, hb⟩
  have X4 : Hide (VBlk w4 w3.heap.size (p, q)) := hide (VBlk.later (alloc_at rfl) hb (by simp))
  have B4 := hide ((B3.out.alloc B3.out.size _).trans (hb.mono (by simp; have := B3.out.size; omega)))
  have hlt4 : w3.heap.size < w4.heap.size := X4.out.lt
  have x0 := X4.out.c0
  have x1 := X4.out.c1
  simp only at x0 x1
  clear hb h0 h1 hlt
  go_wp2_with fail
  refine (works_calls _ (HT.out.later (B4.out.alloc B4.out.size _))).mono ?_
  rintro e w5 ⟨rfl, hb⟩
  have B5 := hide ((B4.out.alloc B4.out.size _).trans (hb.mono (by simp; have := B4.out.size; omega)))
  clear hb
  go_wp2
  go_ret
  exact ⟨rfl, B5.out⟩
end Go.Proofs.YtdhanapmknlobaaDoor
