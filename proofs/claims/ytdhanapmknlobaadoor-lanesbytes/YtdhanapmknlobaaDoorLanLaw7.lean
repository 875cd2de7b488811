/-
  The walk of LanesBytes.
-/
import Derived.Test.YtdhanapmknlobaaDoorLanQuiet
import Derived.Test.YtdhanapmknlobaaDoorLanRef1
set_option linter.unusedVariables false
set_option linter.unusedSimpArgs false
namespace Go.Proofs.YtdhanapmknlobaaDoor
open Go.RowKit Lan

set_option maxHeartbeats 4000000 in
theorem bytes_walk (v0 v1 p q : Nat) (L A : List Nat) (hL : L.length = 16) (hA : A.length = 16)
    (C1 : ∀ W : World, Calls Tryd.prog 21 #[vecV (v0, v1)] W fun e W' => e = .returned (.agg (cellsB A)) ∧ Below W.heap.size W W')
    (C2 : ∀ W : World, Calls Tryd.prog 22 #[vecV (v0, v1)] W fun e W' => e = .returned (.agg (cellsB A)) ∧ Below W.heap.size W W')
    (C3 : ∀ W : World, Calls Tryd.prog 23 #[.agg (cellsB L)] W fun e W' => e = .returned (vecV (p, q)) ∧ Below W.heap.size W W')
    (C4 : ∀ W : World, Calls Tryd.prog 24 #[.agg (cellsB L)] W fun e W' => e = .returned (vecV (p, q)) ∧ Below W.heap.size W W')
    (W : World) (HT : Hide (WTabs W)) :
    Calls Tryd.prog 5 #[vecV (v0, v1), .agg (cellsB L)] W fun e W' => e = .returned (.bool true) ∧ Below W.heap.size W W' := by
  obtain ⟨wa, hwa⟩ : ∃ wa, (W.alloc (.cells #[.int .u64 (v0 : Int), .int .u64 (v1 : Int)] 24)).alloc (.cells (cellsB L) 39) = wa := ⟨_, rfl⟩
  have HB : Hide (Below W.heap.size W wa) := hide (by rw [← hwa]; exact (below_two _ _).alloc (by simp) _)
  have VB : Hide (VBlk wa W.heap.size (v0, v1)) := hide (by rw [← hwa]; exact alloc_past (alloc_at rfl))
  have LB : Hide (Blk wa (W.heap.size + 1) L) := hide (by rw [← hwa]; exact alloc_at (by simp))
  have D1 := hide (from_base (wa := wa) C1)
  have D2 := hide (from_base (wa := wa) C2)
  have D3 := hide (from_base (wa := wa) C3)
  have D4 := hide (from_base (wa := wa) C4)
  have D5 := hide (from_tabs (HT.out.later HB.out) works_calls)
  obtain ⟨I, F, hne, hF, hin⟩ := family wa
  have E1 := hide (in_family hF hin D1.out)
  have E2 := hide (in_family hF hin D2.out)
  have E3 := hide (in_family hF hin D3.out)
  have E4 := hide (in_family hF hin D4.out)
  have E5 := hide (in_family hF hin D5.out)
  have hc0 : ∀ i, (F i).cell? ⟨W.heap.size, 0, none⟩ = some (.int .u64 (v0 : Int)) := fun i => (VB.out.later (hF i) VB.out.lt).c0
  have hc1 : ∀ i, (F i).cell? ⟨W.heap.size, 1, none⟩ = some (.int .u64 (v1 : Int)) := fun i => (VB.out.later (hF i) VB.out.lt).c1
  have hl : Hide (∀ w, (∃ i, w = F i) → (Instr.loadAt 39 (.pointer (some ⟨W.heap.size + 1, 0, none⟩))).run Tryd.prog w = .ok (.agg (cellsB L)) w) := hide (by rintro _ ⟨i, rfl⟩; exact (LB.out.later (hF i) LB.out.lt).load hL)
  have hq : ∀ w, (Op.equalIn 10000 39 (.agg (cellsB A)) (.agg (cellsB A))).run Tryd.prog w = .ok true w := fun w => eq16 hA w
  have HF := hide hF
  have IN := hide hin
  have HW := hide hwa
  unfold vecV at E1 E2 E3 E4 ⊢
  simp only at E1 E2 E3 E4 ⊢
  clear C1 C2 C3 C4 D1 D2 D3 D4 D5 hF hin hwa hL hA
  go_enter Tryd.func5, Tryd.ntmps5
  go_wp2_with fail
  refine wp_region_class F (by kernel_rfl) (by kernel_rfl) ?_ ?_
  · refine IN.out _ ?_
    rw [HW.out]; exact (Below.refl _ _).drew
  repeat (first | refine wpQuiet_load 39 (.tmp 3) rfl rfl _ _ rfl hl.out ?_ | (refine wpQuiet_step (fun K hK => ?_); go_simp; first | (refine hK _ ?_; clear hK K) | (apply Exists.intro; refine ⟨fun _ => ?_, hK _ ?_⟩; (first | exact E1.out _ | exact E2.out _ | exact E3.out _ | exact E4.out _ | exact E5.out _); clear hK K)))
  refine wpQuiet_nil ?_
  rintro _ ⟨i, rfl⟩
  go_wp2_with fail
  go_ret
  exact ⟨rfl, HB.out.trans ((HF.out i).mono HB.out.size)⟩

theorem lanesBytes_calls (v : Nat × Nat) (hv : Vok v) (L : List Nat) (hL : L.length = 16) (hb : Lanes 8 L) (W : World) (hT : WTabs W) :
    Calls Tryd.prog 5 #[vecV v, arrV L] W fun e W' => e = .returned (.bool true) ∧ Below W.heap.size W W' := by
  have C1 := fun W => lbytes_calls v hv W
  have C2 := fun W => rbytes_calls v W
  have C3 := fun W => lofBytes_calls L hL hb W
  have C4 := fun W => rofBytes_calls L hL hb W
  obtain ⟨⟨p, q⟩, hF⟩ : ∃ F, vecN 8 L = F := ⟨_, rfl⟩
  have hA := listN_length v 8
  rw [hF] at C3 C4
  obtain ⟨v0, v1⟩ := v
  generalize listN (v0, v1) 8 = A at *
  unfold arrV at C1 C2 C3 C4 ⊢
  exact bytes_walk v0 v1 p q L A hL hA C1 C2 C3 C4 W (hide hT)
end Go.Proofs.YtdhanapmknlobaaDoor
