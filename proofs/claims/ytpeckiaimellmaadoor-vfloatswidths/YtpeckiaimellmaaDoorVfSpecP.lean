/-
  What the operators of lanes of floats answer, by floats' and convs' (F) and the lanes; the document's are that.
-/
import Derived.Test.YtpeckiaimellmaaDoorPkRef
import Derived.Test.YtpeckiaimellmaaDoorFFloROneP
import Derived.Test.YtpeckiaimellmaaDoorFFloFactsP
import Derived.Test.YtpeckiaimellmaaDoorFConvLaw1P
import Derived.Test.YtpeckiaimellmaaDoorFConvLaw4P
import Derived.Test.YtpeckiaimellmaaDoorFConvFactsP
set_option linter.unusedVariables false
set_option linter.unusedSimpArgs false
namespace Go.Proofs.YtpeckiaimellmaaDoor
open Go.RowKit Lan

def isF (w : Int) : Bool := w == 32 || w == 64
theorem isF_iff {w : Int} (h : isF w = true) : w = 32 ∨ w = 64 := by
  unfold isF at h
  simpa using h
theorem lan_of {w : Nat} (h : F.IsW w) : IsW w := by
  rcases h with rfl | rfl
  · exact .inr (.inr (.inl rfl))
  · exact .inr (.inr (.inr rfl))
theorem isF_nat {w : Int} (h : isF w = true) : ∃ m : Nat, w = m ∧ F.IsW m := by
  rcases isF_iff h with rfl | rfl
  · exact ⟨32, rfl, .inl rfl⟩
  · exact ⟨64, rfl, .inr rfl⟩

def vlanes (w : Nat) (f : Nat → Nat) : Nat × Nat := vecN w ((List.range (128 / w)).map f)
def bad2 : (Nat × Nat) × Int := ((0, 0), 2)
theorem vlanes_ok {w : Nat} (hw : IsW w) {f : Nat → Nat} (hf : ∀ i, i < 128 / w → f i < 2 ^ w) : Vok (vlanes w f) := vecTo_ok hw (map_lanes hf) _ (Nat.le_refl _)
theorem lane_at {w : Nat} (hw : IsW w) {f : Nat → Nat} (hf : ∀ i, i < 128 / w → f i < 2 ^ w) (i : Nat) (hi : i < 128 / w) : laneN (vlanes w f) w i = f i := by
  unfold vlanes
  rw [lane_vec hw (map_lanes hf) i hi]
  simp [at0, List.getElem?_range hi]

def top2 (op : Nat) : Bool := 1 ≤ op && op ≤ 9
def top1 (op : Nat) : Bool := 10 ≤ op && op ≤ 16
def topt (op : Nat) : Bool := 17 ≤ op && op ≤ 22
def vf2N (op w : Nat) (a b : Nat × Nat) (i : Nat) : Nat := (F.two op w (laneN a w i) (laneN b w i)).1
def vf2 (op w : Int) (a b : Nat × Nat) : (Nat × Nat) × Int := if isF w && top2 op.toNat then (vlanes w.toNat (vf2N op.toNat w.toNat a b), 0) else bad2
def vf1N (op w : Nat) (a : Nat × Nat) (i : Nat) : Nat := (F.one op w (laneN a w i)).1
def vf1 (op w : Int) (a : Nat × Nat) : (Nat × Nat) × Int := if isF w && top1 op.toNat then (vlanes w.toNat (vf1N op.toNat w.toNat a), 0) else bad2
def vftN (op w : Nat) (a b : Nat × Nat) (i : Nat) : Nat := if (F.than op w (laneN a w i) (laneN b w i)).1 then 2 ^ w - 1 else 0
def vft (op w : Int) (a b : Nat × Nat) : (Nat × Nat) × Int := if isF w && topt op.toNat then (vlanes w.toNat (vftN op.toNat w.toNat a b), 0) else bad2
def vfhN (w : Nat) (s : Bool) (a : Nat × Nat) (i : Nat) : Nat := (F.C.cutN w 32 s (laneN a w i)).1
def vfh (w : Int) (s : Bool) (a : Nat × Nat) : (Nat × Nat) × Int := if isF w then (vecN 32 (mixC 4 (vfhN w.toNat s a) (fun _ => 0) (128 / w.toNat)), 0) else bad2
def vffN (w : Nat) (s : Bool) (a : Nat × Nat) (i : Nat) : Nat := F.C.fltN 32 w s (laneN a 32 i)
def vff (w : Int) (s : Bool) (a : Nat × Nat) : (Nat × Nat) × Int := if isF w then (vlanes w.toNat (vffN w.toNat s a), 0) else bad2
def vfp (a : Nat × Nat) : Nat × Nat := (F.C.promN (laneN a 32 0), F.C.promN (laneN a 32 1))
def vfd (a : Nat × Nat) : Nat × Nat := vecN 32 [F.C.demN a.1, F.C.demN a.2, 0, 0]

theorem two_ok {op w a b : Nat} (h : top2 op = true) (hw : F.IsW w) (ha : a < 2 ^ w) (hb : b < 2 ^ w) : (F.two op w a b).1 < 2 ^ w ∧ (F.two op w a b).2 = 0 := by
  have hk : 1 ≤ op ∧ op ≤ 9 := by unfold top2 at h; simpa using h
  by_cases h6 : op ≤ 6
  · obtain ⟨x, e, hx, _⟩ := F.two_fine hw ha hb hk.1 h6
    rw [e]
    exact ⟨hx, rfl⟩
  · rcases (show op = 7 ∨ op = 8 ∨ op = 9 by omega) with rfl | rfl | rfl
    · exact ⟨F.signSum_lt hw b (Flo.rung_lt _ _), rfl⟩
    · refine ⟨?_, rfl⟩
      show (if F.lessN w b a then b else a) < 2 ^ w
      split <;> assumption
    · refine ⟨?_, rfl⟩
      show (if F.lessN w a b then b else a) < 2 ^ w
      split <;> assumption
theorem two_bad {op w a b : Nat} (h : top2 op = false) : F.two op w a b = (0, 2) := by
  have hk : op = 0 ∨ 9 < op := by unfold top2 at h; simp at h; omega
  rcases hk with rfl | hk
  · rfl
  · unfold F.two
    split <;> first | omega | rfl
theorem one_ok {op w a : Nat} (h : top1 op = true) (hw : F.IsW w) (ha : a < 2 ^ w) : (F.one op w a).1 < 2 ^ w ∧ (F.one op w a).2 = 0 := by
  have hk : 10 ≤ op ∧ op ≤ 16 := by unfold top1 at h; simpa using h
  by_cases h6 : 12 ≤ op
  · obtain ⟨x, e, hx, _⟩ := F.one_fine (a := a) hw h6 hk.2
    rw [e]
    exact ⟨hx, rfl⟩
  · rcases (show op = 10 ∨ op = 11 by omega) with rfl | rfl
    · exact ⟨F.rung_lt_pow hw a, rfl⟩
    · exact ⟨F.flip_lt hw ha, rfl⟩
theorem one_bad {op w a : Nat} (h : top1 op = false) : F.one op w a = (0, 2) := by
  have hk : op < 10 ∨ 16 < op := by unfold top1 at h; simp at h; omega
  unfold F.one
  split <;> first | omega | rfl
theorem than_ok {op w a b : Nat} (h : topt op = true) : (F.than op w a b).2 = 0 := by
  have hk : 17 ≤ op ∧ op ≤ 22 := by unfold topt at h; simpa using h
  rcases (show op = 17 ∨ op = 18 ∨ op = 19 ∨ op = 20 ∨ op = 21 ∨ op = 22 by omega) with rfl | rfl | rfl | rfl | rfl | rfl <;> rfl
theorem than_bad {op w a b : Nat} (h : topt op = false) : F.than op w a b = (false, 2) := by
  have hk : op < 17 ∨ 22 < op := by unfold topt at h; simp at h; omega
  unfold F.than
  split <;> first | omega | rfl

theorem f_c {w : Nat} (hw : F.IsW w) : ∃ c, 128 / w = c ∧ c ≤ 16 ∧ 2 ≤ c := ⟨_, rfl, by rcases hw with rfl | rfl <;> decide, by rcases hw with rfl | rfl <;> decide⟩
theorem fwidth_true {w : Nat} (hw : F.IsW w) (W : World) : Calls Tryd.prog 29 #[.int .i64 (w : Int)] W fun e W' => e = .returned (.bool true) ∧ W' = W := by
  have := F.rWidth_calls (w : Int) W
  rwa [show F.wdI (w : Int) = true by unfold F.wdI; rcases hw with rfl | rfl <;> rfl] at this
theorem fwidth_false {w : Int} (hw : isF w = false) (W : World) : Calls Tryd.prog 29 #[.int .i64 w] W fun e W' => e = .returned (.bool false) ∧ W' = W := by
  have := F.rWidth_calls w W
  rwa [show F.wdI w = false from hw] at this
theorem vec_call {w c : Nat} (hw : IsW w) (hc : 128 / w = c) {f : Nat → Nat} (hf : ∀ i, i < c → f i < 2 ^ w) (W : World) (g cap : Nat) (h : XBlk W g c ((List.range c).map f)) :
    Calls Tryd.prog 32 #[.int .i64 (w : Int), .slice (some ⟨g, 0, none⟩) c cap] W fun e W' => e = .returned (vecV (vlanes w f)) ∧ Below W.heap.size W W' := by
  unfold vlanes
  rw [hc]
  exact rvec_calls hw hc g 0 cap _ (map_lanes hf) W (fun i hi => by rw [Nat.zero_add]; exact h.cell i hi)
theorem list_call {w c : Nat} (hw : IsW w) (hc : 128 / w = c) (v : Nat × Nat) (W : World) :
    Calls Tryd.prog 30 #[vecV v, .int .i64 (w : Int)] W fun e W' => ListPost W c ((List.range c).map (laneN v w)) e W' := by
  have := rlist_calls hw hc v W
  rwa [show listN v w = (List.range c).map (laneN v w) by unfold listN; rw [hc]] at this
end Go.Proofs.YtpeckiaimellmaaDoor
