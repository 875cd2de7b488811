/-
  The document's round (genround.py wrote it).
-/
import Derived.Test.YtpeckiaimellmaaDoorFConvShiftP
set_option linter.unusedVariables false
set_option linter.unusedSimpArgs false
namespace Go.Proofs.YtpeckiaimellmaaDoor.F.C
open Go.RowKit Flo

set_option maxHeartbeats 1000000 in
theorem rround32_truez (e : Int) (W : World) :
    Calls Tryd.prog 92 #[.int .i64 32, .bool true, .int .u64 0, .int .i64 e] W fun r W' => r = .returned (.int .u64 2147483648) ∧ W' = W := by
  have F := hide (rform_calls (w := 32) (.inl rfl))
  simp only [show ((32 : Nat) : Int) = 32 from rfl, show ((fb 32 : Nat) : Int) = 23 from rfl, show ((bi 32 : Nat) : Int) = 127 from rfl] at F
  go_enter Tryd.func92, Tryd.ntmps92
  go_wp2_with ((with_reducible refine (F.out _).mono ?_); rintro e w1 ⟨rfl, rfl⟩)
  go_ret
  exact ⟨rfl, rfl⟩

set_option maxRecDepth 10000 in
set_option maxHeartbeats 1000000 in
theorem rround32_trues {m s q r : Nat} {e p t n : Int} (h0 : ((m : Int) == 0) = false)
    (C : Hide (∀ W, Calls Tryd.prog 133 #[.int .u64 (m : Int)] W fun e W' => e = .returned (.int .i64 (s : Int)) ∧ W' = W))
    (D : Hide (∀ W, Calls Tryd.prog 134 #[.int .u64 (m : Int), .int .i64 n] W fun e W' => e = .returned (.int .u64 (q : Int)) ∧ W' = W))
    (F1 : wrap64 (e + (s : Int)) = p) (F2 : wrap64 (p - 1) = t) (ht : t < -126) (F4 : wrap64 (-149 - e) = n) (hq : decide ((q : Int) < 8388608) = true) (Z : bits .or .u64 2147483648 (q : Int) = (r : Int)) (W : World) :
    Calls Tryd.prog 92 #[.int .i64 32, .bool true, .int .u64 (m : Int), .int .i64 e] W fun x W' => x = .returned (.int .u64 (r : Int)) ∧ W' = W := by
  have F := hide (rform_calls (w := 32) (.inl rfl))
  simp only [show ((32 : Nat) : Int) = 32 from rfl, show ((fb 32 : Nat) : Int) = 23 from rfl, show ((bi 32 : Nat) : Int) = 127 from rfl] at F
  have wl : wrap64 (-149) = -149 := IntWalk.wrap64_in _ (by decide)
  have wk : wrap64 (-126) = -126 := IntWalk.wrap64_in _ (by decide)
  have wo : wrap64 1 = 1 := IntWalk.wrap64_in _ (by decide)
  go_enter Tryd.func92, Tryd.ntmps92
  go_wp2_with (first | ((with_reducible refine (C.out _).mono ?_); rintro e w1 ⟨rfl, rfl⟩) | ((with_reducible refine (F.out _).mono ?_); rintro e w1 ⟨rfl, rfl⟩) | ((with_reducible refine (D.out _).mono ?_); rintro e w1 ⟨rfl, rfl⟩))
  go_ret
  exact ⟨rfl, rfl⟩

set_option maxRecDepth 10000 in
set_option maxHeartbeats 1000000 in
theorem rround32_truem {m s q r a4 : Nat} {e p t n o : Int} (h0 : ((m : Int) == 0) = false)
    (C : Hide (∀ W, Calls Tryd.prog 133 #[.int .u64 (m : Int)] W fun e W' => e = .returned (.int .i64 (s : Int)) ∧ W' = W))
    (D : Hide (∀ W, Calls Tryd.prog 134 #[.int .u64 (m : Int), .int .i64 n] W fun e W' => e = .returned (.int .u64 (q : Int)) ∧ W' = W))
    (F1 : wrap64 (e + (s : Int)) = p) (F2 : wrap64 (p - 1) = t) (ht : t < -126) (F4 : wrap64 (-149 - e) = n) (hq : decide ((q : Int) < 8388608) = false) (F8 : IntKind.u64.wrap ((q : Int) - 8388608) = (a4 : Int)) (F9 : IntKind.u64.wrap (8388608 + (a4 : Int)) = o) (hm : o ≤ 2139095040) (Z : bits .or .u64 2147483648 o = (r : Int)) (W : World) :
    Calls Tryd.prog 92 #[.int .i64 32, .bool true, .int .u64 (m : Int), .int .i64 e] W fun x W' => x = .returned (.int .u64 (r : Int)) ∧ W' = W := by
  have F := hide (rform_calls (w := 32) (.inl rfl))
  simp only [show ((32 : Nat) : Int) = 32 from rfl, show ((fb 32 : Nat) : Int) = 23 from rfl, show ((bi 32 : Nat) : Int) = 127 from rfl] at F
  have wl : wrap64 (-149) = -149 := IntWalk.wrap64_in _ (by decide)
  have wk : wrap64 (-126) = -126 := IntWalk.wrap64_in _ (by decide)
  have wo : wrap64 1 = 1 := IntWalk.wrap64_in _ (by decide)
  go_enter Tryd.func92, Tryd.ntmps92
  go_wp2_with (first | ((with_reducible refine (C.out _).mono ?_); rintro e w1 ⟨rfl, rfl⟩) | ((with_reducible refine (F.out _).mono ?_); rintro e w1 ⟨rfl, rfl⟩) | ((with_reducible refine (D.out _).mono ?_); rintro e w1 ⟨rfl, rfl⟩))
  go_ret
  exact ⟨rfl, rfl⟩

set_option maxRecDepth 10000 in
set_option maxHeartbeats 1000000 in
theorem rround32_truel {m s q r a2 a3 a4 : Nat} {e p t L n a1 o : Int} (h0 : ((m : Int) == 0) = false)
    (C : Hide (∀ W, Calls Tryd.prog 133 #[.int .u64 (m : Int)] W fun e W' => e = .returned (.int .i64 (s : Int)) ∧ W' = W))
    (D : Hide (∀ W, Calls Tryd.prog 134 #[.int .u64 (m : Int), .int .i64 n] W fun e W' => e = .returned (.int .u64 (q : Int)) ∧ W' = W))
    (F1 : wrap64 (e + (s : Int)) = p) (F2 : wrap64 (p - 1) = t) (ht : -126 ≤ t) (F3 : wrap64 (t - 23) = L) (F4 : wrap64 (L - e) = n) (hq : decide ((q : Int) < 8388608) = false) (F5 : wrap64 (L + 23) = a1) (F6 : wrap64 (a1 + 127) = (a2 : Int)) (F6' : IntKind.u64.wrap (a2 : Int) = (a2 : Int)) (F7 : IntKind.u64.wrap ((a2 : Int) * 8388608) = (a3 : Int)) (F8 : IntKind.u64.wrap ((q : Int) - 8388608) = (a4 : Int)) (F9 : IntKind.u64.wrap ((a3 : Int) + (a4 : Int)) = o) (hm : o ≤ 2139095040) (Z : bits .or .u64 2147483648 o = (r : Int)) (W : World) :
    Calls Tryd.prog 92 #[.int .i64 32, .bool true, .int .u64 (m : Int), .int .i64 e] W fun x W' => x = .returned (.int .u64 (r : Int)) ∧ W' = W := by
  have F := hide (rform_calls (w := 32) (.inl rfl))
  simp only [show ((32 : Nat) : Int) = 32 from rfl, show ((fb 32 : Nat) : Int) = 23 from rfl, show ((bi 32 : Nat) : Int) = 127 from rfl] at F
  have wl : wrap64 (-149) = -149 := IntWalk.wrap64_in _ (by decide)
  have wk : wrap64 (-126) = -126 := IntWalk.wrap64_in _ (by decide)
  have wo : wrap64 1 = 1 := IntWalk.wrap64_in _ (by decide)
  go_enter Tryd.func92, Tryd.ntmps92
  go_wp2_with (first | ((with_reducible refine (C.out _).mono ?_); rintro e w1 ⟨rfl, rfl⟩) | ((with_reducible refine (F.out _).mono ?_); rintro e w1 ⟨rfl, rfl⟩) | ((with_reducible refine (D.out _).mono ?_); rintro e w1 ⟨rfl, rfl⟩))
  go_ret
  exact ⟨rfl, rfl⟩

set_option maxRecDepth 10000 in
set_option maxHeartbeats 1000000 in
theorem rround32_trueg {m s q r a2 a3 a4 : Nat} {e p t L n a1 o : Int} (h0 : ((m : Int) == 0) = false)
    (C : Hide (∀ W, Calls Tryd.prog 133 #[.int .u64 (m : Int)] W fun e W' => e = .returned (.int .i64 (s : Int)) ∧ W' = W))
    (D : Hide (∀ W, Calls Tryd.prog 134 #[.int .u64 (m : Int), .int .i64 n] W fun e W' => e = .returned (.int .u64 (q : Int)) ∧ W' = W))
    (F1 : wrap64 (e + (s : Int)) = p) (F2 : wrap64 (p - 1) = t) (ht : -126 ≤ t) (F3 : wrap64 (t - 23) = L) (F4 : wrap64 (L - e) = n) (hq : decide ((q : Int) < 8388608) = false) (F5 : wrap64 (L + 23) = a1) (F6 : wrap64 (a1 + 127) = (a2 : Int)) (F6' : IntKind.u64.wrap (a2 : Int) = (a2 : Int)) (F7 : IntKind.u64.wrap ((a2 : Int) * 8388608) = (a3 : Int)) (F8 : IntKind.u64.wrap ((q : Int) - 8388608) = (a4 : Int)) (F9 : IntKind.u64.wrap ((a3 : Int) + (a4 : Int)) = o) (hm : 2139095040 < o) (Z : bits .or .u64 2147483648 2139095040 = (r : Int)) (W : World) :
    Calls Tryd.prog 92 #[.int .i64 32, .bool true, .int .u64 (m : Int), .int .i64 e] W fun x W' => x = .returned (.int .u64 (r : Int)) ∧ W' = W := by
  have F := hide (rform_calls (w := 32) (.inl rfl))
  simp only [show ((32 : Nat) : Int) = 32 from rfl, show ((fb 32 : Nat) : Int) = 23 from rfl, show ((bi 32 : Nat) : Int) = 127 from rfl] at F
  have wl : wrap64 (-149) = -149 := IntWalk.wrap64_in _ (by decide)
  have wk : wrap64 (-126) = -126 := IntWalk.wrap64_in _ (by decide)
  have wo : wrap64 1 = 1 := IntWalk.wrap64_in _ (by decide)
  go_enter Tryd.func92, Tryd.ntmps92
  go_wp2_with (first | ((with_reducible refine (C.out _).mono ?_); rintro e w1 ⟨rfl, rfl⟩) | ((with_reducible refine (F.out _).mono ?_); rintro e w1 ⟨rfl, rfl⟩) | ((with_reducible refine (D.out _).mono ?_); rintro e w1 ⟨rfl, rfl⟩))
  go_ret
  exact ⟨rfl, rfl⟩

set_option maxHeartbeats 1000000 in
theorem rround32_falsez (e : Int) (W : World) :
    Calls Tryd.prog 92 #[.int .i64 32, .bool false, .int .u64 0, .int .i64 e] W fun r W' => r = .returned (.int .u64 0) ∧ W' = W := by
  have F := hide (rform_calls (w := 32) (.inl rfl))
  simp only [show ((32 : Nat) : Int) = 32 from rfl, show ((fb 32 : Nat) : Int) = 23 from rfl, show ((bi 32 : Nat) : Int) = 127 from rfl] at F
  go_enter Tryd.func92, Tryd.ntmps92
  go_wp2_with ((with_reducible refine (F.out _).mono ?_); rintro e w1 ⟨rfl, rfl⟩)
  go_ret
  exact ⟨rfl, rfl⟩

set_option maxRecDepth 10000 in
set_option maxHeartbeats 1000000 in
theorem rround32_falses {m s q r : Nat} {e p t n : Int} (h0 : ((m : Int) == 0) = false)
    (C : Hide (∀ W, Calls Tryd.prog 133 #[.int .u64 (m : Int)] W fun e W' => e = .returned (.int .i64 (s : Int)) ∧ W' = W))
    (D : Hide (∀ W, Calls Tryd.prog 134 #[.int .u64 (m : Int), .int .i64 n] W fun e W' => e = .returned (.int .u64 (q : Int)) ∧ W' = W))
    (F1 : wrap64 (e + (s : Int)) = p) (F2 : wrap64 (p - 1) = t) (ht : t < -126) (F4 : wrap64 (-149 - e) = n) (hq : decide ((q : Int) < 8388608) = true) (Z : bits .or .u64 0 (q : Int) = (r : Int)) (W : World) :
    Calls Tryd.prog 92 #[.int .i64 32, .bool false, .int .u64 (m : Int), .int .i64 e] W fun x W' => x = .returned (.int .u64 (r : Int)) ∧ W' = W := by
  have F := hide (rform_calls (w := 32) (.inl rfl))
  simp only [show ((32 : Nat) : Int) = 32 from rfl, show ((fb 32 : Nat) : Int) = 23 from rfl, show ((bi 32 : Nat) : Int) = 127 from rfl] at F
  have wl : wrap64 (-149) = -149 := IntWalk.wrap64_in _ (by decide)
  have wk : wrap64 (-126) = -126 := IntWalk.wrap64_in _ (by decide)
  have wo : wrap64 1 = 1 := IntWalk.wrap64_in _ (by decide)
  go_enter Tryd.func92, Tryd.ntmps92
  go_wp2_with (first | ((with_reducible refine (C.out _).mono ?_); rintro e w1 ⟨rfl, rfl⟩) | ((with_reducible refine (F.out _).mono ?_); rintro e w1 ⟨rfl, rfl⟩) | ((with_reducible refine (D.out _).mono ?_); rintro e w1 ⟨rfl, rfl⟩))
  go_ret
  exact ⟨rfl, rfl⟩

set_option maxRecDepth 10000 in
set_option maxHeartbeats 1000000 in
theorem rround32_falsem {m s q r a4 : Nat} {e p t n o : Int} (h0 : ((m : Int) == 0) = false)
    (C : Hide (∀ W, Calls Tryd.prog 133 #[.int .u64 (m : Int)] W fun e W' => e = .returned (.int .i64 (s : Int)) ∧ W' = W))
    (D : Hide (∀ W, Calls Tryd.prog 134 #[.int .u64 (m : Int), .int .i64 n] W fun e W' => e = .returned (.int .u64 (q : Int)) ∧ W' = W))
    (F1 : wrap64 (e + (s : Int)) = p) (F2 : wrap64 (p - 1) = t) (ht : t < -126) (F4 : wrap64 (-149 - e) = n) (hq : decide ((q : Int) < 8388608) = false) (F8 : IntKind.u64.wrap ((q : Int) - 8388608) = (a4 : Int)) (F9 : IntKind.u64.wrap (8388608 + (a4 : Int)) = o) (hm : o ≤ 2139095040) (Z : bits .or .u64 0 o = (r : Int)) (W : World) :
    Calls Tryd.prog 92 #[.int .i64 32, .bool false, .int .u64 (m : Int), .int .i64 e] W fun x W' => x = .returned (.int .u64 (r : Int)) ∧ W' = W := by
  have F := hide (rform_calls (w := 32) (.inl rfl))
  simp only [show ((32 : Nat) : Int) = 32 from rfl, show ((fb 32 : Nat) : Int) = 23 from rfl, show ((bi 32 : Nat) : Int) = 127 from rfl] at F
  have wl : wrap64 (-149) = -149 := IntWalk.wrap64_in _ (by decide)
  have wk : wrap64 (-126) = -126 := IntWalk.wrap64_in _ (by decide)
  have wo : wrap64 1 = 1 := IntWalk.wrap64_in _ (by decide)
  go_enter Tryd.func92, Tryd.ntmps92
  go_wp2_with (first | ((with_reducible refine (C.out _).mono ?_); rintro e w1 ⟨rfl, rfl⟩) | ((with_reducible refine (F.out _).mono ?_); rintro e w1 ⟨rfl, rfl⟩) | ((with_reducible refine (D.out _).mono ?_); rintro e w1 ⟨rfl, rfl⟩))
  go_ret
  exact ⟨rfl, rfl⟩

set_option maxRecDepth 10000 in
set_option maxHeartbeats 1000000 in
theorem rround32_falsel {m s q r a2 a3 a4 : Nat} {e p t L n a1 o : Int} (h0 : ((m : Int) == 0) = false)
    (C : Hide (∀ W, Calls Tryd.prog 133 #[.int .u64 (m : Int)] W fun e W' => e = .returned (.int .i64 (s : Int)) ∧ W' = W))
    (D : Hide (∀ W, Calls Tryd.prog 134 #[.int .u64 (m : Int), .int .i64 n] W fun e W' => e = .returned (.int .u64 (q : Int)) ∧ W' = W))
    (F1 : wrap64 (e + (s : Int)) = p) (F2 : wrap64 (p - 1) = t) (ht : -126 ≤ t) (F3 : wrap64 (t - 23) = L) (F4 : wrap64 (L - e) = n) (hq : decide ((q : Int) < 8388608) = false) (F5 : wrap64 (L + 23) = a1) (F6 : wrap64 (a1 + 127) = (a2 : Int)) (F6' : IntKind.u64.wrap (a2 : Int) = (a2 : Int)) (F7 : IntKind.u64.wrap ((a2 : Int) * 8388608) = (a3 : Int)) (F8 : IntKind.u64.wrap ((q : Int) - 8388608) = (a4 : Int)) (F9 : IntKind.u64.wrap ((a3 : Int) + (a4 : Int)) = o) (hm : o ≤ 2139095040) (Z : bits .or .u64 0 o = (r : Int)) (W : World) :
    Calls Tryd.prog 92 #[.int .i64 32, .bool false, .int .u64 (m : Int), .int .i64 e] W fun x W' => x = .returned (.int .u64 (r : Int)) ∧ W' = W := by
  have F := hide (rform_calls (w := 32) (.inl rfl))
  simp only [show ((32 : Nat) : Int) = 32 from rfl, show ((fb 32 : Nat) : Int) = 23 from rfl, show ((bi 32 : Nat) : Int) = 127 from rfl] at F
  have wl : wrap64 (-149) = -149 := IntWalk.wrap64_in _ (by decide)
  have wk : wrap64 (-126) = -126 := IntWalk.wrap64_in _ (by decide)
  have wo : wrap64 1 = 1 := IntWalk.wrap64_in _ (by decide)
  go_enter Tryd.func92, Tryd.ntmps92
  go_wp2_with (first | ((with_reducible refine (C.out _).mono ?_); rintro e w1 ⟨rfl, rfl⟩) | ((with_reducible refine (F.out _).mono ?_); rintro e w1 ⟨rfl, rfl⟩) | ((with_reducible refine (D.out _).mono ?_); rintro e w1 ⟨rfl, rfl⟩))
  go_ret
  exact ⟨rfl, rfl⟩

set_option maxRecDepth 10000 in
set_option maxHeartbeats 1000000 in
theorem rround32_falseg {m s q r a2 a3 a4 : Nat} {e p t L n a1 o : Int} (h0 : ((m : Int) == 0) = false)
    (C : Hide (∀ W, Calls Tryd.prog 133 #[.int .u64 (m : Int)] W fun e W' => e = .returned (.int .i64 (s : Int)) ∧ W' = W))
    (D : Hide (∀ W, Calls Tryd.prog 134 #[.int .u64 (m : Int), .int .i64 n] W fun e W' => e = .returned (.int .u64 (q : Int)) ∧ W' = W))
    (F1 : wrap64 (e + (s : Int)) = p) (F2 : wrap64 (p - 1) = t) (ht : -126 ≤ t) (F3 : wrap64 (t - 23) = L) (F4 : wrap64 (L - e) = n) (hq : decide ((q : Int) < 8388608) = false) (F5 : wrap64 (L + 23) = a1) (F6 : wrap64 (a1 + 127) = (a2 : Int)) (F6' : IntKind.u64.wrap (a2 : Int) = (a2 : Int)) (F7 : IntKind.u64.wrap ((a2 : Int) * 8388608) = (a3 : Int)) (F8 : IntKind.u64.wrap ((q : Int) - 8388608) = (a4 : Int)) (F9 : IntKind.u64.wrap ((a3 : Int) + (a4 : Int)) = o) (hm : 2139095040 < o) (Z : bits .or .u64 0 2139095040 = (r : Int)) (W : World) :
    Calls Tryd.prog 92 #[.int .i64 32, .bool false, .int .u64 (m : Int), .int .i64 e] W fun x W' => x = .returned (.int .u64 (r : Int)) ∧ W' = W := by
  have F := hide (rform_calls (w := 32) (.inl rfl))
  simp only [show ((32 : Nat) : Int) = 32 from rfl, show ((fb 32 : Nat) : Int) = 23 from rfl, show ((bi 32 : Nat) : Int) = 127 from rfl] at F
  have wl : wrap64 (-149) = -149 := IntWalk.wrap64_in _ (by decide)
  have wk : wrap64 (-126) = -126 := IntWalk.wrap64_in _ (by decide)
  have wo : wrap64 1 = 1 := IntWalk.wrap64_in _ (by decide)
  go_enter Tryd.func92, Tryd.ntmps92
  go_wp2_with (first | ((with_reducible refine (C.out _).mono ?_); rintro e w1 ⟨rfl, rfl⟩) | ((with_reducible refine (F.out _).mono ?_); rintro e w1 ⟨rfl, rfl⟩) | ((with_reducible refine (D.out _).mono ?_); rintro e w1 ⟨rfl, rfl⟩))
  go_ret
  exact ⟨rfl, rfl⟩

theorem rround32 {m : Nat} {e : Int} (hm : m < 2 ^ 64) (h1 : -1100 ≤ e) (h1' : e ≤ 1100) (h2 : e + m.log2 ≤ 1023) (ng : Bool) (W : World) :
    Calls Tryd.prog 92 #[.int .i64 32, .bool ng, .int .u64 (m : Int), .int .i64 e] W fun x W' => x = .returned (.int .u64 ((fm 32).word ng (rungOf (fm 32) m e) : Int)) ∧ W' = W := by
  have hsw : (fm 32).signWeight = 2147483648 := by decide
  by_cases h0 : m = 0
  · subst h0
    have er : rungOf (fm 32) 0 e = 0 := by unfold rungOf; rw [if_pos rfl]
    rw [er]
    cases ng
    · exact rround32_falsez e W
    · exact rround32_truez e W
  · have hw : IsW 32 := .inl rfl
    have h0' : ((m : Int) == 0) = false := by simp; omega
    have hl : m.log2 < 64 := (Nat.log2_lt h0).2 hm
    have hb : bl m = m.log2 + 1 := by unfold bl; rw [if_neg h0]
    have C := hide (rsize_calls hm)
    rw [hb] at C
    have hbi : ((bi 32 : Nat) : Int) = 127 := rfl
    have hfb : ((fb 32 : Nat) : Int) = 23 := rfl
    have hB : (fm 32).binade = 8388608 := by decide
    have hI : (fm 32).infRung = 2139095040 := by decide
    obtain ⟨hq, hu⟩ := sh_upper (e := e) hw h0
    rw [hB] at hq
    have F1 : wrap64 (e + ((m.log2 + 1 : Nat) : Int)) = e + m.log2 + 1 := by rw [IntWalk.wrap64_in _ (by omega)]; omega
    have F2 : wrap64 (e + m.log2 + 1 - 1) = e + m.log2 := by rw [IntWalk.wrap64_in _ (by omega)]; omega
    have hL : lowP 32 m e = max (e + m.log2) (-126) - 23 := by unfold lowP; rw [hbi, hfb]; rfl
    have D := hide (rshifted_calls (n := lowP 32 m e - e) hm (by rw [hL]; omega) (by rw [hL]; omega) (Nat.lt_of_lt_of_le hu (Nat.mul_le_mul_right _ (by rw [hB]; decide))))
    have cst : ∀ x : Nat, x < 2147483648 → ∃ r : Nat, (fm 32).word ng x = r ∧ bits .or .u64 (if ng then 2147483648 else 0) (x : Int) = (r : Int) := fun x hx => by
      refine ⟨_, rfl, ?_⟩
      cases ng
      · exact (bits_or_parts' (s := 0) hw (.inl rfl) (by unfold signN; rw [hsw]; exact hx)).trans (by simp [Ieee.Format.word])
      · exact (bits_or_parts' (s := signN 32) hw (.inr rfl) (by unfold signN; rw [hsw]; exact hx)).trans (by simp [Ieee.Format.word, signN])
    by_cases ct : e + m.log2 < -126
    · have hLl : lowP 32 m e = -149 := by rw [hL]; omega
      have F4 : wrap64 (-149 - e) = lowP 32 m e - e := by rw [hLl]; exact IntWalk.wrap64_in _ (by omega)
      by_cases cq : shN m (lowP 32 m e - e) < 8388608
      · rw [round_small hw h0 (by rw [hB]; exact cq)]
        obtain ⟨r, er, Z⟩ := cst _ (show shN m (lowP 32 m e - e) < 2147483648 by omega)
        rw [er]
        clear er cst hu
        generalize shN m (lowP 32 m e - e) = q at *
        have hq' : decide ((q : Int) < 8388608) = true := decide_eq_true (by omega)
        cases ng
        · exact rround32_falses h0' C D F1 F2 ct F4 hq' Z W
        · exact rround32_trues h0' C D F1 F2 ct F4 hq' Z W
      · rw [round_great hw h0 (by rw [hB]; omega)]
        have eo : outN 32 m e = 8388608 + (shN m (lowP 32 m e - e) - 8388608) := by
          unfold outN
          rw [hbi, hfb, show 2 ^ fb 32 = 8388608 by decide, hLl]
          rfl
        rw [eo, hI, Nat.min_eq_left (by omega)]
        obtain ⟨r, er, Z⟩ := cst _ (show 8388608 + (shN m (lowP 32 m e - e) - 8388608) < 2147483648 by omega)
        rw [er]
        clear er cst hu eo
        generalize shN m (lowP 32 m e - e) = q at *
        have hq' : decide ((q : Int) < 8388608) = false := decide_eq_false (by omega)
        have F8 : IntKind.u64.wrap ((q : Int) - 8388608) = ((q - 8388608 : Nat) : Int) := by rw [IntKind.wrap_u64]; omega
        have F9 : IntKind.u64.wrap (8388608 + ((q - 8388608 : Nat) : Int)) = ((8388608 + (q - 8388608) : Nat) : Int) := by rw [IntKind.wrap_u64]; omega
        cases ng
        · exact rround32_falsem h0' C D F1 F2 ct F4 hq' F8 F9 (by omega) Z W
        · exact rround32_truem h0' C D F1 F2 ct F4 hq' F8 F9 (by omega) Z W
    · have hge := sh_ge (e := e) hw h0 (by rw [hbi]; omega)
      rw [round_great hw h0 hge]
      have hLl : lowP 32 m e = e + m.log2 - 23 := by rw [hL]; omega
      rw [hB] at hge
      have eo : outN 32 m e = (e + m.log2 + 127).toNat * 8388608 + (shN m (lowP 32 m e - e) - 8388608) := by
        unfold outN
        rw [hbi, hfb, show 2 ^ fb 32 = 8388608 by decide]
        congr 3
        rw [hLl]
        omega
      have F3 : wrap64 (e + m.log2 - 23) = lowP 32 m e := by rw [hLl]; exact IntWalk.wrap64_in _ (by omega)
      have F4 : wrap64 (lowP 32 m e - e) = lowP 32 m e - e := IntWalk.wrap64_in _ (by omega)
      have F5 : wrap64 (lowP 32 m e + 23) = e + m.log2 := by rw [IntWalk.wrap64_in _ (by omega)]; omega
      have F6 : wrap64 (e + m.log2 + 127) = (((e + m.log2 + 127).toNat : Nat) : Int) := by rw [IntWalk.wrap64_in _ (by omega)]; omega
      rw [eo, hI]
      have ha2 : (e + m.log2 + 127).toNat < 2047 := by omega
      have F6' : IntKind.u64.wrap (((e + m.log2 + 127).toNat : Nat) : Int) = (((e + m.log2 + 127).toNat : Nat) : Int) := by rw [IntKind.wrap_u64]; omega
      clear hu eo
      have ht : -126 ≤ e + m.log2 := by omega
      generalize (e + m.log2 + 127).toNat = a2 at *
      generalize shN m (lowP 32 m e - e) = q at *
      have hq' : decide ((q : Int) < 8388608) = false := decide_eq_false (by omega)
      have F7 : IntKind.u64.wrap ((a2 : Int) * 8388608) = ((a2 * 8388608 : Nat) : Int) := by rw [IntKind.wrap_u64]; omega
      have F8 : IntKind.u64.wrap ((q : Int) - 8388608) = ((q - 8388608 : Nat) : Int) := by rw [IntKind.wrap_u64]; omega
      have F9 : IntKind.u64.wrap (((a2 * 8388608 : Nat) : Int) + ((q - 8388608 : Nat) : Int)) = ((a2 * 8388608 + (q - 8388608) : Nat) : Int) := by rw [IntKind.wrap_u64]; omega
      by_cases co : a2 * 8388608 + (q - 8388608) ≤ 2139095040
      · rw [Nat.min_eq_left co]
        obtain ⟨r, er, Z⟩ := cst _ (show a2 * 8388608 + (q - 8388608) < 2147483648 by omega)
        rw [er]
        cases ng
        · exact rround32_falsel h0' C D F1 F2 ht F3 F4 hq' F5 F6 F6' F7 F8 F9 (by omega) Z W
        · exact rround32_truel h0' C D F1 F2 ht F3 F4 hq' F5 F6 F6' F7 F8 F9 (by omega) Z W
      · rw [Nat.min_eq_right (by omega)]
        obtain ⟨r, er, Z⟩ := cst 2139095040 (by decide)
        rw [er]
        cases ng
        · exact rround32_falseg h0' C D F1 F2 ht F3 F4 hq' F5 F6 F6' F7 F8 F9 (by omega) Z W
        · exact rround32_trueg h0' C D F1 F2 ht F3 F4 hq' F5 F6 F6' F7 F8 F9 (by omega) Z W

set_option maxHeartbeats 1000000 in
theorem rround64_truez (e : Int) (W : World) :
    Calls Tryd.prog 92 #[.int .i64 64, .bool true, .int .u64 0, .int .i64 e] W fun r W' => r = .returned (.int .u64 9223372036854775808) ∧ W' = W := by
  have F := hide (rform_calls (w := 64) (.inr rfl))
  simp only [show ((64 : Nat) : Int) = 64 from rfl, show ((fb 64 : Nat) : Int) = 52 from rfl, show ((bi 64 : Nat) : Int) = 1023 from rfl] at F
  go_enter Tryd.func92, Tryd.ntmps92
  go_wp2_with ((with_reducible refine (F.out _).mono ?_); rintro e w1 ⟨rfl, rfl⟩)
  go_ret
  exact ⟨rfl, rfl⟩

set_option maxRecDepth 10000 in
set_option maxHeartbeats 1000000 in
theorem rround64_trues {m s q r : Nat} {e p t n : Int} (h0 : ((m : Int) == 0) = false)
    (C : Hide (∀ W, Calls Tryd.prog 133 #[.int .u64 (m : Int)] W fun e W' => e = .returned (.int .i64 (s : Int)) ∧ W' = W))
    (D : Hide (∀ W, Calls Tryd.prog 134 #[.int .u64 (m : Int), .int .i64 n] W fun e W' => e = .returned (.int .u64 (q : Int)) ∧ W' = W))
    (F1 : wrap64 (e + (s : Int)) = p) (F2 : wrap64 (p - 1) = t) (ht : t < -1022) (F4 : wrap64 (-1074 - e) = n) (hq : decide ((q : Int) < 4503599627370496) = true) (Z : bits .or .u64 9223372036854775808 (q : Int) = (r : Int)) (W : World) :
    Calls Tryd.prog 92 #[.int .i64 64, .bool true, .int .u64 (m : Int), .int .i64 e] W fun x W' => x = .returned (.int .u64 (r : Int)) ∧ W' = W := by
  have F := hide (rform_calls (w := 64) (.inr rfl))
  simp only [show ((64 : Nat) : Int) = 64 from rfl, show ((fb 64 : Nat) : Int) = 52 from rfl, show ((bi 64 : Nat) : Int) = 1023 from rfl] at F
  have wl : wrap64 (-1074) = -1074 := IntWalk.wrap64_in _ (by decide)
  have wk : wrap64 (-1022) = -1022 := IntWalk.wrap64_in _ (by decide)
  have wo : wrap64 1 = 1 := IntWalk.wrap64_in _ (by decide)
  go_enter Tryd.func92, Tryd.ntmps92
  go_wp2_with (first | ((with_reducible refine (C.out _).mono ?_); rintro e w1 ⟨rfl, rfl⟩) | ((with_reducible refine (F.out _).mono ?_); rintro e w1 ⟨rfl, rfl⟩) | ((with_reducible refine (D.out _).mono ?_); rintro e w1 ⟨rfl, rfl⟩))
  go_ret
  exact ⟨rfl, rfl⟩

set_option maxRecDepth 10000 in
set_option maxHeartbeats 1000000 in
theorem rround64_truem {m s q r a4 : Nat} {e p t n o : Int} (h0 : ((m : Int) == 0) = false)
    (C : Hide (∀ W, Calls Tryd.prog 133 #[.int .u64 (m : Int)] W fun e W' => e = .returned (.int .i64 (s : Int)) ∧ W' = W))
    (D : Hide (∀ W, Calls Tryd.prog 134 #[.int .u64 (m : Int), .int .i64 n] W fun e W' => e = .returned (.int .u64 (q : Int)) ∧ W' = W))
    (F1 : wrap64 (e + (s : Int)) = p) (F2 : wrap64 (p - 1) = t) (ht : t < -1022) (F4 : wrap64 (-1074 - e) = n) (hq : decide ((q : Int) < 4503599627370496) = false) (F8 : IntKind.u64.wrap ((q : Int) - 4503599627370496) = (a4 : Int)) (F9 : IntKind.u64.wrap (4503599627370496 + (a4 : Int)) = o) (hm : o ≤ 9218868437227405312) (Z : bits .or .u64 9223372036854775808 o = (r : Int)) (W : World) :
    Calls Tryd.prog 92 #[.int .i64 64, .bool true, .int .u64 (m : Int), .int .i64 e] W fun x W' => x = .returned (.int .u64 (r : Int)) ∧ W' = W := by
  have F := hide (rform_calls (w := 64) (.inr rfl))
  simp only [show ((64 : Nat) : Int) = 64 from rfl, show ((fb 64 : Nat) : Int) = 52 from rfl, show ((bi 64 : Nat) : Int) = 1023 from rfl] at F
  have wl : wrap64 (-1074) = -1074 := IntWalk.wrap64_in _ (by decide)
  have wk : wrap64 (-1022) = -1022 := IntWalk.wrap64_in _ (by decide)
  have wo : wrap64 1 = 1 := IntWalk.wrap64_in _ (by decide)
  go_enter Tryd.func92, Tryd.ntmps92
  go_wp2_with (first | ((with_reducible refine (C.out _).mono ?_); rintro e w1 ⟨rfl, rfl⟩) | ((with_reducible refine (F.out _).mono ?_); rintro e w1 ⟨rfl, rfl⟩) | ((with_reducible refine (D.out _).mono ?_); rintro e w1 ⟨rfl, rfl⟩))
  go_ret
  exact ⟨rfl, rfl⟩

set_option maxRecDepth 10000 in
set_option maxHeartbeats 1000000 in
theorem rround64_truel {m s q r a2 a3 a4 : Nat} {e p t L n a1 o : Int} (h0 : ((m : Int) == 0) = false)
    (C : Hide (∀ W, Calls Tryd.prog 133 #[.int .u64 (m : Int)] W fun e W' => e = .returned (.int .i64 (s : Int)) ∧ W' = W))
    (D : Hide (∀ W, Calls Tryd.prog 134 #[.int .u64 (m : Int), .int .i64 n] W fun e W' => e = .returned (.int .u64 (q : Int)) ∧ W' = W))
    (F1 : wrap64 (e + (s : Int)) = p) (F2 : wrap64 (p - 1) = t) (ht : -1022 ≤ t) (F3 : wrap64 (t - 52) = L) (F4 : wrap64 (L - e) = n) (hq : decide ((q : Int) < 4503599627370496) = false) (F5 : wrap64 (L + 52) = a1) (F6 : wrap64 (a1 + 1023) = (a2 : Int)) (F6' : IntKind.u64.wrap (a2 : Int) = (a2 : Int)) (F7 : IntKind.u64.wrap ((a2 : Int) * 4503599627370496) = (a3 : Int)) (F8 : IntKind.u64.wrap ((q : Int) - 4503599627370496) = (a4 : Int)) (F9 : IntKind.u64.wrap ((a3 : Int) + (a4 : Int)) = o) (hm : o ≤ 9218868437227405312) (Z : bits .or .u64 9223372036854775808 o = (r : Int)) (W : World) :
    Calls Tryd.prog 92 #[.int .i64 64, .bool true, .int .u64 (m : Int), .int .i64 e] W fun x W' => x = .returned (.int .u64 (r : Int)) ∧ W' = W := by
  have F := hide (rform_calls (w := 64) (.inr rfl))
  simp only [show ((64 : Nat) : Int) = 64 from rfl, show ((fb 64 : Nat) : Int) = 52 from rfl, show ((bi 64 : Nat) : Int) = 1023 from rfl] at F
  have wl : wrap64 (-1074) = -1074 := IntWalk.wrap64_in _ (by decide)
  have wk : wrap64 (-1022) = -1022 := IntWalk.wrap64_in _ (by decide)
  have wo : wrap64 1 = 1 := IntWalk.wrap64_in _ (by decide)
  go_enter Tryd.func92, Tryd.ntmps92
  go_wp2_with (first | ((with_reducible refine (C.out _).mono ?_); rintro e w1 ⟨rfl, rfl⟩) | ((with_reducible refine (F.out _).mono ?_); rintro e w1 ⟨rfl, rfl⟩) | ((with_reducible refine (D.out _).mono ?_); rintro e w1 ⟨rfl, rfl⟩))
  go_ret
  exact ⟨rfl, rfl⟩

set_option maxRecDepth 10000 in
set_option maxHeartbeats 1000000 in
theorem rround64_trueg {m s q r a2 a3 a4 : Nat} {e p t L n a1 o : Int} (h0 : ((m : Int) == 0) = false)
    (C : Hide (∀ W, Calls Tryd.prog 133 #[.int .u64 (m : Int)] W fun e W' => e = .returned (.int .i64 (s : Int)) ∧ W' = W))
    (D : Hide (∀ W, Calls Tryd.prog 134 #[.int .u64 (m : Int), .int .i64 n] W fun e W' => e = .returned (.int .u64 (q : Int)) ∧ W' = W))
    (F1 : wrap64 (e + (s : Int)) = p) (F2 : wrap64 (p - 1) = t) (ht : -1022 ≤ t) (F3 : wrap64 (t - 52) = L) (F4 : wrap64 (L - e) = n) (hq : decide ((q : Int) < 4503599627370496) = false) (F5 : wrap64 (L + 52) = a1) (F6 : wrap64 (a1 + 1023) = (a2 : Int)) (F6' : IntKind.u64.wrap (a2 : Int) = (a2 : Int)) (F7 : IntKind.u64.wrap ((a2 : Int) * 4503599627370496) = (a3 : Int)) (F8 : IntKind.u64.wrap ((q : Int) - 4503599627370496) = (a4 : Int)) (F9 : IntKind.u64.wrap ((a3 : Int) + (a4 : Int)) = o) (hm : 9218868437227405312 < o) (Z : bits .or .u64 9223372036854775808 9218868437227405312 = (r : Int)) (W : World) :
    Calls Tryd.prog 92 #[.int .i64 64, .bool true, .int .u64 (m : Int), .int .i64 e] W fun x W' => x = .returned (.int .u64 (r : Int)) ∧ W' = W := by
  have F := hide (rform_calls (w := 64) (.inr rfl))
  simp only [show ((64 : Nat) : Int) = 64 from rfl, show ((fb 64 : Nat) : Int) = 52 from rfl, show ((bi 64 : Nat) : Int) = 1023 from rfl] at F
  have wl : wrap64 (-1074) = -1074 := IntWalk.wrap64_in _ (by decide)
  have wk : wrap64 (-1022) = -1022 := IntWalk.wrap64_in _ (by decide)
  have wo : wrap64 1 = 1 := IntWalk.wrap64_in _ (by decide)
  go_enter Tryd.func92, Tryd.ntmps92
  go_wp2_with (first | ((with_reducible refine (C.out _).mono ?_); rintro e w1 ⟨rfl, rfl⟩) | ((with_reducible refine (F.out _).mono ?_); rintro e w1 ⟨rfl, rfl⟩) | ((with_reducible refine (D.out _).mono ?_); rintro e w1 ⟨rfl, rfl⟩))
  go_ret
  exact ⟨rfl, rfl⟩

set_option maxHeartbeats 1000000 in
theorem rround64_falsez (e : Int) (W : World) :
    Calls Tryd.prog 92 #[.int .i64 64, .bool false, .int .u64 0, .int .i64 e] W fun r W' => r = .returned (.int .u64 0) ∧ W' = W := by
  have F := hide (rform_calls (w := 64) (.inr rfl))
  simp only [show ((64 : Nat) : Int) = 64 from rfl, show ((fb 64 : Nat) : Int) = 52 from rfl, show ((bi 64 : Nat) : Int) = 1023 from rfl] at F
  go_enter Tryd.func92, Tryd.ntmps92
  go_wp2_with ((with_reducible refine (F.out _).mono ?_); rintro e w1 ⟨rfl, rfl⟩)
  go_ret
  exact ⟨rfl, rfl⟩

set_option maxRecDepth 10000 in
set_option maxHeartbeats 1000000 in
theorem rround64_falses {m s q r : Nat} {e p t n : Int} (h0 : ((m : Int) == 0) = false)
    (C : Hide (∀ W, Calls Tryd.prog 133 #[.int .u64 (m : Int)] W fun e W' => e = .returned (.int .i64 (s : Int)) ∧ W' = W))
    (D : Hide (∀ W, Calls Tryd.prog 134 #[.int .u64 (m : Int), .int .i64 n] W fun e W' => e = .returned (.int .u64 (q : Int)) ∧ W' = W))
    (F1 : wrap64 (e + (s : Int)) = p) (F2 : wrap64 (p - 1) = t) (ht : t < -1022) (F4 : wrap64 (-1074 - e) = n) (hq : decide ((q : Int) < 4503599627370496) = true) (Z : bits .or .u64 0 (q : Int) = (r : Int)) (W : World) :
    Calls Tryd.prog 92 #[.int .i64 64, .bool false, .int .u64 (m : Int), .int .i64 e] W fun x W' => x = .returned (.int .u64 (r : Int)) ∧ W' = W := by
  have F := hide (rform_calls (w := 64) (.inr rfl))
  simp only [show ((64 : Nat) : Int) = 64 from rfl, show ((fb 64 : Nat) : Int) = 52 from rfl, show ((bi 64 : Nat) : Int) = 1023 from rfl] at F
  have wl : wrap64 (-1074) = -1074 := IntWalk.wrap64_in _ (by decide)
  have wk : wrap64 (-1022) = -1022 := IntWalk.wrap64_in _ (by decide)
  have wo : wrap64 1 = 1 := IntWalk.wrap64_in _ (by decide)
  go_enter Tryd.func92, Tryd.ntmps92
  go_wp2_with (first | ((with_reducible refine (C.out _).mono ?_); rintro e w1 ⟨rfl, rfl⟩) | ((with_reducible refine (F.out _).mono ?_); rintro e w1 ⟨rfl, rfl⟩) | ((with_reducible refine (D.out _).mono ?_); rintro e w1 ⟨rfl, rfl⟩))
  go_ret
  exact ⟨rfl, rfl⟩

set_option maxRecDepth 10000 in
set_option maxHeartbeats 1000000 in
theorem rround64_falsem {m s q r a4 : Nat} {e p t n o : Int} (h0 : ((m : Int) == 0) = false)
    (C : Hide (∀ W, Calls Tryd.prog 133 #[.int .u64 (m : Int)] W fun e W' => e = .returned (.int .i64 (s : Int)) ∧ W' = W))
    (D : Hide (∀ W, Calls Tryd.prog 134 #[.int .u64 (m : Int), .int .i64 n] W fun e W' => e = .returned (.int .u64 (q : Int)) ∧ W' = W))
    (F1 : wrap64 (e + (s : Int)) = p) (F2 : wrap64 (p - 1) = t) (ht : t < -1022) (F4 : wrap64 (-1074 - e) = n) (hq : decide ((q : Int) < 4503599627370496) = false) (F8 : IntKind.u64.wrap ((q : Int) - 4503599627370496) = (a4 : Int)) (F9 : IntKind.u64.wrap (4503599627370496 + (a4 : Int)) = o) (hm : o ≤ 9218868437227405312) (Z : bits .or .u64 0 o = (r : Int)) (W : World) :
    Calls Tryd.prog 92 #[.int .i64 64, .bool false, .int .u64 (m : Int), .int .i64 e] W fun x W' => x = .returned (.int .u64 (r : Int)) ∧ W' = W := by
  have F := hide (rform_calls (w := 64) (.inr rfl))
  simp only [show ((64 : Nat) : Int) = 64 from rfl, show ((fb 64 : Nat) : Int) = 52 from rfl, show ((bi 64 : Nat) : Int) = 1023 from rfl] at F
  have wl : wrap64 (-1074) = -1074 := IntWalk.wrap64_in _ (by decide)
  have wk : wrap64 (-1022) = -1022 := IntWalk.wrap64_in _ (by decide)
  have wo : wrap64 1 = 1 := IntWalk.wrap64_in _ (by decide)
  go_enter Tryd.func92, Tryd.ntmps92
  go_wp2_with (first | ((with_reducible refine (C.out _).mono ?_); rintro e w1 ⟨rfl, rfl⟩) | ((with_reducible refine (F.out _).mono ?_); rintro e w1 ⟨rfl, rfl⟩) | ((with_reducible refine (D.out _).mono ?_); rintro e w1 ⟨rfl, rfl⟩))
  go_ret
  exact ⟨rfl, rfl⟩

set_option maxRecDepth 10000 in
set_option maxHeartbeats 1000000 in
theorem rround64_falsel {m s q r a2 a3 a4 : Nat} {e p t L n a1 o : Int} (h0 : ((m : Int) == 0) = false)
    (C : Hide (∀ W, Calls Tryd.prog 133 #[.int .u64 (m : Int)] W fun e W' => e = .returned (.int .i64 (s : Int)) ∧ W' = W))
    (D : Hide (∀ W, Calls Tryd.prog 134 #[.int .u64 (m : Int), .int .i64 n] W fun e W' => e = .returned (.int .u64 (q : Int)) ∧ W' = W))
    (F1 : wrap64 (e + (s : Int)) = p) (F2 : wrap64 (p - 1) = t) (ht : -1022 ≤ t) (F3 : wrap64 (t - 52) = L) (F4 : wrap64 (L - e) = n) (hq : decide ((q : Int) < 4503599627370496) = false) (F5 : wrap64 (L + 52) = a1) (F6 : wrap64 (a1 + 1023) = (a2 : Int)) (F6' : IntKind.u64.wrap (a2 : Int) = (a2 : Int)) (F7 : IntKind.u64.wrap ((a2 : Int) * 4503599627370496) = (a3 : Int)) (F8 : IntKind.u64.wrap ((q : Int) - 4503599627370496) = (a4 : Int)) (F9 : IntKind.u64.wrap ((a3 : Int) + (a4 : Int)) = o) (hm : o ≤ 9218868437227405312) (Z : bits .or .u64 0 o = (r : Int)) (W : World) :
    Calls Tryd.prog 92 #[.int .i64 64, .bool false, .int .u64 (m : Int), .int .i64 e] W fun x W' => x = .returned (.int .u64 (r : Int)) ∧ W' = W := by
  have F := hide (rform_calls (w := 64) (.inr rfl))
  simp only [show ((64 : Nat) : Int) = 64 from rfl, show ((fb 64 : Nat) : Int) = 52 from rfl, show ((bi 64 : Nat) : Int) = 1023 from rfl] at F
  have wl : wrap64 (-1074) = -1074 := IntWalk.wrap64_in _ (by decide)
  have wk : wrap64 (-1022) = -1022 := IntWalk.wrap64_in _ (by decide)
  have wo : wrap64 1 = 1 := IntWalk.wrap64_in _ (by decide)
  go_enter Tryd.func92, Tryd.ntmps92
  go_wp2_with (first | ((with_reducible refine (C.out _).mono ?_); rintro e w1 ⟨rfl, rfl⟩) | ((with_reducible refine (F.out _).mono ?_); rintro e w1 ⟨rfl, rfl⟩) | ((with_reducible refine (D.out _).mono ?_); rintro e w1 ⟨rfl, rfl⟩))
  go_ret
  exact ⟨rfl, rfl⟩

set_option maxRecDepth 10000 in
set_option maxHeartbeats 1000000 in
theorem rround64_falseg {m s q r a2 a3 a4 : Nat} {e p t L n a1 o : Int} (h0 : ((m : Int) == 0) = false)
    (C : Hide (∀ W, Calls Tryd.prog 133 #[.int .u64 (m : Int)] W fun e W' => e = .returned (.int .i64 (s : Int)) ∧ W' = W))
    (D : Hide (∀ W, Calls Tryd.prog 134 #[.int .u64 (m : Int), .int .i64 n] W fun e W' => e = .returned (.int .u64 (q : Int)) ∧ W' = W))
    (F1 : wrap64 (e + (s : Int)) = p) (F2 : wrap64 (p - 1) = t) (ht : -1022 ≤ t) (F3 : wrap64 (t - 52) = L) (F4 : wrap64 (L - e) = n) (hq : decide ((q : Int) < 4503599627370496) = false) (F5 : wrap64 (L + 52) = a1) (F6 : wrap64 (a1 + 1023) = (a2 : Int)) (F6' : IntKind.u64.wrap (a2 : Int) = (a2 : Int)) (F7 : IntKind.u64.wrap ((a2 : Int) * 4503599627370496) = (a3 : Int)) (F8 : IntKind.u64.wrap ((q : Int) - 4503599627370496) = (a4 : Int)) (F9 : IntKind.u64.wrap ((a3 : Int) + (a4 : Int)) = o) (hm : 9218868437227405312 < o) (Z : bits .or .u64 0 9218868437227405312 = (r : Int)) (W : World) :
    Calls Tryd.prog 92 #[.int .i64 64, .bool false, .int .u64 (m : Int), .int .i64 e] W fun x W' => x = .returned (.int .u64 (r : Int)) ∧ W' = W := by
  have F := hide (rform_calls (w := 64) (.inr rfl))
  simp only [show ((64 : Nat) : Int) = 64 from rfl, show ((fb 64 : Nat) : Int) = 52 from rfl, show ((bi 64 : Nat) : Int) = 1023 from rfl] at F
  have wl : wrap64 (-1074) = -1074 := IntWalk.wrap64_in _ (by decide)
  have wk : wrap64 (-1022) = -1022 := IntWalk.wrap64_in _ (by decide)
  have wo : wrap64 1 = 1 := IntWalk.wrap64_in _ (by decide)
  go_enter Tryd.func92, Tryd.ntmps92
  go_wp2_with (first | ((with_reducible refine (C.out _).mono ?_); rintro e w1 ⟨rfl, rfl⟩) | ((with_reducible refine (F.out _).mono ?_); rintro e w1 ⟨rfl, rfl⟩) | ((with_reducible refine (D.out _).mono ?_); rintro e w1 ⟨rfl, rfl⟩))
  go_ret
  exact ⟨rfl, rfl⟩

theorem rround64 {m : Nat} {e : Int} (hm : m < 2 ^ 64) (h1 : -1100 ≤ e) (h1' : e ≤ 1100) (h2 : e + m.log2 ≤ 1023) (ng : Bool) (W : World) :
    Calls Tryd.prog 92 #[.int .i64 64, .bool ng, .int .u64 (m : Int), .int .i64 e] W fun x W' => x = .returned (.int .u64 ((fm 64).word ng (rungOf (fm 64) m e) : Int)) ∧ W' = W := by
  have hsw : (fm 64).signWeight = 9223372036854775808 := by decide
  by_cases h0 : m = 0
  · subst h0
    have er : rungOf (fm 64) 0 e = 0 := by unfold rungOf; rw [if_pos rfl]
    rw [er]
    cases ng
    · exact rround64_falsez e W
    · exact rround64_truez e W
  · have hw : IsW 64 := .inr rfl
    have h0' : ((m : Int) == 0) = false := by simp; omega
    have hl : m.log2 < 64 := (Nat.log2_lt h0).2 hm
    have hb : bl m = m.log2 + 1 := by unfold bl; rw [if_neg h0]
    have C := hide (rsize_calls hm)
    rw [hb] at C
    have hbi : ((bi 64 : Nat) : Int) = 1023 := rfl
    have hfb : ((fb 64 : Nat) : Int) = 52 := rfl
    have hB : (fm 64).binade = 4503599627370496 := by decide
    have hI : (fm 64).infRung = 9218868437227405312 := by decide
    obtain ⟨hq, hu⟩ := sh_upper (e := e) hw h0
    rw [hB] at hq
    have F1 : wrap64 (e + ((m.log2 + 1 : Nat) : Int)) = e + m.log2 + 1 := by rw [IntWalk.wrap64_in _ (by omega)]; omega
    have F2 : wrap64 (e + m.log2 + 1 - 1) = e + m.log2 := by rw [IntWalk.wrap64_in _ (by omega)]; omega
    have hL : lowP 64 m e = max (e + m.log2) (-1022) - 52 := by unfold lowP; rw [hbi, hfb]; rfl
    have D := hide (rshifted_calls (n := lowP 64 m e - e) hm (by rw [hL]; omega) (by rw [hL]; omega) (Nat.lt_of_lt_of_le hu (Nat.mul_le_mul_right _ (by rw [hB]; decide))))
    have cst : ∀ x : Nat, x < 9223372036854775808 → ∃ r : Nat, (fm 64).word ng x = r ∧ bits .or .u64 (if ng then 9223372036854775808 else 0) (x : Int) = (r : Int) := fun x hx => by
      refine ⟨_, rfl, ?_⟩
      cases ng
      · exact (bits_or_parts' (s := 0) hw (.inl rfl) (by unfold signN; rw [hsw]; exact hx)).trans (by simp [Ieee.Format.word])
      · exact (bits_or_parts' (s := signN 64) hw (.inr rfl) (by unfold signN; rw [hsw]; exact hx)).trans (by simp [Ieee.Format.word, signN])
    by_cases ct : e + m.log2 < -1022
    · have hLl : lowP 64 m e = -1074 := by rw [hL]; omega
      have F4 : wrap64 (-1074 - e) = lowP 64 m e - e := by rw [hLl]; exact IntWalk.wrap64_in _ (by omega)
      by_cases cq : shN m (lowP 64 m e - e) < 4503599627370496
      · rw [round_small hw h0 (by rw [hB]; exact cq)]
        obtain ⟨r, er, Z⟩ := cst _ (show shN m (lowP 64 m e - e) < 9223372036854775808 by omega)
        rw [er]
        clear er cst hu
        generalize shN m (lowP 64 m e - e) = q at *
        have hq' : decide ((q : Int) < 4503599627370496) = true := decide_eq_true (by omega)
        cases ng
        · exact rround64_falses h0' C D F1 F2 ct F4 hq' Z W
        · exact rround64_trues h0' C D F1 F2 ct F4 hq' Z W
      · rw [round_great hw h0 (by rw [hB]; omega)]
        have eo : outN 64 m e = 4503599627370496 + (shN m (lowP 64 m e - e) - 4503599627370496) := by
          unfold outN
          rw [hbi, hfb, show 2 ^ fb 64 = 4503599627370496 by decide, hLl]
          rfl
        rw [eo, hI, Nat.min_eq_left (by omega)]
        obtain ⟨r, er, Z⟩ := cst _ (show 4503599627370496 + (shN m (lowP 64 m e - e) - 4503599627370496) < 9223372036854775808 by omega)
        rw [er]
        clear er cst hu eo
        generalize shN m (lowP 64 m e - e) = q at *
        have hq' : decide ((q : Int) < 4503599627370496) = false := decide_eq_false (by omega)
        have F8 : IntKind.u64.wrap ((q : Int) - 4503599627370496) = ((q - 4503599627370496 : Nat) : Int) := by rw [IntKind.wrap_u64]; omega
        have F9 : IntKind.u64.wrap (4503599627370496 + ((q - 4503599627370496 : Nat) : Int)) = ((4503599627370496 + (q - 4503599627370496) : Nat) : Int) := by rw [IntKind.wrap_u64]; omega
        cases ng
        · exact rround64_falsem h0' C D F1 F2 ct F4 hq' F8 F9 (by omega) Z W
        · exact rround64_truem h0' C D F1 F2 ct F4 hq' F8 F9 (by omega) Z W
    · have hge := sh_ge (e := e) hw h0 (by rw [hbi]; omega)
      rw [round_great hw h0 hge]
      have hLl : lowP 64 m e = e + m.log2 - 52 := by rw [hL]; omega
      rw [hB] at hge
      have eo : outN 64 m e = (e + m.log2 + 1023).toNat * 4503599627370496 + (shN m (lowP 64 m e - e) - 4503599627370496) := by
        unfold outN
        rw [hbi, hfb, show 2 ^ fb 64 = 4503599627370496 by decide]
        congr 3
        rw [hLl]
        omega
      have F3 : wrap64 (e + m.log2 - 52) = lowP 64 m e := by rw [hLl]; exact IntWalk.wrap64_in _ (by omega)
      have F4 : wrap64 (lowP 64 m e - e) = lowP 64 m e - e := IntWalk.wrap64_in _ (by omega)
      have F5 : wrap64 (lowP 64 m e + 52) = e + m.log2 := by rw [IntWalk.wrap64_in _ (by omega)]; omega
      have F6 : wrap64 (e + m.log2 + 1023) = (((e + m.log2 + 1023).toNat : Nat) : Int) := by rw [IntWalk.wrap64_in _ (by omega)]; omega
      rw [eo, hI]
      have ha2 : (e + m.log2 + 1023).toNat < 2047 := by omega
      have F6' : IntKind.u64.wrap (((e + m.log2 + 1023).toNat : Nat) : Int) = (((e + m.log2 + 1023).toNat : Nat) : Int) := by rw [IntKind.wrap_u64]; omega
      clear hu eo
      have ht : -1022 ≤ e + m.log2 := by omega
      generalize (e + m.log2 + 1023).toNat = a2 at *
      generalize shN m (lowP 64 m e - e) = q at *
      have hq' : decide ((q : Int) < 4503599627370496) = false := decide_eq_false (by omega)
      have F7 : IntKind.u64.wrap ((a2 : Int) * 4503599627370496) = ((a2 * 4503599627370496 : Nat) : Int) := by rw [IntKind.wrap_u64]; omega
      have F8 : IntKind.u64.wrap ((q : Int) - 4503599627370496) = ((q - 4503599627370496 : Nat) : Int) := by rw [IntKind.wrap_u64]; omega
      have F9 : IntKind.u64.wrap (((a2 * 4503599627370496 : Nat) : Int) + ((q - 4503599627370496 : Nat) : Int)) = ((a2 * 4503599627370496 + (q - 4503599627370496) : Nat) : Int) := by rw [IntKind.wrap_u64]; omega
      by_cases co : a2 * 4503599627370496 + (q - 4503599627370496) ≤ 9218868437227405312
      · rw [Nat.min_eq_left co]
        obtain ⟨r, er, Z⟩ := cst _ (show a2 * 4503599627370496 + (q - 4503599627370496) < 9223372036854775808 by omega)
        rw [er]
        cases ng
        · exact rround64_falsel h0' C D F1 F2 ht F3 F4 hq' F5 F6 F6' F7 F8 F9 (by omega) Z W
        · exact rround64_truel h0' C D F1 F2 ht F3 F4 hq' F5 F6 F6' F7 F8 F9 (by omega) Z W
      · rw [Nat.min_eq_right (by omega)]
        obtain ⟨r, er, Z⟩ := cst 9218868437227405312 (by decide)
        rw [er]
        cases ng
        · exact rround64_falseg h0' C D F1 F2 ht F3 F4 hq' F5 F6 F6' F7 F8 F9 (by omega) Z W
        · exact rround64_trueg h0' C D F1 F2 ht F3 F4 hq' F5 F6 F6' F7 F8 F9 (by omega) Z W

theorem rround_calls {w m : Nat} {e : Int} (hw : IsW w) (hm : m < 2 ^ 64) (h1 : -1100 ≤ e) (h1' : e ≤ 1100) (h2 : e + m.log2 ≤ 1023) (ng : Bool) (W : World) :
    Calls Tryd.prog 92 #[.int .i64 (w : Int), .bool ng, .int .u64 (m : Int), .int .i64 e] W fun x W' => x = .returned (.int .u64 ((fm w).word ng (rungOf (fm w) m e) : Int)) ∧ W' = W := by
  rcases hw with rfl | rfl
  · exact rround32 hm h1 h1' h2 ng W
  · exact rround64 hm h1 h1' h2 ng W
end Go.Proofs.YtpeckiaimellmaaDoor.F.C
