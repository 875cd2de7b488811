/-
  The law TypesBack, over what is asked of types.
-/
import Derived.Test.YteacjhmbamcegaaTypBackM
import Derived.Test.YteacjhmbamcegaaTypFam
set_option linter.unusedVariables false
set_option linter.unusedSimpArgs false
namespace Go.Proofs.Yteacjhmbamcegaa
open Go.RowKit Typ

theorem RowT.cellAt {w : World} {a : Option Addr} {cap : Nat} {l : List Int} (h : RowT w (.slice a l.length cap) l) {k : Nat} (hk : k < l.length) : ∃ b off, a = some ⟨b, off, none⟩ ∧ w.cell? ⟨b, off + k, none⟩ = some (.int .u8 (l[k]?.getD 0)) := by
  obtain ⟨a', cap', e, _, _, hq⟩ := h
  simp only [Value.slice.injEq, true_and] at e
  obtain ⟨rfl, rfl⟩ := e
  obtain ⟨b, off, rfl, hc⟩ := hq (by omega)
  exact ⟨b, off, rfl, hc k hk⟩
theorem wrap_nats (a b : Nat) (h : a + b ≤ 4194304) : wrap64 ((a : Int) + (b : Int)) = ((a + b : Nat) : Int) := by
  unfold wrap64
  omega
theorem all_more {l : List Int} {k : Nat} (hk : k < l.length) : (l.take (k + 1)).all isT = ((l.take k).all isT && isT (l[k]?.getD 0)) := by
  have h := take_more (l := l) (f := 0) (k := k) (by omega)
  simp only [Nat.zero_add, List.drop_zero] at h
  rw [h, List.all_append]
  simp


set_option maxRecDepth 100000 in
set_option maxHeartbeats 16000000 in
theorem typesBack_0 (hF : TFuncOK) (hR : TIsRefOK) (hP : TPutOK) (hQ : TPutLimOK) (hI : TIsOK) (hL : TLimOK)
    (v1 v2 : Value) (l1 l2 : List Int) (n x : Int) (w : World) (w0 : U32 n) (w1 : U32 x) (R1 : RowT w v1 l1) (R2 : RowT w v2 l2) (hy1 : Leb.Bytes l1) (hy2 : Leb.Bytes l2) (h1 : l1.length ≤ 1048576) (h2 : l2.length ≤ 1048576)
    (a3 a4 : Option Addr) (len3 cap3 len4 cap4 : Nat) (l3 l4 : List Int) (H3 : Row w a3 len3 cap3 l3) (H4 : Row w a4 len4 cap4 l4) (hn : len3 + len4 ≤ 1048576) :
    Calls Try.prog 8 #[funcV v1 v2, limV n x true, .slice a3 len3 cap3, .slice a4 len4 cap4] w fun e w' => e = .returned (.bool true) ∧ Below w.heap.size w w' := by
  obtain ⟨wa, hwa⟩ : ∃ wa, (w.alloc (.cells #[v1, v2] 38)).alloc (.cells #[.int .u32 n, .int .u32 x, .bool true] 33) = wa := ⟨_, rfl⟩
  have BA : Hid (Below w.heap.size w wa) := hideT (by rw [← hwa]; exact ((Below.refl _ _).alloc (Nat.le_refl _) _).alloc (by simp) _)
  have K1 : Hid (SBlk wa w.heap.size 38 #[v1, v2]) := hideT (by rw [← hwa]; exact (sblk_new _ _ _).past _)
  have K2 : Hid (SBlk wa (w.heap.size + 1) 33 #[.int .u32 n, .int .u32 x, .bool true]) := hideT (by
    rw [← hwa]
    have := sblk_new (w.alloc (.cells #[v1, v2] 38)) 33 #[.int .u32 n, .int .u32 x, .bool true]
    simpa using this)
  have T1 := hideT R1
  have T2 := hideT R2
  have C1 := hideT (fun V hV => hP v1 v2 l1 l2 V (R1.later (w' := V) hV) (R2.later (w' := V) hV) hy1 hy2 h1 h2)
  have C2 := hideT (fun V => hQ n x true V w0 w1)
  have CI := hideT hI
  have CF := hideT hF
  have CL := hideT hL
  have CW := hideT (fun V => works9_calls hF hR V)
  have LA := hideT (func_len l1 l2)
  have LB := hideT (lim_len n x true)
  have YA := hideT (bytes_func hy1 hy2 h1 h2)
  have YB := hideT (bytes_lim (b := true) w0 w1)
  have HWA := hideT hwa
  have N1 := hideT h1
  have N2 := hideT h2
  have W0 := hideT w0
  have W1 := hideT w1
  have A3 := hideT H3
  have A4 := hideT H4
  have HN := hideT hn
  clear hwa hF hR hP hQ hI hL hy1 hy2 w0 w1 H3 H4
  obtain ⟨q1, z1, rfl, _, _, _⟩ := R1
  obtain ⟨q2, z2, rfl, _, _, _⟩ := R2
  unfold funcV at C1 ⊢
  unfold limV at C2 ⊢
  have m1 : l1.length ≤ 2 ^ 63 - 1 := by omega
  have m2 : l2.length ≤ 2 ^ 63 - 1 := by omega
  have h2c : wa.cell? ⟨w.heap.size + 1, 2, none⟩ = some _ := K2.out.cell (k := 2) rfl
  have h1c : wa.cell? ⟨w.heap.size + 1, 1, none⟩ = some _ := K2.out.cell (k := 1) rfl
  go_enter Try.func8, Try.ntmps8
  rw [← HWA.out] at h2c h1c
  go_wp2_with fail
  rw [HWA.out]
  clear h2c h1c
  go_loopw [9, 10] (fun v x wr => ∃ (k : Nat), v = .bool (true && (l1.take k).all isT) ∧ x = .int .i64 (k : Int) ∧ k ≤ l1.length ∧ Below wa.heap.size wa wr) (fun _ x _ => l1.length - (intOf x).toNat)
  case atStart => exact ⟨0, by simp, rfl, by omega, Below.refl _ _⟩
  case round =>
    obtain ⟨k, rfl, rfl, hk, hr⟩ := hrel
    have HR := hideT hr
    have hc0 := (K1.out.later hr K1.out.lt).cell (k := 0) rfl
    by_cases c0 : k < l1.length
    · have AM := hideT (all_more c0)
      have R2 := T1.out.later (BA.out.trans (hr.mono BA.out.size))
      obtain ⟨bb, off, rfl, h1⟩ := R2.cellAt c0
      have HC := hideT c0
      have CC := hideT (CI.out (l1[k]?.getD 0) wr)
      generalize l1[k]?.getD 0 = y at *
      clear hr R2
      cases hr1 : (true && (l1.take k).all isT) with
      | true =>
        have HR1 := hideT hr1
        clear hr1
        go_wp2_with ((with_reducible refine CC.out.mono ?_); rintro e w2 ⟨rfl, hb⟩)
        have HB := hideT (HR.out.trans (hb.mono HR.out.size))
        clear hb
        go_wp2
        go_roundw
        case rel => exact ⟨k + 1, by rw [AM.out, ← Bool.and_assoc, HR1.out, Bool.true_and], by simp, HC.out, HB.out⟩
        case measure => have := HC.out; simp only [intOf]; omega
      | false =>
        have HR1 := hideT hr1
        clear hr1
        go_wp2
        go_roundw
        case rel => exact ⟨k + 1, by rw [AM.out, ← Bool.and_assoc, HR1.out, Bool.false_and], by simp, HC.out, HR.out⟩
        case measure => have := HC.out; simp only [intOf]; omega
    · obtain rfl : k = l1.length := by omega
      rw [List.take_length]
      clear hr c0
      go_wp2_with fail
      go_loopw [9, 11] (fun v x wr => ∃ (k : Nat), v = .bool ((true && l1.all isT) && (l2.take k).all isT) ∧ x = .int .i64 (k : Int) ∧ k ≤ l2.length ∧ Below wa.heap.size wa wr) (fun _ x _ => l2.length - (intOf x).toNat)
      case atStart => exact ⟨0, by simp, rfl, by omega, HR.out⟩
      case round =>
        obtain ⟨k, rfl, rfl, hk, hr⟩ := hrel
        have HR := hideT hr
        have hc0 := (K1.out.later hr K1.out.lt).cell (k := 1) rfl
        by_cases c0 : k < l2.length
        · have AM := hideT (all_more c0)
          have R2 := T2.out.later (BA.out.trans (hr.mono BA.out.size))
          obtain ⟨bb, off, rfl, h1⟩ := R2.cellAt c0
          have HC := hideT c0
          have CC := hideT (CI.out (l2[k]?.getD 0) wr)
          generalize l2[k]?.getD 0 = y at *
          clear hr R2
          cases hr1 : ((true && l1.all isT) && (l2.take k).all isT) with
          | true =>
            have HR1 := hideT hr1
            clear hr1
            go_wp2_with ((with_reducible refine CC.out.mono ?_); rintro e w2 ⟨rfl, hb⟩)
            have HB := hideT (HR.out.trans (hb.mono HR.out.size))
            clear hb
            go_wp2
            go_roundw
            case rel => exact ⟨k + 1, by rw [AM.out, ← Bool.and_assoc, HR1.out, Bool.true_and], by simp, HC.out, HB.out⟩
            case measure => have := HC.out; simp only [intOf]; omega
          | false =>
            have HR1 := hideT hr1
            clear hr1
            go_wp2
            go_roundw
            case rel => exact ⟨k + 1, by rw [AM.out, ← Bool.and_assoc, HR1.out, Bool.false_and], by simp, HC.out, HR.out⟩
            case measure => have := HC.out; simp only [intOf]; omega
        · obtain rfl : k = l2.length := by omega
          rw [List.take_length]
          clear hr c0
          cases hR : (true && l1.all isT && l2.all isT) with
          | false =>
            clear hR
            go_wp2_with fail
            refine (CW.out _).mono ?_
            rintro e wz ⟨rfl, hb⟩
            have BZ := hideT (BA.out.trans ((HR.out.trans (hb.mono HR.out.size)).mono BA.out.size))
            clear hb
            go_wp2
            go_ret
            exact ⟨rfl, BZ.out⟩
          | true =>
            obtain ⟨t1, t2⟩ : l1.all isT = true ∧ l2.all isT = true := by simpa using hR
            have FB := hideT (fun r => func_back l3 l1 l2 r h1 h2 t1 t2)
            have MB := hideT (fun ah r => lim_back ah r n x true W0.out W1.out (.inl rfl))
            have hl3 := A3.out.1
            have hl4 := A4.out.1
            have r3 := A3.out.later (BA.out.trans (HR.out.mono BA.out.size))
            have R3 := hideT r3
            have hzr : wa.heap.size ≤ wr.heap.size := HR.out.size
            have hk3 : 0 + len3 ≤ 4194304 := by omega
            have hp1 := putU_len (l1.length : Int)
            have hp2 := putU_len (l2.length : Int)
            have hq1 := putU_len n
            have hq2 := putU_len x
            have LA2 : Hid ((putFunc l1 l2).length ≤ 2097173) := hideT (by simp [putFunc, putList]; omega)
            have LB2 : Hid ((putLim n x true).length ≤ 21) := hideT (by simp [putLim]; omega)
            clear hR t1 t2 r3 hp1 hp2 hq1 hq2
            generalize putFunc l1 l2 = A at *
            generalize putLim n x true = B at *
            have HWR1 := hideT (wrap_nats len3 A.length (by have := LA2.out; omega))
            have HWR2 := hideT (wrap_nats (len3 + A.length) B.length (by have := LA2.out; have := LB2.out; omega))
            have HB := hideT (BA.out.trans (HR.out.mono BA.out.size))
            go_wp2_with (at_builtin; go_must (refine append_row rfl _ _ rfl wa.heap.size _ 0 [] rfl (World.ownsRow_nil _ _ _ _) a3 len3 cap3 l3 rfl R3.out hk3 hzr ?_))
            intro b1 u1 hown1 hgrow1
            have hbel1 : Below wa.heap.size wa u1 := HR.out.grown hgrow1 hzr (fun k hk => by simp [Value.ownBlock] at hk)
            have O1 : Hid (u1.ownsRow wa.heap.size 5 1 b1 len3 (l3.map (Value.int .u8))) := by show u1.ownsRow _ _ _ _ _ _; simpa using hown1
            have B1 := hideT hbel1
            have D1 := hideT (C1.out u1 (BA.out.trans (hbel1.mono BA.out.size)))
            have p0 := (K1.out.later hbel1 K1.out.lt).cell (k := 0) rfl
            have p1 := (K1.out.later hbel1 K1.out.lt).cell (k := 1) rfl
            clear hown1 hgrow1 hbel1 hzr hk3 R3 C1
            go_wp2_with fail
            refine D1.out.mono ?_
            rintro e u2 ⟨x1, rfl, ho2, hb2⟩
            obtain ⟨g2, c2, rfl, hg2, r2⟩ := (show OwnU u2 u1.heap.size x1 A from ho2).row LA.out YA.out
            have O2 := hideT (own_below O1.out hb2 (fun k hk => (O1.out.lt k hk).2))
            have B2 := hideT (B1.out.trans (hb2.mono B1.out.size))
            have R2 := hideT r2
            have hz2 : wa.heap.size ≤ u2.heap.size := B2.out.size
            have hk2 : len3 + A.length ≤ 4194304 := by have := LA2.out; omega
            clear ho2 hb2 r2 O1 B1 D1 p0 p1
            go_wp2_with (at_builtin; go_must (refine append_row rfl _ _ rfl wa.heap.size _ _ _ rfl O2.out _ _ c2 A rfl R2.out hk2 hz2 ?_))
            intro b3 u3 hown3 hgrow3
            have hbel3 : Below wa.heap.size wa u3 := B2.out.grown hgrow3 hz2 (fun k hk => (O2.out.lt k hk).1)
            have O3 : Hid (u3.ownsRow wa.heap.size 5 1 b3 (len3 + A.length) ((l3 ++ A).map (Value.int .u8))) := by show u3.ownsRow _ _ _ _ _ _; simpa using hown3
            have B3 := hideT hbel3
            have D3 := hideT (C2.out u3)
            have p0 := (K2.out.later hbel3 K2.out.lt).cell (k := 0) rfl
            have p1 := (K2.out.later hbel3 K2.out.lt).cell (k := 1) rfl
            have p2 := (K2.out.later hbel3 K2.out.lt).cell (k := 2) rfl
            clear hown3 hgrow3 hbel3 hz2 hk2 R2 O2 B2 C2
            go_wp2_with fail
            refine D3.out.mono ?_
            rintro e u4 ⟨x4, rfl, ho4, hb4⟩
            obtain ⟨g4, c4, rfl, hg4, r4⟩ := (show OwnU u4 u3.heap.size x4 B from ho4).row LB.out YB.out
            have O4 := hideT (own_below O3.out hb4 (fun k hk => (O3.out.lt k hk).2))
            have B4 := hideT (B3.out.trans (hb4.mono B3.out.size))
            have R4 := hideT r4
            have hz4 : wa.heap.size ≤ u4.heap.size := B4.out.size
            have hk4 : len3 + A.length + B.length ≤ 4194304 := by have := LA2.out; have := LB2.out; omega
            clear ho4 hb4 r4 O3 B3 D3 p0 p1 p2
            go_wp2_with (at_builtin; go_must (refine append_row rfl _ _ rfl wa.heap.size _ _ _ rfl O4.out _ _ c4 B rfl R4.out hk4 hz4 ?_))
            intro b5 u5 hown5 hgrow5
            have hbel5 : Below wa.heap.size wa u5 := B4.out.grown hgrow5 hz4 (fun k hk => (O4.out.lt k hk).1)
            have O5 : Hid (u5.ownsRow wa.heap.size 5 1 b5 (len3 + A.length + B.length) ((l3 ++ (A ++ B)).map (Value.int .u8))) := by show u5.ownsRow _ _ _ _ _ _; simpa using hown5
            have B5 := hideT hbel5
            have R5 := hideT (A4.out.later (BA.out.trans (hbel5.mono BA.out.size)))
            have hz5 : wa.heap.size ≤ u5.heap.size := hbel5.size
            have hk5 : len3 + A.length + B.length + len4 ≤ 4194304 := by have := LA2.out; have := LB2.out; omega
            clear hown5 hgrow5 hbel5 hz4 hk4 R4 O4 B4
            go_wp2_with (at_builtin; go_must (refine append_row rfl _ _ rfl wa.heap.size _ _ _ rfl O5.out a4 len4 cap4 l4 rfl R5.out hk5 hz5 ?_))
            intro b6 u6 hown6 hgrow6
            have hbel6 : Below wa.heap.size wa u6 := B5.out.grown hgrow6 hz5 (fun k hk => (O5.out.lt k hk).1)
            have hown6' : u6.ownsRow wa.heap.size 5 1 b6 (len3 + A.length + B.length + len4) ((l3 ++ (A ++ (B ++ l4))).map (Value.int .u8)) := by simpa using hown6
            have hlen6 : (l3 ++ (A ++ (B ++ l4))).length = len3 + A.length + B.length + len4 := by simp [hl3, hl4]; omega
            obtain ⟨g6, c6, rfl, hg6, r6⟩ := own_row hlen6 hown6' (by have := LA.out; omega) (bytes_append A3.out.2.2.2.1 (bytes_append YA.out (bytes_append YB.out A4.out.2.2.2.1)))
            have B6 := hideT hbel6
            have R6 := hideT r6
            have D6 := CF.out _ _ c6 _ (len3 : Int) u6 r6
            rw [← hl3, FB.out (B ++ l4)] at D6
            unfold FuncPost at D6
            simp only at D6
            rw [hl3] at D6
            have D6 := hideT D6
            clear hown6 hown6' hgrow6 hbel6 hz5 hk5 R5 O5 B5 r6 hlen6
            go_wp2_with fail
            refine D6.out.mono ?_
            rintro e u7 ⟨x7, y7, rfl, ho7, hp7, hb7⟩
            obtain ⟨ax, cx, hvx⟩ := ho7.shape
            obtain ⟨ay, cy, hvy⟩ := hp7.shape
            subst hvx
            subst hvy
            obtain ⟨u8, hu8⟩ : ∃ u8, u7.alloc (.cells #[.slice ax l1.length cx, .slice ay l2.length cy] 38) = u8 := ⟨_, rfl⟩
            have BX : Below u7.heap.size u7 u8 := by rw [← hu8]; exact (Below.refl _ _).alloc (Nat.le_refl _) _
            have BY : Below u6.heap.size u6 u8 := hb7.trans (BX.mono hb7.size)
            have B8 := hideT (B6.out.trans (BY.mono B6.out.size))
            have K3 : Hid (SBlk u8 u7.heap.size 38 #[.slice ax l1.length cx, .slice ay l2.length cy]) := hideT (by rw [← hu8]; exact sblk_new _ _ _)
            have S3 := hideT (ho7.row.later BX)
            have S4 := hideT (hp7.row.later BX)
            have R8 := R6.out.later BY
            have D8 := CL.out _ _ c6 _ ((len3 + A.length : Nat) : Int) u8 R8
            have M8 := MB.out (l3 ++ A) l4
            rw [show (l3 ++ A) ++ (B ++ l4) = l3 ++ (A ++ (B ++ l4)) by simp, List.length_append, hl3] at M8
            rw [M8] at D8
            unfold limR limV at D8
            simp only at D8
            have D8 := hideT D8
            have H8 := hideT hu8
            have hwr1 := HWR1.out
            have hwr2 := HWR2.out
            clear ho7 hp7 hb7 BX BY hu8 R6 B6 D6 M8 R8
            generalize ((len3 + A.length : Nat) : Int) = P1 at *
            generalize ((len3 + A.length + B.length : Nat) : Int) = P2 at *
            go_wp2_with fail
            rw [H8.out]
            refine D8.out.mono ?_
            rintro e u9 ⟨rfl, hb9⟩
            obtain ⟨u10, hu10⟩ : ∃ u10, u9.alloc (.cells #[.int .u32 n, .int .u32 x, .bool true] 33) = u10 := ⟨_, rfl⟩
            have BX : Below u9.heap.size u9 u10 := by rw [← hu10]; exact (Below.refl _ _).alloc (Nat.le_refl _) _
            have BY : Below u8.heap.size u8 u10 := hb9.trans (BX.mono hb9.size)
            have bz : Below wa.heap.size wa u10 := B8.out.trans (BY.mono B8.out.size)
            have BW := hideT bz
            have K4 : Hid (SBlk u10 u9.heap.size 33 #[.int .u32 n, .int .u32 x, .bool true]) := hideT (by rw [← hu10]; exact sblk_new _ _ _)
            have K5 : Hid (SBlk u10 u7.heap.size 38 #[.slice ax l1.length cx, .slice ay l2.length cy]) := hideT (K3.out.later BY K3.out.lt)
            have K6 := hideT (K1.out.later bz K1.out.lt)
            have K7 := hideT (K2.out.later bz K2.out.lt)
            have D10 := f0Func_calls (.slice q1 l1.length z1) (.slice q2 l2.length z2) (.slice ax l1.length cx) (.slice ay l2.length cy) l1 l2 l1 l2 u10 (T1.out.later (BA.out.trans (bz.mono BA.out.size))) (T2.out.later (BA.out.trans (bz.mono BA.out.size))) (S3.out.later BY) (S4.out.later BY)
            rw [beq_self, beq_self] at D10
            unfold funcV at D10
            have D10 := hideT D10
            have k10 := K6.out.cell (k := 0) rfl
            have k11 := K6.out.cell (k := 1) rfl
            have k20 := K5.out.cell (k := 0) rfl
            have k21 := K5.out.cell (k := 1) rfl
            rw [← hu10] at k10 k11 k20 k21
            have H10 := hideT hu10
            clear hb9 BX BY bz hu10 S3 S4 B8 K3 D8 H8 K1 K2 T1 T2
            go_wp2_with fail
            rw [H10.out]
            refine D10.out.mono ?_
            rintro e u11 ⟨rfl, hb11⟩
            have m0 := (K4.out.later hb11 K4.out.lt).cell (k := 0) rfl
            have m1 := (K4.out.later hb11 K4.out.lt).cell (k := 1) rfl
            have m2 := (K4.out.later hb11 K4.out.lt).cell (k := 2) rfl
            have n0 := (K7.out.later hb11 K7.out.lt).cell (k := 0) rfl
            have n1 := (K7.out.later hb11 K7.out.lt).cell (k := 1) rfl
            have n2 := (K7.out.later hb11 K7.out.lt).cell (k := 2) rfl
            have B11 := hideT (BW.out.trans (hb11.mono BW.out.size))
            clear hb11 k10 k11 k20 k21 K4 K5 K6 K7 BW
            go_wp2_with fail
            refine (CW.out _).mono ?_
            rintro e u12 ⟨rfl, hb12⟩
            have B12 := hideT (BA.out.trans ((B11.out.trans (hb12.mono B11.out.size)).mono BA.out.size))
            clear hb12
            go_wp2
            go_ret
            exact ⟨rfl, B12.out⟩

set_option maxRecDepth 100000 in
set_option maxHeartbeats 16000000 in
theorem typesBack_1 (hF : TFuncOK) (hR : TIsRefOK) (hP : TPutOK) (hQ : TPutLimOK) (hI : TIsOK) (hL : TLimOK)
    (v1 v2 : Value) (l1 l2 : List Int) (n : Int) (w : World) (w0 : U32 n) (w1 : U32 0) (R1 : RowT w v1 l1) (R2 : RowT w v2 l2) (hy1 : Leb.Bytes l1) (hy2 : Leb.Bytes l2) (h1 : l1.length ≤ 1048576) (h2 : l2.length ≤ 1048576)
    (a3 a4 : Option Addr) (len3 cap3 len4 cap4 : Nat) (l3 l4 : List Int) (H3 : Row w a3 len3 cap3 l3) (H4 : Row w a4 len4 cap4 l4) (hn : len3 + len4 ≤ 1048576) :
    Calls Try.prog 8 #[funcV v1 v2, limV n 0 false, .slice a3 len3 cap3, .slice a4 len4 cap4] w fun e w' => e = .returned (.bool true) ∧ Below w.heap.size w w' := by
  obtain ⟨wa, hwa⟩ : ∃ wa, (w.alloc (.cells #[v1, v2] 38)).alloc (.cells #[.int .u32 n, .int .u32 0, .bool false] 33) = wa := ⟨_, rfl⟩
  have BA : Hid (Below w.heap.size w wa) := hideT (by rw [← hwa]; exact ((Below.refl _ _).alloc (Nat.le_refl _) _).alloc (by simp) _)
  have K1 : Hid (SBlk wa w.heap.size 38 #[v1, v2]) := hideT (by rw [← hwa]; exact (sblk_new _ _ _).past _)
  have K2 : Hid (SBlk wa (w.heap.size + 1) 33 #[.int .u32 n, .int .u32 0, .bool false]) := hideT (by
    rw [← hwa]
    have := sblk_new (w.alloc (.cells #[v1, v2] 38)) 33 #[.int .u32 n, .int .u32 0, .bool false]
    simpa using this)
  have T1 := hideT R1
  have T2 := hideT R2
  have C1 := hideT (fun V hV => hP v1 v2 l1 l2 V (R1.later (w' := V) hV) (R2.later (w' := V) hV) hy1 hy2 h1 h2)
  have C2 := hideT (fun V => hQ n 0 false V w0 w1)
  have CI := hideT hI
  have CF := hideT hF
  have CL := hideT hL
  have CW := hideT (fun V => works9_calls hF hR V)
  have LA := hideT (func_len l1 l2)
  have LB := hideT (lim_len n 0 false)
  have YA := hideT (bytes_func hy1 hy2 h1 h2)
  have YB := hideT (bytes_lim (b := false) w0 w1)
  have HWA := hideT hwa
  have N1 := hideT h1
  have N2 := hideT h2
  have W0 := hideT w0
  have W1 := hideT w1
  have A3 := hideT H3
  have A4 := hideT H4
  have HN := hideT hn
  clear hwa hF hR hP hQ hI hL hy1 hy2 w0 w1 H3 H4
  obtain ⟨q1, z1, rfl, _, _, _⟩ := R1
  obtain ⟨q2, z2, rfl, _, _, _⟩ := R2
  unfold funcV at C1 ⊢
  unfold limV at C2 ⊢
  have m1 : l1.length ≤ 2 ^ 63 - 1 := by omega
  have m2 : l2.length ≤ 2 ^ 63 - 1 := by omega
  have h2c : wa.cell? ⟨w.heap.size + 1, 2, none⟩ = some _ := K2.out.cell (k := 2) rfl
  have h1c : wa.cell? ⟨w.heap.size + 1, 1, none⟩ = some _ := K2.out.cell (k := 1) rfl
  go_enter Try.func8, Try.ntmps8
  rw [← HWA.out] at h2c h1c
  go_wp2_with fail
  rw [HWA.out]
  clear h2c h1c
  go_loopw [9, 10] (fun v xx wr => ∃ (k : Nat), v = .bool (true && (l1.take k).all isT) ∧ xx = .int .i64 (k : Int) ∧ k ≤ l1.length ∧ Below wa.heap.size wa wr) (fun _ xx _ => l1.length - (intOf xx).toNat)
  case atStart => exact ⟨0, by simp, rfl, by omega, Below.refl _ _⟩
  case round =>
    obtain ⟨k, rfl, rfl, hk, hr⟩ := hrel
    have HR := hideT hr
    have hc0 := (K1.out.later hr K1.out.lt).cell (k := 0) rfl
    by_cases c0 : k < l1.length
    · have AM := hideT (all_more c0)
      have R2 := T1.out.later (BA.out.trans (hr.mono BA.out.size))
      obtain ⟨bb, off, rfl, h1⟩ := R2.cellAt c0
      have HC := hideT c0
      have CC := hideT (CI.out (l1[k]?.getD 0) wr)
      generalize l1[k]?.getD 0 = y at *
      clear hr R2
      cases hr1 : (true && (l1.take k).all isT) with
      | true =>
        have HR1 := hideT hr1
        clear hr1
        go_wp2_with ((with_reducible refine CC.out.mono ?_); rintro e w2 ⟨rfl, hb⟩)
        have HB := hideT (HR.out.trans (hb.mono HR.out.size))
        clear hb
        go_wp2
        go_roundw
        case rel => exact ⟨k + 1, by rw [AM.out, ← Bool.and_assoc, HR1.out, Bool.true_and], by simp, HC.out, HB.out⟩
        case measure => have := HC.out; simp only [intOf]; omega
      | false =>
        have HR1 := hideT hr1
        clear hr1
        go_wp2
        go_roundw
        case rel => exact ⟨k + 1, by rw [AM.out, ← Bool.and_assoc, HR1.out, Bool.false_and], by simp, HC.out, HR.out⟩
        case measure => have := HC.out; simp only [intOf]; omega
    · obtain rfl : k = l1.length := by omega
      rw [List.take_length]
      clear hr c0
      go_wp2_with fail
      go_loopw [9, 11] (fun v xx wr => ∃ (k : Nat), v = .bool ((true && l1.all isT) && (l2.take k).all isT) ∧ xx = .int .i64 (k : Int) ∧ k ≤ l2.length ∧ Below wa.heap.size wa wr) (fun _ xx _ => l2.length - (intOf xx).toNat)
      case atStart => exact ⟨0, by simp, rfl, by omega, HR.out⟩
      case round =>
        obtain ⟨k, rfl, rfl, hk, hr⟩ := hrel
        have HR := hideT hr
        have hc0 := (K1.out.later hr K1.out.lt).cell (k := 1) rfl
        by_cases c0 : k < l2.length
        · have AM := hideT (all_more c0)
          have R2 := T2.out.later (BA.out.trans (hr.mono BA.out.size))
          obtain ⟨bb, off, rfl, h1⟩ := R2.cellAt c0
          have HC := hideT c0
          have CC := hideT (CI.out (l2[k]?.getD 0) wr)
          generalize l2[k]?.getD 0 = y at *
          clear hr R2
          cases hr1 : ((true && l1.all isT) && (l2.take k).all isT) with
          | true =>
            have HR1 := hideT hr1
            clear hr1
            go_wp2_with ((with_reducible refine CC.out.mono ?_); rintro e w2 ⟨rfl, hb⟩)
            have HB := hideT (HR.out.trans (hb.mono HR.out.size))
            clear hb
            go_wp2
            go_roundw
            case rel => exact ⟨k + 1, by rw [AM.out, ← Bool.and_assoc, HR1.out, Bool.true_and], by simp, HC.out, HB.out⟩
            case measure => have := HC.out; simp only [intOf]; omega
          | false =>
            have HR1 := hideT hr1
            clear hr1
            go_wp2
            go_roundw
            case rel => exact ⟨k + 1, by rw [AM.out, ← Bool.and_assoc, HR1.out, Bool.false_and], by simp, HC.out, HR.out⟩
            case measure => have := HC.out; simp only [intOf]; omega
        · obtain rfl : k = l2.length := by omega
          rw [List.take_length]
          clear hr c0
          cases hR : (true && l1.all isT && l2.all isT) with
          | false =>
            clear hR
            go_wp2_with fail
            refine (CW.out _).mono ?_
            rintro e wz ⟨rfl, hb⟩
            have BZ := hideT (BA.out.trans ((HR.out.trans (hb.mono HR.out.size)).mono BA.out.size))
            clear hb
            go_wp2
            go_ret
            exact ⟨rfl, BZ.out⟩
          | true =>
            obtain ⟨t1, t2⟩ : l1.all isT = true ∧ l2.all isT = true := by simpa using hR
            have FB := hideT (fun r => func_back l3 l1 l2 r h1 h2 t1 t2)
            have MB := hideT (fun ah r => lim_back ah r n 0 false W0.out W1.out (.inr rfl))
            have hl3 := A3.out.1
            have hl4 := A4.out.1
            have r3 := A3.out.later (BA.out.trans (HR.out.mono BA.out.size))
            have R3 := hideT r3
            have hzr : wa.heap.size ≤ wr.heap.size := HR.out.size
            have hk3 : 0 + len3 ≤ 4194304 := by omega
            have hp1 := putU_len (l1.length : Int)
            have hp2 := putU_len (l2.length : Int)
            have hq1 := putU_len n
            have hq2 := putU_len 0
            have LA2 : Hid ((putFunc l1 l2).length ≤ 2097173) := hideT (by simp [putFunc, putList]; omega)
            have LB2 : Hid ((putLim n 0 false).length ≤ 21) := hideT (by simp [putLim]; omega)
            clear hR t1 t2 r3 hp1 hp2 hq1 hq2
            generalize putFunc l1 l2 = A at *
            generalize putLim n 0 false = B at *
            have HWR1 := hideT (wrap_nats len3 A.length (by have := LA2.out; omega))
            have HWR2 := hideT (wrap_nats (len3 + A.length) B.length (by have := LA2.out; have := LB2.out; omega))
            have HB := hideT (BA.out.trans (HR.out.mono BA.out.size))
            go_wp2_with (at_builtin; go_must (refine append_row rfl _ _ rfl wa.heap.size _ 0 [] rfl (World.ownsRow_nil _ _ _ _) a3 len3 cap3 l3 rfl R3.out hk3 hzr ?_))
            intro b1 u1 hown1 hgrow1
            have hbel1 : Below wa.heap.size wa u1 := HR.out.grown hgrow1 hzr (fun k hk => by simp [Value.ownBlock] at hk)
            have O1 : Hid (u1.ownsRow wa.heap.size 5 1 b1 len3 (l3.map (Value.int .u8))) := by show u1.ownsRow _ _ _ _ _ _; simpa using hown1
            have B1 := hideT hbel1
            have D1 := hideT (C1.out u1 (BA.out.trans (hbel1.mono BA.out.size)))
            have p0 := (K1.out.later hbel1 K1.out.lt).cell (k := 0) rfl
            have p1 := (K1.out.later hbel1 K1.out.lt).cell (k := 1) rfl
            clear hown1 hgrow1 hbel1 hzr hk3 R3 C1
            go_wp2_with fail
            refine D1.out.mono ?_
            rintro e u2 ⟨x1, rfl, ho2, hb2⟩
            obtain ⟨g2, c2, rfl, hg2, r2⟩ := (show OwnU u2 u1.heap.size x1 A from ho2).row LA.out YA.out
            have O2 := hideT (own_below O1.out hb2 (fun k hk => (O1.out.lt k hk).2))
            have B2 := hideT (B1.out.trans (hb2.mono B1.out.size))
            have R2 := hideT r2
            have hz2 : wa.heap.size ≤ u2.heap.size := B2.out.size
            have hk2 : len3 + A.length ≤ 4194304 := by have := LA2.out; omega
            clear ho2 hb2 r2 O1 B1 D1 p0 p1
            go_wp2_with (at_builtin; go_must (refine append_row rfl _ _ rfl wa.heap.size _ _ _ rfl O2.out _ _ c2 A rfl R2.out hk2 hz2 ?_))
            intro b3 u3 hown3 hgrow3
            have hbel3 : Below wa.heap.size wa u3 := B2.out.grown hgrow3 hz2 (fun k hk => (O2.out.lt k hk).1)
            have O3 : Hid (u3.ownsRow wa.heap.size 5 1 b3 (len3 + A.length) ((l3 ++ A).map (Value.int .u8))) := by show u3.ownsRow _ _ _ _ _ _; simpa using hown3
            have B3 := hideT hbel3
            have D3 := hideT (C2.out u3)
            have p0 := (K2.out.later hbel3 K2.out.lt).cell (k := 0) rfl
            have p1 := (K2.out.later hbel3 K2.out.lt).cell (k := 1) rfl
            have p2 := (K2.out.later hbel3 K2.out.lt).cell (k := 2) rfl
            clear hown3 hgrow3 hbel3 hz2 hk2 R2 O2 B2 C2
            go_wp2_with fail
            refine D3.out.mono ?_
            rintro e u4 ⟨x4, rfl, ho4, hb4⟩
            obtain ⟨g4, c4, rfl, hg4, r4⟩ := (show OwnU u4 u3.heap.size x4 B from ho4).row LB.out YB.out
            have O4 := hideT (own_below O3.out hb4 (fun k hk => (O3.out.lt k hk).2))
            have B4 := hideT (B3.out.trans (hb4.mono B3.out.size))
            have R4 := hideT r4
            have hz4 : wa.heap.size ≤ u4.heap.size := B4.out.size
            have hk4 : len3 + A.length + B.length ≤ 4194304 := by have := LA2.out; have := LB2.out; omega
            clear ho4 hb4 r4 O3 B3 D3 p0 p1 p2
            go_wp2_with (at_builtin; go_must (refine append_row rfl _ _ rfl wa.heap.size _ _ _ rfl O4.out _ _ c4 B rfl R4.out hk4 hz4 ?_))
            intro b5 u5 hown5 hgrow5
            have hbel5 : Below wa.heap.size wa u5 := B4.out.grown hgrow5 hz4 (fun k hk => (O4.out.lt k hk).1)
            have O5 : Hid (u5.ownsRow wa.heap.size 5 1 b5 (len3 + A.length + B.length) ((l3 ++ (A ++ B)).map (Value.int .u8))) := by show u5.ownsRow _ _ _ _ _ _; simpa using hown5
            have B5 := hideT hbel5
            have R5 := hideT (A4.out.later (BA.out.trans (hbel5.mono BA.out.size)))
            have hz5 : wa.heap.size ≤ u5.heap.size := hbel5.size
            have hk5 : len3 + A.length + B.length + len4 ≤ 4194304 := by have := LA2.out; have := LB2.out; omega
            clear hown5 hgrow5 hbel5 hz4 hk4 R4 O4 B4
            go_wp2_with (at_builtin; go_must (refine append_row rfl _ _ rfl wa.heap.size _ _ _ rfl O5.out a4 len4 cap4 l4 rfl R5.out hk5 hz5 ?_))
            intro b6 u6 hown6 hgrow6
            have hbel6 : Below wa.heap.size wa u6 := B5.out.grown hgrow6 hz5 (fun k hk => (O5.out.lt k hk).1)
            have hown6' : u6.ownsRow wa.heap.size 5 1 b6 (len3 + A.length + B.length + len4) ((l3 ++ (A ++ (B ++ l4))).map (Value.int .u8)) := by simpa using hown6
            have hlen6 : (l3 ++ (A ++ (B ++ l4))).length = len3 + A.length + B.length + len4 := by simp [hl3, hl4]; omega
            obtain ⟨g6, c6, rfl, hg6, r6⟩ := own_row hlen6 hown6' (by have := LA.out; omega) (bytes_append A3.out.2.2.2.1 (bytes_append YA.out (bytes_append YB.out A4.out.2.2.2.1)))
            have B6 := hideT hbel6
            have R6 := hideT r6
            have D6 := CF.out _ _ c6 _ (len3 : Int) u6 r6
            rw [← hl3, FB.out (B ++ l4)] at D6
            unfold FuncPost at D6
            simp only at D6
            rw [hl3] at D6
            have D6 := hideT D6
            clear hown6 hown6' hgrow6 hbel6 hz5 hk5 R5 O5 B5 r6 hlen6
            go_wp2_with fail
            refine D6.out.mono ?_
            rintro e u7 ⟨x7, y7, rfl, ho7, hp7, hb7⟩
            obtain ⟨ax, cx, hvx⟩ := ho7.shape
            obtain ⟨ay, cy, hvy⟩ := hp7.shape
            subst hvx
            subst hvy
            obtain ⟨u8, hu8⟩ : ∃ u8, u7.alloc (.cells #[.slice ax l1.length cx, .slice ay l2.length cy] 38) = u8 := ⟨_, rfl⟩
            have BX : Below u7.heap.size u7 u8 := by rw [← hu8]; exact (Below.refl _ _).alloc (Nat.le_refl _) _
            have BY : Below u6.heap.size u6 u8 := hb7.trans (BX.mono hb7.size)
            have B8 := hideT (B6.out.trans (BY.mono B6.out.size))
            have K3 : Hid (SBlk u8 u7.heap.size 38 #[.slice ax l1.length cx, .slice ay l2.length cy]) := hideT (by rw [← hu8]; exact sblk_new _ _ _)
            have S3 := hideT (ho7.row.later BX)
            have S4 := hideT (hp7.row.later BX)
            have R8 := R6.out.later BY
            have D8 := CL.out _ _ c6 _ ((len3 + A.length : Nat) : Int) u8 R8
            have M8 := MB.out (l3 ++ A) l4
            rw [show (l3 ++ A) ++ (B ++ l4) = l3 ++ (A ++ (B ++ l4)) by simp, List.length_append, hl3] at M8
            rw [M8] at D8
            unfold limR limV at D8
            simp only at D8
            have D8 := hideT D8
            have H8 := hideT hu8
            have hwr1 := HWR1.out
            have hwr2 := HWR2.out
            clear ho7 hp7 hb7 BX BY hu8 R6 B6 D6 M8 R8
            generalize ((len3 + A.length : Nat) : Int) = P1 at *
            generalize ((len3 + A.length + B.length : Nat) : Int) = P2 at *
            go_wp2_with fail
            rw [H8.out]
            refine D8.out.mono ?_
            rintro e u9 ⟨rfl, hb9⟩
            obtain ⟨u10, hu10⟩ : ∃ u10, u9.alloc (.cells #[.int .u32 n, .int .u32 0, .bool false] 33) = u10 := ⟨_, rfl⟩
            have BX : Below u9.heap.size u9 u10 := by rw [← hu10]; exact (Below.refl _ _).alloc (Nat.le_refl _) _
            have BY : Below u8.heap.size u8 u10 := hb9.trans (BX.mono hb9.size)
            have bz : Below wa.heap.size wa u10 := B8.out.trans (BY.mono B8.out.size)
            have BW := hideT bz
            have K4 : Hid (SBlk u10 u9.heap.size 33 #[.int .u32 n, .int .u32 0, .bool false]) := hideT (by rw [← hu10]; exact sblk_new _ _ _)
            have K5 : Hid (SBlk u10 u7.heap.size 38 #[.slice ax l1.length cx, .slice ay l2.length cy]) := hideT (K3.out.later BY K3.out.lt)
            have K6 := hideT (K1.out.later bz K1.out.lt)
            have K7 := hideT (K2.out.later bz K2.out.lt)
            have D10 := f0Func_calls (.slice q1 l1.length z1) (.slice q2 l2.length z2) (.slice ax l1.length cx) (.slice ay l2.length cy) l1 l2 l1 l2 u10 (T1.out.later (BA.out.trans (bz.mono BA.out.size))) (T2.out.later (BA.out.trans (bz.mono BA.out.size))) (S3.out.later BY) (S4.out.later BY)
            rw [beq_self, beq_self] at D10
            unfold funcV at D10
            have D10 := hideT D10
            have k10 := K6.out.cell (k := 0) rfl
            have k11 := K6.out.cell (k := 1) rfl
            have k20 := K5.out.cell (k := 0) rfl
            have k21 := K5.out.cell (k := 1) rfl
            rw [← hu10] at k10 k11 k20 k21
            have H10 := hideT hu10
            clear hb9 BX BY bz hu10 S3 S4 B8 K3 D8 H8 K1 K2 T1 T2
            go_wp2_with fail
            rw [H10.out]
            refine D10.out.mono ?_
            rintro e u11 ⟨rfl, hb11⟩
            have m0 := (K4.out.later hb11 K4.out.lt).cell (k := 0) rfl
            have m1 := (K4.out.later hb11 K4.out.lt).cell (k := 1) rfl
            have m2 := (K4.out.later hb11 K4.out.lt).cell (k := 2) rfl
            have n0 := (K7.out.later hb11 K7.out.lt).cell (k := 0) rfl
            have n1 := (K7.out.later hb11 K7.out.lt).cell (k := 1) rfl
            have n2 := (K7.out.later hb11 K7.out.lt).cell (k := 2) rfl
            have B11 := hideT (BW.out.trans (hb11.mono BW.out.size))
            clear hb11 k10 k11 k20 k21 K4 K5 K6 K7 BW
            go_wp2_with fail
            refine (CW.out _).mono ?_
            rintro e u12 ⟨rfl, hb12⟩
            have B12 := hideT (BA.out.trans ((B11.out.trans (hb12.mono B11.out.size)).mono BA.out.size))
            clear hb12
            go_wp2
            go_ret
            exact ⟨rfl, B12.out⟩

set_option maxRecDepth 100000 in
set_option maxHeartbeats 16000000 in
theorem typesBack_2 (hF : TFuncOK) (hR : TIsRefOK) (hP : TPutOK) (hQ : TPutLimOK) (hI : TIsOK) (hL : TLimOK)
    (v1 v2 : Value) (l1 l2 : List Int) (n x : Int) (hx : (x == 0) = false) (w : World) (w0 : U32 n) (w1 : U32 x) (R1 : RowT w v1 l1) (R2 : RowT w v2 l2) (hy1 : Leb.Bytes l1) (hy2 : Leb.Bytes l2) (h1 : l1.length ≤ 1048576) (h2 : l2.length ≤ 1048576)
    (a3 a4 : Option Addr) (len3 cap3 len4 cap4 : Nat) (l3 l4 : List Int) (H3 : Row w a3 len3 cap3 l3) (H4 : Row w a4 len4 cap4 l4) (hn : len3 + len4 ≤ 1048576) :
    Calls Try.prog 8 #[funcV v1 v2, limV n x false, .slice a3 len3 cap3, .slice a4 len4 cap4] w fun e w' => e = .returned (.bool true) ∧ Below w.heap.size w w' := by
  obtain ⟨wa, hwa⟩ : ∃ wa, (w.alloc (.cells #[v1, v2] 38)).alloc (.cells #[.int .u32 n, .int .u32 x, .bool false] 33) = wa := ⟨_, rfl⟩
  have BA : Hid (Below w.heap.size w wa) := hideT (by rw [← hwa]; exact ((Below.refl _ _).alloc (Nat.le_refl _) _).alloc (by simp) _)
  have K1 : Hid (SBlk wa w.heap.size 38 #[v1, v2]) := hideT (by rw [← hwa]; exact (sblk_new _ _ _).past _)
  have K2 : Hid (SBlk wa (w.heap.size + 1) 33 #[.int .u32 n, .int .u32 x, .bool false]) := hideT (by
    rw [← hwa]
    have := sblk_new (w.alloc (.cells #[v1, v2] 38)) 33 #[.int .u32 n, .int .u32 x, .bool false]
    simpa using this)
  have T1 := hideT R1
  have T2 := hideT R2
  have C1 := hideT (fun V hV => hP v1 v2 l1 l2 V (R1.later (w' := V) hV) (R2.later (w' := V) hV) hy1 hy2 h1 h2)
  have C2 := hideT (fun V => hQ n x false V w0 w1)
  have CI := hideT hI
  have CF := hideT hF
  have CL := hideT hL
  have CW := hideT (fun V => works9_calls hF hR V)
  have LA := hideT (func_len l1 l2)
  have LB := hideT (lim_len n x false)
  have YA := hideT (bytes_func hy1 hy2 h1 h2)
  have YB := hideT (bytes_lim (b := false) w0 w1)
  have HWA := hideT hwa
  have N1 := hideT h1
  have N2 := hideT h2
  have W0 := hideT w0
  have W1 := hideT w1
  have A3 := hideT H3
  have A4 := hideT H4
  have HN := hideT hn
  clear hwa hF hR hP hQ hI hL hy1 hy2 w0 w1 H3 H4
  obtain ⟨q1, z1, rfl, _, _, _⟩ := R1
  obtain ⟨q2, z2, rfl, _, _, _⟩ := R2
  unfold funcV at C1 ⊢
  unfold limV at C2 ⊢
  have m1 : l1.length ≤ 2 ^ 63 - 1 := by omega
  have m2 : l2.length ≤ 2 ^ 63 - 1 := by omega
  have h2c : wa.cell? ⟨w.heap.size + 1, 2, none⟩ = some _ := K2.out.cell (k := 2) rfl
  have h1c : wa.cell? ⟨w.heap.size + 1, 1, none⟩ = some _ := K2.out.cell (k := 1) rfl
  go_enter Try.func8, Try.ntmps8
  rw [← HWA.out] at h2c h1c
  go_wp2_with fail
  rw [HWA.out]
  clear h2c h1c
  go_loopw [9, 10] (fun v x wr => ∃ (k : Nat), v = .bool (false && (l1.take k).all isT) ∧ x = .int .i64 (k : Int) ∧ k ≤ l1.length ∧ Below wa.heap.size wa wr) (fun _ x _ => l1.length - (intOf x).toNat)
  case atStart => exact ⟨0, by simp, rfl, by omega, Below.refl _ _⟩
  case round =>
    obtain ⟨k, rfl, rfl, hk, hr⟩ := hrel
    have HR := hideT hr
    have hc0 := (K1.out.later hr K1.out.lt).cell (k := 0) rfl
    by_cases c0 : k < l1.length
    · have AM := hideT (all_more c0)
      have R2 := T1.out.later (BA.out.trans (hr.mono BA.out.size))
      obtain ⟨bb, off, rfl, h1⟩ := R2.cellAt c0
      have HC := hideT c0
      have CC := hideT (CI.out (l1[k]?.getD 0) wr)
      generalize l1[k]?.getD 0 = y at *
      clear hr R2
      cases hr1 : (false && (l1.take k).all isT) with
      | true =>
        have HR1 := hideT hr1
        clear hr1
        go_wp2_with ((with_reducible refine CC.out.mono ?_); rintro e w2 ⟨rfl, hb⟩)
        have HB := hideT (HR.out.trans (hb.mono HR.out.size))
        clear hb
        go_wp2
        go_roundw
        case rel => exact ⟨k + 1, by rw [AM.out, ← Bool.and_assoc, HR1.out, Bool.true_and], by simp, HC.out, HB.out⟩
        case measure => have := HC.out; simp only [intOf]; omega
      | false =>
        have HR1 := hideT hr1
        clear hr1
        go_wp2
        go_roundw
        case rel => exact ⟨k + 1, by rw [AM.out, ← Bool.and_assoc, HR1.out, Bool.false_and], by simp, HC.out, HR.out⟩
        case measure => have := HC.out; simp only [intOf]; omega
    · obtain rfl : k = l1.length := by omega
      rw [List.take_length]
      clear hr c0
      go_wp2_with fail
      go_loopw [9, 11] (fun v x wr => ∃ (k : Nat), v = .bool ((false && l1.all isT) && (l2.take k).all isT) ∧ x = .int .i64 (k : Int) ∧ k ≤ l2.length ∧ Below wa.heap.size wa wr) (fun _ x _ => l2.length - (intOf x).toNat)
      case atStart => exact ⟨0, by simp, rfl, by omega, HR.out⟩
      case round =>
        obtain ⟨k, rfl, rfl, hk, hr⟩ := hrel
        have HR := hideT hr
        have hc0 := (K1.out.later hr K1.out.lt).cell (k := 1) rfl
        by_cases c0 : k < l2.length
        · have AM := hideT (all_more c0)
          have R2 := T2.out.later (BA.out.trans (hr.mono BA.out.size))
          obtain ⟨bb, off, rfl, h1⟩ := R2.cellAt c0
          have HC := hideT c0
          have CC := hideT (CI.out (l2[k]?.getD 0) wr)
          generalize l2[k]?.getD 0 = y at *
          clear hr R2
          cases hr1 : ((false && l1.all isT) && (l2.take k).all isT) with
          | true =>
            have HR1 := hideT hr1
            clear hr1
            go_wp2_with ((with_reducible refine CC.out.mono ?_); rintro e w2 ⟨rfl, hb⟩)
            have HB := hideT (HR.out.trans (hb.mono HR.out.size))
            clear hb
            go_wp2
            go_roundw
            case rel => exact ⟨k + 1, by rw [AM.out, ← Bool.and_assoc, HR1.out, Bool.true_and], by simp, HC.out, HB.out⟩
            case measure => have := HC.out; simp only [intOf]; omega
          | false =>
            have HR1 := hideT hr1
            clear hr1
            go_wp2
            go_roundw
            case rel => exact ⟨k + 1, by rw [AM.out, ← Bool.and_assoc, HR1.out, Bool.false_and], by simp, HC.out, HR.out⟩
            case measure => have := HC.out; simp only [intOf]; omega
        · obtain rfl : k = l2.length := by omega
          rw [List.take_length]
          clear hr c0
          cases hR : (false && l1.all isT && l2.all isT) with
          | false =>
            clear hR
            go_wp2_with fail
            refine (CW.out _).mono ?_
            rintro e wz ⟨rfl, hb⟩
            have BZ := hideT (BA.out.trans ((HR.out.trans (hb.mono HR.out.size)).mono BA.out.size))
            clear hb
            go_wp2
            go_ret
            exact ⟨rfl, BZ.out⟩
          | true =>
            simp at hR

theorem typesBack_law (hF : TFuncOK) (hR : TIsRefOK) (hP : TPutOK) (hQ : TPutLimOK) (hI : TIsOK) (hL : TLimOK)
    (v1 v2 : Value) (l1 l2 : List Int) (n x : Int) (b : Bool) (w : World) (w0 : U32 n) (w1 : U32 x) (R1 : RowT w v1 l1) (R2 : RowT w v2 l2) (hy1 : Leb.Bytes l1) (hy2 : Leb.Bytes l2) (h1 : l1.length ≤ 1048576) (h2 : l2.length ≤ 1048576)
    (a3 a4 : Option Addr) (len3 cap3 len4 cap4 : Nat) (l3 l4 : List Int) (H3 : Row w a3 len3 cap3 l3) (H4 : Row w a4 len4 cap4 l4) (hn : len3 + len4 ≤ 1048576) :
    Calls Try.prog 8 #[funcV v1 v2, limV n x b, .slice a3 len3 cap3, .slice a4 len4 cap4] w fun e w' => e = .returned (.bool true) ∧ Below w.heap.size w w' := by
  cases b with
  | true => exact typesBack_0 hF hR hP hQ hI hL v1 v2 l1 l2 n x w w0 w1 R1 R2 hy1 hy2 h1 h2 a3 a4 len3 cap3 len4 cap4 l3 l4 H3 H4 hn
  | false =>
    cases hx : x == 0 with
    | true =>
      obtain rfl : x = 0 := by simpa using hx
      exact typesBack_1 hF hR hP hQ hI hL v1 v2 l1 l2 n w w0 w1 R1 R2 hy1 hy2 h1 h2 a3 a4 len3 cap3 len4 cap4 l3 l4 H3 H4 hn
    | false => exact typesBack_2 hF hR hP hQ hI hL v1 v2 l1 l2 n x hx w w0 w1 R1 R2 hy1 hy2 h1 h2 a3 a4 len3 cap3 len4 cap4 l3 l4 H3 H4 hn
end Go.Proofs.Yteacjhmbamcegaa
