/-
  The law TypesFresh, over what is asked of types (genfresh9.py wrote it).
-/
import Derived.Test.YteacjhmbamcegabTypLaw7
import Derived.Test.YteacjhmbamcegabFreshParts
set_option linter.unusedVariables false
set_option linter.unusedSimpArgs false
namespace Go.Proofs.Yteacjhmbamcegab
open Go.RowKit Typ

/-- What is asked of Put, its spare cells told. -/
def TPutIOK : Prop := ∀ (v1 v2 : Value) (l1 l2 : List Int) (w : World), RowT w v1 l1 → RowT w v2 l2 → Leb.Bytes l1 → Leb.Bytes l2 → l1.length ≤ 1048576 → l2.length ≤ 1048576 →
  Calls Try.prog 16 #[funcV v1 v2] w fun e w' => ∃ v, e = .returned v ∧ OwnI w' w.heap.size 5 .u8 v (putFunc l1 l2) ∧ Below w.heap.size w w'
theorem TPutIOK.put (h : TPutIOK) : TPutOK := fun v1 v2 l1 l2 w R1 R2 y1 y2 k1 k2 =>
  (h v1 v2 l1 l2 w R1 R2 y1 y2 k1 k2).mono fun e w' ⟨v, he, ho, hb⟩ => ⟨v, he, ho.row, hb⟩

theorem spoil9_nil (w : World) : Calls Try.prog 17 #[.slice none 0 0, .int .u8 1] w fun e w' => e = .returned (.tuple #[]) ∧ w' = w := by
  go_enter Try.func17, Try.ntmps17
  go_wp2
  go_loopw [4] (fun x wr => x = .int .i64 0 ∧ wr = w) (fun _ _ => 0)
  case atStart => exact ⟨rfl, rfl⟩
  case round =>
    obtain ⟨rfl, rfl⟩ := hrel
    go_wp2
    go_end0
    exact ⟨rfl, rfl⟩
/-- A row of the call's own, nil or not, spoilt: nothing below it has changed. -/
theorem spoil9_any {w : World} {base : Nat} {v : Value} {l : List Int} (h : OwnI w base 5 .u8 v l) :
    Calls Try.prog 17 #[v, .int .u8 1] w fun e w' => e = .returned (.tuple #[]) ∧ Below base w w' := by
  rcases h with ⟨rfl, rfl⟩ | ⟨g, cap, zs, rfl, hb, hg, h1, h2, h3, h4, h5⟩
  · exact (spoil9_nil w).mono fun e w' ⟨h1, h2⟩ => ⟨h1, by rw [h2]; exact Below.refl _ _⟩
  · exact Spoil_walk g l.length cap base zs w h1 (by unfold maxLen at h2; omega) h3 h5 hg hb

theorem infoVT : (Try.prog.info? 22).map (fun i => (i.zero, i.size, i.bytes)) = some (some (.int .u8 0), 1, 1) := by kernel_rfl
set_option maxHeartbeats 1000000 in
theorem copyTypes_calls (v : Value) (l : List Int) (w : World) (h : RowT w v l) (hn : l.length ≤ 1048576) :
    Calls Try.prog 15 #[v] w fun e w' => ∃ x, e = .returned x ∧ OwnT w' w.heap.size x l ∧ Below w.heap.size w w' := by
  obtain ⟨i0, hi, hz0, hz1, hz2⟩ := info_parts infoVT
  obtain ⟨a, cap, rfl, hcap, hcm, hc⟩ := h
  have hown : w.ownsRow w.heap.size 22 1 (.slice none 0 0) 0 [] := World.ownsRow_nil _ _ _ _
  by_cases h0 : 0 < l.length
  · obtain ⟨b, off, rfl, hcell⟩ := hc h0
    have C3 : Hid (0 + l.length ≤ maxLen) := by show 0 + l.length ≤ maxLen; unfold maxLen; omega
    have C4 : Hid ((0 + l.length) * 1 ≤ 140737488355328) := by show (0 + l.length) * 1 ≤ 140737488355328; omega
    have HC : Hid (∀ (j : Nat) (u : Value), (l.map (Value.int .u8))[j]? = some u → w.cell? ((⟨b, off, none⟩ : Addr).add j) = some u) := hideT (by
      intro j u hj
      rw [List.getElem?_map] at hj
      by_cases hjm : j < l.length
      · have hg := hcell j hjm
        rw [List.getElem?_eq_getElem hjm] at hj hg
        simp only [Option.map_some, Option.some.injEq] at hj
        subst hj
        simp only [Option.getD_some] at hg
        by_cases h0 : j = 0
        · subst h0; simpa [Addr.add] using hg
        · simpa [Addr.add, h0] using hg
      · rw [List.getElem?_eq_none (by omega)] at hj
        simp at hj)
    have HL := hideT (show (l.map (Value.int .u8)).length = l.length * 1 by simp)
    have HOWN := hideT hown
    have HI := hideT hi
    have HZ0 := hideT hz0
    have HZ1 := hideT hz1
    have HZ2 := hideT hz2
    clear hc hcell hown hi hz0 hz1 hz2 hcap hcm hn h0
    go_enter Try.func15, Try.ntmps15
    go_wp2_with (at_builtin; go_must (refine wpList_append_own w rfl _ _ 31 rfl w.heap.size 22 i0 (.int .u8 0) 1 1 Try.underlying31 HI.out HZ0.out HZ1.out HZ2.out rfl (by decide) (.slice none 0 0) 0 [] rfl HOWN.out ⟨b, off, none⟩ l.length cap (l.map (Value.int .u8)) rfl HL.out HC.out (ints_oneCell .u8 l) C3.out C4.out (Nat.le_refl _) ?_))
    intro v' w1 hown1 hgrow1 _
    have hb := Below.grown (B := w.heap.size) (Below.refl w.heap.size w) hgrow1 (Nat.le_refl _) (fun k hk => by simp [Value.ownBlock] at hk)
    have O1 : Hid (OwnT w1 w.heap.size v' l) := hideT (by unfold OwnT; simpa using hown1)
    have B1 := hideT hb
    clear hown1 hgrow1 hb
    go_wp2
    go_ret
    exact ⟨_, rfl, O1.out, B1.out⟩
  · have hl : l = [] := List.eq_nil_of_length_eq_zero (by omega)
    subst hl
    have HOWN := hideT hown
    have HI := hideT hi
    have HZ := hideT hz1
    clear hc hown hi hz0 hz1 hz2 hcap hcm hn h0
    simp only [List.length_nil]
    cases a with
    | none =>
      go_enter Try.func15, Try.ntmps15
      go_wp2
      go_ret
      exact ⟨_, rfl, OwnT.nil _ _, Below.refl _ _⟩
    | some ad =>
      go_enter Try.func15, Try.ntmps15
      go_wp2
      go_ret
      exact ⟨_, rfl, OwnT.nil _ _, Below.refl _ _⟩

theorem OwnT.addr {w : World} {b : Nat} {v : Value} {l : List Int} (h : OwnT w b v l) (h0 : 0 < l.length) : ∃ g cap, v = .slice (some ⟨g, 0, none⟩) l.length cap ∧ b ≤ g ∧ ∃ cur, w.heap[g]? = some (.cells cur 22 (0, 0)) := by
  obtain ⟨_, ⟨rfl, h1⟩ | ⟨g, cap, cur, rfl, hb, hblk, _⟩⟩ := id h
  · omega
  · exact ⟨g, cap, rfl, hb, cur, hblk⟩
theorem types_apart {w : World} {g g' : Nat} {cs cur : Array Value} (h : SBlk w g 33 cs) (h' : w.heap[g']? = some (.cells cur 22 (0, 0))) : g ≠ g' := by
  rintro rfl
  unfold SBlk at h
  rw [h] at h'
  simp only [Option.some.injEq, Obj.cells.injEq] at h'
  exact absurd h'.2.1 (by decide)
theorem OwnT.aside {w : World} {b : Nat} {v : Value} {l : List Int} (h : OwnT w b v l) {g : Nat} {cs : Array Value} (hg : SBlk w g 33 cs) (k : Nat) (u : Value) : OwnT (w.setCell ⟨g, k, none⟩ u) b v l := by
  obtain ⟨h1, h2 | ⟨g', cap, cur, e, hb, hblk, h3⟩⟩ := id h
  · exact ⟨h1, .inl h2⟩
  · exact ⟨h1, .inr ⟨g', cap, cur, e, hb, (heap_setCell_other _ _ _ _ (Ne.symm (types_apart hg hblk))).trans hblk, h3⟩⟩
theorem SBlk.aside {w : World} {g g' : Nat} {t : TypeId} {cs : Array Value} (h : SBlk w g t cs) (hg : g ≠ g') (k : Nat) (u : Value) : SBlk (w.setCell ⟨g', k, none⟩ u) g t cs := (heap_setCell_other _ _ _ _ hg).trans h

/-- In the loop that writes over what was read. -/
def OverJ (wa : World) (g6 : Nat) (x1 x2 : Value) (n : Nat) (wr : World) : Prop :=
  (∃ ys : List Int, ys.length = n ∧ OwnT wr wa.heap.size x1 ys) ∧ SBlk wr g6 33 #[x1, x2] ∧ wa.heap.size ≤ g6 ∧ Below wa.heap.size wa wr
def OwnJ (v1 v2 : Value) (g3 : Nat) (l1 l2 : List Int) (wa : World) (d : Nat → Bool) (vs : List Value) (w : World) : Prop :=
  (d 0 = true → vs[0]?.getD undef = .pointer (some ⟨g3, 0, none⟩)) ∧ (d 1 = true → vs[1]?.getD undef = v1) ∧ (d 2 = true → OwnT w wa.heap.size (vs[2]?.getD undef) l1) ∧ (d 3 = true → vs[3]?.getD undef = .pointer (some ⟨g3, 1, none⟩)) ∧ (d 4 = true → vs[4]?.getD undef = v2) ∧ (d 5 = true → OwnT w wa.heap.size (vs[5]?.getD undef) l2) ∧
  (d 6 = true → vs[6]?.getD undef = .agg #[vs[2]?.getD undef, vs[5]?.getD undef]) ∧ (d 7 = true → ∃ g cs, vs[7]?.getD undef = .pointer (some ⟨g, 0, none⟩) ∧ wa.heap.size ≤ g ∧ SBlk w g 33 cs ∧ cs.size = 2 ∧ (d 8 = true → cs = #[vs[2]?.getD undef, vs[5]?.getD undef])) ∧ (d 6 = true → d 2 = true) ∧ (d 6 = true → d 5 = true) ∧ (d 8 = true → d 6 = true) ∧ (d 8 = true → d 7 = true) ∧ Below wa.heap.size wa w
def FreshJ (VW VB y1 y2 v1 v2 : Value) (A : List Int) (wa : World) (d : Nat → Bool) (vs : List Value) (w : World) : Prop :=
  (d 0 = true → vs[0]?.getD undef = VW) ∧ (d 1 = true → vs[1]?.getD undef = VB) ∧ (d 2 = true → vs[2]?.getD undef = (.bool true)) ∧ (d 3 = true → vs[3]?.getD undef = (.bool true)) ∧ (d 4 = true → vs[4]?.getD undef = (.agg #[y1, y2])) ∧ (d 5 = true → vs[5]?.getD undef = (.agg #[v1, v2])) ∧ (d 6 = true → vs[6]?.getD undef = (.bool true)) ∧ (d 7 = true → vs[7]?.getD undef = (.bool true)) ∧ (d 8 = true → vs[8]?.getD undef = (.bool true)) ∧ (d 9 = true → vs[9]?.getD undef = (.agg #[y1, y2])) ∧ (d 10 = true → OwnU w wa.heap.size (vs[10]?.getD undef) A) ∧ (d 11 = true → vs[11]?.getD undef = (.agg #[v1, v2])) ∧ (d 12 = true → OwnU w wa.heap.size (vs[12]?.getD undef) A) ∧ (d 13 = true → vs[13]?.getD undef = (.bool true)) ∧ (d 14 = true → vs[14]?.getD undef = (.bool true)) ∧ (d 15 = true → vs[15]?.getD undef = (.bool true)) ∧ (d 16 = true → vs[16]?.getD undef = (.bool true)) ∧ (d 17 = true → vs[17]?.getD undef = (.bool true)) ∧ (d 18 = true → vs[18]?.getD undef = (.bool true)) ∧ Below wa.heap.size wa w

set_option maxRecDepth 100000 in
set_option maxHeartbeats 16000000 in
theorem typesFresh_law (hF : TFuncOK) (hR : TIsRefOK) (hP : TPutIOK)
    (a : Option Addr) (cap : Nat) (b : List Int) (v1 v2 : Value) (l1 l2 : List Int) (w : World) (H : Row w a b.length cap b) (R1 : RowT w v1 l1) (R2 : RowT w v2 l2) (hy1 : Leb.Bytes l1) (hy2 : Leb.Bytes l2)
    (hb : b.length ≤ 1048576) (h1 : l1.length ≤ 1048576) (h2 : l2.length ≤ 1048576) :
    Calls Try.prog 5 #[.slice a b.length cap, funcV v1 v2] w fun e w' => e = .returned (.bool true) ∧ Below w.heap.size w w' := by
  obtain ⟨wa, hwa⟩ : ∃ wa, w.alloc (.cells #[v1, v2] 33) = wa := ⟨_, rfl⟩
  have BX : Below w.heap.size w wa := by rw [← hwa]; exact (Below.refl _ _).alloc (Nat.le_refl _) _
  have BA0 := hideT BX
  have K30 : Hid (SBlk wa w.heap.size 33 #[v1, v2]) := hideT (by rw [← hwa]; exact sblk_new _ _ _)
  have CWd := hideT (Wide_walk a cap b wa (H.later BX) (by omega))
  have HH := hideT H
  have T1 := hideT R1
  have T2 := hideT R2
  have CWk := hideT (fun V => works9_calls hF hR V)
  have HBY := hideT H.2.2.2.1
  have HR := hideT (show b.length ≤ 140737488351232 by omega)
  have LA := hideT (func_len l1 l2)
  have YA := hideT (bytes_func hy1 hy2 h1 h2)
  have CF0 := hideT hF
  have CP0 := hideT (fun (x1 x2 : Value) (V : World) (q1 : RowT V x1 l1) (q2 : RowT V x2 l2) => hP x1 x2 l1 l2 V q1 q2 hy1 hy2 h1 h2)
  have CR0 := hideT (fun (x1 x2 : Value) (V : World) (q1 : RowT V x1 l1) (q2 : RowT V x2 l2) => rPut_calls x1 x2 l1 l2 V q1 q2 hy1 hy2 h1 h2)
  have N1 := hideT h1
  have N2 := hideT h2
  have HWA := hideT hwa
  clear hwa BX H hF hR hP hy1 hy2 hb h1 h2
  obtain ⟨q1, z1, rfl, _⟩ := id R1
  obtain ⟨q2, z2, rfl, _⟩ := id R2
  clear R1 R2
  unfold funcV at CP0 CR0 ⊢
  go_enter Try.func5, Try.ntmps5
  go_wp2_with fail
  rw [HWA.out]
  refine CWd.out.mono ?_
  rintro e w1 ⟨rfl, hblk, hbel⟩
  have hzv : wa.heap.size < w1.heap.size := (Array.getElem?_eq_some_iff.mp hblk).1
  have BK1 := hideT hblk
  have B1 := hideT (BA0.out.trans (hbel.mono BA0.out.size))
  have K31 := hideT (K30.out.later hbel K30.out.lt)
  have HZV := hideT hzv
  clear hblk hbel hzv CWd
  obtain ⟨gv, hgv⟩ : ∃ gv, wa.heap.size = gv := ⟨_, rfl⟩
  rw [hgv] at BK1 HZV ⊢
  clear hgv HWA
  have D1 := CF0.out (some ⟨gv, 0, none⟩) b.length (b.length + 3) b 0 w1 (row_wide HBY.out HR.out BK1.out)
  unfold FuncPost at D1
  obtain ⟨P, hPf⟩ : ∃ P, funcAt b 0 = P := ⟨_, rfl⟩
  rw [hPf] at D1
  obtain ⟨⟨p1, p2⟩, nx, er⟩ := P
  simp only at D1
  have D1 := hideT D1
  clear CF0 hPf
  go_wp2_with fail
  refine D1.out.mono ?_
  rintro e w2 ⟨x1, x2, rfl, ho1, ho2, hb2⟩
  obtain ⟨a1, c1, e1⟩ := ho1.shape
  obtain ⟨a2, c2, e2⟩ := ho2.shape
  subst e1
  subst e2
  obtain ⟨w3, hw3⟩ : ∃ w3, w2.alloc (.cells #[.slice a1 p1.length c1, .slice a2 p2.length c2] 33) = w3 := ⟨_, rfl⟩
  have BX : Below w2.heap.size w2 w3 := by rw [← hw3]; exact (Below.refl _ _).alloc (Nat.le_refl _) _
  have S0 : Hid (OverJ w1 w2.heap.size (.slice a1 p1.length c1) (.slice a2 p2.length c2) p1.length w3) := hideT ⟨⟨p1, rfl, ho1.later BX⟩, by rw [← hw3]; exact sblk_new _ _ _, hb2.size, hb2.trans (BX.mono hb2.size)⟩
  have HW3 := hideT hw3
  have PL : Hid (p1.length ≤ 2 ^ 63 - 1) := hideT (by obtain ⟨_, _, _, k1, k2, _⟩ := ho1.row; unfold maxLen at k2; omega)
  clear hw3 BX ho1 ho2 hb2 D1
  go_wp2_with fail
  rw [HW3.out]
  go_loopw [9] (fun x wr => ∃ k : Nat, x = .int .i64 (k : Int) ∧ k ≤ p1.length ∧ OverJ w1 w2.heap.size (.slice a1 p1.length c1) (.slice a2 p2.length c2) p1.length wr) (fun x _ => p1.length - (intOf x).toNat)
  case atStart => exact ⟨0, rfl, by omega, S0.out⟩
  case round =>
    obtain ⟨k, rfl, hk, hr⟩ := hrel
    have HJ := hideT hr
    have hc0 := hr.2.1.cell (k := 0) rfl
    clear hr S0 HW3
    by_cases c0 : k < p1.length
    · have c1' : (k : Int) < (p1.length : Int) := by omega
      have hpl := PL.out
      obtain ⟨⟨ys, hy, hown⟩, hs6, hg6, hbel⟩ := HJ.out
      obtain ⟨gp, cp, ep, hgp, cur, hcur⟩ := hown.addr (by omega)
      rw [hy] at ep
      simp only [Value.slice.injEq, true_and] at ep
      obtain ⟨rfl, rfl⟩ := ep
      have hap := types_apart hs6 hcur
      have hown' : wr.ownsRow w1.heap.size 22 1 (.slice (some ⟨gp, 0, none⟩) p1.length c1) p1.length (ys.map (Value.int .u8)) := by
        have := hown
        unfold OwnT at this
        rwa [hy] at this
      have hcell := hown'.cellAt k (by omega)
      rw [get_map8 (by omega)] at hcell
      have hfz := hown'.frozenAt k
      have hst := (hown'.stored k (.int .u8 0)).1
      rw [← List.map_set] at hst
      have J2 : Hid (OverJ w1 w2.heap.size (.slice (some ⟨gp, 0, none⟩) p1.length c1) (.slice a2 p2.length c2) p1.length (wr.setCell ⟨gp, k, none⟩ (.int .u8 0))) := hideT ⟨⟨ys.set k 0, by rw [List.length_set, hy], by unfold OwnT; rw [List.length_set, hy]; exact hst⟩, hs6.aside hap _ _, hg6, hbel.setCell hgp _⟩
      have HC := hideT c0
      clear hown hown' hs6 hg6 hbel hcur hap hst HJ
      generalize ys[k]?.getD 0 = y at *
      go_wp2
      go_roundw
      case rel => exact ⟨k + 1, by go_num, HC.out, J2.out⟩
      case measure => have := HC.out; simp [intOf]; omega
    · obtain rfl : k = p1.length := by omega
      have hbel := HJ.out.2.2.2
      have BA := hideT (B1.out.trans (hbel.mono B1.out.size))
      have BK := hideT ((hbel.block gv HZV.out).trans BK1.out)
      have K3 := hideT (K31.out.later hbel K31.out.lt)
      have GV := hideT (Nat.lt_of_lt_of_le HZV.out hbel.size)
      have CA := hideT (fun V (hV : Below w.heap.size w V) => copyTypes_calls _ l1 V (T1.out.later hV) N1.out)
      have CB := hideT (fun V (hV : Below w.heap.size w V) => copyTypes_calls _ l2 V (T2.out.later hV) N2.out)
      clear hbel HJ B1 BK1 K31 HZV c0 K30 BA0
      go_wp2_with fail
      refine wp_region_par [31, 32, 33, 34, 35, 36, 37, 10] (OwnJ (.slice q1 l1.length z1) (.slice q2 l2.length z2) w.heap.size l1 l2 wr) (by kernel_rfl) (by kernel_rfl) ?_ ?_ ?_
      · intro vs
        exact ⟨(fun h => by cases h), (fun h => by cases h), (fun h => by cases h), (fun h => by cases h), (fun h => by cases h), (fun h => by cases h), (fun h => by cases h), (fun h => by cases h), (fun h => by cases h), (fun h => by cases h), (fun h => by cases h), (fun h => by cases h), (Below.refl _ _).drew⟩
      · intro d vs wb hd hl hJ
        match vs, hl with
        | [x0, x1, x2, x3, x4, x5, x6, x7], _ =>
        obtain ⟨j0, j1, j2, j3, j4, j5, j6, j7, p2, p5, q6, q7, jb⟩ := hJ
        simp only [List.getElem?_cons_zero, List.getElem?_cons_succ, Option.some.injEq, Option.getD_some] at j0 j1 j2 j3 j4 j5 j6 j7
        obtain rfl := j0 (hd 0 (by decide))
        obtain rfl := j1 (hd 1 (by decide))
        obtain rfl := j3 (hd 3 (by decide))
        obtain rfl := j4 (hd 4 (by decide))
        have o2 := j2 (hd 2 (by decide))
        have o5 := j5 (hd 5 (by decide))
        obtain rfl := j6 (hd 6 (by decide))
        obtain ⟨gy, cs, rfl, hgy, hs, _, h8⟩ := j7 (hd 7 (by decide))
        obtain rfl := h8 (hd 8 (by decide))
        obtain ⟨ay, cy, e2⟩ := o2.shape
        obtain ⟨a5, c5, e5⟩ := o5.shape
        subst e2
        subst e5
        have O2 := hideT o2
        have O5 := hideT o5
        have KY := hideT hs
        have GY := hideT hgy
        have BB := hideT (BA.out.trans (jb.mono BA.out.size))
        have BJ := hideT jb
        clear hd hl jb o2 o5 hs hgy h8 j0 j1 j2 j3 j4 j5 j6 j7 p2 p5 q6 q7
        simp only [putL, Act.put, List.setIfInBounds_toArray, List.set_cons_succ, List.set_cons_zero]
        have KB := hideT (K3.out.later BJ.out K3.out.lt)
        have BKB := hideT ((BJ.out.block gv GV.out).trans BK.out)
        have GVB := hideT (Nat.lt_of_lt_of_le GV.out BJ.out.size)
        have D2 := hideT (CP0.out _ _ wb O2.out.row O5.out.row)
        have hc0 := KY.out.cell (k := 0) rfl
        have hc1 := KY.out.cell (k := 1) rfl
        clear CA CB K3 BK GV
        go_wp2_with fail
        refine D2.out.mono ?_
        rintro e w4 ⟨xa, rfl, hoa, hb4⟩
        have OA := hideT hoa
        have B4 := hideT hb4
        obtain ⟨aa, ca, ea⟩ := shape_own hoa.row
        subst ea
        clear hoa hb4 hc0 hc1 D2
        go_wp2_with fail
        refine (spoil9_any OA.out).mono ?_
        rintro e w5 ⟨rfl, hb5⟩
        have B5 := hideT (B4.out.trans hb5)
        have BU := hideT (BB.out.trans (B5.out.mono BB.out.size))
        have K3 := hideT (KB.out.later B5.out KB.out.lt)
        have KY := hideT (KY.out.later B5.out KY.out.lt)
        have BK5 := hideT ((B5.out.block gv GVB.out).trans BKB.out)
        have RY1 := hideT (O2.out.row.later B5.out)
        have RY2 := hideT (O5.out.row.later B5.out)
        have GV5 := hideT (Nat.lt_of_lt_of_le GVB.out B5.out.size)
        have CL : Hid (∀ V, Below w5.heap.size w5 V → Calls Try.prog 18 #[.slice (some ⟨gv, 0, none⟩) b.length (b.length + 3), .slice a b.length cap] V fun e W' => e = .returned (.bool true) ∧ Below V.heap.size V W') := hideT (fun V hV =>
          (Left_walk a cap gv b V ((HH.out.later BU.out).later hV) HR.out ((hV.block gv GV5.out).trans BK5.out)).mono fun e W' ⟨he, n, hn⟩ => ⟨he, by rw [hn]; exact below_drewNq (Below.refl _ _) _⟩)
        have CF : Hid (∀ V, Below w5.heap.size w5 V → Calls Try.prog 19 #[.agg #[.slice ay l1.length cy, .slice a5 l2.length c5], .agg #[.slice q1 l1.length z1, .slice q2 l2.length z2]] V fun e W' => e = .returned (.bool true) ∧ Below V.heap.size V W') := hideT (fun V hV => by
          have := f0Func_calls _ _ _ _ l1 l2 l1 l2 V (RY1.out.later hV) (RY2.out.later hV) (T1.out.later (BU.out.trans (hV.mono BU.out.size))) (T2.out.later (BU.out.trans (hV.mono BU.out.size)))
          rw [beq_self, beq_self] at this
          exact this)
        have CP : Hid (∀ V, Below w5.heap.size w5 V → Calls Try.prog 16 #[.agg #[.slice ay l1.length cy, .slice a5 l2.length c5]] V fun e W' => PutPost (putFunc l1 l2) V e W') := hideT (fun V hV =>
          (CP0.out _ _ V (RY1.out.later hV) (RY2.out.later hV)).mono fun e w' ⟨v, he, ho, hb⟩ => ⟨v, he, ho.row, hb⟩)
        have CR : Hid (∀ V, Below w5.heap.size w5 V → Calls Try.prog 21 #[.agg #[.slice q1 l1.length z1, .slice q2 l2.length z2]] V fun e W' => PutPost (putFunc l1 l2) V e W') := hideT (fun V hV =>
          CR0.out _ _ V (T1.out.later (BU.out.trans (hV.mono BU.out.size))) (T2.out.later (BU.out.trans (hV.mono BU.out.size))))
        have CW := hideT CWk.out
        clear hb5 OA B4 B5 KB BKB GVB O2 O5 RY1 RY2 BB BJ HH T1 T2 CP0 CR0 CWk BK5 GV5 N1 N2 HR HBY
        generalize putFunc l1 l2 = A at *
        generalize l1.length = n1 at *
        generalize l2.length = n2 at *
        go_wp2_with fail
        refine wp_region_par [42, 43, 44, 45, 46, 47, 48, 49, 50, 51, 52, 53, 54, 55, 56, 57, 58, 59, 4] (FreshJ (.slice (some ⟨gv, 0, none⟩) b.length (b.length + 3)) (.slice a b.length cap) (.slice ay n1 cy) (.slice a5 n2 c5) (.slice q1 n1 z1) (.slice q2 n2 z2) A w5) (by kernel_rfl) (by kernel_rfl) ?_ ?_ ?_
        · intro vs
          exact ⟨(fun h => by cases h), (fun h => by cases h), (fun h => by cases h), (fun h => by cases h), (fun h => by cases h), (fun h => by cases h), (fun h => by cases h), (fun h => by cases h), (fun h => by cases h), (fun h => by cases h), (fun h => by cases h), (fun h => by cases h), (fun h => by cases h), (fun h => by cases h), (fun h => by cases h), (fun h => by cases h), (fun h => by cases h), (fun h => by cases h), (fun h => by cases h), (Below.refl _ _).drew⟩
        · intro d vs wz hd hl hJ
          match vs, hl with
          | [x0, x1, x2, x3, x4, x5, x6, x7, x8, x9, x10, x11, x12, x13, x14, x15, x16, x17, x18], _ =>
          obtain ⟨j0, j1, j2, j3, j4, j5, j6, j7, j8, j9, j10, j11, j12, j13, j14, j15, j16, j17, j18, jb⟩ := hJ
          obtain rfl := j18 (hd 18 (by decide))
          have BW := hideT (BU.out.trans (jb.mono BU.out.size))
          clear hd hl jb j0 j1 j2 j3 j4 j5 j6 j7 j8 j9 j10 j11 j12 j13 j14 j15 j16 j17 j18
          simp only [putL, Act.put, List.setIfInBounds_toArray, List.set_cons_succ, List.set_cons_zero]
          go_wp2
          go_ret
          exact ⟨rfl, BW.out⟩
        · intro i o ho d vs wr hl hJ hi hw
          match vs, hl with
          | [x0, x1, x2, x3, x4, x5, x6, x7, x8, x9, x10, x11, x12, x13, x14, x15, x16, x17, x18], _ =>
          have hin : i < 19 := (List.getElem?_eq_some_iff.1 ho).1
          obtain ⟨j0, j1, j2, j3, j4, j5, j6, j7, j8, j9, j10, j11, j12, j13, j14, j15, j16, j17, j18, jb⟩ := hJ
          simp only [List.getElem?_cons_zero, List.getElem?_cons_succ, Option.some.injEq, Option.getD_some] at j0 j1 j2 j3 j4 j5 j6 j7 j8 j9 j10 j11 j12 j13 j14 j15 j16 j17 j18
          rcases (show i = 0 ∨ i = 1 ∨ i = 2 ∨ i = 3 ∨ i = 4 ∨ i = 5 ∨ i = 6 ∨ i = 7 ∨ i = 8 ∨ i = 9 ∨ i = 10 ∨ i = 11 ∨ i = 12 ∨ i = 13 ∨ i = 14 ∨ i = 15 ∨ i = 16 ∨ i = 17 ∨ i = 18 by omega) with rfl | rfl | rfl | rfl | rfl | rfl | rfl | rfl | rfl | rfl | rfl | rfl | rfl | rfl | rfl | rfl | rfl | rfl | rfl
          · simp only [List.getElem?_cons_zero, List.getElem?_cons_succ, Option.some.injEq] at ho
            subst ho
            simp only [putL, Act.put, List.setIfInBounds_toArray, List.set_cons_succ, List.set_cons_zero]
            go_wp2
            exact ⟨rfl, [_, x1, x2, x3, x4, x5, x6, x7, x8, x9, x10, x11, x12, x13, x14, x15, x16, x17, x18], rfl, (by simp only [putL, Act.put, List.setIfInBounds_toArray, List.set_cons_succ, List.set_cons_zero]), (fun _ => rfl), j1, j2, j3, j4, j5, j6, j7, j8, j9, j10, j11, j12, j13, j14, j15, j16, j17, j18, jb⟩
          · simp only [List.getElem?_cons_zero, List.getElem?_cons_succ, Option.some.injEq] at ho
            subst ho
            simp only [putL, Act.put, List.setIfInBounds_toArray, List.set_cons_succ, List.set_cons_zero]
            go_wp2
            exact ⟨rfl, [x0, _, x2, x3, x4, x5, x6, x7, x8, x9, x10, x11, x12, x13, x14, x15, x16, x17, x18], rfl, (by simp only [putL, Act.put, List.setIfInBounds_toArray, List.set_cons_succ, List.set_cons_zero]), j0, (fun _ => rfl), j2, j3, j4, j5, j6, j7, j8, j9, j10, j11, j12, j13, j14, j15, j16, j17, j18, jb⟩
          · simp only [List.getElem?_cons_zero, List.getElem?_cons_succ, Option.some.injEq] at ho
            subst ho
            have hd0 : d 0 = true := List.all_eq_true.1 hw 0 (by decide)
            obtain rfl := j0 hd0
            have hd1 : d 1 = true := List.all_eq_true.1 hw 1 (by decide)
            obtain rfl := j1 hd1
            have CC := hideT (CL.out wr jb)
            simp only [putL, Act.put, List.setIfInBounds_toArray, List.set_cons_succ, List.set_cons_zero]
            go_wp2_with ((with_reducible refine CC.out.mono ?_); rintro e w2 ⟨rfl, hb⟩)
            exact ⟨rfl, [_, _, _, x3, x4, x5, x6, x7, x8, x9, x10, x11, x12, x13, x14, x15, x16, x17, x18], rfl, (by simp only [putL, Act.put, List.setIfInBounds_toArray, List.set_cons_succ, List.set_cons_zero]), (fun _ => rfl), (fun _ => rfl), (fun _ => rfl), j3, j4, j5, j6, j7, j8, j9, (fun h => (j10 h).later hb), j11, (fun h => (j12 h).later hb), j13, j14, j15, j16, j17, j18, (jb.trans (hb.mono jb.size))⟩
          · simp only [List.getElem?_cons_zero, List.getElem?_cons_succ, Option.some.injEq] at ho
            subst ho
            have hd2 : d 2 = true := List.all_eq_true.1 hw 2 (by decide)
            obtain rfl := j2 hd2
            simp only [putL, Act.put, List.setIfInBounds_toArray, List.set_cons_succ, List.set_cons_zero]
            go_wp2
            exact ⟨rfl, [x0, x1, _, _, x4, x5, x6, x7, x8, x9, x10, x11, x12, x13, x14, x15, x16, x17, x18], rfl, (by simp only [putL, Act.put, List.setIfInBounds_toArray, List.set_cons_succ, List.set_cons_zero]), j0, j1, (fun _ => rfl), (fun _ => rfl), j4, j5, j6, j7, j8, j9, j10, j11, j12, j13, j14, j15, j16, j17, j18, jb⟩
          · simp only [List.getElem?_cons_zero, List.getElem?_cons_succ, Option.some.injEq] at ho
            subst ho
            have hd3 : d 3 = true := List.all_eq_true.1 hw 3 (by decide)
            obtain rfl := j3 hd3
            have hc0 := (KY.out.later jb KY.out.lt).cell (k := 0) rfl
            have hc1 := (KY.out.later jb KY.out.lt).cell (k := 1) rfl
            simp only [putL, Act.put, List.setIfInBounds_toArray, List.set_cons_succ, List.set_cons_zero] at hc0 hc1 ⊢
            go_wp2
            exact ⟨rfl, [x0, x1, x2, _, _, x5, x6, x7, x8, x9, x10, x11, x12, x13, x14, x15, x16, x17, x18], rfl, (by simp only [putL, Act.put, List.setIfInBounds_toArray, List.set_cons_succ, List.set_cons_zero]), j0, j1, j2, (fun _ => rfl), (fun _ => rfl), j5, j6, j7, j8, j9, j10, j11, j12, j13, j14, j15, j16, j17, j18, jb⟩
          · simp only [List.getElem?_cons_zero, List.getElem?_cons_succ, Option.some.injEq] at ho
            subst ho
            have hd3 : d 3 = true := List.all_eq_true.1 hw 3 (by decide)
            obtain rfl := j3 hd3
            have hc0 := (K3.out.later jb K3.out.lt).cell (k := 0) rfl
            have hc1 := (K3.out.later jb K3.out.lt).cell (k := 1) rfl
            simp only [putL, Act.put, List.setIfInBounds_toArray, List.set_cons_succ, List.set_cons_zero] at hc0 hc1 ⊢
            go_wp2
            exact ⟨rfl, [x0, x1, x2, _, x4, _, x6, x7, x8, x9, x10, x11, x12, x13, x14, x15, x16, x17, x18], rfl, (by simp only [putL, Act.put, List.setIfInBounds_toArray, List.set_cons_succ, List.set_cons_zero]), j0, j1, j2, (fun _ => rfl), j4, (fun _ => rfl), j6, j7, j8, j9, j10, j11, j12, j13, j14, j15, j16, j17, j18, jb⟩
          · simp only [List.getElem?_cons_zero, List.getElem?_cons_succ, Option.some.injEq] at ho
            subst ho
            have hd3 : d 3 = true := List.all_eq_true.1 hw 3 (by decide)
            obtain rfl := j3 hd3
            have hd4 : d 4 = true := List.all_eq_true.1 hw 4 (by decide)
            obtain rfl := j4 hd4
            have hd5 : d 5 = true := List.all_eq_true.1 hw 5 (by decide)
            obtain rfl := j5 hd5
            have CC := hideT (CF.out wr jb)
            simp only [putL, Act.put, List.setIfInBounds_toArray, List.set_cons_succ, List.set_cons_zero]
            go_wp2_with ((with_reducible refine CC.out.mono ?_); rintro e w2 ⟨rfl, hb⟩)
            exact ⟨rfl, [x0, x1, x2, _, _, _, _, x7, x8, x9, x10, x11, x12, x13, x14, x15, x16, x17, x18], rfl, (by simp only [putL, Act.put, List.setIfInBounds_toArray, List.set_cons_succ, List.set_cons_zero]), j0, j1, j2, (fun _ => rfl), (fun _ => rfl), (fun _ => rfl), (fun _ => rfl), j7, j8, j9, (fun h => (j10 h).later hb), j11, (fun h => (j12 h).later hb), j13, j14, j15, j16, j17, j18, (jb.trans (hb.mono jb.size))⟩
          · simp only [List.getElem?_cons_zero, List.getElem?_cons_succ, Option.some.injEq] at ho
            subst ho
            have hd3 : d 3 = true := List.all_eq_true.1 hw 3 (by decide)
            obtain rfl := j3 hd3
            have hd6 : d 6 = true := List.all_eq_true.1 hw 6 (by decide)
            obtain rfl := j6 hd6
            simp only [putL, Act.put, List.setIfInBounds_toArray, List.set_cons_succ, List.set_cons_zero]
            go_wp2
            exact ⟨rfl, [x0, x1, x2, _, x4, x5, _, _, x8, x9, x10, x11, x12, x13, x14, x15, x16, x17, x18], rfl, (by simp only [putL, Act.put, List.setIfInBounds_toArray, List.set_cons_succ, List.set_cons_zero]), j0, j1, j2, (fun _ => rfl), j4, j5, (fun _ => rfl), (fun _ => rfl), j8, j9, j10, j11, j12, j13, j14, j15, j16, j17, j18, jb⟩
          · simp only [List.getElem?_cons_zero, List.getElem?_cons_succ, Option.some.injEq] at ho
            subst ho
            have hd7 : d 7 = true := List.all_eq_true.1 hw 7 (by decide)
            obtain rfl := j7 hd7
            simp only [putL, Act.put, List.setIfInBounds_toArray, List.set_cons_succ, List.set_cons_zero]
            go_wp2
            exact ⟨rfl, [x0, x1, x2, x3, x4, x5, x6, _, _, x9, x10, x11, x12, x13, x14, x15, x16, x17, x18], rfl, (by simp only [putL, Act.put, List.setIfInBounds_toArray, List.set_cons_succ, List.set_cons_zero]), j0, j1, j2, j3, j4, j5, j6, (fun _ => rfl), (fun _ => rfl), j9, j10, j11, j12, j13, j14, j15, j16, j17, j18, jb⟩
          · simp only [List.getElem?_cons_zero, List.getElem?_cons_succ, Option.some.injEq] at ho
            subst ho
            have hd8 : d 8 = true := List.all_eq_true.1 hw 8 (by decide)
            obtain rfl := j8 hd8
            have hc0 := (KY.out.later jb KY.out.lt).cell (k := 0) rfl
            have hc1 := (KY.out.later jb KY.out.lt).cell (k := 1) rfl
            simp only [putL, Act.put, List.setIfInBounds_toArray, List.set_cons_succ, List.set_cons_zero] at hc0 hc1 ⊢
            go_wp2
            exact ⟨rfl, [x0, x1, x2, x3, x4, x5, x6, x7, _, _, x10, x11, x12, x13, x14, x15, x16, x17, x18], rfl, (by simp only [putL, Act.put, List.setIfInBounds_toArray, List.set_cons_succ, List.set_cons_zero]), j0, j1, j2, j3, j4, j5, j6, j7, (fun _ => rfl), (fun _ => rfl), j10, j11, j12, j13, j14, j15, j16, j17, j18, jb⟩
          · simp only [List.getElem?_cons_zero, List.getElem?_cons_succ, Option.some.injEq] at ho
            subst ho
            have hd8 : d 8 = true := List.all_eq_true.1 hw 8 (by decide)
            obtain rfl := j8 hd8
            have hd9 : d 9 = true := List.all_eq_true.1 hw 9 (by decide)
            obtain rfl := j9 hd9
            have CC := hideT (CP.out wr jb)
            simp only [putL, Act.put, List.setIfInBounds_toArray, List.set_cons_succ, List.set_cons_zero]
            go_wp2_with ((with_reducible refine CC.out.mono ?_); rintro e w2 ⟨z, rfl, ho, hb⟩)
            exact ⟨rfl, [x0, x1, x2, x3, x4, x5, x6, x7, _, _, z, x11, x12, x13, x14, x15, x16, x17, x18], rfl, (by simp only [putL, Act.put, List.setIfInBounds_toArray, List.set_cons_succ, List.set_cons_zero]), j0, j1, j2, j3, j4, j5, j6, j7, (fun _ => rfl), (fun _ => rfl), (fun _ => OwnU.mono (show OwnU w2 wr.heap.size z A from ho) jb.size), j11, (fun h => (j12 h).later hb), j13, j14, j15, j16, j17, j18, (jb.trans (hb.mono jb.size))⟩
          · simp only [List.getElem?_cons_zero, List.getElem?_cons_succ, Option.some.injEq] at ho
            subst ho
            have hd8 : d 8 = true := List.all_eq_true.1 hw 8 (by decide)
            obtain rfl := j8 hd8
            have hc0 := (K3.out.later jb K3.out.lt).cell (k := 0) rfl
            have hc1 := (K3.out.later jb K3.out.lt).cell (k := 1) rfl
            simp only [putL, Act.put, List.setIfInBounds_toArray, List.set_cons_succ, List.set_cons_zero] at hc0 hc1 ⊢
            go_wp2
            exact ⟨rfl, [x0, x1, x2, x3, x4, x5, x6, x7, _, x9, x10, _, x12, x13, x14, x15, x16, x17, x18], rfl, (by simp only [putL, Act.put, List.setIfInBounds_toArray, List.set_cons_succ, List.set_cons_zero]), j0, j1, j2, j3, j4, j5, j6, j7, (fun _ => rfl), j9, j10, (fun _ => rfl), j12, j13, j14, j15, j16, j17, j18, jb⟩
          · simp only [List.getElem?_cons_zero, List.getElem?_cons_succ, Option.some.injEq] at ho
            subst ho
            have hd8 : d 8 = true := List.all_eq_true.1 hw 8 (by decide)
            obtain rfl := j8 hd8
            have hd11 : d 11 = true := List.all_eq_true.1 hw 11 (by decide)
            obtain rfl := j11 hd11
            have CC := hideT (CR.out wr jb)
            simp only [putL, Act.put, List.setIfInBounds_toArray, List.set_cons_succ, List.set_cons_zero]
            go_wp2_with ((with_reducible refine CC.out.mono ?_); rintro e w2 ⟨z, rfl, ho, hb⟩)
            exact ⟨rfl, [x0, x1, x2, x3, x4, x5, x6, x7, _, x9, x10, _, z, x13, x14, x15, x16, x17, x18], rfl, (by simp only [putL, Act.put, List.setIfInBounds_toArray, List.set_cons_succ, List.set_cons_zero]), j0, j1, j2, j3, j4, j5, j6, j7, (fun _ => rfl), j9, (fun h => (j10 h).later hb), (fun _ => rfl), (fun _ => OwnU.mono (show OwnU w2 wr.heap.size z A from ho) jb.size), j13, j14, j15, j16, j17, j18, (jb.trans (hb.mono jb.size))⟩
          · simp only [List.getElem?_cons_zero, List.getElem?_cons_succ, Option.some.injEq] at ho
            subst ho
            have hd8 : d 8 = true := List.all_eq_true.1 hw 8 (by decide)
            obtain rfl := j8 hd8
            have hd10 : d 10 = true := List.all_eq_true.1 hw 10 (by decide)
            have hd12 : d 12 = true := List.all_eq_true.1 hw 12 (by decide)
            have CC := hideT (same_own (j10 hd10) (j12 hd12) LA.out YA.out)
            simp only [putL, Act.put, List.setIfInBounds_toArray, List.set_cons_succ, List.set_cons_zero]
            go_wp2_with ((with_reducible refine CC.out.mono ?_); rintro e w2 ⟨rfl, hb⟩)
            exact ⟨rfl, [x0, x1, x2, x3, x4, x5, x6, x7, _, x9, x10, x11, x12, _, x14, x15, x16, x17, x18], rfl, (by simp only [putL, Act.put, List.setIfInBounds_toArray, List.set_cons_succ, List.set_cons_zero]), j0, j1, j2, j3, j4, j5, j6, j7, (fun _ => rfl), j9, (fun h => (j10 h).later hb), j11, (fun h => (j12 h).later hb), (fun _ => rfl), j14, j15, j16, j17, j18, (jb.trans (hb.mono jb.size))⟩
          · simp only [List.getElem?_cons_zero, List.getElem?_cons_succ, Option.some.injEq] at ho
            subst ho
            have hd8 : d 8 = true := List.all_eq_true.1 hw 8 (by decide)
            obtain rfl := j8 hd8
            have hd13 : d 13 = true := List.all_eq_true.1 hw 13 (by decide)
            obtain rfl := j13 hd13
            simp only [putL, Act.put, List.setIfInBounds_toArray, List.set_cons_succ, List.set_cons_zero]
            go_wp2
            exact ⟨rfl, [x0, x1, x2, x3, x4, x5, x6, x7, _, x9, x10, x11, x12, _, _, x15, x16, x17, x18], rfl, (by simp only [putL, Act.put, List.setIfInBounds_toArray, List.set_cons_succ, List.set_cons_zero]), j0, j1, j2, j3, j4, j5, j6, j7, (fun _ => rfl), j9, j10, j11, j12, (fun _ => rfl), (fun _ => rfl), j15, j16, j17, j18, jb⟩
          · simp only [List.getElem?_cons_zero, List.getElem?_cons_succ, Option.some.injEq] at ho
            subst ho
            have hd14 : d 14 = true := List.all_eq_true.1 hw 14 (by decide)
            obtain rfl := j14 hd14
            simp only [putL, Act.put, List.setIfInBounds_toArray, List.set_cons_succ, List.set_cons_zero]
            go_wp2
            exact ⟨rfl, [x0, x1, x2, x3, x4, x5, x6, x7, x8, x9, x10, x11, x12, x13, _, _, x16, x17, x18], rfl, (by simp only [putL, Act.put, List.setIfInBounds_toArray, List.set_cons_succ, List.set_cons_zero]), j0, j1, j2, j3, j4, j5, j6, j7, j8, j9, j10, j11, j12, j13, (fun _ => rfl), (fun _ => rfl), j16, j17, j18, jb⟩
          · simp only [List.getElem?_cons_zero, List.getElem?_cons_succ, Option.some.injEq] at ho
            subst ho
            have hd15 : d 15 = true := List.all_eq_true.1 hw 15 (by decide)
            obtain rfl := j15 hd15
            have CC := hideT (CW.out wr)
            simp only [putL, Act.put, List.setIfInBounds_toArray, List.set_cons_succ, List.set_cons_zero]
            go_wp2_with ((with_reducible refine CC.out.mono ?_); rintro e w2 ⟨rfl, hb⟩)
            exact ⟨rfl, [x0, x1, x2, x3, x4, x5, x6, x7, x8, x9, x10, x11, x12, x13, x14, _, _, x17, x18], rfl, (by simp only [putL, Act.put, List.setIfInBounds_toArray, List.set_cons_succ, List.set_cons_zero]), j0, j1, j2, j3, j4, j5, j6, j7, j8, j9, (fun h => (j10 h).later hb), j11, (fun h => (j12 h).later hb), j13, j14, (fun _ => rfl), (fun _ => rfl), j17, j18, (jb.trans (hb.mono jb.size))⟩
          · simp only [List.getElem?_cons_zero, List.getElem?_cons_succ, Option.some.injEq] at ho
            subst ho
            have hd15 : d 15 = true := List.all_eq_true.1 hw 15 (by decide)
            obtain rfl := j15 hd15
            have hd16 : d 16 = true := List.all_eq_true.1 hw 16 (by decide)
            obtain rfl := j16 hd16
            simp only [putL, Act.put, List.setIfInBounds_toArray, List.set_cons_succ, List.set_cons_zero]
            go_wp2
            exact ⟨rfl, [x0, x1, x2, x3, x4, x5, x6, x7, x8, x9, x10, x11, x12, x13, x14, _, _, _, x18], rfl, (by simp only [putL, Act.put, List.setIfInBounds_toArray, List.set_cons_succ, List.set_cons_zero]), j0, j1, j2, j3, j4, j5, j6, j7, j8, j9, j10, j11, j12, j13, j14, (fun _ => rfl), (fun _ => rfl), (fun _ => rfl), j18, jb⟩
          · simp only [List.getElem?_cons_zero, List.getElem?_cons_succ, Option.some.injEq] at ho
            subst ho
            have hd17 : d 17 = true := List.all_eq_true.1 hw 17 (by decide)
            obtain rfl := j17 hd17
            simp only [putL, Act.put, List.setIfInBounds_toArray, List.set_cons_succ, List.set_cons_zero]
            go_wp2
            exact ⟨rfl, [x0, x1, x2, x3, x4, x5, x6, x7, x8, x9, x10, x11, x12, x13, x14, x15, x16, _, _], rfl, (by simp only [putL, Act.put, List.setIfInBounds_toArray, List.set_cons_succ, List.set_cons_zero]), j0, j1, j2, j3, j4, j5, j6, j7, j8, j9, j10, j11, j12, j13, j14, j15, j16, (fun _ => rfl), (fun _ => rfl), jb⟩
      · intro i o ho d vs wr hl hJ hi hw
        match vs, hl with
        | [x0, x1, x2, x3, x4, x5, x6, x7], _ =>
        have hin : i < 9 := (List.getElem?_eq_some_iff.1 ho).1
        obtain ⟨j0, j1, j2, j3, j4, j5, j6, j7, p2, p5, q6, q7, jb⟩ := hJ
        simp only [List.getElem?_cons_zero, List.getElem?_cons_succ, Option.some.injEq, Option.getD_some] at j0 j1 j2 j3 j4 j5 j6 j7
        rcases (show i = 0 ∨ i = 1 ∨ i = 2 ∨ i = 3 ∨ i = 4 ∨ i = 5 ∨ i = 6 ∨ i = 7 ∨ i = 8 by omega) with rfl | rfl | rfl | rfl | rfl | rfl | rfl | rfl | rfl
        · simp only [List.getElem?_cons_zero, List.getElem?_cons_succ, Option.some.injEq] at ho
          subst ho
          simp only [putL, Act.put, List.setIfInBounds_toArray, List.set_cons_succ, List.set_cons_zero]
          go_wp2
          exact ⟨rfl, [_, x1, x2, x3, x4, x5, x6, x7], rfl, (by simp only [putL, Act.put, List.setIfInBounds_toArray, List.set_cons_succ, List.set_cons_zero]), (fun _ => rfl), j1, j2, j3, j4, j5, j6, j7, p2, p5, q6, q7, jb⟩
        · simp only [List.getElem?_cons_zero, List.getElem?_cons_succ, Option.some.injEq] at ho
          subst ho
          obtain rfl := j0 (List.all_eq_true.1 hw 0 (by decide))
          have hc := (K3.out.later jb K3.out.lt).cell (k := 0) rfl
          simp only [putL, Act.put, List.setIfInBounds_toArray, List.set_cons_succ, List.set_cons_zero] at hc ⊢
          go_wp2
          exact ⟨rfl, [_, _, x2, x3, x4, x5, x6, x7], rfl, (by simp only [putL, Act.put, List.setIfInBounds_toArray, List.set_cons_succ, List.set_cons_zero]), (fun _ => rfl), (fun _ => rfl), j2, j3, j4, j5, j6, j7, p2, p5, q6, q7, jb⟩
        · simp only [List.getElem?_cons_zero, List.getElem?_cons_succ, Option.some.injEq] at ho
          subst ho
          obtain rfl := j1 (List.all_eq_true.1 hw 1 (by decide))
          have n6 : d 6 = false := by
            cases h : d 6 with
            | false => rfl
            | true => exact nomatch ((p2 h).symm.trans hi)
          have n8 : d 8 = false := by
            cases h : d 8 with
            | false => rfl
            | true => exact nomatch ((p2 (q6 h)).symm.trans hi)
          simp only [putL, Act.put, List.setIfInBounds_toArray, List.set_cons_succ, List.set_cons_zero]
          go_wp2_with ((with_reducible refine (CA.out _ (BA.out.trans (jb.mono BA.out.size))).mono ?_); rintro e w2 ⟨z, rfl, ho, hb⟩)
          exact ⟨rfl, [x0, _, z, x3, x4, x5, x6, x7], rfl, (by simp only [putL, Act.put, List.setIfInBounds_toArray, List.set_cons_succ, List.set_cons_zero]), j0, (fun _ => rfl), (fun _ => OwnT.mono (show OwnT w2 wr.heap.size z l1 from ho) jb.size), j3, j4, (fun h => (j5 h).later hb), (fun h => nomatch (n6.symm.trans h)), (fun h => let ⟨g, cs, e, hg, hs, hz, _⟩ := j7 h; ⟨g, cs, e, hg, hs.later hb hs.lt, hz, fun h => nomatch (n8.symm.trans h)⟩), (fun _ => rfl), p5, q6, q7, (jb.trans (hb.mono jb.size))⟩
        · simp only [List.getElem?_cons_zero, List.getElem?_cons_succ, Option.some.injEq] at ho
          subst ho
          simp only [putL, Act.put, List.setIfInBounds_toArray, List.set_cons_succ, List.set_cons_zero]
          go_wp2
          exact ⟨rfl, [x0, x1, x2, _, x4, x5, x6, x7], rfl, (by simp only [putL, Act.put, List.setIfInBounds_toArray, List.set_cons_succ, List.set_cons_zero]), j0, j1, j2, (fun _ => rfl), j4, j5, j6, j7, p2, p5, q6, q7, jb⟩
        · simp only [List.getElem?_cons_zero, List.getElem?_cons_succ, Option.some.injEq] at ho
          subst ho
          obtain rfl := j3 (List.all_eq_true.1 hw 3 (by decide))
          have hc := (K3.out.later jb K3.out.lt).cell (k := 1) rfl
          simp only [putL, Act.put, List.setIfInBounds_toArray, List.set_cons_succ, List.set_cons_zero] at hc ⊢
          go_wp2
          exact ⟨rfl, [x0, x1, x2, _, _, x5, x6, x7], rfl, (by simp only [putL, Act.put, List.setIfInBounds_toArray, List.set_cons_succ, List.set_cons_zero]), j0, j1, j2, (fun _ => rfl), (fun _ => rfl), j5, j6, j7, p2, p5, q6, q7, jb⟩
        · simp only [List.getElem?_cons_zero, List.getElem?_cons_succ, Option.some.injEq] at ho
          subst ho
          obtain rfl := j4 (List.all_eq_true.1 hw 4 (by decide))
          have n6 : d 6 = false := by
            cases h : d 6 with
            | false => rfl
            | true => exact nomatch ((p5 h).symm.trans hi)
          have n8 : d 8 = false := by
            cases h : d 8 with
            | false => rfl
            | true => exact nomatch ((p5 (q6 h)).symm.trans hi)
          simp only [putL, Act.put, List.setIfInBounds_toArray, List.set_cons_succ, List.set_cons_zero]
          go_wp2_with ((with_reducible refine (CB.out _ (BA.out.trans (jb.mono BA.out.size))).mono ?_); rintro e w2 ⟨z, rfl, ho, hb⟩)
          exact ⟨rfl, [x0, x1, x2, x3, _, z, x6, x7], rfl, (by simp only [putL, Act.put, List.setIfInBounds_toArray, List.set_cons_succ, List.set_cons_zero]), j0, j1, (fun h => (j2 h).later hb), j3, (fun _ => rfl), (fun _ => OwnT.mono (show OwnT w2 wr.heap.size z l2 from ho) jb.size), (fun h => nomatch (n6.symm.trans h)), (fun h => let ⟨g, cs, e, hg, hs, hz, _⟩ := j7 h; ⟨g, cs, e, hg, hs.later hb hs.lt, hz, fun h => nomatch (n8.symm.trans h)⟩), p2, (fun _ => rfl), q6, q7, (jb.trans (hb.mono jb.size))⟩
        · simp only [List.getElem?_cons_zero, List.getElem?_cons_succ, Option.some.injEq] at ho
          subst ho
          have hd2 : d 2 = true := List.all_eq_true.1 hw 2 (by decide)
          have hd5 : d 5 = true := List.all_eq_true.1 hw 5 (by decide)
          obtain ⟨a2, c2, e2⟩ := (j2 hd2).shape
          obtain ⟨a5, c5, e5⟩ := (j5 hd5).shape
          subst e2
          subst e5
          simp only [putL, Act.put, List.setIfInBounds_toArray, List.set_cons_succ, List.set_cons_zero]
          go_wp2
          exact ⟨rfl, [x0, x1, _, x3, x4, _, .agg #[.slice a2 l1.length c2, .slice a5 l2.length c5], x7], rfl, (by simp only [putL, Act.put, List.setIfInBounds_toArray, List.set_cons_succ, List.set_cons_zero]), j0, j1, j2, j3, j4, j5, (fun _ => rfl), j7, (fun _ => hd2), (fun _ => hd5), (fun _ => rfl), q7, jb⟩
        · simp only [List.getElem?_cons_zero, List.getElem?_cons_succ, Option.some.injEq] at ho
          subst ho
          have n8 : d 8 = false := by
            cases h : d 8 with
            | false => rfl
            | true => exact nomatch ((q7 h).symm.trans hi)
          simp only [putL, Act.put, List.setIfInBounds_toArray, List.set_cons_succ, List.set_cons_zero]
          go_wp2
          exact ⟨rfl, [x0, x1, x2, x3, x4, x5, x6, _], rfl, (by simp only [putL, Act.put, List.setIfInBounds_toArray, List.set_cons_succ, List.set_cons_zero]), j0, j1, (fun h => (j2 h).later ((Below.refl _ _).alloc (Nat.le_refl _) _)), j3, j4, (fun h => (j5 h).later ((Below.refl _ _).alloc (Nat.le_refl _) _)), j6, (fun _ => ⟨wr.heap.size, _, rfl, jb.size, sblk_new _ _ _, rfl, fun h => nomatch (n8.symm.trans h)⟩), p2, p5, q6, (fun _ => rfl), (jb.alloc jb.size _)⟩
        · simp only [List.getElem?_cons_zero, List.getElem?_cons_succ, Option.some.injEq] at ho
          subst ho
          have hd6 : d 6 = true := List.all_eq_true.1 hw 6 (by decide)
          have hd7 : d 7 = true := List.all_eq_true.1 hw 7 (by decide)
          obtain rfl := j6 hd6
          obtain ⟨g, cs, rfl, hg, hs, hz, _⟩ := j7 hd7
          obtain ⟨s0, s1, rfl⟩ : ∃ s0 s1, cs = #[s0, s1] := by
            obtain ⟨l⟩ := cs
            match l, hz with
            | [a, b], _ => exact ⟨a, b, rfl⟩
          have o2 := j2 (p2 hd6)
          have o5 := j5 (p5 hd6)
          obtain ⟨a2, c2, e2⟩ := o2.shape
          obtain ⟨a5, c5, e5⟩ := o5.shape
          subst e2
          subst e5
          have k0 := hs.cell (k := 0) rfl
          have k1 := hs.cell (k := 1) rfl
          have f0 := hs.frozen 0
          have f1 := hs.frozen 1
          simp only [putL, Act.put, List.setIfInBounds_toArray, List.set_cons_succ, List.set_cons_zero]
          go_wp2
          exact ⟨rfl, [x0, x1, _, x3, x4, _, .agg #[.slice a2 l1.length c2, .slice a5 l2.length c5], _], rfl, (by simp only [putL, Act.put, List.setIfInBounds_toArray, List.set_cons_succ, List.set_cons_zero]), j0, j1, (fun _ => (o2.aside hs 0 _).aside (hs.set 0 _) 1 _), j3, j4, (fun _ => (o5.aside hs 0 _).aside (hs.set 0 _) 1 _), (fun _ => rfl), (fun _ => ⟨g, _, rfl, hg, (hs.set 0 _).set 1 _, rfl, fun _ => rfl⟩), p2, p5, (fun _ => hd6), (fun _ => hd7), ((jb.setCell hg _).setCell hg _)⟩
end Go.Proofs.Yteacjhmbamcegab
