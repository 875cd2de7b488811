/-
  'name.Row', 'name.Name'; the document's 'Row' and 'Name'; the walk of NameRows.
-/
import Derived.Test.YthillphedjjhjaaDoorNameLaws1
import Derived.Test.YthillphedjjhjaaDoorNameCut
import Derived.Test.YthillphedjjhjaaDoorRefReads
set_option linter.unusedVariables false
namespace Go.Proofs.YthillphedjjhjaaDoor
open Go.RowKit

def RowPost (l : List Int) (p : Int) (w : World) (e : Ending) (w' : World) : Prop :=
  Below w.heap.size w w' ∧ ∃ v, e = .returned (.tuple #[v, .int .i64 (rowAt l p).2.1, .int .i64 (rowAt l p).2.2]) ∧ w'.ownsRow w.heap.size 5 1 v (rowAt l p).1.length ((rowAt l p).1.map (Value.int .u8))

set_option maxHeartbeats 1000000 in
theorem Row_calls (a : Option Addr) (len cap : Nat) (l : List Int) (p : Int) (w : World) (H : Row w a len cap l) :
    Calls Tryd.prog 18 #[.slice a len cap, .int .i64 p] w fun e w' => RowPost l p w e w' := by
  have C1 := hide (cut_calls a len cap l p w H)
  clear H
  go_enter Tryd.func18, Tryd.ntmps18
  go_wp2_with fail
  refine C1.out.mono ?_
  rintro e w1 ⟨a1, m, c, rfl, hrow, n1, rfl⟩
  have hlen := rowAt_len l p
  have hm : (rowAt l p).1.length = m := hrow.1
  have R := hide hrow
  have HLIM : Hid (0 + m ≤ 140737488355328) := by show _ ≤ _; omega
  clear hlen hrow C1
  have hb1 : Below w.heap.size w (w.drewN n1) := below_drewNq (Below.refl _ _) n1
  generalize w.drewN n1 = w1 at R hb1 ⊢
  have B1 := hide hb1
  clear hb1
  obtain ⟨nx, hnx⟩ : ∃ nx, (rowAt l p).2.1 = nx := ⟨_, rfl⟩
  obtain ⟨er, her⟩ : ∃ er, (rowAt l p).2.2 = er := ⟨_, rfl⟩
  rw [hnx, her]
  have HNX := hide hnx
  have HER := hide her
  have HM := hide hm
  clear hnx her hm
  go_wp2_with (at_builtin; go_must (refine append_rowB rfl _ _ rfl w.heap.size _ 0 [] rfl (World.ownsRow_nil _ _ _ _) a1 m c (rowAt l p).1 rfl R.out HLIM.out B1.out.size ?_))
  intro v2 w2 hown2 hgrow2
  have H4 : Hid (Below w.heap.size w w2) := B1.out.grown hgrow2 B1.out.size (fun j hj => by simp [Value.ownBlock] at hj)
  have H5 : Hid (w2.ownsRow w.heap.size 5 1 v2 (rowAt l p).1.length ((rowAt l p).1.map (Value.int .u8))) := by
    show World.ownsRow _ _ _ _ _ _ _
    rw [HM.out]; simpa using hown2
  clear hown2 hgrow2 R B1
  obtain ⟨av, cv, hv⟩ := own_shape H5.out
  subst hv
  go_wp2
  refine bodyPost_ret (v := .tuple #[.slice av (rowAt l p).1.length cv, .int .i64 nx, .int .i64 er]) (by simp [results, Tryd.results18, go_sem]) rfl ?_
  exact ⟨H4.out, _, by rw [HNX.out, HER.out], H5.out⟩

def NamePost (l : List Int) (p : Int) (w : World) (e : Ending) (w' : World) : Prop :=
  Below w.heap.size w w' ∧ e = .returned (.tuple #[.string (strOfNums (nameAt l p).1), .int .i64 (nameAt l p).2.1, .int .i64 (nameAt l p).2.2])

theorem nameAt_err {l : List Int} {p : Int} (h : (rowAt l p).2.2 ≠ 0) : nameAt l p = ([], 0, (rowAt l p).2.2) := by unfold nameAt; rw [if_pos h]
theorem nameAt_no {l : List Int} {p : Int} (h : (rowAt l p).2.2 = 0) (ht : Utf.isText (rowAt l p).1 = false) : nameAt l p = ([], 0, 4) := by unfold nameAt; rw [if_neg (by simp [h]), ht]; rfl
theorem nameAt_yes {l : List Int} {p : Int} (h : (rowAt l p).2.2 = 0) (ht : Utf.isText (rowAt l p).1 = true) : nameAt l p = rowAt l p := by unfold nameAt; rw [if_neg (by simp [h]), if_pos ht]
theorem rowAt_e (l : List Int) (p : Int) : (rowAt l p).2.2 = 0 ∨ (rowAt l p).2.2 = 2 ∨ (rowAt l p).2.2 = 4 := by
  rcases readU_parts l p with ⟨x, hx, h⟩ | ⟨N, f, h, h1, h2, h3⟩
  · rw [rowAt_err hx h]; simp only; omega
  · by_cases hs : l.length < f + N
    · rw [rowAt_short h hs h3]; simp
    · rw [rowAt_yes h (by omega)]; simp

set_option maxHeartbeats 1000000 in
theorem Name_calls (a : Option Addr) (len cap : Nat) (l : List Int) (p : Int) (w : World) (H : Row w a len cap l) (hT : Tabs w) :
    Calls Tryd.prog 20 #[.slice a len cap, .int .i64 p] w fun e w' => NamePost l p w e w' := by
  have C1 := hide (cut_calls a len cap l p w H)
  have HT := hide hT
  have hE := rowAt_e l p
  clear H hT
  go_enter Tryd.func20, Tryd.ntmps20
  go_wp2_with fail
  refine C1.out.mono ?_
  rintro e w1 ⟨a1, m, c, rfl, hrow, n1, rfl⟩
  have R := hide hrow
  clear hrow C1
  have hb1 : Below w.heap.size w (w.drewN n1) := below_drewNq (Below.refl _ _) n1
  generalize w.drewN n1 = w1 at R hb1 ⊢
  have B1 := hide hb1
  clear hb1
  obtain ⟨nx, hnx⟩ : ∃ nx, (rowAt l p).2.1 = nx := ⟨_, rfl⟩
  obtain ⟨er, her⟩ : ∃ er, (rowAt l p).2.2 = er := ⟨_, rfl⟩
  rw [hnx, her]
  rw [her] at hE
  have HNX := hide hnx
  have HER := hide her
  clear hnx her
  by_cases he : er = 0
  · subst he
    clear hE
    go_wp2_with fail
    refine (Is_calls a1 m c (rowAt l p).1 w1 R.out (HT.out.later B1.out)).mono ?_
    rintro e w2 ⟨rfl, hb2⟩
    have B2 := hide (B1.out.trans (hb2.mono B1.out.size))
    have R2 := hide (R.out.later hb2)
    clear hb2 R B1
    cases ht : Utf.isText (rowAt l p).1 with
    | true =>
      have HY := hide (nameAt_yes HER.out ht)
      have hcv : (convert 22 9 (.slice a1 m c)).run Tryd.prog w2 = .ok (.string (strOfNums (rowAt l p).1)) w2 := conv_row a1 m c _ w2 R2.out
      obtain ⟨sv, hsv⟩ : ∃ sv, strOfNums (rowAt l p).1 = sv := ⟨_, rfl⟩
      rw [hsv] at hcv
      have HSV := hide hsv
      clear ht hsv R2
      go_wp2
      refine bodyPost_ret (v := .tuple #[.string sv, .int .i64 nx, .int .i64 0]) (by simp [results, Tryd.results20, go_sem]) rfl ?_
      exact ⟨B2.out, by rw [HY.out, HNX.out, HER.out, HSV.out]⟩
    | false =>
      have HY := hide (nameAt_no HER.out ht)
      clear ht R2
      go_wp2
      refine bodyPost_ret (v := .tuple #[.string ⟨#[]⟩, .int .i64 0, .int .i64 4]) (by simp [results, Tryd.results20, go_sem]) rfl ?_
      exact ⟨B2.out, by rw [HY.out]; rfl⟩
  · have u1 : (er != 0) = true := by simp; omega
    have HY := hide (nameAt_err (l := l) (p := p) (by rw [HER.out]; exact he))
    clear R hE
    go_wp2
    refine bodyPost_ret (v := .tuple #[.string ⟨#[]⟩, .int .i64 0, .int .i64 er]) (by simp [results, Tryd.results20, go_sem]) rfl ?_
    exact ⟨B1.out, by rw [HY.out, HER.out]; rfl⟩

set_option maxHeartbeats 1000000 in
theorem rRow_calls (a : Option Addr) (len cap : Nat) (l : List Int) (p : Int) (w : World) (H : Row w a len cap l) :
    Calls Tryd.prog 19 #[.slice a len cap, .int .i64 p] w fun e w' => RowPost l p w e w' := by
  have C1 := hide (refU_calls a len cap l p 32 w H)
  have HH := hide H
  obtain ⟨hl, hcap, hcm, hb, ha, hc⟩ := H
  unfold maxLen at hcm
  rcases readU_parts l p with ⟨x, hx, h⟩ | ⟨N, f, h, h1, h2, h3⟩
  · have hr := hide (rowAt_err hx h)
    rw [h] at C1
    have hx0 : (x != 0) = true := by rcases hx with rfl | rfl <;> rfl
    have hx1 : ¬ (x = 0) := by omega
    clear hc hb h ha hx
    go_enter Tryd.func19, Tryd.ntmps19
    go_wp2_with fail
    refine C1.out.mono ?_
    rintro e w1 ⟨rfl, hb1⟩
    have B1 := hide hb1
    clear hb1
    simp only [triU]
    go_wp2
    refine bodyPost_ret (v := .tuple #[.slice none 0 0, .int .i64 0, .int .i64 x]) (by simp [results, Tryd.results19, go_sem]) rfl ?_
    exact ⟨B1.out, .slice none 0 0, by rw [hr.out], by rw [hr.out]; exact World.ownsRow_nil _ _ _ _⟩
  · rw [h] at C1
    rw [hl] at h3
    have hfz : (f : Int) ≤ (len : Int) := by omega
    have hm : len ≤ 2 ^ 63 - 1 := by omega
    by_cases hs : len < f + N
    · have hr := hide (rowAt_short h (by omega) (by omega))
      have t1 : decide ((len : Int) - (f : Int) < (N : Int)) = true := by simp; omega
      clear hc hb h ha hcm
      go_enter Tryd.func19, Tryd.ntmps19
      go_wp2_with fail
      refine C1.out.mono ?_
      rintro e w1 ⟨rfl, hb1⟩
      have B1 := hide hb1
      clear hb1
      simp only [triU]
      go_wp2
      refine bodyPost_ret (v := .tuple #[.slice none 0 0, .int .i64 0, .int .i64 4]) (by simp [results, Tryd.results19, go_sem]) rfl ?_
      exact ⟨B1.out, .slice none 0 0, by rw [hr.out], by rw [hr.out]; exact World.ownsRow_nil _ _ _ _⟩
    · have hr := hide (rowAt_yes h (by omega))
      have t1 : decide ((len : Int) - (f : Int) < (N : Int)) = false := by simp; omega
      obtain ⟨b, off, rfl, hcell⟩ := hc (by omega)
      obtain ⟨d, rfl⟩ : ∃ d, cap = f + N + d := ⟨cap - (f + N), by omega⟩
      have hfn : (f : Int) + (N : Int) ≤ (len : Int) := by omega
      have hfc : (f : Int) + (N : Int) ≤ (f : Int) + (N : Int) + (d : Int) := by omega
      have hcz : (len : Int) ≤ (f : Int) + (N : Int) + (d : Int) := by omega
      have hpiece : ∀ w' : World, Below w.heap.size w w' → ∀ x : Nat, (N = 0 ∨ x = off + f) → ∀ c, N ≤ c → c ≤ maxLen → Row w' (some ⟨b, x, none⟩) N c ((l.drop f).take N) := by
        intro w' hbw x hx c hc1 hc2
        refine ⟨by simp; omega, hc1, hc2, ?_, (fun h => by cases h), fun h0 => ⟨b, x, rfl, fun i hi => ?_⟩⟩
        · intro i
          rw [List.getElem?_take]
          split
          · rw [List.getElem?_drop]; exact hb _
          · simp
        · have hx2 : x = off + f := by omega
          subst hx2
          have := cell_later hbw (hcell (f + i) (by omega))
          rw [List.getElem?_take, if_pos hi, List.getElem?_drop, Nat.add_assoc]
          exact this
      have HP := hide hpiece
      have HLIM : Hid (0 + N ≤ 140737488355328) := by show _ ≤ _; omega
      have HML : Hid (∀ y, y ≤ f + N + d → y ≤ maxLen) := by intro y hy; unfold maxLen; omega
      have hlen : ((l.drop f).take N).length = N := by simp; omega
      have HLEN := hide hlen
      clear hc hb h ha hcm hcell hl hpiece hlen
      by_cases hnd : N + d = 0
      · obtain rfl : N = 0 := by omega
        obtain rfl : d = 0 := by omega
        go_enter Tryd.func19, Tryd.ntmps19
        go_wp2_with fail
        refine C1.out.mono ?_
        rintro e w1 ⟨rfl, hb1⟩
        have B1 := hide hb1
        clear hb1
        simp only [triU]
        go_wp2_with (at_builtin; go_must (refine append_rowB rfl _ _ rfl w.heap.size _ 0 [] rfl (World.ownsRow_nil _ _ _ _) (some ⟨b, off, none⟩) 0 0 ((l.drop f).take 0) rfl (HP.out _ B1.out off (.inl (by first | rfl | trivial)) 0 (by omega) (HML.out _ (by omega))) HLIM.out B1.out.size ?_))
        intro v2 w2 hown2 hgrow2
        have H4 : Hid (Below w.heap.size w w2) := B1.out.grown hgrow2 B1.out.size (fun j hj => by simp [Value.ownBlock] at hj)
        have H5 : Hid (w2.ownsRow w.heap.size 5 1 v2 (rowAt l p).1.length ((rowAt l p).1.map (Value.int .u8))) := by
          show World.ownsRow _ _ _ _ _ _ _
          rw [hr.out]
          simp only
          rw [HLEN.out]; simpa using hown2
        clear hown2 hgrow2 B1
        obtain ⟨av, cv, hv⟩ := own_shape H5.out
        subst hv
        obtain ⟨Z, hZ⟩ : ∃ Z, (rowAt l p).1.length = Z := ⟨_, rfl⟩
        rw [hZ] at H5 ⊢
        have HZ := hide hZ
        clear hZ
        go_wp2
        refine bodyPost_ret (v := .tuple #[.slice av Z cv, .int .i64 (f : Int), .int .i64 0]) (by simp [results, Tryd.results19, go_sem]) rfl ?_
        exact ⟨H4.out, .slice av Z cv, by rw [hr.out]; simp, by rw [HZ.out]; exact H5.out⟩
      · have hnd1 : ¬ ((N : Int) + (d : Int) = 0) := by omega
        have hnd2 : (0 : Int) < (N : Int) + (d : Int) := by omega
        have S1 : Hid (f + N - f = N) := by show _ = _; omega
        have S2 : Hid (f + N + d - f = N + d) := by show _ = _; omega
        go_enter Tryd.func19, Tryd.ntmps19
        go_wp2_with fail
        refine C1.out.mono ?_
        rintro e w1 ⟨rfl, hb1⟩
        have B1 := hide hb1
        clear hb1
        simp only [triU]
        go_wp2_with (at_builtin; go_must (refine append_rowB rfl _ _ rfl w.heap.size _ 0 [] rfl (World.ownsRow_nil _ _ _ _) (some ⟨b, off + f, none⟩) (f + N - f) (f + N + d - f) ((l.drop f).take N) rfl (by rw [S1.out, S2.out]; exact HP.out _ B1.out (off + f) (.inr rfl) (N + d) (by omega) (HML.out _ (by omega))) (by rw [S1.out]; exact HLIM.out) B1.out.size ?_))
        intro v2 w2 hown2 hgrow2
        have H4 : Hid (Below w.heap.size w w2) := B1.out.grown hgrow2 B1.out.size (fun j hj => by simp [Value.ownBlock] at hj)
        have H5 : Hid (w2.ownsRow w.heap.size 5 1 v2 (rowAt l p).1.length ((rowAt l p).1.map (Value.int .u8))) := by
          show World.ownsRow _ _ _ _ _ _ _
          rw [hr.out]
          simp only
          rw [HLEN.out]; simpa using hown2
        clear hown2 hgrow2 B1
        obtain ⟨av, cv, hv⟩ := own_shape H5.out
        subst hv
        obtain ⟨Z, hZ⟩ : ∃ Z, (rowAt l p).1.length = Z := ⟨_, rfl⟩
        rw [hZ] at H5 ⊢
        have HZ := hide hZ
        clear hZ
        go_wp2
        refine bodyPost_ret (v := .tuple #[.slice av Z cv, .int .i64 ((f : Int) + N), .int .i64 0]) (by simp [results, Tryd.results19, go_sem]) rfl ?_
        exact ⟨H4.out, _, by rw [hr.out], by rw [HZ.out]; exact H5.out⟩

end Go.Proofs.YthillphedjjhjaaDoor
