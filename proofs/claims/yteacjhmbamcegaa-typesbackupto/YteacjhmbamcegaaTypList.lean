/-
  The document's list of values' types.
-/
import Derived.Test.YteacjhmbamcegaaTypReads
import Derived.Test.YteacjhmbamcegaaLebPuts
set_option linter.unusedVariables false
set_option linter.unusedSimpArgs false
namespace Go.Proofs.Yteacjhmbamcegaa
open Go.RowKit Typ

theorem listAt_err {l : List Int} {p x : Int} (hx : x = 2 ∨ x = 4) (h : Leb.readU l p 32 = (0, 0, x)) : listAt l p = ([], 0, x) := by
  unfold listAt
  rw [rowAt_err hx h]
  simp only
  rw [if_pos (by omega)]
theorem listAt_short {l : List Int} {p : Int} {N f : Nat} (h : Leb.readU l p 32 = ((N : Int), (f : Int), 0)) (hs : l.length < f + N) (hf : f ≤ l.length) : listAt l p = ([], 0, 4) := by
  unfold listAt
  rw [rowAt_short h hs hf]
  simp
theorem take_get {l : List Int} {f N i : Nat} (hi : i < N) (hs : f + N ≤ l.length) : ((l.drop f).take N)[i]? = some (l[f + i]?.getD 0) := by
  rw [List.getElem?_take, if_pos hi, List.getElem?_drop, List.getElem?_eq_getElem (by omega)]
  rfl
theorem all_take {l : List Int} {f N : Nat} (hs : f + N ≤ l.length) : ((l.drop f).take N).all isT = true ↔ ∀ i, i < N → isT (l[f + i]?.getD 0) = true := by
  rw [List.all_eq_true]
  constructor
  · intro h i hi
    exact h _ (List.mem_of_getElem? (take_get hi hs))
  · intro h x hx
    obtain ⟨i, hi⟩ := List.mem_iff_getElem?.1 hx
    have hlt : i < N := by
      have := (List.getElem?_eq_some_iff.1 hi).1
      simp at this
      omega
    rw [take_get hlt hs] at hi
    injection hi with hi
    rw [← hi]
    exact h i hlt
theorem listAt_yes {l : List Int} {p : Int} {N f : Nat} (h : Leb.readU l p 32 = ((N : Int), (f : Int), 0)) (hs : f + N ≤ l.length) (ha : ∀ i, i < N → isT (l[f + i]?.getD 0) = true) : listAt l p = ((l.drop f).take N, (f : Int) + N, 0) := by
  unfold listAt
  rw [rowAt_yes h hs]
  simp only
  rw [if_neg (by simp), if_pos ((all_take hs).2 ha)]
theorem listAt_no {l : List Int} {p : Int} {N f k : Nat} (h : Leb.readU l p 32 = ((N : Int), (f : Int), 0)) (hs : f + N ≤ l.length) (hk : k < N) (ha : isT (l[f + k]?.getD 0) = false) : listAt l p = ([], 0, 4) := by
  unfold listAt
  rw [rowAt_yes h hs]
  simp only
  rw [if_neg (by simp), if_neg]
  intro c
  have := (all_take hs).1 c k hk
  rw [ha] at this
  cases this
theorem take_more {l : List Int} {f k : Nat} (hs : f + k + 1 ≤ l.length) : (l.drop f).take (k + 1) = (l.drop f).take k ++ [l[f + k]?.getD 0] := by
  rw [List.take_add_one, List.getElem?_drop, List.getElem?_eq_getElem (by omega)]
  rfl

/-- What the list is: a row of the call's own. -/
def TysPost (l : List Int) (p : Int) (w : World) (e : Ending) (w' : World) : Prop :=
  Below w.heap.size w w' ∧ ∃ v, e = .returned (.tuple #[v, .int .i64 (listAt l p).2.1, .int .i64 (listAt l p).2.2]) ∧ w'.ownsRow w.heap.size 22 1 v (listAt l p).1.length ((listAt l p).1.map (Value.int .u8))
theorem infoT : (Try.prog.info? 22).map (fun i => (i.zero, i.size, i.bytes)) = some (some (.int .u8 0), 1, 1) := by kernel_rfl
theorem shape_own {w : World} {base e size : Nat} {v : Value} {n : Nat} {xs : List Value} (h : w.ownsRow base e size v n xs) : ∃ a c, v = .slice a n c := by
  obtain ⟨_, ⟨rfl, rfl⟩ | ⟨g, cap, cur, rfl, _⟩⟩ := h
  · exact ⟨_, _, rfl⟩
  · exact ⟨_, _, rfl⟩
theorem ownsRow_mono {w : World} {b b' e size : Nat} {v : Value} {n : Nat} {xs : List Value} (h : w.ownsRow b e size v n xs) (hb : b' ≤ b) : w.ownsRow b' e size v n xs := by
  obtain ⟨h1, h2 | ⟨g, cap, cur, e, hg, h3⟩⟩ := h
  · exact ⟨h1, .inl h2⟩
  · exact ⟨h1, .inr ⟨g, cap, cur, e, Nat.le_trans hb hg, h3⟩⟩
theorem wrap_small {k N : Nat} (h : k < N) (hN : N < 4294967296) : wrap64 ((k : Int) + 1) = ((k + 1 : Nat) : Int) := by
  unfold wrap64
  omega
theorem one_cell8 (x : Int) : ∀ u ∈ [Value.int .u8 x], u.oneCell' = true := by
  intro u hu; simp at hu; subst hu; rfl

set_option maxHeartbeats 4000000 in
theorem rlist_calls (a : Option Addr) (len cap : Nat) (l : List Int) (p : Int) (w : World) (H : Row w a len cap l) :
    Calls Try.prog 46 #[.slice a len cap, .int .i64 p] w fun e w' => TysPost l p w e w' := by
  have C1 := hideT (refU_calls a len cap l p 32 w H)
  have HH := hideT H
  obtain ⟨hl, hcap, hcm, hb, ha, hc⟩ := H
  unfold maxLen at hcm
  rcases readU_parts l p with ⟨x, hx, h⟩ | ⟨N, f, h, h1, h2, h3⟩
  · have hr := hideT (listAt_err hx h)
    rw [h] at C1
    have hx0 : (x != 0) = true := by rcases hx with rfl | rfl <;> rfl
    have hx1 : ¬ (x = 0) := by omega
    clear hc hb h ha hx
    go_enter Try.func46, Try.ntmps46
    go_wp2_with fail
    refine C1.out.mono ?_
    rintro e w1 ⟨rfl, hb1⟩
    have B1 := hideT hb1
    clear hb1
    simp only [triU]
    go_wp2
    refine bodyPost_ret (v := .tuple #[.slice none 0 0, .int .i64 0, .int .i64 x]) (by simp [results, Try.results46, go_sem]) rfl ?_
    exact ⟨B1.out, .slice none 0 0, by rw [hr.out], by rw [hr.out]; exact World.ownsRow_nil _ _ _ _⟩
  · rw [h] at C1
    rw [hl] at h3
    have hu : IntKind.u64.wrap ((len : Int) - (f : Int)) = (len : Int) - (f : Int) := by rw [IntKind.wrap_u64]; omega
    have hw : wrap64 ((len : Int) - (f : Int)) = (len : Int) - (f : Int) := by unfold wrap64; omega
    have hfz : (f : Int) ≤ (len : Int) := by omega
    have hm : len ≤ 2 ^ 63 - 1 := by omega
    by_cases hs : len < f + N
    · have hr := hideT (listAt_short h (by omega) (by omega))
      have t1 : decide ((len : Int) - (f : Int) < (N : Int)) = true := by simp; omega
      clear hc hb h ha hcm
      go_enter Try.func46, Try.ntmps46
      go_wp2_with fail
      refine C1.out.mono ?_
      rintro e w1 ⟨rfl, hb1⟩
      have B1 := hideT hb1
      clear hb1
      simp only [triU]
      go_wp2
      refine bodyPost_ret (v := .tuple #[.slice none 0 0, .int .i64 0, .int .i64 4]) (by simp [results, Try.results46, go_sem]) rfl ?_
      exact ⟨B1.out, .slice none 0 0, by rw [hr.out], by rw [hr.out]; exact World.ownsRow_nil _ _ _ _⟩
    · have t1 : decide ((len : Int) - (f : Int) < (N : Int)) = false := by simp; omega
      have hN : wrap64 (N : Int) = (N : Int) := by unfold wrap64; omega
      have YES := hideT (fun ha => listAt_yes (l := l) (p := p) h (by omega) ha)
      have NO := hideT (fun k hk ha => listAt_no (l := l) (p := p) (k := k) h (by omega) hk ha)
      have HS : Hid (f + N ≤ len) := by show f + N ≤ len; omega
      have HN : Hid (N < 4294967296) := h1
      have HL : Hid (l.length = len) := hl
      obtain ⟨i0, hi, hz0, hz1, hz2⟩ := info_parts infoT
      clear hc hb h ha hcm h1 h2 h3 hl hs
      go_enter Try.func46, Try.ntmps46
      go_wp2_with fail
      refine C1.out.mono ?_
      rintro e w1 ⟨rfl, hb1⟩
      have B1 := hideT hb1
      have HH1 := hideT (HH.out.later hb1)
      clear hb1 C1 HH
      simp only [triU]
      go_wp2_with fail
      go_loopw [10, 8, 11] (fun v nx x wr => ∃ (k : Nat) (vo : Value), vo = v ∧ nx = .int .i64 ((f + k : Nat) : Int) ∧ x = .int .i64 (k : Int) ∧ k ≤ N ∧ wr.ownsRow w1.heap.size 22 1 vo k (((l.drop f).take k).map (Value.int .u8)) ∧ (∀ i, i < k → isT (l[f + i]?.getD 0) = true) ∧ Below w1.heap.size w1 wr) (fun _ _ x _ => N - (intOf x).toNat)
      case atStart => exact ⟨0, _, rfl, rfl, rfl, by omega, World.ownsRow_nil _ _ _ _, fun i hi => by omega, Below.refl _ _⟩
      case round =>
        obtain ⟨k, vo, rfl, rfl, rfl, hk, hown, hall, hr⟩ := hrel
        have HALL := hideT hall
        have HR := hideT hr
        have BW := hideT (B1.out.trans (hr.mono B1.out.size))
        by_cases c0 : k < N
        · have c1 : (k : Int) < (N : Int) := by omega
          have HC := hideT c0
          have C2 := rVal_calls a len cap l ((f + k : Nat) : Int) wr (HH1.out.later hr)
          rw [valAt_in (by have := HL.out; have := HS.out; omega)] at C2
          have PS := hideT (take_more (l := l) (f := f) (k := k) (by have := HL.out; have := HS.out; omega))
          have TY := hideT (show ∀ i, i < k + 1 → (i = k → isT (l[f + k]?.getD 0) = true) → isT (l[f + i]?.getD 0) = true from fun i hi hk' => by
            by_cases e : i = k
            · subst e; exact hk' rfl
            · exact hall i (by omega))
          have NK := hideT (NO.out k c0)
          obtain ⟨va, vc, hva⟩ := shape_own hown
          subst hva
          have HO := hideT hown
          have C3 : Hid (k + 1 ≤ maxLen) := by show k + 1 ≤ maxLen; have := HN.out; unfold maxLen; omega
          have C4 : Hid ((k + 1) * 1 ≤ 140737488355328) := by show (k + 1) * 1 ≤ 140737488355328; have := HN.out; omega
          have C5 : Hid (∀ o : Obj, w1.heap.size ≤ (wr.alloc o).heap.size) := by intro o; have := HR.out.size; simp; omega
          have m1 : f + k + 1 ≤ len := by have := HS.out; omega
          clear c0 hr hall hk
          generalize l[f + k]?.getD 0 = x at *
          generalize hq : f + k = q at *
          cases ht : isT x with
          | true =>
            rw [ht, if_pos rfl] at C2
            have C2 := hideT C2
            have TY2 := hideT (fun i hi => TY.out i hi (fun _ => ht))
            have HQ := hideT hq
            clear ht TY NK hq hown
            unfold triV at C2
            have hown := HO.out
            go_wp2_with (first | ((with_reducible refine C2.out.mono ?_); rintro e w2 ⟨rfl, hww⟩; replace hww := hww.symm; subst hww) | (at_builtin; refine wpList_append_own _ rfl _ _ 36 rfl w1.heap.size 22 i0 (.int .u8 0) 1 1 Try.underlying36 hi hz0 hz1 hz2 rfl (by decide) _ _ _ rfl (hown.alloc _) ⟨wr.heap.size, 0, none⟩ 1 1 [.int .u8 x] rfl rfl (cell_one_new _ _ _) (one_cell8 _) C3.out C4.out (C5.out _) ?_))
            intro v' w3 hown' hgrow _
            have hown2 : w3.ownsRow w1.heap.size 22 1 v' (k + 1) (((l.drop f).take (k + 1)).map (Value.int .u8)) := by
              rw [PS.out, List.map_append, List.map_take, List.map_drop]; exact hown'
            have hb3 : Below w1.heap.size w1 w3 := by
              have hx : Below w1.heap.size w1 (wr.alloc (.cells #[.int .u8 x] 22)) := HR.out.alloc HR.out.size _
              exact hx.grown hgrow hx.size (fun j hj => (hown.lt j hj).1)
            have H2 := hideT hown2
            have H3 := hideT hb3
            clear hown2 hb3 hown' hgrow hown HO
            go_wp2
            go_roundw
            case rel => exact ⟨k + 1, _, rfl, by have := HQ.out; go_num, by rw [wrap_small HC.out HN.out], HC.out, H2.out, TY2.out, H3.out⟩
            case measure =>
              have := HC.out
              rw [wrap_small HC.out HN.out]
              simp only [intOf]
              omega
          | false =>
            rw [ht, if_neg (by decide)] at C2
            have C2 := hideT C2
            have E := hideT (NK.out ht)
            clear ht TY NK hq hown
            unfold triV at C2
            go_wp2_with ((with_reducible refine C2.out.mono ?_); rintro e w2 ⟨rfl, hww⟩; replace hww := hww.symm; subst hww)
            refine bodyPost_ret (v := .tuple #[.slice none 0 0, .int .i64 0, .int .i64 4]) (by simp [results, Try.results46, go_sem]) rfl ?_
            exact ⟨BW.out, .slice none 0 0, by rw [E.out], by rw [E.out]; exact World.ownsRow_nil _ _ _ _⟩
        · obtain rfl : k = N := by omega
          have E := hideT (YES.out HALL.out)
          have HO := hideT hown
          obtain ⟨va, vc, hva⟩ := shape_own hown
          subst hva
          clear hown hr hall c0 YES NO
          go_wp2
          refine bodyPost_ret (v := .tuple #[.slice va k vc, .int .i64 ((f + k : Nat) : Int), .int .i64 0]) (by simp [results, Try.results46, go_sem]) rfl ?_
          refine ⟨BW.out, .slice va k vc, by rw [E.out]; simp, ?_⟩
          rw [E.out]
          have hx : ((l.drop f).take k).length = k := by have := HL.out; have := HS.out; simp; omega
          simp only [hx]
          exact ownsRow_mono HO.out B1.out.size
end Go.Proofs.Yteacjhmbamcegaa
