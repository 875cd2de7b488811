/-
  The document's 'Letters' and 'Is'.
-/
import Derived.Test.YthillphedjjhjaaDoorRef2First
import Derived.Test.YthillphedjjhjaaDoorNameLead
set_option linter.unusedVariables false
namespace Go.Proofs.YthillphedjjhjaaDoor
open Go.RowKit

def LettersPost (l : List Int) (w : World) (e : Ending) (w' : World) : Prop :=
  Below w.heap.size w w' ∧
    ((∃ ks v, Utf.letters l = some ks ∧ e = .returned (.tuple #[v, .int .i64 0]) ∧ w'.ownsRow w.heap.size 21 1 v ks.length (ks.map (Value.int .i32))) ∨
     (Utf.letters l = none ∧ e = .returned (.tuple #[.slice none 0 0, .int .i64 4])))

theorem letters_at {l ks : List Int} {p : Nat} (hb : Leb.Bytes l) (h : Utf.letters l = (Utf.letters (l.drop p)).map (ks ++ ·)) (hn : (Utf.first (l.drop p)).2 ≠ 0) :
    Utf.letters l = (Utf.letters (l.drop (p + (Utf.first (l.drop p)).2))).map ((ks ++ [(Utf.first (l.drop p)).1]) ++ ·) := by
  rw [h, Utf.letters_go (Utf.bytes_dropU hb p) hn, List.drop_drop]
  cases Utf.letters (l.drop (p + (Utf.first (l.drop p)).2)) with
  | none => rfl
  | some x => simp

theorem first_in {l : List Int} {p : Nat} (hb : Leb.Bytes l) (hp : p ≤ l.length) (hn : (Utf.first (l.drop p)).2 ≠ 0) :
    p + (Utf.first (l.drop p)).2 ≤ l.length ∧ 1 ≤ (Utf.first (l.drop p)).2 ∧ (Utf.first (l.drop p)).2 ≤ 4 ∧ 0 ≤ (Utf.first (l.drop p)).1 ∧ (Utf.first (l.drop p)).1 ≤ 1114111 := by
  obtain ⟨h1, h2, h3⟩ := Utf.enc_first (Utf.bytes_dropU hb p) hn
  have hl := congrArg List.length h3
  have he := Utf.enc_len (Utf.first (l.drop p)).1
  have hr : 0 ≤ (Utf.first (l.drop p)).1 ∧ (Utf.first (l.drop p)).1 ≤ 1114111 ∧ ((Utf.first (l.drop p)).1 < 55296 ∨ 57343 < (Utf.first (l.drop p)).1) := by simpa [Utf.letter] using h1
  rw [List.length_append, List.length_drop, List.length_drop, List.length_drop] at hl
  omega

set_option maxHeartbeats 1000000 in
theorem rLetters_calls (a : Option Addr) (len cap : Nat) (l : List Int) (w : World) (H : Row w a len cap l) (hlim : len * 4 ≤ 140737488355328) :
    Calls Tryd.prog 10 #[.slice a len cap] w fun e w' => LettersPost l w e w' := by
  obtain ⟨i0, hi, hz0, hz1, hz2⟩ := info_parts Tryd.infoRune
  obtain ⟨hl, hcap, hcm, hb, _, hc⟩ := H
  have hm : len ≤ 2 ^ 62 := by omega
  clear hcm
  go_enter Tryd.func10, Tryd.ntmps10
  go_wp2
  go_loopw [4, 5] (fun v y wr => ∃ (p : Nat) (ks : List Int), y = .int .i64 p ∧ p ≤ len ∧ ks.length ≤ p ∧ Hid (Utf.letters l = (Utf.letters (l.drop p)).map (ks ++ ·)) ∧ Hid (wr.ownsRow w.heap.size 21 1 v ks.length (ks.map (Value.int .i32))) ∧ Hid (Below w.heap.size w wr)) (fun _ y _ => len - (intOf y).toNat)
  case atStart => exact ⟨0, [], rfl, by omega, by simp, by show _ = _; simp, World.ownsRow_nil _ _ _ _, Below.refl _ _⟩
  case round =>
    obtain ⟨p, ks, rfl, hp, hkp, hlet, hown, hbel⟩ := hrel
    by_cases hlt : p < len
    · have t1 : decide ((p : Int) < (len : Int)) = true := by simp; omega
      have hltz : (p : Int) < (len : Int) := by omega
      obtain ⟨b, off, rfl, hcell⟩ := hc (by omega)
      have C1 := hide (rfirst_calls b off len cap p (l.drop p) wr (by simp; omega) hlt hm (Utf.bytes_dropU hb p) (fun i hi => by rw [List.getElem?_drop]; exact cell_later hbel.out (hcell (p + i) (by omega))))
      have HB := hide hb
      have HL := hide hl
      have HC := hide hc
      by_cases hn : (Utf.first (l.drop p)).2 = 0
      · have hst : Utf.letters l = none := by
          have h0 := Utf.letters_stop (Utf.bytes_dropU hb p) (fun h => by have := congrArg List.length h; rw [List.length_drop, List.length_nil] at this; omega) hn
          rw [hlet.out, h0]; rfl
        have HS := hide hst
        clear hst hlet hb hc hcell hl HB HL HC
        generalize Utf.first (l.drop p) = fr at C1 hn
        obtain ⟨r, z⟩ := fr
        simp only at hn
        subst hn
        go_wp2_with fail
        refine C1.out.mono ?_
        rintro e w1 ⟨rfl, hb1⟩
        have H3 := hide (hbel.out.trans (hb1.mono hbel.out.size))
        clear hb1 C1
        simp only [firstV]
        go_wp2
        refine bodyPost_ret (v := .tuple #[.slice none 0 0, .int .i64 4]) (by simp [results, Tryd.results10, go_sem]) rfl ?_
        exact ⟨H3.out, .inr ⟨HS.out, rfl⟩⟩
      · have hin := first_in hb (by omega) hn
        have HL2 := hide (letters_at hb hlet.out hn)
        generalize Utf.first (l.drop p) = fr at C1 hn hin HL2
        obtain ⟨r, z⟩ := fr
        simp only at hn hin HL2
        rw [hl] at hin
        obtain ⟨hin1, hin2, hin3, hin4, hin5⟩ := hin
        have hz1b : ((z : Int) == 0) = false := by simp; omega
        have hz1c : ¬ ((z : Int) = 0) := by omega
        have hzs : (p : Int) + (z : Int) ≤ (len : Int) := by omega
        have C3 : Hid (ks.length + 1 ≤ maxLen) := by show ks.length + 1 ≤ maxLen; unfold maxLen; omega
        have C4 : Hid ((ks.length + 1) * 4 ≤ 140737488355328) := by show (ks.length + 1) * 4 ≤ 140737488355328; omega
        clear hlet hb hc hcell hl
        go_wp2_with fail
        refine C1.out.mono ?_
        rintro e w1 ⟨rfl, hb1⟩
        have H3 := hide (hbel.out.trans (hb1.mono hbel.out.size))
        have H2 := hide (own_below hown.out hb1 (fun k hk => (hown.out.lt k hk).2))
        have C5 : Hid (∀ o : Obj, w.heap.size ≤ (w1.alloc o).heap.size) := by intro o; have := H3.out.size; simp; omega
        clear hb1 C1 hown hbel
        simp only [firstV]
        go_wp2_with (at_builtin; go_must (refine wpList_append_own _ rfl _ _ 23 rfl w.heap.size 21 i0 (.int .i32 0) 1 4 Tryd.underlying23 hi hz0 hz1 hz2 rfl (by decide) _ _ _ rfl (H2.out.alloc _) ⟨w1.heap.size, 0, none⟩ 1 1 [.int .i32 r] rfl rfl (cell_one_new _ _ _) (one_cells [r] .i32) C3.out C4.out (C5.out _) ?_))
        intro v' w2 hown' hgrow _
        have H4 : Hid (Below w.heap.size w w2) := (H3.out.alloc H3.out.size _).grown hgrow (C5.out _) (fun k hk => (H2.out.lt k hk).1)
        have H5 : Hid (w2.ownsRow w.heap.size 21 1 v' (ks ++ [r]).length ((ks ++ [r]).map (Value.int .i32))) := by
          show World.ownsRow _ _ _ _ _ _ _
          simpa using hown'
        clear hown' hgrow H2 H3 C3 C4 C5
        go_wp2
        go_roundw
        case rel => exact ⟨p + z, ks ++ [r], by simp, by omega, by simp; omega, HL2, H5, H4⟩
        case measure => simp [intOf]; omega
    · have t1 : decide ((p : Int) < (len : Int)) = false := by simp; omega
      have hkl : p = len := by omega
      subst hkl
      have hfin : Utf.letters l = some ks := by
        rw [hlet.out, List.drop_eq_nil_of_le (by omega)]; simp
      obtain ⟨av, cv, hv⟩ := own_shape hown.out
      subst hv
      have HF := hide hfin
      clear hfin hlet hb hc hl
      go_wp2
      refine bodyPost_ret (v := .tuple #[.slice av ks.length cv, .int .i64 0]) (by simp [results, Tryd.results10, go_sem]) rfl ?_
      exact ⟨hbel.out, .inl ⟨ks, _, HF.out, rfl, hown.out⟩⟩

theorem rIs_calls (a : Option Addr) (len cap : Nat) (l : List Int) (w : World) (H : Row w a len cap l) (hlim : len * 4 ≤ 140737488355328) :
    Calls Tryd.prog 13 #[.slice a len cap] w fun e w' => e = .returned (.bool (Utf.isText l)) ∧ Below w.heap.size w w' := by
  have C1 := hide (rLetters_calls a len cap l w H hlim)
  clear H
  go_enter Tryd.func13, Tryd.ntmps13
  go_wp2_with fail
  refine C1.out.mono ?_
  rintro e w1 ⟨hb1, ⟨ks, v, hks, rfl, hown⟩ | ⟨hks, rfl⟩⟩
  · have e1 : Utf.isText l = true := by unfold Utf.isText; rw [hks]; rfl
    have HB := hide hb1
    obtain ⟨av, cv, hv⟩ := own_shape hown
    subst hv
    have E1 := hide e1
    clear hks hown e1 C1 hb1
    go_wp2
    go_ret
    exact ⟨by rw [E1.out]; rfl, HB.out⟩
  · have e1 : Utf.isText l = false := by unfold Utf.isText; rw [hks]; rfl
    have HB := hide hb1
    have E1 := hide e1
    clear hks e1 C1 hb1
    go_wp2
    go_ret
    exact ⟨by rw [E1.out]; rfl, HB.out⟩

end Go.Proofs.YthillphedjjhjaaDoor
