/-
  The document's words of a text, types of letters, numbers of digits.
-/
import Derived.Test.YthggbimnjneeaaaDoorChecked
import Derived.WalkKit
import Derived.OwnWalk
import Derived.Below
import Derived.WalkSmall
import Derived.Great.BuildSlice
import Derived.Laws.DeepStrings4
set_option linter.unusedVariables false
set_option maxRecDepth 100000
set_option linter.unusedSimpArgs false
namespace Go.Proofs.YthggbimnjneeaaaDoor
open Go.RowKit

/-- Behind k places (the one behind the last letter, too): the words, and where the next one begins. -/
def wTo (s : ByteArray) : Nat → List ByteArray × Nat
  | 0 => ([], 0)
  | k + 1 =>
    if h : k < s.size then
      if (s[k]'h).toNat = 32 then (if (wTo s k).2 < k then (wTo s k).1 ++ [s.extract (wTo s k).2 k] else (wTo s k).1, k + 1) else wTo s k
    else (if (wTo s k).2 < k then (wTo s k).1 ++ [s.extract (wTo s k).2 k] else (wTo s k).1, k + 1)
def wordsOf (s : ByteArray) : List ByteArray := (wTo s (s.size + 1)).1
theorem wTo_len (s : ByteArray) : ∀ k, (wTo s k).1.length ≤ k ∧ (wTo s k).2 ≤ k
  | 0 => by simp [wTo]
  | k + 1 => by
    have h := wTo_len s k
    unfold wTo
    split
    · split
      · split <;> simp <;> omega
      · omega
    · split <;> simp <;> omega

theorem hideT {p : Prop} (h : p) : Hid p := h

def OwnS (w : World) (b : Nat) (v : Value) (l : List ByteArray) : Prop := w.ownsRow b 9 1 v l.length (l.map Value.string)
theorem infoS : (Tryd.prog.info? 9).map (fun i => (i.zero, i.size, i.bytes)) = some (some (.string ⟨#[]⟩), 1, 16) := by kernel_rfl

theorem OwnS.alloc {w : World} {b : Nat} {v : Value} {l : List ByteArray} (h : OwnS w b v l) (o : Obj) : OwnS (w.alloc o) b v l := by
  obtain ⟨h1, h2 | ⟨g, cap, cur, e, hg, hblk, h3⟩⟩ := h
  · exact ⟨h1, .inl h2⟩
  · exact ⟨h1, .inr ⟨g, cap, cur, e, hg, (heap_alloc_old w o (Array.getElem?_eq_some_iff.1 hblk).1).trans hblk, h3⟩⟩
theorem OwnS.later {w w' : World} {b : Nat} {v : Value} {l : List ByteArray} (h : OwnS w b v l) (hb : Below w.heap.size w w') : OwnS w' b v l := by
  obtain ⟨h1, h2 | ⟨g, cap, cur, e, hg, hblk, h3⟩⟩ := h
  · exact ⟨h1, .inl h2⟩
  · exact ⟨h1, .inr ⟨g, cap, cur, e, hg, (hb.block g (Array.getElem?_eq_some_iff.1 hblk).1).trans hblk, h3⟩⟩
theorem OwnS.shape {w : World} {b : Nat} {v : Value} {l : List ByteArray} (h : OwnS w b v l) : ∃ a c, v = .slice a l.length c := by
  obtain ⟨_, ⟨rfl, h0⟩ | ⟨g, cap, cur, rfl, _⟩⟩ := h
  · exact ⟨none, 0, by rw [h0]⟩
  · exact ⟨_, _, rfl⟩
theorem wTo_letter {s : ByteArray} {k : Nat} (h : k < s.size) (h32 : ¬ (s[k]'h).toNat = 32) : wTo s (k + 1) = wTo s k := by
  show (if h : k < s.size then _ else _) = _
  rw [dif_pos h, if_neg h32]
theorem wTo_break {s : ByteArray} {k : Nat} (hb : ∀ h : k < s.size, (s[k]'h).toNat = 32) : wTo s (k + 1) = (if (wTo s k).2 < k then (wTo s k).1 ++ [s.extract (wTo s k).2 k] else (wTo s k).1, k + 1) := by
  show (if h : k < s.size then _ else _) = _
  split
  · rename_i h
    rw [if_pos (hb h)]
  · rfl

set_option maxHeartbeats 4000000 in
theorem rwords_calls (s : ByteArray) (hs : s.size ≤ 1000000) (w : World) :
    Calls Tryd.prog 22 #[.string s] w fun e w' => ∃ v, e = .returned v ∧ OwnS w' w.heap.size v (wordsOf s) ∧ Below w.heap.size w w' := by
  obtain ⟨i0, hi, hz0, hz1, hz2⟩ := info_parts infoS
  have HI := hideT hi
  have HZ0 := hideT hz0
  have HZ1 := hideT hz1
  have HZ2 := hideT hz2
  have HS := hideT hs
  clear hi hz0 hz1 hz2 hs
  go_enter Tryd.func22, Tryd.ntmps22
  go_wp2
  go_loopw [3, 4, 5] (fun v f x wr => ∃ k : Nat, x = .int .i64 (k : Int) ∧ k ≤ s.size + 1 ∧ f = .int .i64 ((wTo s k).2 : Int) ∧ OwnS wr w.heap.size v (wTo s k).1 ∧ Below w.heap.size w wr) (fun _ _ x _ => s.size + 1 - (intOf x).toNat)
  case atStart => exact ⟨0, rfl, by omega, rfl, World.ownsRow_nil _ _ _ _, Below.refl _ _⟩
  case round =>
    obtain ⟨k, rfl, hk, rfl, ho, hb⟩ := hrel
    have HO := hideT ho
    have HB := hideT hb
    have LW := hideT (wTo_len s k)
    clear ho hb
    by_cases c0 : k ≤ s.size
    · have brk : ∀ (hx : ∀ h : k < s.size, (s[k]'h).toNat = 32), True := fun _ => trivial
      by_cases c3 : ∃ h : k < s.size, ¬ (s[k]'h).toNat = 32
      · obtain ⟨c2, c3⟩ := c3
        have E := hideT (wTo_letter c2 c3)
        have n1 : ((k : Int) == (s.size : Int)) = false := by simp; omega
        have HK := hideT c2
        have HS2 := HS.out
        obtain ⟨L, hL⟩ : ∃ L, wTo s k = L := ⟨_, rfl⟩
        rw [hL] at E HO LW ⊢
        clear hL
        go_wp2
        go_roundw
        case rel => have := HK.out; clear c3; exact ⟨k + 1, by go_num, by have := HK.out; omega, by rw [E.out], by rw [E.out]; exact HO.out, HB.out⟩
        case measure => clear c3; have := HK.out; have := HS.out; simp [intOf] <;> omega
      · have hx : ∀ h : k < s.size, (s[k]'h).toNat = 32 := fun h => by
          by_cases e : (s[k]'h).toNat = 32
          · exact e
          · exact absurd ⟨h, e⟩ c3
        have E := hideT (wTo_break hx)
        clear c3 brk
        obtain ⟨L, hL⟩ : ∃ L, wTo s k = L := ⟨_, rfl⟩
        rw [hL] at E HO LW ⊢
        clear hL
        obtain ⟨L, f⟩ := L
        simp only at E HO LW ⊢
        obtain ⟨av, cv, hv⟩ := OwnS.shape HO.out
        subst hv
        have HS2 := HS.out
        by_cases c4 : f < k
        · have c5 : (f : Int) < (k : Int) := by omega
          rw [if_pos c4] at E
          have hbz : w.heap.size ≤ wr.heap.size := HB.out.size
          have hnew : ∀ (j : Nat) (u : Value), ([Value.string (s.extract f k)] : List Value)[j]? = some u → (wr.alloc (.cells #[.string (s.extract f k)] 9)).cell? ((⟨wr.heap.size, 0, none⟩ : Addr).add j) = some u := by
            intro j u hj
            match j with
            | 0 => simp at hj; subst hj; simp [Addr.add, go_sem]
            | j + 1 => simp at hj
          have HN := hideT hnew
          have O2 := hideT (HO.out.alloc (.cells #[.string (s.extract f k)] 9))
          have h63 : Hid (L.length + 1 ≤ maxLen) := hideT (by have := LW.out; have := HS.out; unfold maxLen; omega)
          have hby : Hid ((L.length + 1) * 16 ≤ 140737488355328) := hideT (by have := LW.out; have := HS.out; omega)
          have hbs : Hid (w.heap.size ≤ (wr.alloc (.cells #[.string (s.extract f k)] 9)).heap.size) := hideT (by simp; omega)
          have one : Hid (∀ u ∈ [Value.string (s.extract f k)], u.oneCell' = true) := hideT (by intro u hu; simp at hu; subst hu; rfl)
          have BL := hideT (HB.out.alloc hbz (.cells #[.string (s.extract f k)] 9))
          have HK := hideT c0
          by_cases c1 : k = s.size
          · subst c1
            clear hx hnew hbz c0
            go_wp2_with (at_builtin; refine wpList_append_own (wr.alloc (.cells #[.string (s.extract f s.size)] 9)) rfl (.tmp 25) (.tmp 30) 60 rfl w.heap.size 9 i0 (.string ⟨#[]⟩) 1 16 Tryd.underlying60 HI.out HZ0.out HZ1.out HZ2.out rfl (by decide) (.slice av L.length cv) L.length (L.map Value.string) rfl O2.out ⟨wr.heap.size, 0, none⟩ 1 1 [.string (s.extract f s.size)] rfl rfl HN.out one.out h63.out hby.out hbs.out ?_)
            intro v' w1 hown1 hgrow1 _
            have O3 : Hid (OwnS w1 w.heap.size v' (L ++ [s.extract f s.size])) := hideT (by unfold OwnS; simpa using hown1)
            have B3 := hideT (BL.out.grown hgrow1 hbs.out (fun j hj => (O2.out.lt j hj).1))
            clear hown1 hgrow1 BL O2 HN one h63 hby hbs
            go_wp2
            go_roundw
            case rel => have := HS.out; exact ⟨s.size + 1, by go_num, by have := HK.out; omega, by simp only [E.out]; try rfl, by rw [E.out]; exact O3.out, B3.out⟩
            case measure => skip; have := HK.out; have := HS.out; simp [intOf] <;> omega
          · have c2 : k < s.size := by omega
            have c3 := hx c2
            have n1 : ((k : Int) == (s.size : Int)) = false := by simp; omega
            clear hx hnew hbz c0 c1
            go_wp2_with (at_builtin; refine wpList_append_own (wr.alloc (.cells #[.string (s.extract f k)] 9)) rfl (.tmp 25) (.tmp 30) 60 rfl w.heap.size 9 i0 (.string ⟨#[]⟩) 1 16 Tryd.underlying60 HI.out HZ0.out HZ1.out HZ2.out rfl (by decide) (.slice av L.length cv) L.length (L.map Value.string) rfl O2.out ⟨wr.heap.size, 0, none⟩ 1 1 [.string (s.extract f k)] rfl rfl HN.out one.out h63.out hby.out hbs.out ?_)
            intro v' w1 hown1 hgrow1 _
            have O3 : Hid (OwnS w1 w.heap.size v' (L ++ [s.extract f k])) := hideT (by unfold OwnS; simpa using hown1)
            have B3 := hideT (BL.out.grown hgrow1 hbs.out (fun j hj => (O2.out.lt j hj).1))
            clear hown1 hgrow1 BL O2 HN one h63 hby hbs
            go_wp2
            go_roundw
            case rel => clear c3; have := HK.out; have := HS.out; exact ⟨k + 1, by go_num, by have := HK.out; omega, by simp only [E.out]; try rfl, by rw [E.out]; exact O3.out, B3.out⟩
            case measure => clear c3; have := HK.out; have := HS.out; simp [intOf] <;> omega
        · have c5 : ¬ (f : Int) < (k : Int) := by omega
          rw [if_neg c4] at E
          have HK := hideT c0
          by_cases c1 : k = s.size
          · subst c1
            clear hx c0
            go_wp2
            go_roundw
            case rel => have := HS.out; exact ⟨s.size + 1, by go_num, by omega, by simp only [E.out]; try rfl, by rw [E.out]; exact HO.out, HB.out⟩
            case measure => have := HS.out; simp [intOf] <;> omega
          · have c2 : k < s.size := by omega
            have c3 := hx c2
            have n1 : ((k : Int) == (s.size : Int)) = false := by simp; omega
            clear hx c0 c1
            go_wp2
            go_roundw
            case rel => clear c3; have := HK.out; have := HS.out; exact ⟨k + 1, by go_num, by omega, by simp only [E.out]; try rfl, by rw [E.out]; exact HO.out, HB.out⟩
            case measure => clear c3; have := HK.out; have := HS.out; simp [intOf] <;> omega
    · obtain rfl : k = s.size + 1 := by omega
      go_wp2
      go_ret
      exact ⟨_, rfl, HO.out, HB.out⟩
end Go.Proofs.YthggbimnjneeaaaDoor
