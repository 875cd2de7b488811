/-
  The document's types of letters, number of digits, one of a text's words (genops1.py wrote it).
-/
import Derived.Test.YthggbimnjneeaaaDoorOpsStr
set_option linter.unusedVariables false
set_option maxRecDepth 100000
set_option linter.unusedSimpArgs false
namespace Go.Proofs.YthggbimnjneeaaaDoor
open Go.RowKit

def tyC (c : Nat) : List Int := if c = 105 then [127] else if c = 108 then [126] else if c = 102 then [125] else if c = 100 then [124] else if c = 118 then [123] else []
def chr (s : ByteArray) (k : Nat) : Nat := if h : k < s.size then (s[k]'h).toNat else 0
def tyTo (s : ByteArray) : Nat → List Int
  | 0 => []
  | k + 1 => tyTo s k ++ tyC (chr s k)
def typesOf (s : ByteArray) : List Int := tyTo s s.size
theorem tyC_len (c : Nat) : (tyC c).length ≤ 1 := by unfold tyC; (repeat' split) <;> simp
theorem tyTo_len (s : ByteArray) : ∀ k, (tyTo s k).length ≤ k
  | 0 => by simp [tyTo]
  | k + 1 => by
    have h := tyTo_len s k
    have h2 := tyC_len (chr s k)
    simp only [tyTo, List.length_append]
    omega
theorem tyTo_next {s : ByteArray} {k c : Nat} (h : k < s.size) (hc : (s[k]'h).toNat = c) : tyTo s (k + 1) = tyTo s k ++ tyC c := by
  show tyTo s k ++ tyC (chr s k) = _
  unfold chr
  rw [dif_pos h, hc]
def OwnY (w : World) (b : Nat) (v : Value) (l : List Int) : Prop := w.ownsRow b 39 1 v l.length (l.map (Value.int .u8))
theorem infoY : (Tryd.prog.info? 39).map (fun i => (i.zero, i.size, i.bytes)) = some (some (.int .u8 0), 1, 1) := by kernel_rfl
theorem OwnY.alloc {w : World} {b : Nat} {v : Value} {l : List Int} (h : OwnY w b v l) (o : Obj) : OwnY (w.alloc o) b v l := by
  obtain ⟨h1, h2 | ⟨g, cap, cur, e, hg, hblk, h3⟩⟩ := h
  · exact ⟨h1, .inl h2⟩
  · exact ⟨h1, .inr ⟨g, cap, cur, e, hg, (heap_alloc_old w o (Array.getElem?_eq_some_iff.1 hblk).1).trans hblk, h3⟩⟩
theorem OwnY.later {w w' : World} {b : Nat} {v : Value} {l : List Int} (h : OwnY w b v l) (hb : Below w.heap.size w w') : OwnY w' b v l := by
  obtain ⟨h1, h2 | ⟨g, cap, cur, e, hg, hblk, h3⟩⟩ := h
  · exact ⟨h1, .inl h2⟩
  · exact ⟨h1, .inr ⟨g, cap, cur, e, hg, (hb.block g (Array.getElem?_eq_some_iff.1 hblk).1).trans hblk, h3⟩⟩
theorem OwnY.mono {w : World} {b b' : Nat} {v : Value} {l : List Int} (h : OwnY w b v l) (hb : b' ≤ b) : OwnY w b' v l := by
  obtain ⟨h1, h2 | ⟨g, cap, cur, e, hg, h3⟩⟩ := h
  · exact ⟨h1, .inl h2⟩
  · exact ⟨h1, .inr ⟨g, cap, cur, e, Nat.le_trans hb hg, h3⟩⟩
theorem OwnY.shape {w : World} {b : Nat} {v : Value} {l : List Int} (h : OwnY w b v l) : ∃ a c, v = .slice a l.length c := by
  obtain ⟨_, ⟨rfl, h0⟩ | ⟨g, cap, cur, rfl, _⟩⟩ := h
  · exact ⟨none, 0, by rw [h0]⟩
  · exact ⟨_, _, rfl⟩

set_option maxHeartbeats 4000000 in
theorem rtypes_calls (s : ByteArray) (hs : s.size ≤ 1000000) (w : World) :
    Calls Tryd.prog 40 #[.string s] w fun e w' => ∃ v, e = .returned v ∧ OwnY w' w.heap.size v (typesOf s) ∧ Below w.heap.size w w' := by
  obtain ⟨i0, hi, hz0, hz1, hz2⟩ := info_parts infoY
  have HI := hideT hi
  have HZ0 := hideT hz0
  have HZ1 := hideT hz1
  have HZ2 := hideT hz2
  have HS := hideT hs
  clear hi hz0 hz1 hz2 hs
  go_enter Tryd.func40, Tryd.ntmps40
  go_wp2
  go_loopw [3, 4] (fun v x wr => ∃ k : Nat, x = .int .i64 (k : Int) ∧ k ≤ s.size ∧ OwnY wr w.heap.size v (tyTo s k) ∧ Below w.heap.size w wr) (fun _ x _ => s.size - (intOf x).toNat)
  case atStart => exact ⟨0, rfl, by omega, World.ownsRow_nil _ _ _ _, Below.refl _ _⟩
  case round =>
    obtain ⟨k, rfl, hk, ho, hb⟩ := hrel
    have HO := hideT ho
    have HB := hideT hb
    have LW := hideT (tyTo_len s k)
    obtain ⟨av, cv, hv⟩ := ho.shape
    subst hv
    clear ho hb
    have HS2 := HS.out
    by_cases c0 : k < s.size
    · have E0 := fun c (h : (s[k]'c0).toNat = c) => hideT (tyTo_next c0 h)
      obtain ⟨L, hL⟩ : ∃ L, tyTo s k = L := ⟨_, rfl⟩
      rw [hL] at E0 HO LW ⊢
      clear hL
      have HK := hideT c0
      have hbz : w.heap.size ≤ wr.heap.size := HB.out.size
      by_cases hc105 : (s[k]'c0).toNat = 105
      · have hc := hc105
        have E := E0 105 hc
        rw [show tyC 105 = [127] from rfl] at E
        have HN : Hid (∀ (j : Nat) (u : Value), ([Value.int .u8 127] : List Value)[j]? = some u → (wr.alloc (.cells #[.int .u8 127] 39)).cell? ((⟨wr.heap.size, 0, none⟩ : Addr).add j) = some u) := hideT (by
          intro j u hj
          match j with
          | 0 => simp at hj; subst hj; simp [Addr.add, go_sem]
          | j + 1 => simp at hj)
        have O2 := hideT (HO.out.alloc (.cells #[.int .u8 127] 39))
        have h63 : Hid (L.length + 1 ≤ maxLen) := hideT (by have := LW.out; unfold maxLen; omega)
        have hby : Hid ((L.length + 1) * 1 ≤ 140737488355328) := hideT (by have := LW.out; omega)
        have hbs : Hid (w.heap.size ≤ (wr.alloc (.cells #[.int .u8 127] 39)).heap.size) := hideT (by simp; omega)
        have one : Hid (∀ u ∈ [Value.int .u8 127], u.oneCell' = true) := hideT (by intro u hu; simp at hu; subst hu; rfl)
        have BL := hideT (HB.out.alloc hbz (.cells #[.int .u8 127] 39))
        clear E0 hbz
        go_wp2_with (at_builtin; refine wpList_append_own (wr.alloc (.cells #[.int .u8 127] 39)) rfl (.tmp 16) (.tmp 17) 25 rfl w.heap.size 39 i0 (.int .u8 0) 1 1 Tryd.underlying25 HI.out HZ0.out HZ1.out HZ2.out rfl (by decide) (.slice av L.length cv) L.length (L.map (Value.int .u8)) rfl O2.out ⟨wr.heap.size, 0, none⟩ 1 1 [.int .u8 127] rfl rfl HN.out one.out h63.out hby.out hbs.out ?_)
        intro v' w1 hown1 hgrow1 _
        have O3 : Hid (OwnY w1 w.heap.size v' (L ++ [127])) := hideT (by unfold OwnY; simpa using hown1)
        have B3 := hideT (BL.out.grown hgrow1 hbs.out (fun j hj => (O2.out.lt j hj).1))
        clear hown1 hgrow1 BL O2 HN one h63 hby hbs
        go_wp2
        go_roundw
        case rel => clear hc hc105; exact ⟨k + 1, by go_num, by have := HK.out; omega, by rw [E.out]; exact O3.out, B3.out⟩
        case measure => clear hc hc105; have := HK.out; simp [intOf] <;> omega
      · skip
        by_cases hc108 : (s[k]'c0).toNat = 108
        · have hc := hc108
          have E := E0 108 hc
          rw [show tyC 108 = [126] from rfl] at E
          have HN : Hid (∀ (j : Nat) (u : Value), ([Value.int .u8 126] : List Value)[j]? = some u → (wr.alloc (.cells #[.int .u8 126] 39)).cell? ((⟨wr.heap.size, 0, none⟩ : Addr).add j) = some u) := hideT (by
            intro j u hj
            match j with
            | 0 => simp at hj; subst hj; simp [Addr.add, go_sem]
            | j + 1 => simp at hj)
          have O2 := hideT (HO.out.alloc (.cells #[.int .u8 126] 39))
          have h63 : Hid (L.length + 1 ≤ maxLen) := hideT (by have := LW.out; unfold maxLen; omega)
          have hby : Hid ((L.length + 1) * 1 ≤ 140737488355328) := hideT (by have := LW.out; omega)
          have hbs : Hid (w.heap.size ≤ (wr.alloc (.cells #[.int .u8 126] 39)).heap.size) := hideT (by simp; omega)
          have one : Hid (∀ u ∈ [Value.int .u8 126], u.oneCell' = true) := hideT (by intro u hu; simp at hu; subst hu; rfl)
          have BL := hideT (HB.out.alloc hbz (.cells #[.int .u8 126] 39))
          clear E0 hbz
          go_wp2_with (at_builtin; refine wpList_append_own (wr.alloc (.cells #[.int .u8 126] 39)) rfl (.tmp 21) (.tmp 22) 25 rfl w.heap.size 39 i0 (.int .u8 0) 1 1 Tryd.underlying25 HI.out HZ0.out HZ1.out HZ2.out rfl (by decide) (.slice av L.length cv) L.length (L.map (Value.int .u8)) rfl O2.out ⟨wr.heap.size, 0, none⟩ 1 1 [.int .u8 126] rfl rfl HN.out one.out h63.out hby.out hbs.out ?_)
          intro v' w1 hown1 hgrow1 _
          have O3 : Hid (OwnY w1 w.heap.size v' (L ++ [126])) := hideT (by unfold OwnY; simpa using hown1)
          have B3 := hideT (BL.out.grown hgrow1 hbs.out (fun j hj => (O2.out.lt j hj).1))
          clear hown1 hgrow1 BL O2 HN one h63 hby hbs
          go_wp2
          go_roundw
          case rel => clear hc hc108; exact ⟨k + 1, by go_num, by have := HK.out; omega, by rw [E.out]; exact O3.out, B3.out⟩
          case measure => clear hc hc108; have := HK.out; simp [intOf] <;> omega
        · skip
          by_cases hc102 : (s[k]'c0).toNat = 102
          · have hc := hc102
            have E := E0 102 hc
            rw [show tyC 102 = [125] from rfl] at E
            have HN : Hid (∀ (j : Nat) (u : Value), ([Value.int .u8 125] : List Value)[j]? = some u → (wr.alloc (.cells #[.int .u8 125] 39)).cell? ((⟨wr.heap.size, 0, none⟩ : Addr).add j) = some u) := hideT (by
              intro j u hj
              match j with
              | 0 => simp at hj; subst hj; simp [Addr.add, go_sem]
              | j + 1 => simp at hj)
            have O2 := hideT (HO.out.alloc (.cells #[.int .u8 125] 39))
            have h63 : Hid (L.length + 1 ≤ maxLen) := hideT (by have := LW.out; unfold maxLen; omega)
            have hby : Hid ((L.length + 1) * 1 ≤ 140737488355328) := hideT (by have := LW.out; omega)
            have hbs : Hid (w.heap.size ≤ (wr.alloc (.cells #[.int .u8 125] 39)).heap.size) := hideT (by simp; omega)
            have one : Hid (∀ u ∈ [Value.int .u8 125], u.oneCell' = true) := hideT (by intro u hu; simp at hu; subst hu; rfl)
            have BL := hideT (HB.out.alloc hbz (.cells #[.int .u8 125] 39))
            clear E0 hbz
            go_wp2_with (at_builtin; refine wpList_append_own (wr.alloc (.cells #[.int .u8 125] 39)) rfl (.tmp 26) (.tmp 27) 25 rfl w.heap.size 39 i0 (.int .u8 0) 1 1 Tryd.underlying25 HI.out HZ0.out HZ1.out HZ2.out rfl (by decide) (.slice av L.length cv) L.length (L.map (Value.int .u8)) rfl O2.out ⟨wr.heap.size, 0, none⟩ 1 1 [.int .u8 125] rfl rfl HN.out one.out h63.out hby.out hbs.out ?_)
            intro v' w1 hown1 hgrow1 _
            have O3 : Hid (OwnY w1 w.heap.size v' (L ++ [125])) := hideT (by unfold OwnY; simpa using hown1)
            have B3 := hideT (BL.out.grown hgrow1 hbs.out (fun j hj => (O2.out.lt j hj).1))
            clear hown1 hgrow1 BL O2 HN one h63 hby hbs
            go_wp2
            go_roundw
            case rel => clear hc hc102; exact ⟨k + 1, by go_num, by have := HK.out; omega, by rw [E.out]; exact O3.out, B3.out⟩
            case measure => clear hc hc102; have := HK.out; simp [intOf] <;> omega
          · skip
            by_cases hc100 : (s[k]'c0).toNat = 100
            · have hc := hc100
              have E := E0 100 hc
              rw [show tyC 100 = [124] from rfl] at E
              have HN : Hid (∀ (j : Nat) (u : Value), ([Value.int .u8 124] : List Value)[j]? = some u → (wr.alloc (.cells #[.int .u8 124] 39)).cell? ((⟨wr.heap.size, 0, none⟩ : Addr).add j) = some u) := hideT (by
                intro j u hj
                match j with
                | 0 => simp at hj; subst hj; simp [Addr.add, go_sem]
                | j + 1 => simp at hj)
              have O2 := hideT (HO.out.alloc (.cells #[.int .u8 124] 39))
              have h63 : Hid (L.length + 1 ≤ maxLen) := hideT (by have := LW.out; unfold maxLen; omega)
              have hby : Hid ((L.length + 1) * 1 ≤ 140737488355328) := hideT (by have := LW.out; omega)
              have hbs : Hid (w.heap.size ≤ (wr.alloc (.cells #[.int .u8 124] 39)).heap.size) := hideT (by simp; omega)
              have one : Hid (∀ u ∈ [Value.int .u8 124], u.oneCell' = true) := hideT (by intro u hu; simp at hu; subst hu; rfl)
              have BL := hideT (HB.out.alloc hbz (.cells #[.int .u8 124] 39))
              clear E0 hbz
              go_wp2_with (at_builtin; refine wpList_append_own (wr.alloc (.cells #[.int .u8 124] 39)) rfl (.tmp 31) (.tmp 32) 25 rfl w.heap.size 39 i0 (.int .u8 0) 1 1 Tryd.underlying25 HI.out HZ0.out HZ1.out HZ2.out rfl (by decide) (.slice av L.length cv) L.length (L.map (Value.int .u8)) rfl O2.out ⟨wr.heap.size, 0, none⟩ 1 1 [.int .u8 124] rfl rfl HN.out one.out h63.out hby.out hbs.out ?_)
              intro v' w1 hown1 hgrow1 _
              have O3 : Hid (OwnY w1 w.heap.size v' (L ++ [124])) := hideT (by unfold OwnY; simpa using hown1)
              have B3 := hideT (BL.out.grown hgrow1 hbs.out (fun j hj => (O2.out.lt j hj).1))
              clear hown1 hgrow1 BL O2 HN one h63 hby hbs
              go_wp2
              go_roundw
              case rel => clear hc hc100; exact ⟨k + 1, by go_num, by have := HK.out; omega, by rw [E.out]; exact O3.out, B3.out⟩
              case measure => clear hc hc100; have := HK.out; simp [intOf] <;> omega
            · skip
              by_cases hc118 : (s[k]'c0).toNat = 118
              · have hc := hc118
                have E := E0 118 hc
                rw [show tyC 118 = [123] from rfl] at E
                have HN : Hid (∀ (j : Nat) (u : Value), ([Value.int .u8 123] : List Value)[j]? = some u → (wr.alloc (.cells #[.int .u8 123] 39)).cell? ((⟨wr.heap.size, 0, none⟩ : Addr).add j) = some u) := hideT (by
                  intro j u hj
                  match j with
                  | 0 => simp at hj; subst hj; simp [Addr.add, go_sem]
                  | j + 1 => simp at hj)
                have O2 := hideT (HO.out.alloc (.cells #[.int .u8 123] 39))
                have h63 : Hid (L.length + 1 ≤ maxLen) := hideT (by have := LW.out; unfold maxLen; omega)
                have hby : Hid ((L.length + 1) * 1 ≤ 140737488355328) := hideT (by have := LW.out; omega)
                have hbs : Hid (w.heap.size ≤ (wr.alloc (.cells #[.int .u8 123] 39)).heap.size) := hideT (by simp; omega)
                have one : Hid (∀ u ∈ [Value.int .u8 123], u.oneCell' = true) := hideT (by intro u hu; simp at hu; subst hu; rfl)
                have BL := hideT (HB.out.alloc hbz (.cells #[.int .u8 123] 39))
                clear E0 hbz
                go_wp2_with (at_builtin; refine wpList_append_own (wr.alloc (.cells #[.int .u8 123] 39)) rfl (.tmp 36) (.tmp 37) 25 rfl w.heap.size 39 i0 (.int .u8 0) 1 1 Tryd.underlying25 HI.out HZ0.out HZ1.out HZ2.out rfl (by decide) (.slice av L.length cv) L.length (L.map (Value.int .u8)) rfl O2.out ⟨wr.heap.size, 0, none⟩ 1 1 [.int .u8 123] rfl rfl HN.out one.out h63.out hby.out hbs.out ?_)
                intro v' w1 hown1 hgrow1 _
                have O3 : Hid (OwnY w1 w.heap.size v' (L ++ [123])) := hideT (by unfold OwnY; simpa using hown1)
                have B3 := hideT (BL.out.grown hgrow1 hbs.out (fun j hj => (O2.out.lt j hj).1))
                clear hown1 hgrow1 BL O2 HN one h63 hby hbs
                go_wp2
                go_roundw
                case rel => clear hc hc118; exact ⟨k + 1, by go_num, by have := HK.out; omega, by rw [E.out]; exact O3.out, B3.out⟩
                case measure => clear hc hc118; have := HK.out; simp [intOf] <;> omega
              · skip
                obtain ⟨c, hc⟩ : ∃ c, (s[k]'c0).toNat = c := ⟨_, rfl⟩
                have E := E0 c hc
                rw [hc] at hc105 hc108 hc102 hc100 hc118
                rw [show tyC c = [] by unfold tyC; rw [if_neg hc105, if_neg hc108, if_neg hc102, if_neg hc100, if_neg hc118], List.append_nil] at E
                clear E0 hbz
                have b105 : ((c : Int) == 105) = false := by simp; omega
                have b108 : ((c : Int) == 108) = false := by simp; omega
                have b102 : ((c : Int) == 102) = false := by simp; omega
                have b100 : ((c : Int) == 100) = false := by simp; omega
                have b118 : ((c : Int) == 118) = false := by simp; omega
                clear hc105 hc108 hc102 hc100 hc118
                go_wp2
                go_roundw
                case rel => clear hc; exact ⟨k + 1, by go_num, by have := HK.out; omega, by rw [E.out]; exact HO.out, HB.out⟩
                case measure => clear hc; have := HK.out; simp [intOf] <;> omega
    · obtain rfl : k = s.size := by omega
      go_wp2
      go_ret
      exact ⟨_, rfl, HO.out, HB.out⟩

def numTo (s : ByteArray) : Nat → Nat
  | 0 => 0
  | k + 1 => 10 * numTo s k + (chr s k - 48)
def numOf (s : ByteArray) : Nat := numTo s s.size
theorem small10 (n d : Nat) (h1 : n ≤ 10000) (h2 : d ≤ 9) : 10 * n + d ≤ 1000000 ∧ 10 * n ≤ 1000000 ∧ d ≤ 1000000 := by omega
theorem wrap10 (n : Nat) (h : 10 * n ≤ 1000000) : wrap64 (10 * (n : Int)) = 10 * (n : Int) := by
  unfold wrap64
  omega
theorem wrap10d (n d : Nat) (h : 10 * n + d ≤ 1000000) : wrap64 (10 * (n : Int) + (d : Int)) = ((10 * n + d : Nat) : Int) := by
  unfold wrap64
  omega
theorem wrapN (m : Nat) (h : m ≤ 1000000) : wrap64 (m : Int) = (m : Int) := by
  unfold wrap64
  omega
def digits (s : ByteArray) : Prop := s.size ≤ 4 ∧ ∀ k, k < s.size → 48 ≤ chr s k ∧ chr s k ≤ 57
theorem numTo_le {s : ByteArray} (h : digits s) : ∀ k, k ≤ s.size → numTo s k < 10 ^ k
  | 0, _ => by simp [numTo]
  | k + 1, hk => by
    have h1 := numTo_le h k (by omega)
    have h2 := h.2 k (by omega)
    have e : 10 ^ (k + 1) = 10 * 10 ^ k := by rw [Nat.pow_succ, Nat.mul_comm]
    simp only [numTo]
    omega

set_option maxHeartbeats 4000000 in
theorem rnumber_calls (s : ByteArray) (hs : digits s) (w : World) :
    Calls Tryd.prog 41 #[.string s] w fun e w' => e = .returned (.int .i64 (numOf s : Int)) ∧ w' = w := by
  have HS := hideT hs
  have h4 := hs.1
  clear hs
  go_enter Tryd.func41, Tryd.ntmps41
  go_wp2
  go_loopw [3, 4] (fun v x wr => ∃ k : Nat, x = .int .i64 (k : Int) ∧ k ≤ s.size ∧ v = .int .i64 (numTo s k : Int) ∧ wr = w) (fun _ x _ => s.size - (intOf x).toNat)
  case atStart => exact ⟨0, rfl, by omega, rfl, rfl⟩
  case round =>
    obtain ⟨k, rfl, hk, rfl, rfl⟩ := hrel
    by_cases c0 : k < s.size
    · have hd := HS.out.2 k c0
      have hb := numTo_le HS.out k hk
      have hp : 10 ^ k ≤ 10000 := Nat.le_trans (Nat.pow_le_pow_right (by decide) (show k ≤ 4 by omega)) (by decide)
      obtain ⟨c, hc⟩ : ∃ c, (s[k]'c0).toNat = c := ⟨_, rfl⟩
      have hch : chr s k = c := by unfold chr; rw [dif_pos c0, hc]
      rw [hch] at hd
      have E := hideT (show numTo s (k + 1) = 10 * numTo s k + (c - 48) by show 10 * numTo s k + (chr s k - 48) = _; rw [hch])
      obtain ⟨n, hn⟩ : ∃ n, numTo s k = n := ⟨_, rfl⟩
      rw [hn] at E hb ⊢
      have HK := hideT c0
      have H4 := hideT h4
      have w1 : IntKind.u8.wrap ((c : Int) - 48) = ((c - 48 : Nat) : Int) := by
        show (((c : Int) - 48) % 256 : Int) = _
        omega
      have hd9 : c - 48 ≤ 9 := by clear hb hp w1; omega
      have hn5 : n ≤ 10000 := Nat.le_trans (Nat.le_of_lt hb) hp
      have S := small10 n (c - 48) hn5 hd9
      generalize c - 48 = d at *
      have w2 : wrap64 (d : Int) = (d : Int) := wrapN d S.2.2
      have w3 : wrap64 (10 * (n : Int)) = 10 * (n : Int) := wrap10 n S.2.1
      have W4 : Hid (wrap64 (10 * (n : Int) + (d : Int)) = ((10 * n + d : Nat) : Int)) := hideT (wrap10d n d S.1)
      clear hn hch hd hb hp hd9 hn5 S
      go_wp2
      go_roundw
      case rel => clear hc w1 w2 w3; exact ⟨k + 1, by go_num, HK.out, by rw [E.out, ← W4.out], trivial⟩
      case measure => clear hc w1 w2 w3; have := HK.out; simp [intOf] <;> omega
    · obtain rfl : k = s.size := by omega
      go_wp2
      go_ret
      exact ⟨rfl, rfl⟩

/-- One of a text's words: the only one, or the one at a place. -/
def eachOf (s : ByteArray) (i : Nat) : ByteArray := if (wordsOf s).length = 1 then (wordsOf s)[0]?.getD ⟨#[]⟩ else (wordsOf s)[i]?.getD ⟨#[]⟩
theorem OwnS.cellAt {w : World} {b : Nat} {v : Value} {l : List ByteArray} (h : OwnS w b v l) {k : Nat} (hk : k < l.length) : ∃ g c, v = .slice (some ⟨g, 0, none⟩) l.length c ∧ w.cell? ⟨g, k, none⟩ = some (.string (l[k]?.getD ⟨#[]⟩)) := by
  obtain ⟨_, ⟨rfl, h0⟩ | ⟨g, cap, cur, rfl, _⟩⟩ := id h
  · omega
  · refine ⟨g, cap, rfl, ?_⟩
    have := World.ownsRow.cellAt h k (by omega)
    rw [this, List.getElem?_map, List.getElem?_eq_getElem hk]
    rfl

set_option maxHeartbeats 4000000 in
theorem reach_calls (s : ByteArray) (i : Nat) (hs : s.size ≤ 1000000) (hi : (wordsOf s).length = 1 ∨ i < (wordsOf s).length) (w : World) :
    Calls Tryd.prog 39 #[.string s, .int .i64 (i : Int)] w fun e w' => e = .returned (.string (eachOf s i)) ∧ Below w.heap.size w w' := by
  have C := hideT (rwords_calls s hs w)
  obtain ⟨l, hl⟩ : ∃ l, wordsOf s = l := ⟨_, rfl⟩
  unfold eachOf
  rw [hl] at C hi ⊢
  clear hl hs
  by_cases c : l.length = 1
  · rw [if_pos c]
    obtain ⟨x, hx⟩ : ∃ x, l[0]?.getD ⟨#[]⟩ = x := ⟨_, rfl⟩
    rw [hx]
    clear hi
    go_enter Tryd.func39, Tryd.ntmps39
    go_wp2_with fail
    refine C.out.mono ?_
    rintro e w1 ⟨v, rfl, ho, hb⟩
    obtain ⟨g, cv, rfl, hc⟩ := ho.cellAt (k := 0) (by omega)
    rw [hx] at hc
    clear hx
    have HB := hideT hb
    clear hb ho
    rw [c]
    go_wp2
    go_ret
    exact ⟨rfl, HB.out⟩
  · rw [if_neg c]
    obtain ⟨x, hx⟩ : ∃ x, l[i]?.getD ⟨#[]⟩ = x := ⟨_, rfl⟩
    rw [hx]
    have hi := hi.resolve_left c
    have c1 : ((l.length : Int) == 1) = false := by simp; omega
    have ci : (i : Int) < (l.length : Int) := by omega
    go_enter Tryd.func39, Tryd.ntmps39
    go_wp2_with fail
    refine C.out.mono ?_
    rintro e w1 ⟨v, rfl, ho, hb⟩
    obtain ⟨g, cv, rfl, hc⟩ := ho.cellAt (k := i) hi
    rw [hx] at hc
    clear hx
    have HB := hideT hb
    clear hb ho c
    go_wp2
    go_ret
    exact ⟨rfl, HB.out⟩
end Go.Proofs.YthggbimnjneeaaaDoor
