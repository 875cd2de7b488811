/-
  The walks of 'leb.PutU', 'leb.PutS', 'leb.LenU'.
-/
import Derived.Test.YteacjhmbamcegabLebWorks
import Derived.Test.YteacjhmbamcegabLebShorts
import Derived.OwnWalk
namespace Go.Proofs.Yteacjhmbamcegab
open Go.RowKit
set_option linter.unusedVariables false

theorem Try.infoByte : (Try.prog.info? 5).map (fun i => (i.zero, i.size, i.bytes)) = some (some (.int .u8 0), 1, 1) := by kernel_rfl

theorem or128 (x : Int) (h0 : 0 ≤ x) (h1 : x < 256) : bits .or .u8 x 128 = x % 128 + 128 := by
  obtain ⟨n, rfl⟩ := Int.eq_ofNat_of_zero_le h0
  have hn : n < 256 := by omega
  have all : ∀ m : Fin 256, bits .or .u8 ((m.val : Nat) : Int) 128 = ((m.val : Nat) : Int) % 128 + 128 := by decide +kernel
  exact all ⟨n, hn⟩

theorem or128_wrap (m : Int) : bits .or .u8 (m % 256) 128 = m % 128 + 128 := by
  rw [or128 _ (by omega) (by omega)]; omega

theorem one_cell (x : Int) : ∀ u ∈ [Value.int .u8 x], u.oneCell' = true := by
  intro u hu; simp at hu; subst hu; rfl

set_option maxHeartbeats 400000 in
theorem PutU_walk (n : Int) (w : World) (h0 : 0 ≤ n) (h1 : n < 18446744073709551616) :
    Calls Try.prog 26 #[.int .u64 n] w fun e w' => ∃ v, e = .returned v ∧ w'.ownsRow w.heap.size 5 1 v (Leb.putU n).length ((Leb.putU n).map (Value.int .u8)) ∧ Below w.heap.size w w' := by
  obtain ⟨i0, hi, hz0, hz1, hz2⟩ := info_parts Try.infoByte
  have hn : n < 128 ^ 10 := Int.lt_trans h1 (by decide)
  clear h1
  go_enter Try.func26, Try.ntmps26
  go_wp2
  go_loopw [0, 3] (fun x v wr => ∃ (f : Nat) (m : Int) (g : List Int), x = .int .u64 m ∧ 0 ≤ m ∧ m < 128 ^ (f + 1) ∧ g.length + f = 9 ∧ Leb.putU n = g ++ Leb.putUF f m ∧
      wr.ownsRow w.heap.size 5 1 v g.length (g.map (Value.int .u8)) ∧ Below w.heap.size w wr) (fun x _ _ => (intOf x).toNat)
  case atStart => exact ⟨9, n, [], rfl, h0, hn, rfl, rfl, World.ownsRow_nil _ _ _ _, Below.refl _ _⟩
  case round =>
    obtain ⟨f, m, g, rfl, hm0, hm, hgf, hput, hown, hbel⟩ := hrel
    have HM := hide hm
    have HP := hide hput
    have HB := hide hbel
    have hor := or128_wrap m
    have C3 : Hid (g.length + 1 ≤ maxLen) := by show g.length + 1 ≤ maxLen; unfold maxLen; omega
    have C4 : Hid ((g.length + 1) * 1 ≤ 140737488355328) := by show (g.length + 1) * 1 ≤ 140737488355328; omega
    have C5 : Hid (∀ o : Obj, w.heap.size ≤ (wr.alloc o).heap.size) := by intro o; have := hbel.size; simp; omega
    clear hm hput hbel hn
    by_cases hlt : m < 128
    · go_wp2_with (at_builtin; refine wpList_append_own _ rfl _ _ 43 rfl w.heap.size 5 i0 (.int .u8 0) 1 1 Try.underlying43 hi hz0 hz1 hz2 rfl (by decide) _ _ _ rfl (hown.alloc _) ⟨wr.heap.size, 0, none⟩ 1 1 [.int .u8 m] rfl rfl (cell_one_new _ _ _) (one_cell _) C3.out C4.out (C5.out _) ?_)
      · intro v' w1 hown' hgrow _
        have hlen : (Leb.putU n).length = g.length + 1 := by rw [HP.out, Leb.putUF_small _ hlt]; simp
        have hown2 : w1.ownsRow w.heap.size 5 1 v' (Leb.putU n).length ((Leb.putU n).map (Value.int .u8)) := by
          rw [hlen, HP.out, Leb.putUF_small _ hlt]; simpa using hown'
        have hbel : Below w.heap.size w w1 := (HB.out.alloc HB.out.size _).grown hgrow (by have := HB.out.size; simp; omega) (fun k hk => (hown.lt k hk).1)
        clear hown' hgrow hown
        have H2 := hide hown2
        have H3 := hide hbel
        clear hown2 hbel hlen
        go_wp2
        go_ret
        exact ⟨_, rfl, H2.out, H3.out⟩
    · go_wp2_with (at_builtin; refine wpList_append_own _ rfl _ _ 43 rfl w.heap.size 5 i0 (.int .u8 0) 1 1 Try.underlying43 hi hz0 hz1 hz2 rfl (by decide) _ _ _ rfl (hown.alloc _) ⟨wr.heap.size, 0, none⟩ 1 1 [.int .u8 (m % 128 + 128)] rfl rfl (cell_one_new _ _ _) (one_cell _) C3.out C4.out (C5.out _) ?_)
      · intro v' w1 hown' hgrow _
        obtain ⟨f', rfl⟩ : ∃ f', f = f' + 1 := by
          cases f with
          | zero => have := HM.out; simp at this; omega
          | succ f' => exact ⟨f', rfl⟩
        have hown2 : w1.ownsRow w.heap.size 5 1 v' (g ++ [m % 128 + 128]).length ((g ++ [m % 128 + 128]).map (Value.int .u8)) := by
          simpa using hown'
        have hbel : Below w.heap.size w w1 := (HB.out.alloc HB.out.size _).grown hgrow (by have := HB.out.size; simp; omega) (fun k hk => (hown.lt k hk).1)
        have hput : Leb.putU n = (g ++ [m % 128 + 128]) ++ Leb.putUF f' (m / 128) := by rw [HP.out, Leb.putUF_more (by omega)]; simp
        have hm2 : m / 128 < 128 ^ (f' + 1) := by have := HM.out; rw [Leb.pow128_succ] at this; omega
        clear hown' hgrow hown
        have H2 := hide hown2
        have H3 := hide hbel
        have H4 := hide hput
        have H5 := hide hm2
        clear hown2 hbel hput hm2
        go_wp2
        go_roundw
        case rel => exact ⟨f', m / 128, g ++ [m % 128 + 128], rfl, by omega, H5.out, by simp; omega, H4.out, H2.out, H3.out⟩
        case measure => simp [intOf]; omega
theorem and127_wrap (m : Int) : bits .and .u8 (m % 256) 127 = m % 128 := by
  rw [mask127 (by omega) (by omega)]; omega

theorem own_below {w w' : World} {B base e size : Nat} {v : Value} {n : Nat} {xs : List Value} (h : w.ownsRow base e size v n xs) (hb : Below B w w') (hv : ∀ k, v.ownBlock = some k → k < B) : w'.ownsRow base e size v n xs := by
  obtain ⟨h1, h2 | ⟨g, cap, cur, rfl, h3, h4, h5⟩⟩ := h
  · exact ⟨h1, .inl h2⟩
  · exact ⟨h1, .inr ⟨g, cap, cur, rfl, h3, by rw [hb.block g (hv g rfl)]; exact h4, h5⟩⟩

theorem own_slice {w : World} {base : Nat} {v : Value} {l : List Int} (h : w.ownsRow base 5 1 v l.length (l.map (Value.int .u8))) (hl : 1 ≤ l.length) (hb : Leb.Bytes l) :
    ∃ g cap, v = .slice (some ⟨g, 0, none⟩) l.length cap ∧ base ≤ g ∧ Row w (some ⟨g, 0, none⟩) l.length cap l := by
  obtain ⟨_, ⟨rfl, h0⟩ | ⟨g, cap, cur, rfl, hbase, hblk, hn, hm, hsz, htake⟩⟩ := id h
  · omega
  · refine ⟨g, cap, rfl, hbase, rfl, hn, hm, hb, (fun h => by cases h), fun _ => ⟨g, 0, rfl, fun i hi => ?_⟩⟩
    have hc := h.cellAt i (by omega)
    rw [Nat.zero_add, hc, List.getElem?_map, List.getElem?_eq_getElem hi]
    simp

theorem putU_len (n : Int) : 1 ≤ (Leb.putU n).length ∧ (Leb.putU n).length ≤ 10 := Leb.putUF_length 9 n
theorem putS_len (n : Int) : 1 ≤ (Leb.putS n).length ∧ (Leb.putS n).length ≤ 10 := Leb.putSF_length 9 n

/-- 'leb.PutU' answers the short form, in memory of its own. -/
theorem PutU_calls (n : Int) (w : World) (h0 : 0 ≤ n) (h1 : n < 18446744073709551616) :
    Calls Try.prog 26 #[.int .u64 n] w fun e w' => ∃ g cap, e = .returned (.slice (some ⟨g, 0, none⟩) (Leb.putU n).length cap) ∧ w.heap.size ≤ g ∧ Row w' (some ⟨g, 0, none⟩) (Leb.putU n).length cap (Leb.putU n) ∧
      w'.ownsRow w.heap.size 5 1 (.slice (some ⟨g, 0, none⟩) (Leb.putU n).length cap) (Leb.putU n).length ((Leb.putU n).map (Value.int .u8)) ∧ Below w.heap.size w w' := by
  refine (PutU_walk n w h0 h1).mono ?_
  rintro e w' ⟨v, rfl, hown, hbel⟩
  obtain ⟨g, cap, rfl, hg, hr⟩ := own_slice hown (putU_len n).1 (Leb.putUF_bytes 9 n h0 (Int.lt_trans h1 (by decide)))
  exact ⟨g, cap, rfl, hg, hr, hown, hbel⟩

end Go.Proofs.Yteacjhmbamcegab
