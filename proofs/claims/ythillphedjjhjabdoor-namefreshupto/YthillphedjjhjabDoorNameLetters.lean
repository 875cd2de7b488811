/-
  'name.Letters': the letters of a text, by a range over it.
-/
import Derived.Test.YthillphedjjhjabDoorNameIs
import Derived.Test.YthillphedjjhjabDoorRef2Letters
import Derived.Laws.BytesString
import Derived.Laws.BytesArg
import Derived.Laws.RangeAny
import Derived.Lib.OthersKept
set_option linter.unusedVariables false
set_option linter.unusedSimpArgs false
namespace Go.Proofs.YthillphedjjhjabDoor
open Go.RowKit

theorem get_nums (l : List Int) (hb : Leb.Bytes l) (i : Nat) : (((strOfNums l).get! i).toNat : Int) = l[i]?.getD 0 := by
  have h := hb i
  unfold strOfNums ByteArray.get!
  by_cases hi : i < l.length
  · rw [List.getElem?_eq_getElem hi] at h ⊢
    simp [hi] at h ⊢
    omega
  · rw [List.getElem?_eq_none (by omega)]
    simp [hi]
    rfl

/-- The model's decoder, at a letter of a text. -/
theorem decode_first (l : List Int) (hb : Leb.Bytes l) (p : Nat) (hn : (Utf.first (l.drop p)).2 ≠ 0) :
    (((Utf8.decode (strOfNums l) p).1 : Nat) : Int) = (Utf.first (l.drop p)).1 ∧ (Utf8.decode (strOfNums l) p).2 = (Utf.first (l.drop p)).2 := by
  obtain ⟨h1, h2, h3⟩ := Utf.enc_first (Utf.bytes_dropU hb p) hn
  generalize (Utf.first (l.drop p)).1 = r at h1 h2 h3 ⊢
  generalize (Utf.first (l.drop p)).2 = n at h2 h3 hn ⊢
  have hr : 0 ≤ r ∧ r ≤ 1114111 ∧ (r < 55296 ∨ 57343 < r) := letter_true h1
  have hlen := congrArg List.length h3
  rw [List.length_append, List.length_drop, List.length_drop, List.length_drop] at hlen
  have G : ∀ k, (((strOfNums l).get! (p + k)).toNat : Int) = (Utf.enc r ++ (l.drop p).drop n)[k]?.getD 0 := by
    intro k; rw [get_nums l hb, ← h3, List.getElem?_drop]
  have hsz : (strOfNums l).size = l.length := strOfNums_size l
  have G0 := G 0; have G1 := G 1; have G2 := G 2; have G3 := G 3
  obtain ⟨R, rfl⟩ : ∃ R : Nat, r = R := ⟨r.toNat, by omega⟩
  unfold Utf8.decode
  simp only [hsz]
  have a0 : p + 0 = p := rfl
  simp only [a0] at G0 ⊢
  generalize (strOfNums l).get! p = b0 at G0 ⊢
  generalize (strOfNums l).get! (p + 1) = b1 at G1 ⊢
  generalize (strOfNums l).get! (p + 2) = b2 at G2 ⊢
  generalize (strOfNums l).get! (p + 3) = b3 at G3 ⊢
  unfold Utf.enc at h2 hlen G0 G1 G2 G3
  by_cases g1 : (R : Int) < 128
  · simp only [g1, if_true, List.cons_append, List.nil_append, List.getElem?_cons_zero, Option.getD_some, List.length_cons, List.length_nil] at h2 hlen G0
    rw [if_pos (by omega)]
    simp only
    omega
  by_cases g2 : (R : Int) < 2048
  · simp only [g1, g2, if_true, if_false, List.cons_append, List.nil_append, List.getElem?_cons_zero, List.getElem?_cons_succ, Option.getD_some, List.length_cons, List.length_nil] at h2 hlen G0 G1
    have e1 : (b0.toNat / 32 == 6) = true := by simp; omega
    have e2 : (b1.toNat / 64 == 2) = true := by simp; omega
    have e3 : decide (p + 1 < l.length) = true := by simp; omega
    rw [if_neg (by omega), if_pos (by simp only [e1, e2, e3, Bool.and_self]), if_pos (by omega)]
    simp only
    omega
  by_cases g3 : (R : Int) < 65536
  · simp only [g1, g2, g3, if_true, if_false, List.cons_append, List.nil_append, List.getElem?_cons_zero, List.getElem?_cons_succ, Option.getD_some, List.length_cons, List.length_nil] at h2 hlen G0 G1 G2
    have e1 : (b0.toNat / 32 == 6) = false := by simp; omega
    have e1b : (b0.toNat / 16 == 14) = true := by simp; omega
    have e2 : (b1.toNat / 64 == 2) = true := by simp; omega
    have e3 : decide (p + 1 < l.length) = true := by simp; omega
    have e4 : (b2.toNat / 64 == 2) = true := by simp; omega
    have e5 : decide (p + 2 < l.length) = true := by simp; omega
    have ec : b0.toNat % 16 * 4096 + b1.toNat % 64 * 64 + b2.toNat % 64 = R := by omega
    have ev : Utf8.valid (R : Int) = true := by simp [Utf8.valid]; omega
    rw [if_neg (by omega), if_neg (by simp only [e1]; simp), if_pos (by simp only [e1b, e2, e3, e4, e5, Bool.and_self]), ec, if_pos (by simp [ev]; omega)]
    exact ⟨rfl, by simp only; omega⟩
  · simp only [g1, g2, g3, if_true, if_false, List.cons_append, List.nil_append, List.getElem?_cons_zero, List.getElem?_cons_succ, Option.getD_some, List.length_cons, List.length_nil] at h2 hlen G0 G1 G2 G3
    have e1 : (b0.toNat / 32 == 6) = false := by simp; omega
    have e1b : (b0.toNat / 16 == 14) = false := by simp; omega
    have e1c : (b0.toNat / 8 == 30) = true := by simp; omega
    have e2 : (b1.toNat / 64 == 2) = true := by simp; omega
    have e3 : decide (p + 1 < l.length) = true := by simp; omega
    have e4 : (b2.toNat / 64 == 2) = true := by simp; omega
    have e5 : decide (p + 2 < l.length) = true := by simp; omega
    have e6 : (b3.toNat / 64 == 2) = true := by simp; omega
    have e7 : decide (p + 3 < l.length) = true := by simp; omega
    have ec : b0.toNat % 8 * 262144 + b1.toNat % 64 * 4096 + b2.toNat % 64 * 64 + b3.toNat % 64 = R := by omega
    have ev : Utf8.valid (R : Int) = true := by simp [Utf8.valid]; omega
    rw [if_neg (by omega), if_neg (by simp only [e1]; simp), if_neg (by simp only [e1b]; simp), if_pos (by simp only [e1c, e2, e3, e4, e5, e6, e7, Bool.and_self]), ec, if_pos (by simp [ev]; omega)]
    exact ⟨rfl, by simp only; omega⟩

theorem conv_row (a : Option Addr) (len cap : Nat) (l : List Int) (w : World) (H : Row w a len cap l) :
    (convert 23 9 (.slice a len cap)).run Tryd.prog w = .ok (.string (strOfNums l)) w := by
  obtain ⟨hl, hcap, hcm, hb, ha, hc⟩ := H
  by_cases h : 0 < len
  · obtain ⟨b, off, rfl, hcell⟩ := hc h
    exact run_convert_bytes_arg w 23 5 Tryd.underlying23 Tryd.underlying5 b off len cap l hl (fun i hi => by rw [hcell i hi]; simp [List.getD]) 9 Tryd.underlying9
  · obtain rfl : len = 0 := by omega
    have hl0 : l = [] := List.eq_nil_of_length_eq_zero hl
    subst hl0
    cases a with
    | none => exact run_convert_bytes_nil w 23 5 Tryd.underlying23 Tryd.underlying5 0 cap 9 Tryd.underlying9
    | some x =>
      rw [run_convert_bytes_string w 23 9 5 _ 0 cap Tryd.underlying23 Tryd.underlying5 Tryd.underlying9]
      rw [run_bytesToString w x 0 cap [] (by simpa using run_loadCells_list (P := Tryd.prog) w x [] (by simp))]
      rfl

theorem ownsRow_iterAt {w : World} {base : Nat} {e : TypeId} {size : Nat} {v : Value} {n : Nat} {xs : List Value} (h : w.ownsRow base e size v n xs) {k : Nat} (hk : k < base) (s : ByteArray) (p : Nat) : (w.iterAt k s p).ownsRow base e size v n xs := by
  obtain ⟨h1, h2⟩ := h
  refine ⟨h1, ?_⟩
  rcases h2 with h2 | ⟨g, cap, cur, a, b, c, d⟩
  · exact .inl h2
  · exact .inr ⟨g, cap, cur, a, b, by rw [Lib.iterAt_other _ _ _ _ _ (by omega)]; exact c, d⟩
theorem iterPos_of {w : World} {k : Nat} {s : ByteArray} {p : Nat} (h : w.heap[k]? = some (.stringIter s p)) : w.iterPos k = p := by simp [World.iterPos, h]
theorem own_mono {w : World} {B base e size : Nat} {v : Value} {n : Nat} {xs : List Value} (h : w.ownsRow base e size v n xs) (hb : B ≤ base) : w.ownsRow B e size v n xs := by
  obtain ⟨h1, h2 | ⟨g, cap, cur, a, b, c⟩⟩ := h
  · exact ⟨h1, .inl h2⟩
  · exact ⟨h1, .inr ⟨g, cap, cur, a, by omega, c⟩⟩
theorem lt_of_iter {w : World} {k : Nat} {o : Obj} (h : w.heap[k]? = some o) : k < w.heap.size := (Array.getElem?_eq_some_iff.1 h).1

set_option maxHeartbeats 2000000 in
theorem Letters_calls (a : Option Addr) (len cap : Nat) (l : List Int) (w : World) (H : Row w a len cap l) (hT : Tabs w) (hlim : len * 4 ≤ 140737488355328) :
    Calls Tryd.prog 5 #[.slice a len cap] w fun e w' => LettersPost l w e w' := by
  obtain ⟨i0, hi, hz0, hz1, hz2⟩ := info_parts Tryd.infoRune
  have C1 := hide (Is_calls a len cap l w H hT)
  obtain ⟨hl, _, _, hb, _, _⟩ := id H
  cases ht : Utf.isText l with
  | false =>
    have hnone : Utf.letters l = none := by
      unfold Utf.isText at ht
      cases hx : Utf.letters l with
      | none => rfl
      | some x => rw [hx] at ht; simp at ht
    rw [ht] at C1
    have HN := hide hnone
    clear hnone ht H hT hb hl
    go_enter Tryd.func5, Tryd.ntmps5
    go_wp2_with fail
    refine C1.out.mono ?_
    rintro e w1 ⟨rfl, hb1⟩
    have HB := hide hb1
    clear hb1 C1
    go_wp2
    refine bodyPost_ret (v := .tuple #[.slice none 0 0, .int .i64 4]) (by simp [results, Tryd.results5, go_sem]) rfl ?_
    exact ⟨HB.out, .inr ⟨HN.out, rfl⟩⟩
  | true =>
    rw [ht] at C1
    have hsome : Utf.letters l ≠ none := by
      intro h; unfold Utf.isText at ht; rw [h] at ht; simp at ht
    obtain ⟨s, hs⟩ : ∃ s, strOfNums l = s := ⟨_, rfl⟩
    have hsz : s.size = len := by rw [← hs, strOfNums_size, hl]
    have HH := hide H
    have HSOME := hide hsome
    have HBY := hide hb
    have HLEN := hide hl
    have HS := hide hs
    clear ht H hT hb hl hsome hs
    go_enter Tryd.func5, Tryd.ntmps5
    go_wp2_with fail
    refine C1.out.mono ?_
    rintro e w1 ⟨rfl, hb1⟩
    have hcv : (convert 23 9 (.slice a len cap)).run Tryd.prog w1 = .ok (.string s) w1 := by
      rw [← HS.out]; exact conv_row a len cap l w1 (HH.out.later hb1)
    have HB := hide hb1
    clear hb1 C1
    go_wp2
    go_loopw [4] (fun v wr => ∃ (pos : Nat) (ks : List Int), wr.heap[w1.heap.size]? = some (.stringIter s pos) ∧ Hid (wr.ownsRow (w1.heap.size + 1) 21 1 v ks.length (ks.map (Value.int .i32))) ∧ Hid (Below w.heap.size w wr) ∧ Hid (Utf.letters l = (Utf.letters (l.drop pos)).map (ks ++ ·)) ∧ pos ≤ len ∧ ks.length ≤ pos) (fun _ wr => len - wr.iterPos w1.heap.size)
    case atStart => exact ⟨0, [], World.iter_heap w1 s 0, World.ownsRow_nil _ _ _ _, HB.out.alloc HB.out.size _, by show _ = _; simp, by omega, by simp⟩
    case round =>
      obtain ⟨pos, ks, hit, hown, hbw, hlet, hpl, hkp⟩ := hrel
      have hpos0 := iterPos_of hit
      have hw1 := HB.out.size
      by_cases hp : pos < len
      · have hn : (Utf.first (l.drop pos)).2 ≠ 0 := by
          intro h0
          have := Utf.letters_stop (Utf.bytes_dropU HBY.out pos) (fun h => by have := congrArg List.length h; rw [List.length_drop, List.length_nil, HLEN.out] at this; omega) h0
          rw [this] at hlet
          exact HSOME.out hlet.out
        have hin := first_in HBY.out (by rw [HLEN.out]; omega) hn
        rw [HLEN.out] at hin
        have hdec := decode_first l HBY.out pos hn
        rw [HS.out] at hdec
        have HL2 := hide (letters_at HBY.out hlet.out hn)
        generalize Utf.first (l.drop pos) = fr at hn hin hdec HL2
        obtain ⟨r, z⟩ := fr
        simp only at hn hin hdec HL2
        obtain ⟨hin1, hin2, hin3, hin4, hin5⟩ := hin
        have hnx : ∀ ty, (Instr.next (.pointer (some ⟨w1.heap.size, 0, none⟩)) true ty).run Tryd.prog wr = .ok (.tuple #[.bool true, .int .i64 pos, .int .i32 r]) (wr.iterAt w1.heap.size s (pos + z)) := fun ty => by
          rw [Lib.run_next_any_at wr w1.heap.size s pos ty hit (by omega), hdec.1, hdec.2]
        have hit2 := Lib.iterAt_heap wr w1.heap.size s pos (pos + z) hit
        have hbw2 := hide (Lib.below_iterAt hbw.out (k := w1.heap.size) hw1 s (pos + z))
        have hown2 := hide (ownsRow_iterAt hown.out (k := w1.heap.size) (by omega) s (pos + z))
        generalize wr.iterAt w1.heap.size s (pos + z) = W1 at hnx hit2 hbw2 hown2
        have hBlt := lt_of_iter hit2
        have C3 : Hid (ks.length + 1 ≤ maxLen) := by show ks.length + 1 ≤ maxLen; unfold maxLen; omega
        have C4 : Hid ((ks.length + 1) * 4 ≤ 140737488355328) := by show (ks.length + 1) * 4 ≤ 140737488355328; omega
        have C5 : Hid (∀ o : Obj, w1.heap.size + 1 ≤ (W1.alloc o).heap.size) := by intro o; simp; omega
        clear hdec hit hown hbw hlet
        go_wp2_with (at_builtin; go_must (refine wpList_append_own _ rfl _ _ 24 rfl (w1.heap.size + 1) 21 i0 (.int .i32 0) 1 4 Tryd.underlying24 hi hz0 hz1 hz2 rfl (by decide) _ _ _ rfl (hown2.out.alloc _) ⟨W1.heap.size, 0, none⟩ 1 1 [.int .i32 r] rfl rfl (cell_one_new _ _ _) (one_cells [r] .i32) C3.out C4.out (C5.out _) ?_))
        intro v' w3 hown' hgrow3 _
        have hit3 : w3.heap[w1.heap.size]? = some (.stringIter s (pos + z)) := by
          rw [hgrow3.block w1.heap.size (by simp; omega) (fun h => by have := (hown2.out.lt _ h.symm).1; omega), Below.heap_alloc _ _ _ hBlt]; exact hit2
        have hbw3 : Hid (Below w.heap.size w w3) := Below.grown (hbw2.out.alloc (by omega) _) hgrow3 (by simp; omega) (fun j hj => by have := (hown2.out.lt _ hj).1; omega)
        have H5 : Hid (w3.ownsRow (w1.heap.size + 1) 21 1 v' (ks ++ [r]).length ((ks ++ [r]).map (Value.int .i32))) := by
          show World.ownsRow _ _ _ _ _ _ _
          simpa using hown'
        have HI3 := hide hit3
        clear hown' hgrow3 hit3 hit2 hown2 hbw2 hnx C3 C4 C5
        go_wp2
        go_roundw
        case rel => exact ⟨pos + z, ks ++ [r], HI3.out, H5, hbw3, HL2, by omega, by simp; omega⟩
        case measure => rw [iterPos_of HI3.out, hpos0]; omega
      · have hnx : ∀ ty, (Instr.next (.pointer (some ⟨w1.heap.size, 0, none⟩)) true ty).run Tryd.prog wr = .ok (.tuple #[.bool false]) wr := fun ty => Lib.run_next_end_at wr w1.heap.size s pos ty hit (by omega)
        have hfin : Utf.letters l = some ks := by
          rw [hlet.out, List.drop_eq_nil_of_le (by rw [HLEN.out]; omega)]; simp
        obtain ⟨av, cv, hv⟩ := own_shape hown.out
        subst hv
        have HF := hide hfin
        clear hfin hlet hit hpos0
        go_wp2
        refine bodyPost_ret (v := .tuple #[.slice av ks.length cv, .int .i64 0]) (by simp [results, Tryd.results5, go_sem]) rfl ?_
        exact ⟨hbw.out, .inl ⟨ks, _, HF.out, rfl, own_mono hown.out (by omega)⟩⟩

end Go.Proofs.YthillphedjjhjabDoor
