/-
  A family's name of a number.
-/
import Derived.Test.YthggbimnjneeaaaDoorOcSeq
import Derived.Test.YthggbimnjneeaaaDoorOcSpan
set_option linter.unusedVariables false
set_option maxRecDepth 100000
set_option linter.unusedSimpArgs false
namespace Go.Proofs.YthggbimnjneeaaaDoor
open Go.RowKit Go.Shelf Opp Opc
attribute [local go_sem] Oper.semAt_some

theorem fieldsSeq_calls (s : ByteArray) (w : World) :
    Calls Tryd.prog 26 #[.string s] w fun e w' => e = .returned (.func (.func 59) #[] #[.pointer (some ⟨w.heap.size, 0, none⟩)]) ∧ w' = w.alloc (.cells #[.string s] 9) := by
  go_enter Tryd.func26, Tryd.ntmps26
  go_wp2
  go_ret
  exact ⟨rfl, rfl⟩
theorem fields_stops (l : List Nat) (hl : Asc l) (hn : l.length ≤ 1000000) (n : Nat) (h1 : 1 ≤ n) (Bn : Nat) (w : World) (hBn : w.heap[Bn]? = some (.cells #[.string (str l)] 9 (0, 0))) (hT : STab w) :
    SeqStopsK Fence.wide n Tryd.prog 59 #[.pointer (some ⟨Bn, 0, none⟩)] (fun x : WordOf l => #[Value.string (str x.1)]) (KeepB Bn) (fun ys => vals1 ys = wordsL l) (fun pre => vals1 pre <+: wordsL l) (wordsL l).length w :=
  fun lp J Jx W hW _ _ hY h0 => fields1_in l hl hn n h1 lp Bn J Jx hY W ((hW.block _ (Array.getElem?_eq_some_iff.1 hBn).1).trans hBn) (hT.later hW) h0
theorem keepB_b {Bn : Nat} {w : World} (h1 : Bn < w.heap.size) (h2 : 0 < w.heap.size) (W : World) (l : Nat) (o o' : Obj) (hl : w.heap.size ≤ l) (_ : W.heap[l]? = some o) (_ : o.isCells = false) (_ : o.isWalk = false) : KeepB Bn W (W.putObj l o') :=
  KeepB.putObj W o' (by omega) (by omega)

theorem below_keeps {B : Nat} {V V' : World} (h : Below V.heap.size V V') : KeepsFrom B V V' := ⟨h.size, fun k o _ hk _ => (h.block k (Array.getElem?_eq_some_iff.1 hk).1).trans hk⟩
theorem KeepB.setCell {Bn b : Nat} (W : World) (v : Value) (h1 : Bn ≠ b) (h2 : 0 ≠ b) : KeepB Bn W (W.setCell ⟨b, 0, none⟩ v) := ⟨Below.heap_setCell _ _ _ _ h1, Below.heap_setCell _ _ _ _ h2⟩
theorem wrap16_up (m : Nat) (h : m + 1 < 65536) : IntKind.u16.wrap ((m : Int) + 1) = ((m + 1 : Nat) : Int) := by show (((m : Int) + 1) % 65536) = _; omega
theorem last_at {l : List Nat} (p : List (WordOf l)) (x : WordOf l) (h : vals1 (p ++ [x]) <+: wordsL l) : p.length < (wordsL l).length ∧ (wordsL l)[p.length]? = some x.1 := by
  obtain ⟨t, ht⟩ := h
  have e : ∀ ws : List (List Nat), vals1 (p ++ [x]) ++ t = ws → p.length < ws.length ∧ ws[p.length]? = some x.1 := by
    intro ws h
    subst h
    constructor
    · simp [vals1]
    · rw [List.getElem?_append_left (by simp [vals1]), vals1, List.map_append, List.getElem?_append_right (by simp)]
      simp
  exact e _ ht
/-- What lies in name's blocks: the family, the number, both results, the number that is held against it. -/
structure NmI (W : World) (C : Array Value) (o : Nat) (nm : ByteArray) (ok : Bool) (n : Nat) (V : World) : Prop where
  fam : V.heap[W.heap.size]? = some (.cells C 46 (0, 0))
  ob : Boxed V (W.heap.size + 1) 23 (.int .u16 (o : Int))
  nb : Boxed V (W.heap.size + 1 + 1) 9 (.string nm)
  kb : Boxed V (W.heap.size + 1 + 1 + 1) 4 (.bool ok)
  ab : Boxed V (W.heap.size + 1 + 1 + 1 + 1) 23 (.int .u16 (n : Int))
  bl : Below W.heap.size W V
theorem NmI.kept {W : World} {C : Array Value} {o : Nat} {nm : ByteArray} {ok : Bool} {n : Nat} {V V' : World} {row : Option Nat} (h : NmI W C o nm ok n V) (hg : V.grownBy V' row) (hr : ∀ r, row = some r → W.heap.size + 5 ≤ r) : NmI W C o nm ok n V' := by
  have ne : ∀ k, k < W.heap.size + 5 → some k ≠ row := fun k hk e => by have := hr k e.symm; omega
  exact ⟨(hg.block _ (Array.getElem?_eq_some_iff.1 h.fam).1 (ne _ (by omega))).trans h.fam, h.ob.kept hg (ne _ (by omega)), h.nb.kept hg (ne _ (by omega)), h.kb.kept hg (ne _ (by omega)), h.ab.kept hg (ne _ (by omega)),
    h.bl.grown hg h.bl.size (fun k e => by have := hr k e; omega)⟩
theorem NmI.later {W : World} {C : Array Value} {o : Nat} {nm : ByteArray} {ok : Bool} {n : Nat} {V V' : World} (h : NmI W C o nm ok n V) (hb : Below V.heap.size V V') : NmI W C o nm ok n V' :=
  ⟨(hb.block _ (Array.getElem?_eq_some_iff.1 h.fam).1).trans h.fam, (hb.block _ h.ob.lt).trans h.ob, (hb.block _ h.nb.lt).trans h.nb, (hb.block _ h.kb.lt).trans h.kb, (hb.block _ h.ab.lt).trans h.ab, h.bl.trans (hb.mono h.bl.size)⟩
theorem NmI.setAt {W : World} {C : Array Value} {o : Nat} {nm : ByteArray} {ok : Bool} {n : Nat} {V : World} (h : NmI W C o nm ok n V) (m : Nat) : NmI W C o nm ok m (V.setCell ⟨W.heap.size + 1 + 1 + 1 + 1, 0, none⟩ (.int .u16 (m : Int))) := by
  have hg := grownBy_setCell' V (W.heap.size + 1 + 1 + 1 + 1) (.int .u16 (m : Int))
  have ne : ∀ k, k < W.heap.size + 4 → some k ≠ some (W.heap.size + 1 + 1 + 1 + 1) := fun k hk e => by cases e; omega
  exact ⟨(hg.block _ (Array.getElem?_eq_some_iff.1 h.fam).1 (ne _ (by omega))).trans h.fam, h.ob.kept hg (ne _ (by omega)), h.nb.kept hg (ne _ (by omega)), h.kb.kept hg (ne _ (by omega)), h.ab.set _,
    h.bl.setCell (p := ⟨W.heap.size + 1 + 1 + 1 + 1, 0, none⟩) (by simp; omega) _⟩
theorem NmI.setRes {W : World} {C : Array Value} {o : Nat} {nm : ByteArray} {ok : Bool} {n : Nat} {V : World} (h : NmI W C o nm ok n V) (nm' : ByteArray) (ok' : Bool) :
    NmI W C o nm' ok' n ((V.setCell ⟨W.heap.size + 1 + 1, 0, none⟩ (.string nm')).setCell ⟨W.heap.size + 1 + 1 + 1, 0, none⟩ (.bool ok')) := by
  have hg := grownBy_setCell' V (W.heap.size + 1 + 1) (.string nm')
  have hg2 := grownBy_setCell' (V.setCell ⟨W.heap.size + 1 + 1, 0, none⟩ (.string nm')) (W.heap.size + 1 + 1 + 1) (.bool ok')
  have ne : ∀ k, k ≠ W.heap.size + 2 → some k ≠ some (W.heap.size + 1 + 1) := fun k hk e => by cases e; omega
  have ne2 : ∀ k, k ≠ W.heap.size + 3 → some k ≠ some (W.heap.size + 1 + 1 + 1) := fun k hk e => by cases e; omega
  have f1 := (hg.block _ (Array.getElem?_eq_some_iff.1 h.fam).1 (ne _ (by omega))).trans h.fam
  exact ⟨(hg2.block _ (Array.getElem?_eq_some_iff.1 f1).1 (ne2 _ (by omega))).trans f1, (h.ob.kept hg (ne _ (by omega))).kept hg2 (ne2 _ (by omega)), (h.nb.set _).kept hg2 (ne2 _ (by omega)), (h.kb.kept hg (ne _ (by omega))).set _,
    (h.ab.kept hg (ne _ (by omega))).kept hg2 (ne2 _ (by omega)),
    (h.bl.setCell (p := ⟨W.heap.size + 1 + 1, 0, none⟩) (by simp; omega) _).setCell (p := ⟨W.heap.size + 1 + 1 + 1, 0, none⟩) (by simp; omega) _⟩

def nameV (fn : List Nat) (fi o : Nat) : Array Value := if fi ≤ o ∧ o - fi < (wordsL fn).length then #[.string (str (wholeC fn ((wordsL fn)[o - fi]?.getD []))), .bool true] else #[.string ⟨#[]⟩, .bool false]
theorem words_asc {l : List Nat} (h : Asc l) (hn : l.length ≤ 1000000) : True := trivial
theorem wGo_sub : ∀ (t cur : List Nat) (x : List Nat), x ∈ wGo t cur → (∀ c ∈ x, c ∈ t ∨ c ∈ cur) ∧ x.length ≤ t.length + cur.length
  | [], cur, x, h => by
    rw [wGo_end] at h
    split at h
    · cases h
    · rcases List.mem_singleton.1 h with rfl
      exact ⟨fun c hc => .inr hc, by omega⟩
  | c :: t, cur, x, h => by
    unfold wGo at h
    split at h
    · split at h
      · obtain ⟨h1, h2⟩ := wGo_sub t [] x h
        exact ⟨fun d hd => (h1 d hd).elim (fun h => .inl (List.mem_cons_of_mem _ h)) (fun h => by cases h), by simp at h2 ⊢; omega⟩
      · rcases List.mem_cons.1 h with rfl | h
        · exact ⟨fun d hd => .inr hd, by simp⟩
        · obtain ⟨h1, h2⟩ := wGo_sub t [] x h
          exact ⟨fun d hd => (h1 d hd).elim (fun h => .inl (List.mem_cons_of_mem _ h)) (fun h => by cases h), by simp at h2 ⊢; omega⟩
    · obtain ⟨h1, h2⟩ := wGo_sub t (cur ++ [c]) x h
      refine ⟨fun d hd => ?_, by simp at h2 ⊢; omega⟩
      rcases h1 d hd with h | h
      · exact .inl (List.mem_cons_of_mem _ h)
      · rcases List.mem_append.1 h with h | h
        · exact .inr h
        · rcases List.mem_singleton.1 h with rfl
          exact .inl (List.mem_cons_self ..)
theorem word_let {l : List Nat} (h : Let l) (x : WordOf l) : Let x.1 := fun c hc => by
  rcases (wGo_sub l [] x.1 x.2).1 c hc with h1 | h1
  · exact h c h1
  · cases h1
theorem word_len {l : List Nat} (x : WordOf l) : x.1.length ≤ l.length := (wGo_sub l [] x.1 x.2).2

set_option maxHeartbeats 2000000 in
theorem name_calls (f : FamC) (o : Nat) (ho : o < 65536) (hA : Asc f.names) (hn : f.names.length ≤ 1000000) (hf : f.first + (wordsL f.names).length < 65536) (W : World) (hT : STab W) :
    Calls Tryd.prog 18 #[famVC f, .int .u16 (o : Int)] W fun e W' => e = .returned (.tuple (nameV f.names f.first o)) ∧ Below W.heap.size W W' := by
  refine (callsIn_wide (n := 8)).1 ?_
  have CW := hideT (fun (x : WordOf f.names) V => whole_calls f x.1 hA.let hn (word_let hA.let x) (Nat.le_trans (word_len x) hn) V)
  obtain ⟨fi, fn, ft, fm, fb⟩ := f
  simp only at hA hn hf CW
  unfold famVC famCC at CW ⊢
  simp only at CW ⊢
  have HS := fun n h1 Bn w h2 h3 => fields_stops fn hA hn n h1 Bn w h2 h3
  generalize hsn : str fn = sn at *
  generalize str ft = st at *
  have K0 := hideT (show NmI W #[.int .u16 (fi : Int), .string sn, .string st, .int .u8 (fm : Int), .int .i64 (fb : Int)] o ⟨#[]⟩ false fi
    (((((W.alloc (.cells #[.int .u16 (fi : Int), .string sn, .string st, .int .u8 (fm : Int), .int .i64 (fb : Int)] 46)).alloc (.cells #[.int .u16 (o : Int)] 23)).alloc (.cells #[.string ⟨#[]⟩] 9)).alloc (.cells #[.bool false] 4)).alloc (.cells #[.int .u16 (fi : Int)] 23)) from by
      have g0 := heap_alloc_new W (.cells #[.int .u16 (fi : Int), .string sn, .string st, .int .u8 (fm : Int), .int .i64 (fb : Int)] 46)
      have s0 : (W.alloc (.cells #[.int .u16 (fi : Int), .string sn, .string st, .int .u8 (fm : Int), .int .i64 (fb : Int)] 46)).heap.size = W.heap.size + 1 := by simp
      have b0 := (Below.refl W.heap.size W).alloc (Nat.le_refl _) (.cells #[.int .u16 (fi : Int), .string sn, .string st, .int .u8 (fm : Int), .int .i64 (fb : Int)] 46)
      generalize W.alloc (.cells #[.int .u16 (fi : Int), .string sn, .string st, .int .u8 (fm : Int), .int .i64 (fb : Int)] 46) = V at *
      have e1 := Boxed.new V 23 (.int .u16 (o : Int))
      have e2 := Boxed.new (V.alloc (.cells #[.int .u16 (o : Int)] 23)) 9 (.string ⟨#[]⟩)
      have e3 := Boxed.new ((V.alloc (.cells #[.int .u16 (o : Int)] 23)).alloc (.cells #[.string ⟨#[]⟩] 9)) 4 (.bool false)
      have e4 := Boxed.new (((V.alloc (.cells #[.int .u16 (o : Int)] 23)).alloc (.cells #[.string ⟨#[]⟩] 9)).alloc (.cells #[.bool false] 4)) 23 (.int .u16 (fi : Int))
      simp only [World.size_alloc, s0] at e1 e2 e3 e4
      refine ⟨?_, ((e1.alloc _).alloc _).alloc _, (e2.alloc _).alloc _, e3.alloc _, e4, ?_⟩
      · exact (((((((Below.refl V.heap.size V).alloc (Nat.le_refl _) _).alloc (by simp) _).alloc (by simp; omega) _).alloc (by simp; omega) _).block _ (by omega)).trans g0)
      · exact ((((b0.alloc b0.size _).alloc (by simp; omega) _).alloc (by simp; omega) _).alloc (by simp; omega) _))
  have KS := hideT (show (((((W.alloc (.cells #[.int .u16 (fi : Int), .string sn, .string st, .int .u8 (fm : Int), .int .i64 (fb : Int)] 46)).alloc (.cells #[.int .u16 (o : Int)] 23)).alloc (.cells #[.string ⟨#[]⟩] 9)).alloc (.cells #[.bool false] 4)).alloc (.cells #[.int .u16 (fi : Int)] 23)).heap.size = W.heap.size + 5 by simp)
  obtain ⟨W5, hW5⟩ : ∃ x, (((((W.alloc (.cells #[.int .u16 (fi : Int), .string sn, .string st, .int .u8 (fm : Int), .int .i64 (fb : Int)] 46)).alloc (.cells #[.int .u16 (o : Int)] 23)).alloc (.cells #[.string ⟨#[]⟩] 9)).alloc (.cells #[.bool false] 4)).alloc (.cells #[.int .u16 (fi : Int)] 23)) = x := ⟨_, rfl⟩
  rw [hW5] at K0 KS
  have HW5 := hideT hW5
  obtain ⟨W6, hW6⟩ : ∃ x, W5.alloc (.cells #[.string sn] 9) = x := ⟨_, rfl⟩
  have K6 := hideT (show NmI W #[.int .u16 (fi : Int), .string sn, .string st, .int .u8 (fm : Int), .int .i64 (fb : Int)] o ⟨#[]⟩ false fi W6 by
    rw [← hW6]; exact K0.out.later ((Below.refl _ _).alloc (Nat.le_refl _) _))
  have S6 := hideT (show W6.heap.size = W.heap.size + 6 by rw [← hW6]; have := KS.out; simp; omega)
  have B6 := hideT (show W6.heap[W.heap.size + 5]? = some (.cells #[.string sn] 9 (0, 0)) by rw [← hW6, ← KS.out]; exact heap_alloc_new W5 _)
  have T6 := hideT (hT.later K6.out.bl)
  have P5 := KS.out
  have HW6 := hideT hW6
  have HT := hideT hT
  clear hW5 hW6 hT
  refine callsIn_of_wp_marks Tryd.func18 rfl trivial ?_ rfl
  simp only [Tryd.ntmps18, List.size_toArray, List.length_cons, List.length_nil, Nat.reduceAdd, Nat.reduceSub, Array.replicate_succ, Array.replicate_zero, List.push_toArray, List.append_toArray, List.nil_append, List.cons_append]
  gi_wp2_with fail
  rw [HW5.out]
  refine ⟨trivial, (callsIn_wide.2 (fieldsSeq_calls _ _)).mono ?_⟩
  rintro e w' ⟨rfl, hw'⟩
  rw [HW6.out] at hw'
  subst w'
  gi_wp2_with fail
  clear P5
  have hlt0 : 0 < W6.heap.size := T6.out.lt
  subst hsn
  refine wpIn_rangeFunc_ownG rfl (by decide) (gf := 59) (lb := #[.pointer (some ⟨W.heap.size + 5, 0, none⟩)]) rfl trivial (enters_of Tryd.func59 (by kernel_rfl) rfl)
    (HS _ (by decide) (W.heap.size + 5) W6 B6.out T6.out) KeepB.trans (keepB_b (by have := S6.out; omega) hlt0) (Below.refl _ _) (fun _ => rfl)
    (fun pre V => NmI W #[.int .u16 (fi : Int), .string (str fn), .string st, .int .u8 (fm : Int), .int .i64 (fb : Int)] o ⟨#[]⟩ false (fi + pre.length) V ∧ ∀ j, j < pre.length → fi + j ≠ o)
    (fun c pre V => ∃ (p : List (WordOf fn)) (x : WordOf fn), c = .ret ∧ pre = p ++ [x] ∧ fi + p.length = o ∧ NmI W #[.int .u16 (fi : Int), .string (str fn), .string st, .int .u8 (fm : Int), .int .i64 (fb : Int)] o (str (wholeC fn x.1)) true o V)
    (fun s A B row hs hg hr => ⟨hs.1.kept hg (fun r e => by have := (hr r e).1; have := S6.out; omega), hs.2⟩)
    (fun c s A B row hs hg hr => by obtain ⟨p, x, h1, h2, h3, h4⟩ := hs; exact ⟨p, x, h1, h2, h3, h4.kept hg (fun r e => by have := (hr r e).1; have := S6.out; omega)⟩)
    ⟨K6.out, fun j hj => absurd hj (by simp)⟩
    (fun x => { tmps := #[.agg #[.int .u16 (fi : Int), .string (str fn), .string st, .int .u8 (fm : Int), .int .i64 (fb : Int)], .int .u16 (o : Int), .pointer (some ⟨W.heap.size, 0, none⟩), .pointer (some ⟨W.heap.size + 1, 0, none⟩), .pointer (some ⟨W.heap.size + 1 + 1, 0, none⟩), .pointer (some ⟨W.heap.size + 1 + 1 + 1, 0, none⟩), .pointer (some ⟨W.heap.size + 1 + 1 + 1 + 1, 0, none⟩), .string (str x.1),
      .pointer (some ⟨W.heap.size, 0, none⟩), .int .u16 (fi : Int), .pointer (some ⟨W.heap.size, 1, none⟩), .string (str fn), .func (.func 59) #[] #[.pointer (some ⟨W.heap.size + 5, 0, none⟩)], .string (str x.1), undef, undef, undef, undef, undef, undef, undef, undef], defers := [] }) ?assign ?body ?done ?stop
  case assign =>
    intro l x V K hK
    gi_wp2
    exact hK
  case body =>
    rintro l pre x V ⟨hI, hne⟩ hlen
    have HI := hideT hI
    have HNE := hideT hne
    obtain ⟨m, hm⟩ : ∃ m, fi + pre.length = m := ⟨_, rfl⟩
    have HM := hideT hm
    rw [hm] at hI
    have f0 : V.cell? ⟨W.heap.size, 0, none⟩ = some (.int .u16 (fi : Int)) := by simp [World.cell?, hI.fam]
    have f1 : V.cell? ⟨W.heap.size, 1, none⟩ = some (.string (str fn)) := by simp [World.cell?, hI.fam]
    have f2 : V.cell? ⟨W.heap.size, 2, none⟩ = some (.string st) := by simp [World.cell?, hI.fam]
    have f3 : V.cell? ⟨W.heap.size, 3, none⟩ = some (.int .u8 (fm : Int)) := by simp [World.cell?, hI.fam]
    have f4 : V.cell? ⟨W.heap.size, 4, none⟩ = some (.int .i64 (fb : Int)) := by simp [World.cell?, hI.fam]
    have ca := hI.ab.cell
    have za := hI.ab.frozen
    have co := hI.ob.cell
    have hb0 : 0 < W.heap.size := HT.out.lt
    have HB0 := hideT hb0
    have hmf : m + 1 < 65536 := by omega
    have HI2 := hideT hI
    clear hI hne hm hb0 hn hf
    by_cases hmo : m = o
    · subst hmo
      clear hmf
      gi_wp2_with fail
      refine ⟨trivial, (CallsIn.inRound l (callsIn_wide.2 (CW.out x _))).mono ?_⟩
      rintro e V2 ⟨rfl, hb⟩
      have HI3 := hideT (HI2.out.later hb)
      have HKF := hideT (below_keeps (B := W6.heap.size) hb)
      have cn := HI3.out.nb.cell
      have zn := HI3.out.nb.frozen
      have ck := HI3.out.kb.cell
      have zk := HI3.out.kb.frozen
      clear hb f0 f1 f2 f3 f4 ca za co
      gi_wp2
      exact ⟨HKF.out.trans ((((KeepsOthers.setCell _ _ _).trans (KeepsOthers.setCell _ _ _))).from _), pre, x, rfl, rfl, HM.out, HI3.out.setRes _ _⟩
    · have hne2 : ((m : Int) == (o : Int)) = false := by simp; omega
      have hw := wrap16_up m hmf
      have HMO := hideT hmo
      clear hmo hmf
      gi_wp2
      refine ⟨(KeepsOthers.setCell _ _ _).from _, KeepB.setCell _ _ (by omega) (by have := HB0.out; omega), ?_, ?_⟩
      · have h3 := HI2.out.setAt (m + 1)
        have e1 : fi + (pre ++ [x]).length = m + 1 := by have := HM.out; simp; omega
        rw [e1]
        exact h3
      · intro j hj
        have hj' : j < pre.length + 1 := by simpa using hj
        rcases Nat.lt_or_ge j pre.length with h | h
        · exact HNE.out j h
        · have := HM.out
          have := HMO.out
          omega
  case done =>
    rintro D ys V hD hS ⟨hI, hne⟩ hK
    have hlen : ys.length = (wordsL fn).length := by rw [← hS]; simp [vals1]
    have hno : ¬ (fi ≤ o ∧ o - fi < (wordsL fn).length) := by
      rintro ⟨h1, h2⟩
      exact hne (o - fi) (by omega) (by omega)
    have hv : nameV fn fi o = #[.string ⟨#[]⟩, .bool false] := if_neg hno
    have HV := hideT hv
    have cn := hI.nb.cell
    have zn := hI.nb.frozen
    have ck := hI.kb.cell
    have zk := hI.kb.frozen
    have HI := hideT hI
    have HD : Hid (W.heap.size + 5 ≤ D) := hideT (by have := S6.out; omega)
    have HK := hideT hK
    clear hI hne hlen hno hv hS hn hf hK hD
    gi_wp2
    have hI2 := HI.out.setRes ⟨#[]⟩ false
    have hK' := ((KeepsOthers.setCell V ⟨W.heap.size + 1 + 1, 0, none⟩ (.string ⟨#[]⟩)).trans (KeepsOthers.setCell _ ⟨W.heap.size + 1 + 1 + 1, 0, none⟩ (.bool false))).same D _ HK.out rfl
    refine ⟨by simp, .inl ⟨_, _, rfl, run_takeDeferred hK', ?_⟩⟩
    have hI3 := hI2.kept (grownBy_putObj' _ D (.deferred none)) (fun r e => by cases e; exact HD.out)
    have c1 := hI3.nb.cell
    have c2 := hI3.kb.cell
    refine ⟨.tuple #[.string ⟨#[]⟩, .bool false], ?_, by rw [HV.out], hI3.bl⟩
    simp [results, Tryd.f18, go_sem, c1, c2]
  case stop =>
    rintro D c pre V hD hSp ⟨p, x, rfl, rfl, hop, hI⟩ hK
    have hx := last_at p x hSp
    have hv : nameV fn fi o = #[.string (str (wholeC fn x.1)), .bool true] := by
      unfold nameV
      rw [if_pos ⟨by omega, by omega⟩, show o - fi = p.length by omega, hx.2]
      rfl
    have HV := hideT hv
    have HI := hideT hI
    have HD : Hid (W.heap.size + 5 ≤ D) := hideT (by have := S6.out; omega)
    clear hI hx hv hSp hn hf hD hop
    gi_wp2
    refine ⟨by simp, .inl ⟨_, _, rfl, run_takeDeferred hK, ?_⟩⟩
    have hI3 := HI.out.kept (grownBy_putObj' _ D (.deferred none)) (fun r e => by cases e; exact HD.out)
    have c1 := hI3.nb.cell
    have c2 := hI3.kb.cell
    refine ⟨.tuple #[.string (str (wholeC fn x.1)), .bool true], ?_, by rw [HV.out], hI3.bl⟩
    simp [results, Tryd.f18, go_sem, c1, c2]
end Go.Proofs.YthggbimnjneeaaaDoor
