/-
  What is put is read: the sums of TypesBack.
-/
import Derived.Test.YteacjhmbamcegaaTypLaw7
set_option linter.unusedVariables false
set_option linter.unusedSimpArgs false
namespace Go.Proofs.Yteacjhmbamcegaa
open Go.RowKit Typ

theorem list_back (ah l r : List Int) (h : l.length ≤ 1048576) (ht : l.all isT = true) : listAt (ah ++ (putList l ++ r)) ah.length = (l, ((ah.length + (putList l).length : Nat) : Int), 0) := by
  have hr := (readU_put ah (l ++ r) (l.length : Int) 32 (by decide) (by decide) (by omega) (by simp; omega)).1
  have e : ah ++ (putList l ++ r) = ah ++ (Leb.putU (l.length : Int) ++ (l ++ r)) := by simp [putList, List.append_assoc]
  rw [e]
  have hd : ((ah ++ (Leb.putU (l.length : Int) ++ (l ++ r))).drop (ah.length + (Leb.putU (l.length : Int)).length)).take l.length = l := by
    rw [← List.append_assoc, List.drop_left' (by simp), List.take_left' rfl]
  have hy := listAt_yes (l := ah ++ (Leb.putU (l.length : Int) ++ (l ++ r))) (p := (ah.length : Int)) (N := l.length) (f := ah.length + (Leb.putU (l.length : Int)).length) (by rw [hr]; simp) (by simp; omega) (by
    have ha := (all_take (l := ah ++ (Leb.putU (l.length : Int) ++ (l ++ r))) (f := ah.length + (Leb.putU (l.length : Int)).length) (N := l.length) (by simp; omega)).1 (by rw [hd]; exact ht)
    exact ha)
  rw [hy, hd]
  simp [putList]
  omega
theorem func_back (ah l1 l2 r : List Int) (h1 : l1.length ≤ 1048576) (h2 : l2.length ≤ 1048576) (t1 : l1.all isT = true) (t2 : l2.all isT = true) :
    funcAt (ah ++ (putFunc l1 l2 ++ r)) ah.length = ((l1, l2), ((ah.length + (putFunc l1 l2).length : Nat) : Int), 0) := by
  have e : ah ++ (putFunc l1 l2 ++ r) = (ah ++ [96]) ++ (putList l1 ++ (putList l2 ++ r)) := by simp [putFunc, List.append_assoc]
  have e2 : ah ++ (putFunc l1 l2 ++ r) = (ah ++ [96] ++ putList l1) ++ (putList l2 ++ r) := by simp [putFunc, List.append_assoc]
  have g1 := list_back (ah ++ [96]) l1 (putList l2 ++ r) h1 t1
  have g2 := list_back (ah ++ [96] ++ putList l1) l2 r h2 t2
  rw [← e] at g1
  rw [← e2] at g2
  have hx : (ah ++ (putFunc l1 l2 ++ r))[ah.length]?.getD 0 = 96 := by simp [putFunc]
  rw [funcAt_in (by simp [putFunc]) hx]
  have p1 : ((ah.length : Int) + 1) = (((ah ++ [96]).length : Nat) : Int) := by simp
  rw [p1, g1]
  simp only
  rw [if_neg (by simp)]
  have p2 : (((ah ++ [96]).length + (putList l1).length : Nat) : Int) = (((ah ++ [96] ++ putList l1).length : Nat) : Int) := by simp; omega
  rw [p2, g2]
  simp only
  rw [if_neg (by simp)]
  simp [putFunc]
  omega
theorem lim_back (ah r : List Int) (n x : Int) (b : Bool) (w0 : U32 n) (w1 : U32 x) (hb : b = true ∨ x = 0) :
    limAt (ah ++ (putLim n x b ++ r)) ah.length = ((n, x, b), ((ah.length + (putLim n x b).length : Nat) : Int), 0) := by
  obtain ⟨w0, w0'⟩ := w0
  obtain ⟨w1, w1'⟩ := w1
  cases b with
  | false =>
    obtain rfl : x = 0 := by simpa using hb
    have hp : putLim n 0 false = 0 :: Leb.putU n := rfl
    rw [hp]
    have e : ah ++ (0 :: Leb.putU n ++ r) = (ah ++ [0]) ++ (Leb.putU n ++ r) := by simp [List.append_assoc]
    have hr := (readU_put (ah ++ [0]) r n 32 (by decide) (by decide) w0 (by simp; omega)).1
    rw [← e] at hr
    have hx : (ah ++ (0 :: Leb.putU n ++ r))[((ah.length : Int)).toNat]?.getD 0 = 0 := by simp
    have p1 : ((ah.length : Int) + 1) = (((ah ++ [0]).length : Nat) : Int) := by simp
    unfold limAt
    rw [if_neg (by simp; omega), if_neg (by rw [hx]; simp; omega), p1, hr, if_neg (by simp), hx, if_pos rfl]
    simp
    omega
  | true =>
    have hp : putLim n x true = 1 :: (Leb.putU n ++ Leb.putU x) := rfl
    rw [hp]
    have e : ah ++ (1 :: (Leb.putU n ++ Leb.putU x) ++ r) = (ah ++ [1]) ++ (Leb.putU n ++ (Leb.putU x ++ r)) := by simp [List.append_assoc]
    have e2 : ah ++ (1 :: (Leb.putU n ++ Leb.putU x) ++ r) = (ah ++ [1] ++ Leb.putU n) ++ (Leb.putU x ++ r) := by simp [List.append_assoc]
    have hr := (readU_put (ah ++ [1]) (Leb.putU x ++ r) n 32 (by decide) (by decide) w0 (by simp; omega)).1
    have hr2 := (readU_put (ah ++ [1] ++ Leb.putU n) r x 32 (by decide) (by decide) w1 (by simp; omega)).1
    rw [← e] at hr
    rw [← e2] at hr2
    have hx : (ah ++ (1 :: (Leb.putU n ++ Leb.putU x) ++ r))[((ah.length : Int)).toNat]?.getD 0 = 1 := by simp
    have p1 : ((ah.length : Int) + 1) = (((ah ++ [1]).length : Nat) : Int) := by simp
    have p2 : (((ah ++ [1]).length : Nat) : Int) + ((Leb.putU n).length : Int) = (((ah ++ [1] ++ Leb.putU n).length : Nat) : Int) := by simp; omega
    unfold limAt
    rw [if_neg (by simp; omega), if_neg (by rw [hx]; simp; omega), p1, hr]
    simp only
    rw [p2, hr2, if_neg (by simp), hx, if_neg (by decide), if_neg (by simp)]
    simp
    omega
end Go.Proofs.Yteacjhmbamcegaa
