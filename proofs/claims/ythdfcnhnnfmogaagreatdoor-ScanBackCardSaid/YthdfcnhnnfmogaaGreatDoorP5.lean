/- A stream of elements, each with a blank behind it, read to its end. No condition; nothing of the program stands here. -/
import Derived.Test.YthdfcnhnnfmogaaGreatDoorL7
namespace Go.Proofs.YthdfcnhnnfmogaaGreatDoor
open Go.RowKit Go.Lib Go.Shelf Tg Sn

/-- Elements one behind the other, a blank behind each. -/
def backT (l : List El) : B8 := l.flatMap fun e => put e (Sn.mk [122]) ++ [32]
theorem backT_cons (e : El) (l : List El) : backT (e :: l) = put e (Sn.mk [122]) ++ (32 :: backT l) := by simp [backT]
theorem backT_app (a b : List El) : backT (a ++ b) = backT a ++ backT b := by simp [backT]
theorem backT_take {l : List El} {k : Nat} (h : k < l.length) : backT (l.take (k + 1)) = backT (l.take k) ++ (put l[k] (Sn.mk [122]) ++ [32]) := by
  rw [List.take_succ_eq_append_getElem h, backT_app, backT_cons]
  rfl
theorem backT_60 (l : List El) (r : B8) : ∃ x, backT l ++ 60 :: r = 60 :: x := by
  cases l with
  | nil => exact ⟨r, rfl⟩
  | cons e l =>
    obtain ⟨x, hx⟩ := put_60 e (Sn.mk [122])
    rw [backT_cons, hx]
    exact ⟨_, rfl⟩
theorem back_fed (r : B8) : ∀ (l : List El) (n : Nat), (∀ e ∈ l, Rt 1 e ∧ (put e (Sn.mk [122])).length ≤ 16384) →
    ∃ n', Sn.feed (S [opS] n) (backT l ++ 60 :: r) = ((Sn.feed (S [opS] n') (60 :: r)).1, (l.map fun e => (⟨2, e, 0⟩ : Ev)) ++ (Sn.feed (S [opS] n') (60 :: r)).2)
  | [], n, _ => ⟨n, rfl⟩
  | e :: l, n, h => by
    obtain ⟨h1, h2⟩ := h e (List.mem_cons_self ..)
    obtain ⟨x, hx⟩ := backT_60 l r
    obtain ⟨n1, e1⟩ := blanks_fed (n := (put e (Sn.mk [122])).length) (t := [32]) (r := x) rfl (by decide)
    obtain ⟨n2, e2⟩ := back_fed r l n1 fun e he => h e (List.mem_cons_of_mem _ he)
    refine ⟨n2, ?_⟩
    have e3 : backT (e :: l) ++ 60 :: r = put e (Sn.mk [122]) ++ ([32] ++ 60 :: x) := by
      rw [backT_cons, ← hx]; simp
    rw [e3, Sn.feed_append, head_put2 h1 h2 n]
    rw [hx] at e2
    simp only [e1, e2]
    rfl
theorem end_fed (n : Nat) : ∃ st, Sn.feed (S [opS] n) [60, 47, 115, 62] = (st, [⟨3, El0, 0⟩]) ∧ st.err = 0 ∧ st.os = [] := by
  have h := feed_tag (os := [opS]) (n := n) (m := [47, 115]) (by decide) (by decide)
  have ht : Sn.take (S [opS] n) (60 :: ([47, 115] ++ [62])) = ((Sn.shut (S [opS] (0 + 4))).1, (Sn.shut (S [opS] (0 + 4))).2, 0) := by
    rw [tk_end (by rw [took_S]; show ¬ 16384 < 0 + 4; decide) (asc_text (by decide)) rfl rfl, took_S]
    exact te_yes (s := S [opS] (0 + 4)) (ini := []) (o := opS) (by decide) rfl (by decide)
  have e : [60, 47, 115, 62] = (60 :: ([47, 115] ++ [62]) : B8) := rfl
  rw [e, h]
  unfold tok1
  simp only [ht, if_true]
  exact ⟨_, rfl, rfl, rfl⟩
theorem all_fed (l : List El) (h : ∀ e ∈ l, Rt 1 e ∧ (put e (Sn.mk [122])).length ≤ 16384) :
    (Sn.feed St0 (hdT ++ (backT l ++ [60, 47, 115, 62]))).2 = ⟨1, eS, 0⟩ :: ((l.map fun e => (⟨2, e, 0⟩ : Ev)) ++ [⟨3, El0, 0⟩]) ∧ (Sn.feed St0 (hdT ++ (backT l ++ [60, 47, 115, 62]))).1.err = 0 ∧ (Sn.feed St0 (hdT ++ (backT l ++ [60, 47, 115, 62]))).1.os = [] := by
  obtain ⟨n', e1⟩ := back_fed [47, 115, 62] l 13 h
  obtain ⟨st, e2, e3, e4⟩ := end_fed n'
  rw [Sn.feed_append, head_fed]
  simp only [e1, e2]
  exact ⟨rfl, e3, e4⟩
end Go.Proofs.YthdfcnhnnfmogaaGreatDoor
