/- The document's own Parse for layer 3, whole. Condition: the text has at most 1048576 bytes. -/
import Derived.Test.YtddhbhdjjiibbaaDoorJr5
namespace Go.Proofs.YtddhbhdjjiibbaaDoor
open Go.RowKit Go.Lib Go.Shelf Sg Jd

theorem first_none {s : ByteArray} {x : Nat} (hx : x < 256) (hs : s.size ≤ 1048576) (h : cut1 (u x) s.data.toList = none) :
    Hid (∀ W, Calls Tryd.prog 25 #[.string s, .int .u8 x] W fun e w' => e = .returned (.int .i64 (-1)) ∧ W = w') := fun W => by
  have := first_any x s W hx hs
  rw [indexByte_cut, h] at this
  exact this
theorem first_some {s : ByteArray} {x : Nat} (hx : x < 256) (hs : s.size ≤ 1048576) {a b : List UInt8} (h : cut1 (u x) s.data.toList = some (a, b)) :
    Hid (∀ W, Calls Tryd.prog 25 #[.string s, .int .u8 x] W fun e w' => e = .returned (.int .i64 (a.length : Nat)) ∧ W = w') := fun W => by
  have := first_any x s W hx hs
  rw [indexByte_cut, h] at this
  exact this
theorem cut_parts {s : ByteArray} {c : UInt8} {a b : List UInt8} (h : cut1 c s.data.toList = some (a, b)) :
    a.length + 1 ≤ s.size ∧ s.extract (a.length + 1) s.size = mk b ∧ s.extract 0 a.length = mk a ∧ a.length + 1 + b.length = s.size := by
  obtain ⟨hl, _⟩ := cut1_some h
  have hlen := congrArg List.length hl
  rw [List.length_append, List.length_cons, ← Lib.size_eq] at hlen
  refine ⟨by omega, ?_, ?_, by omega⟩
  · rw [ext_drop, hl, show a ++ c :: b = (a ++ [c]) ++ b by simp, List.drop_left' (by simp)]
  · rw [ext_take, hl, List.take_left' rfl]
theorem mk_ne {l : List UInt8} (h : l ≠ []) : (mk l).toList.isEmpty = false := nonempty (by rw [mk_list]; exact h)
theorem rnc (n d r : ByteArray) (h1 : n.size ≤ 1048576) (h2 : d.size ≤ 1048576) (h3 : r.size ≤ 1048576) :
    Hid (∀ W, Calls Tryd.prog 19 #[.agg #[.string n, .string d, .string r]] W fun e w' => e = .returned (.agg #[.string (mk (foldL n.data.toList)), .string (mk (Lib.trimSuffix (foldL d.data.toList) [46])), .string r]) ∧ Below W.heap.size W w') ∧
    Hid (∀ W, Calls Tryd.prog 15 #[.agg #[.string (mk (foldL n.data.toList)), .string (mk (Lib.trimSuffix (foldL d.data.toList) [46])), .string r]] W fun e w' => e = .returned (.bool (ok (jd (mk (foldL n.data.toList)) (mk (Lib.trimSuffix (foldL d.data.toList) [46])) r))) ∧ Below W.heap.size W w') := by
  refine ⟨fun W => rNorm_any n d r W h1 h2, fun W => rIs_any3 _ _ _ W ?_ ?_ h3⟩
  · rw [mk_size, foldL_len, ← Lib.size_eq]; exact h1
  · have := trimF_size d.data.toList
    rw [← Lib.size_eq] at this; omega
theorem pv_fin2 (n d r : ByteArray) : pv (ok (jd (mk (foldL n.data.toList)) (mk (Lib.trimSuffix (foldL d.data.toList) [46])) r)) (mk (foldL n.data.toList)) (mk (Lib.trimSuffix (foldL d.data.toList) [46])) r = pj (fin ⟨n.data.toList, d.data.toList, r.data.toList⟩) := by
  have := pv_fin n.data.toList d.data.toList r.data.toList
  rwa [mk_of] at this
theorem rparse_any (s : ByteArray) (w : World) (hs : s.size ≤ 1048576) :
    Calls Tryd.prog 11 #[.string s] w fun e w' => e = .returned (pj (ps s.data.toList)) ∧ Below w.heap.size w w' := by
  unfold ps
  rcases hc : cut1 47 s.data.toList with _ | ⟨x, y⟩
  · simp only
    have F1 := first_none (x := 47) (by decide) hs hc
    unfold ps2
    rcases hd : cut1 64 s.data.toList with _ | ⟨a, b⟩
    · simp only
      have F2 := first_none (x := 64) (by decide) hs hd
      obtain ⟨NO, IS⟩ := rnc ⟨#[]⟩ s ⟨#[]⟩ (by decide) hs (by decide)
      have := rparse_00 s _ _ w _ F1 F2 NO IS
      rw [pv_fin2] at this
      exact this
    · simp only
      have F2 := first_some (x := 64) (by decide) hs hd
      obtain ⟨q1, q2, q3, q4⟩ := cut_parts hd
      by_cases ha : a = []
      · subst ha
        rw [if_pos rfl]
        exact rparse_ne s (mk b) _ w F1 F2 q1 hs q3 q2
      · rw [if_neg ha]
        obtain ⟨NO, IS⟩ := rnc (mk a) (mk b) ⟨#[]⟩ (by rw [mk_size]; omega) (by rw [mk_size]; omega) (by decide)
        have := rparse_01 s (mk a) (mk b) _ _ _ w _ F1 F2 q1 hs q3 q2 (mk_ne ha) NO IS
        rw [pv_fin2, mk_list, mk_list] at this
        exact this
  · simp only
    have F1 := first_some (x := 47) (by decide) hs hc
    obtain ⟨k1, k2, k3, k4⟩ := cut_parts hc
    by_cases hy : y = []
    · subst hy
      rw [if_pos rfl]
      exact rparse_re s (mk x) _ w F1 k1 hs k2 k3
    · rw [if_neg hy]
      have hx : (mk x).size ≤ 1048576 := by rw [mk_size]; omega
      have hys : (mk y).size ≤ 1048576 := by rw [mk_size]; omega
      unfold ps2
      rcases hd : cut1 64 x with _ | ⟨a, b⟩
      · simp only
        have hd2 : cut1 64 (mk x).data.toList = none := by rw [mk_list]; exact hd
        have F2 := first_none (x := 64) (by decide) hx hd2
        obtain ⟨NO, IS⟩ := rnc ⟨#[]⟩ (mk x) (mk y) (by decide) hx hys
        have := rparse_10 s (mk x) (mk y) _ _ _ w _ F1 F2 k1 hs k2 k3 (mk_ne hy) NO IS
        rw [pv_fin2, mk_list, mk_list] at this
        exact this
      · simp only
        have hd2 : cut1 64 (mk x).data.toList = some (a, b) := by rw [mk_list]; exact hd
        have F2 := first_some (x := 64) (by decide) hx hd2
        obtain ⟨q1, q2, q3, q4⟩ := cut_parts hd2
        by_cases ha : a = []
        · subst ha
          rw [if_pos rfl]
          exact rparse_rne s (mk x) (mk y) (mk b) _ _ w F1 F2 k1 hs k2 k3 (mk_ne hy) q1 hx q3 q2
        · rw [if_neg ha]
          obtain ⟨NO, IS⟩ := rnc (mk a) (mk b) (mk y) (by rw [mk_size]; omega) (by rw [mk_size]; omega) hys
          have := rparse_11 s (mk x) (mk y) (mk a) (mk b) _ _ _ _ w _ F1 F2 k1 hs k2 k3 (mk_ne hy) q1 hx q3 q2 (mk_ne ha) NO IS
          rw [pv_fin2, mk_list, mk_list, mk_list] at this
          exact this
end Go.Proofs.YtddhbhdjjiibbaaDoor
