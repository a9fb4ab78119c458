/- The walks of the laws GlyphFirsts, GlyphChecks, GlyphFolds: the calls of package glyph answer as the document's own functions do. Condition: the decoder's two tables hold what their text lays. -/
import Derived.Test.YtihoimcnaedmfaaDoorRhd
namespace Go.Proofs.YtihoimcnaedmfaaDoor
open Go.RowKit Go.Lib Sg

set_option maxHeartbeats 2000000 in
theorem firsts_walk (s : ByteArray) (c : Int) (w : World) (ws : s.size ≤ maxLen) (_wc : (Lit.int .i64 c).wf = true) (hG : Gd w) :
    Calls Tryd.prog 3 #[.string s, .int .i64 c] w fun e w' => e = .returned (.bool true) ∧ Below w.heap.size w w' := by
  have L : Hid (∀ W, Gd W → _) := fun W hW => live_any W hW
  unfold maxLen at ws
  by_cases hbig : (5000 : Int) < s.size
  · have L1 := Lib.hid (live_any w hG)
    clear hG _wc
    go_enter Tryd.func3, Tryd.ntmps3
    go_wp2_with fail
    refine L1.out.mono ?_
    rintro r w1 ⟨rfl, hb⟩
    go_wp2
    go_ret
    exact ⟨rfl, hb⟩
  · have hs : s.size ≤ 5000 := by omega
    have GG := Lib.hid hG
    clear hG _wc
    rcases hf : front s.data.toList with _ | ⟨d, n⟩
    · have F := Lib.hid (fun W hW => first_no s W hW hf)
      have R := Lib.hid (fun W => rFirst_no s W (by omega) hf)
      clear hf
      rcases hc : (decide (0 ≤ c) && isSg c.toNat) with _ | _
      · have P := Lib.hid (fun W => put_no c W hc)
        have Q := Lib.hid (fun W => rPut_no c W hc)
        clear hc
        go_enter Tryd.func3, Tryd.ntmps3
        go_wp2_with fail
        refine (F.out _ GG.out).mono ?_
        rintro r w1 ⟨rfl, hb1⟩
        have HB1 : Hid (Below w.heap.size w w1) := hb1
        clear hb1
        go_wp2_with fail
        refine (R.out _).mono ?_
        rintro r w2 ⟨rfl, hb2⟩
        have HB2 : Hid (Below w.heap.size w w2) := HB1.out.trans (hb2.mono HB1.out.size)
        clear hb2
        go_wp2_with fail
        refine (P.out _).mono ?_
        rintro r wq ⟨rfl, rfl⟩
        go_wp2_with fail
        refine (Q.out _).mono ?_
        rintro r wq ⟨rfl, rfl⟩
        go_wp2_with fail
        refine (num_any _ _).mono ?_
        rintro r wq ⟨rfl, rfl⟩
        go_wp2_with fail
        refine (num_any _ _).mono ?_
        rintro r wq ⟨rfl, rfl⟩
        go_wp2_with fail
        refine (L.out _ (GG.out.below HB2.out)).mono ?_
        rintro r w3 ⟨rfl, hb3⟩
        have HB3 : Hid (Below w.heap.size w w3) := HB2.out.trans (hb3.mono HB2.out.size)
        clear hb3
        go_wp2
        go_ret
        exact ⟨rfl, HB3.out⟩
      · obtain ⟨c, rfl, hsg⟩ := put_nat hc
        have P := Lib.hid (fun W => put_yes c W hsg)
        have Q := Lib.hid (fun W => rPut_yes c W hsg)
        clear hc hsg
        go_enter Tryd.func3, Tryd.ntmps3
        go_wp2_with fail
        refine (F.out _ GG.out).mono ?_
        rintro r w1 ⟨rfl, hb1⟩
        have HB1 : Hid (Below w.heap.size w w1) := hb1
        clear hb1
        go_wp2_with fail
        refine (R.out _).mono ?_
        rintro r w2 ⟨rfl, hb2⟩
        have HB2 : Hid (Below w.heap.size w w2) := HB1.out.trans (hb2.mono HB1.out.size)
        clear hb2
        go_wp2_with fail
        refine (P.out _).mono ?_
        rintro r wq ⟨rfl, rfl⟩
        go_wp2_with fail
        refine (Q.out _).mono ?_
        rintro r w3 ⟨rfl, hb3⟩
        have HB3 : Hid (Below w.heap.size w w3) := HB2.out.trans (hb3.mono HB2.out.size)
        clear hb3
        go_wp2_with fail
        refine (num_any _ _).mono ?_
        rintro r wq ⟨rfl, rfl⟩
        go_wp2_with fail
        refine (num_any _ _).mono ?_
        rintro r wq ⟨rfl, rfl⟩
        go_wp2_with fail
        refine (L.out _ (GG.out.below HB3.out)).mono ?_
        rintro r w4 ⟨rfl, hb4⟩
        have HB4 : Hid (Below w.heap.size w w4) := HB3.out.trans (hb4.mono HB3.out.size)
        clear hb4
        go_wp2
        go_ret
        exact ⟨rfl, HB4.out⟩
    · have F := Lib.hid (fun W hW => first_yes s W hW hf)
      have R := Lib.hid (fun W => rFirst_yes s W (by omega) hf)
      clear hf
      rcases hc : (decide (0 ≤ c) && isSg c.toNat) with _ | _
      · have P := Lib.hid (fun W => put_no c W hc)
        have Q := Lib.hid (fun W => rPut_no c W hc)
        clear hc
        go_enter Tryd.func3, Tryd.ntmps3
        go_wp2_with fail
        refine (F.out _ GG.out).mono ?_
        rintro r w1 ⟨rfl, hb1⟩
        have HB1 : Hid (Below w.heap.size w w1) := hb1
        clear hb1
        go_wp2_with fail
        refine (R.out _).mono ?_
        rintro r w2 ⟨rfl, hb2⟩
        have HB2 : Hid (Below w.heap.size w w2) := HB1.out.trans (hb2.mono HB1.out.size)
        clear hb2
        go_wp2_with fail
        refine (P.out _).mono ?_
        rintro r wq ⟨rfl, rfl⟩
        go_wp2_with fail
        refine (Q.out _).mono ?_
        rintro r wq ⟨rfl, rfl⟩
        go_wp2_with fail
        refine (num_any _ _).mono ?_
        rintro r wq ⟨rfl, rfl⟩
        go_wp2_with fail
        refine (num_any _ _).mono ?_
        rintro r wq ⟨rfl, rfl⟩
        go_wp2_with fail
        refine (L.out _ (GG.out.below HB2.out)).mono ?_
        rintro r w3 ⟨rfl, hb3⟩
        have HB3 : Hid (Below w.heap.size w w3) := HB2.out.trans (hb3.mono HB2.out.size)
        clear hb3
        go_wp2
        go_ret
        exact ⟨rfl, HB3.out⟩
      · obtain ⟨c, rfl, hsg⟩ := put_nat hc
        have P := Lib.hid (fun W => put_yes c W hsg)
        have Q := Lib.hid (fun W => rPut_yes c W hsg)
        clear hc hsg
        go_enter Tryd.func3, Tryd.ntmps3
        go_wp2_with fail
        refine (F.out _ GG.out).mono ?_
        rintro r w1 ⟨rfl, hb1⟩
        have HB1 : Hid (Below w.heap.size w w1) := hb1
        clear hb1
        go_wp2_with fail
        refine (R.out _).mono ?_
        rintro r w2 ⟨rfl, hb2⟩
        have HB2 : Hid (Below w.heap.size w w2) := HB1.out.trans (hb2.mono HB1.out.size)
        clear hb2
        go_wp2_with fail
        refine (P.out _).mono ?_
        rintro r wq ⟨rfl, rfl⟩
        go_wp2_with fail
        refine (Q.out _).mono ?_
        rintro r w3 ⟨rfl, hb3⟩
        have HB3 : Hid (Below w.heap.size w w3) := HB2.out.trans (hb3.mono HB2.out.size)
        clear hb3
        go_wp2_with fail
        refine (num_any _ _).mono ?_
        rintro r wq ⟨rfl, rfl⟩
        go_wp2_with fail
        refine (num_any _ _).mono ?_
        rintro r wq ⟨rfl, rfl⟩
        go_wp2_with fail
        refine (L.out _ (GG.out.below HB3.out)).mono ?_
        rintro r w4 ⟨rfl, hb4⟩
        have HB4 : Hid (Below w.heap.size w w4) := HB3.out.trans (hb4.mono HB3.out.size)
        clear hb4
        go_wp2
        go_ret
        exact ⟨rfl, HB4.out⟩

theorem trim_is (s : ByteArray) (W : World) (hs : s.size ≤ 1048576) : Calls Tryd.prog 23 #[.string s] W fun e w' => e = .returned (.string ⟨(trim s.data.toList).toArray⟩) ∧ Below W.heap.size W w' := trim_any s W hs
set_option maxHeartbeats 2000000 in
theorem folds_walk (s : ByteArray) (n : Int) (w : World) (ws : s.size ≤ maxLen) (_wn : (Lit.int .i64 n).wf = true) (hG : Gd w) :
    Calls Tryd.prog 5 #[.string s, .int .i64 n] w fun e w' => e = .returned (.bool true) ∧ Below w.heap.size w w' := by
  have L : Hid (∀ W, Gd W → _) := fun W hW => live_any W hW
  unfold maxLen at ws
  by_cases hbig : (5000 : Int) < s.size
  · have L1 := Lib.hid (live_any w hG)
    clear hG _wn
    go_enter Tryd.func5, Tryd.ntmps5
    go_wp2_with fail
    refine L1.out.mono ?_
    rintro r w1 ⟨rfl, hb⟩
    go_wp2
    go_ret
    exact ⟨rfl, hb⟩
  · have hs : s.size ≤ 5000 := by omega
    have GG := Lib.hid hG
    have F := Lib.hid (fun W => fold_any s W (by omega))
    have RF := Lib.hid (fun W => rFold_any s W (by omega))
    have T := Lib.hid (fun W => trim_is s W (by omega))
    have RT := Lib.hid (fun W => rTrim_any s W (by omega))
    have H := Lib.hid (fun W => head_any s n W (by omega))
    have RH := Lib.hid (fun W => rHead_any s n W (by omega))
    generalize (⟨(foldL s.data.toList).toArray⟩ : ByteArray) = x1 at F RF
    generalize (⟨(trim s.data.toList).toArray⟩ : ByteArray) = x2 at T RT
    generalize (⟨(s.data.toList.take (hd s.data.toList n)).toArray⟩ : ByteArray) = x3 at H RH
    clear hG _wn
    go_enter Tryd.func5, Tryd.ntmps5
    go_wp2_with fail
    refine (F.out _).mono ?_
    rintro r w1 ⟨rfl, hb1⟩
    have HB1 : Hid (Below w.heap.size w w1) := hb1
    clear hb1
    go_wp2_with fail
    refine (RF.out _).mono ?_
    rintro r w2 ⟨rfl, hb2⟩
    have HB2 : Hid (Below w.heap.size w w2) := HB1.out.trans (hb2.mono HB1.out.size)
    clear hb2
    go_wp2_with fail
    refine (T.out _).mono ?_
    rintro r w3 ⟨rfl, hb3⟩
    have HB3 : Hid (Below w.heap.size w w3) := HB2.out.trans (hb3.mono HB2.out.size)
    clear hb3
    go_wp2_with fail
    refine (RT.out _).mono ?_
    rintro r wq ⟨rfl, rfl⟩
    go_wp2_with fail
    refine (H.out _).mono ?_
    rintro r w4 ⟨rfl, hb4⟩
    have HB4 : Hid (Below w.heap.size w w4) := HB3.out.trans (hb4.mono HB3.out.size)
    clear hb4
    go_wp2_with fail
    refine (RH.out _).mono ?_
    rintro r wq ⟨rfl, rfl⟩
    go_wp2_with fail
    refine (L.out _ (GG.out.below HB4.out)).mono ?_
    rintro r w5 ⟨rfl, hb5⟩
    have HB5 : Hid (Below w.heap.size w w5) := HB4.out.trans (hb5.mono HB4.out.size)
    clear hb5
    go_wp2
    go_ret
    exact ⟨rfl, HB5.out⟩

theorem rSigns_yes (s : ByteArray) (w : World) (hs : s.size ≤ 1048576) {cs : List Nat} (h : IsT s.data.toList cs) :
    Calls Tryd.prog 18 #[.string s] w fun e w' => (∃ v, e = .returned (.tuple #[v, .bool true]) ∧ w'.ownsRow w.heap.size 3 1 v cs.length (sgnVals cs)) ∧ Below w.heap.size w w' :=
  (rSigns_any s w hs).mono fun e w' hp => by
    rcases hp with ⟨⟨ds, v, hd, he, ho⟩ | ⟨hn, _⟩, hb⟩
    · rw [h.unique hd]; exact ⟨⟨v, he, ho⟩, hb⟩
    · exact absurd h (hn cs)
theorem rSigns_no (s : ByteArray) (w : World) (hs : s.size ≤ 1048576) (h : ∀ cs, ¬ IsT s.data.toList cs) :
    Calls Tryd.prog 18 #[.string s] w fun e w' => e = .returned (.tuple #[.slice none 0 0, .bool false]) ∧ Below w.heap.size w w' :=
  (rSigns_any s w hs).mono fun e w' hp => by
    rcases hp with ⟨⟨ds, v, hd, _, _⟩ | ⟨_, he⟩, hb⟩
    · exact absurd hd (h ds)
    · exact ⟨he, hb⟩
theorem own_shape {w : World} {base e size n : Nat} {v : Value} {xs : List Value} (h : w.ownsRow base e size v n xs) : ∃ a c, v = .slice a n c := by
  rcases h.2 with ⟨rfl, rfl⟩ | ⟨g, cap, cur, rfl, _⟩
  · exact ⟨none, 0, rfl⟩
  · exact ⟨_, cap, rfl⟩
/-- Signs of a text, its list's length alone. -/
theorem rSigns_len (s : ByteArray) (w : World) (hs : s.size ≤ 1048576) {cs : List Nat} (h : IsT s.data.toList cs) :
    Calls Tryd.prog 18 #[.string s] w fun e w' => (∃ a c, e = .returned (.tuple #[.slice a cs.length c, .bool true])) ∧ Below w.heap.size w w' :=
  (rSigns_yes s w hs h).mono fun e w' ⟨⟨v, he, ho⟩, hb⟩ => by
    obtain ⟨a, c, rfl⟩ := own_shape ho
    exact ⟨⟨a, c, he⟩, hb⟩
set_option maxHeartbeats 2000000 in
theorem checks_walk (s : ByteArray) (w : World) (ws : s.size ≤ maxLen) (hG : Gd w) :
    Calls Tryd.prog 4 #[.string s] w fun e w' => e = .returned (.bool true) ∧ Below w.heap.size w w' := by
  have L : Hid (∀ W, Gd W → _) := fun W hW => live_any W hW
  unfold maxLen at ws
  by_cases hbig : (5000 : Int) < s.size
  · have L1 := Lib.hid (live_any w hG)
    clear hG
    go_enter Tryd.func4, Tryd.ntmps4
    go_wp2_with fail
    refine L1.out.mono ?_
    rintro r w1 ⟨rfl, hb⟩
    go_wp2
    go_ret
    exact ⟨rfl, hb⟩
  · have hs : s.size ≤ 5000 := by omega
    have GG := Lib.hid hG
    clear hG
    by_cases ht : ∃ cs, IsT s.data.toList cs
    · obtain ⟨cs, ht⟩ := ht
      have S := Lib.hid (fun W => rSigns_len s W (by omega) ht)
      have N := Lib.hid (fun W => len_yes s W (by omega) ht)
      have K := Lib.hid (fun W => check_yes s W (by omega) ht)
      have hn := signs_le ht
      clear ht
      go_enter Tryd.func4, Tryd.ntmps4
      go_wp2_with fail
      refine (S.out _).mono ?_
      rintro r w1 ⟨⟨va, vc, rfl⟩, hb1⟩
      have HB1 : Hid (Below w.heap.size w w1) := hb1
      clear hb1
      go_wp2_with fail
      refine (N.out _).mono ?_
      rintro r w2 ⟨rfl, hb2⟩
      have HB2 : Hid (Below w.heap.size w w2) := HB1.out.trans (hb2.mono HB1.out.size)
      clear hb2
      go_wp2_with fail
      refine (K.out _).mono ?_
      rintro r w3 ⟨rfl, hb3⟩
      have HB3 : Hid (Below w.heap.size w w3) := HB2.out.trans (hb3.mono HB2.out.size)
      clear hb3
      go_wp2_with fail
      refine (num_any _ _).mono ?_
      rintro r wq ⟨rfl, rfl⟩
      go_wp2_with fail
      refine (num_any _ _).mono ?_
      rintro r wq ⟨rfl, rfl⟩
      go_wp2_with fail
      refine (L.out _ (GG.out.below HB3.out)).mono ?_
      rintro r w4 ⟨rfl, hb4⟩
      have HB4 : Hid (Below w.heap.size w w4) := HB3.out.trans (hb4.mono HB3.out.size)
      clear hb4
      go_wp2
      go_ret
      exact ⟨rfl, HB4.out⟩
    · have hno : ∀ cs, ¬ IsT s.data.toList cs := fun cs h => ht ⟨cs, h⟩
      have S := Lib.hid (fun W => rSigns_no s W (by omega) hno)
      have N := Lib.hid (fun W => len_no s W (by omega) hno)
      have K := Lib.hid (fun W => check_no s W (by omega) hno)
      clear ht hno
      go_enter Tryd.func4, Tryd.ntmps4
      go_wp2_with fail
      refine (S.out _).mono ?_
      rintro r w1 ⟨rfl, hb1⟩
      have HB1 : Hid (Below w.heap.size w w1) := hb1
      clear hb1
      go_wp2_with fail
      refine (N.out _).mono ?_
      rintro r w2 ⟨rfl, hb2⟩
      have HB2 : Hid (Below w.heap.size w w2) := HB1.out.trans (hb2.mono HB1.out.size)
      clear hb2
      go_wp2_with fail
      refine (K.out _).mono ?_
      rintro r w3 ⟨rfl, hb3⟩
      have HB3 : Hid (Below w.heap.size w w3) := HB2.out.trans (hb3.mono HB2.out.size)
      clear hb3
      go_wp2_with fail
      refine (num_any _ _).mono ?_
      rintro r wq ⟨rfl, rfl⟩
      go_wp2_with fail
      refine (num_any _ _).mono ?_
      rintro r wq ⟨rfl, rfl⟩
      go_wp2_with fail
      refine (num_any _ _).mono ?_
      rintro r wq ⟨rfl, rfl⟩
      go_wp2_with fail
      refine (K.out _).mono ?_
      rintro r w4 ⟨rfl, hb4⟩
      have HB4 : Hid (Below w.heap.size w w4) := HB3.out.trans (hb4.mono HB3.out.size)
      clear hb4
      go_wp2_with fail
      refine (num_any _ _).mono ?_
      rintro r wq ⟨rfl, rfl⟩
      go_wp2_with fail
      refine (L.out _ (GG.out.below HB4.out)).mono ?_
      rintro r w5 ⟨rfl, hb5⟩
      have HB5 : Hid (Below w.heap.size w w5) := HB4.out.trans (hb5.mono HB4.out.size)
      clear hb5
      go_wp2
      go_ret
      exact ⟨rfl, HB5.out⟩
end Go.Proofs.YtihoimcnaedmfaaDoor
