/- The walks of the laws GlyphHeads and GlyphCuts: the front of a text is a text, and has not more bytes; what is behind it, too; trimmed and folded it is a text. Condition: the decoder's two tables hold what their text lays. -/
import Derived.Test.YtihoimcnaedmfaaDoorLive
import Derived.Test.YtihoimcnaedmfaaDoorTxg
namespace Go.Proofs.YtihoimcnaedmfaaDoor
open Go.RowKit Go.Lib Sg
set_option maxHeartbeats 1000000 in
theorem heads_walk (s : ByteArray) (n : Int) (w : World) (ws : s.size ≤ maxLen) (_wn : (Lit.int .i64 n).wf = true) (hG : Gd w) :
    Calls Tryd.prog 9 #[.string s, .int .i64 n] w fun e w' => e = .returned (.bool true) ∧ Below w.heap.size w w' := by
  have L : Hid (∀ W, Gd W → _) := fun W hW => live_any W hW
  unfold maxLen at ws
  by_cases hbig : (5000 : Int) < s.size
  · have L1 := Lib.hid (live_any w hG)
    clear hG _wn
    go_enter Tryd.func9, Tryd.ntmps9
    go_wp2_with fail
    refine L1.out.mono ?_
    rintro r w1 ⟨rfl, hb⟩
    go_wp2
    go_ret
    exact ⟨rfl, hb⟩
  · have hs : s.size ≤ 5000 := by omega
    have GG := Lib.hid hG
    clear hG _wn
    by_cases ht : ∃ cs, IsT s.data.toList cs
    · obtain ⟨cs, ht⟩ := ht
      have K := Lib.hid (fun W => check_yes s W (by omega) ht)
      have hh := hd_text ht n
      have hle := hd_le s.data.toList n
      have hl : s.data.toList.length = s.size := by simp
      have F := Lib.hid (fun W => head_any s n W (by omega))
      generalize hd s.data.toList n = k at hh hle F
      obtain ⟨⟨a, b, e, e1, e2⟩, h1, h2⟩ := hh
      have K2 := Lib.hid (fun W => check_yes ⟨(s.data.toList.take k).toArray⟩ W (by show (s.data.toList.take k).toArray.size ≤ _; rw [List.size_toArray, List.length_take]; omega) (IsT_left ht e e1))
      rw [hl] at hle h2
      have hx : s.extract 0 k = ⟨(s.data.toList.take k).toArray⟩ := extract_zero s k
      have hsz : (⟨(s.data.toList.take k).toArray⟩ : ByteArray).size = k := by show (s.data.toList.take k).toArray.size = _; rw [List.size_toArray, List.length_take, hl]; omega
      generalize hR : (⟨(s.data.toList.take k).toArray⟩ : ByteArray) = R at F K2 hx hsz
      clear hl ht e e1 e2 hR
      by_cases hA : k = s.size
      · subst hA
        clear h2
        go_enter Tryd.func9, Tryd.ntmps9
        go_wp2_with fail
        refine (K.out _).mono ?_
        rintro r w1 ⟨rfl, hb1⟩
        go_wp2_with fail
        refine (num_any _ _).mono ?_
        rintro r w2 ⟨rfl, rfl⟩
        go_wp2_with fail
        refine (F.out _).mono ?_
        rintro r w2 ⟨rfl, hb2⟩
        go_wp2_with fail
        refine (K2.out _).mono ?_
        rintro r w3 ⟨rfl, hb3⟩
        go_wp2_with fail
        refine (num_any _ _).mono ?_
        rintro r w4 ⟨rfl, rfl⟩
        go_wp2_with fail
        have z1 := hb1.size
        have z2 := hb2.size
        refine (L.out _ (((GG.out.below hb1).below hb2).below hb3)).mono ?_
        rintro r w4 ⟨rfl, hb4⟩
        go_wp2
        go_ret
        have z3 := hb3.size
        exact ⟨rfl, ((hb1.trans (hb2.mono z1)).trans (hb3.mono (by omega))).trans (hb4.mono (by omega))⟩
      · by_cases hn : n < 0
        · obtain rfl : k = 0 := by omega
          obtain rfl : R = ⟨#[]⟩ := by
            apply ByteArray.ext
            exact Array.eq_empty_of_size_eq_zero hsz
          have h6 : ((0 : Int) == s.size) = false := by rw [beq_eq_false_iff_ne]; omega
          have h7 : (0 : Int) < s.size := by omega
          clear hsz hA h2
          go_enter Tryd.func9, Tryd.ntmps9
          go_wp2_with fail
          refine (K.out _).mono ?_
          rintro r w1 ⟨rfl, hb1⟩
          go_wp2_with fail
          refine (num_any _ _).mono ?_
          rintro r w2 ⟨rfl, rfl⟩
          go_wp2_with fail
          refine (F.out _).mono ?_
          rintro r w2 ⟨rfl, hb2⟩
          go_wp2_with fail
          refine (K2.out _).mono ?_
          rintro r w3 ⟨rfl, hb3⟩
          go_wp2_with fail
          refine (num_any _ _).mono ?_
          rintro r w4 ⟨rfl, rfl⟩
          go_wp2_with fail
          have z1 := hb1.size
          have z2 := hb2.size
          refine (L.out _ (((GG.out.below hb1).below hb2).below hb3)).mono ?_
          rintro r w4 ⟨rfl, hb4⟩
          go_wp2
          go_ret
          have z3 := hb3.size
          exact ⟨rfl, ((hb1.trans (hb2.mono z1)).trans (hb3.mono (by omega))).trans (hb4.mono (by omega))⟩
        · have h5 : n - k < 4 := by omega
          have h6 : ((k : Int) == s.size) = false := by rw [beq_eq_false_iff_ne]; omega
          clear hA h2
          go_enter Tryd.func9, Tryd.ntmps9
          go_wp2_with fail
          refine (K.out _).mono ?_
          rintro r w1 ⟨rfl, hb1⟩
          go_wp2_with fail
          refine (num_any _ _).mono ?_
          rintro r w2 ⟨rfl, rfl⟩
          go_wp2_with fail
          refine (F.out _).mono ?_
          rintro r w2 ⟨rfl, hb2⟩
          go_wp2_with fail
          refine (K2.out _).mono ?_
          rintro r w3 ⟨rfl, hb3⟩
          go_wp2_with fail
          refine (num_any _ _).mono ?_
          rintro r w4 ⟨rfl, rfl⟩
          go_wp2_with fail
          have z1 := hb1.size
          have z2 := hb2.size
          refine (L.out _ (((GG.out.below hb1).below hb2).below hb3)).mono ?_
          rintro r w4 ⟨rfl, hb4⟩
          go_wp2
          go_ret
          have z3 := hb3.size
          exact ⟨rfl, ((hb1.trans (hb2.mono z1)).trans (hb3.mono (by omega))).trans (hb4.mono (by omega))⟩
    · have K := Lib.hid (fun W => check_no s W (by omega) (fun cs h => ht ⟨cs, h⟩))
      clear ht
      go_enter Tryd.func9, Tryd.ntmps9
      go_wp2_with fail
      refine (K.out _).mono ?_
      rintro r w1 ⟨rfl, hb1⟩
      go_wp2_with fail
      refine (num_any _ _).mono ?_
      rintro r w2 ⟨rfl, rfl⟩
      go_wp2_with fail
      refine (L.out _ (GG.out.below hb1)).mono ?_
      rintro r w2 ⟨rfl, hb2⟩
      go_wp2
      go_ret
      exact ⟨rfl, hb1.trans (hb2.mono hb1.size)⟩
end Go.Proofs.YtihoimcnaedmfaaDoor
