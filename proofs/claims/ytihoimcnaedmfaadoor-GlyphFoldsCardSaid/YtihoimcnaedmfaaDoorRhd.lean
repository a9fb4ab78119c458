/- The contract of the document's own Head, and the walks of the laws GlyphFirsts, GlyphChecks, GlyphFolds: the calls of package glyph answer as the document's own functions do. Conditions: a text has at most 1048576 bytes; for the walks, the decoder's two tables hold what their text lays. -/
import Derived.Test.YtihoimcnaedmfaaDoorRth
namespace Go.Proofs.YtihoimcnaedmfaaDoor
open Go.RowKit Go.Lib Sg

set_option maxRecDepth 100000 in
set_option maxHeartbeats 1000000 in
theorem rHead_any (s : ByteArray) (n : Int) (w : World) (hs : s.size ≤ 1048576) :
    Calls Tryd.prog 26 #[.string s, .int .i64 n] w fun e w' => e = .returned (.string ⟨(s.data.toList.take (hd s.data.toList n)).toArray⟩) ∧ w = w' := by
  have hl : s.data.toList.length = s.size := by simp
  obtain ⟨m, hm, hmk⟩ : ∃ m : Nat, min (max n 0) (s.size : Int) = m ∧ ((m = s.size ∧ hd s.data.toList n = s.size) ∨ (m < s.size ∧ hd s.data.toList n = back s.data.toList m)) := by
    refine ⟨(min (max n 0) (s.size : Int)).toNat, by omega, ?_⟩
    unfold hd
    rw [hl]
    by_cases h : (s.size : Int) ≤ n
    · left; rw [if_pos h]; exact ⟨by omega, rfl⟩
    · rw [if_neg h]
      have e : (min (max n 0) (s.size : Int)).toNat = n.toNat := by omega
      rw [e]
      by_cases h0 : n.toNat = s.size
      · left; refine ⟨h0, ?_⟩
        have h1 : n.toNat = 0 := by omega
        rw [← h0, h1]; rfl
      · right; exact ⟨by omega, rfl⟩
  have HL := Lib.hid hl
  clear hl
  go_enter Tryd.func26, Tryd.ntmps26
  go_wp2_with fail
  go_loopw [5] (fun i wr => ∃ k : Nat, i = .int .i64 k ∧ k ≤ s.size ∧ Hid ((k = s.size ∧ hd s.data.toList n = k) ∨ (k < s.size ∧ hd s.data.toList n = back s.data.toList k)) ∧ w = wr) (fun i _ => (RowKit.intOf i).toNat)
  case atStart =>
    refine ⟨m, ?_, by omega, ?_, rfl⟩
    · first | rfl | rw [← hm]
    · rcases hmk with ⟨h1, h2⟩ | h
      · exact .inl ⟨h1, h2.trans h1.symm⟩
      · exact .inr h
  case round =>
    obtain ⟨k, rfl, hk, HK, rfl⟩ := hrel
    clear hm hmk
    have hfin : ∀ (_ : hd s.data.toList n = k), (⟨(s.data.toList.take (hd s.data.toList n)).toArray⟩ : ByteArray) = s.extract 0 k := by
      intro h
      rw [extract_zero, h]
    by_cases hks : k = s.size
    · have E : Hid ((⟨(s.data.toList.take (hd s.data.toList n)).toArray⟩ : ByteArray) = s) := by
        rcases HK.out with ⟨_, h2⟩ | ⟨h1, _⟩
        · show _ = _
          rw [h2, hks, ← HL.out, List.take_length]
        · omega
      clear hfin
      subst hks
      by_cases h0 : (0 : Int) < s.size
      · go_wp2_with fail
        go_ret
        exact ⟨by rw [E.out]; rfl, rfl⟩
      · go_wp2_with fail
        go_ret
        exact ⟨by rw [E.out]; rfl, rfl⟩
    · have hlt : k < s.size := by omega
      have hbk : hd s.data.toList n = back s.data.toList k := by
        rcases HK.out with ⟨h1, _⟩ | ⟨_, h2⟩
        · exact absurd h1 hks
        · exact h2
      by_cases h0 : k = 0
      · subst h0
        have E : Hid ((⟨(s.data.toList.take (hd s.data.toList n)).toArray⟩ : ByteArray) = ByteArray.empty) := by
          show _ = _
          rw [hfin hbk, extract_zero]
          rfl
        clear hfin hbk
        go_wp2_with fail
        go_ret
        exact ⟨by rw [E.out]; rfl, rfl⟩
      · have hp : (0 : Int) < k := by omega
        have hi := byte_nb s k hlt
        have hx := nb_lt s.data.toList k
        obtain ⟨j, hj⟩ : ∃ j, k = j + 1 := ⟨k - 1, by omega⟩
        have hb1 : back s.data.toList k = if inner (nb s.data.toList k) then back s.data.toList j else k := by rw [hj]; rfl
        generalize nb s.data.toList k = y at hi hx hb1
        by_cases hin : 128 ≤ y ∧ y < 192
        · have HB : Hid (hd s.data.toList n = back s.data.toList j) := by
            show _ = _
            rw [hbk, hb1, if_pos ((inner_iff y).2 hin)]
          obtain ⟨q1, q2⟩ := hin
          have hji : (k : Int) - 1 = j := by omega
          have HJ := Lib.hid hj
          clear hfin hbk hb1 hj h0 hks
          go_wp2_with fail
          refine ⟨⟨j, rfl, by have := HJ.out; omega, .inr ⟨by have := HJ.out; omega, HB.out⟩, trivial⟩, by simp [RowKit.intOf]; have := HJ.out; omega⟩
        · have E := Lib.hid (hfin (by rw [hbk, hb1, if_neg (by rw [inner_iff]; exact hin)]))
          clear hfin hbk hb1 hj h0 hks
          by_cases q1 : 128 ≤ y
          · have q2 : 192 ≤ y := by omega
            clear hin
            go_wp2_with fail
            go_ret
            exact ⟨by rw [E.out]; rfl, rfl⟩
          · clear hin
            go_wp2_with fail
            go_ret
            exact ⟨by rw [E.out]; rfl, rfl⟩
end Go.Proofs.YtihoimcnaedmfaaDoor
