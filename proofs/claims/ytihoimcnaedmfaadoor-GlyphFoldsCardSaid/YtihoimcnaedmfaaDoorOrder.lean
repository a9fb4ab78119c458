/- The law GlyphOrder's walk: bytes of signs rise as signs do, and those of one sign are no front of another one's. Condition: the decoder's two tables hold what their text lays. -/
import Derived.Test.YtihoimcnaedmfaaDoorLive
import Derived.Test.YtihoimcnaedmfaaDoorSgo
namespace Go.Proofs.YtihoimcnaedmfaaDoor
open Go.RowKit Go.Lib Sg
theorem put_nat {c : Int} (h : (decide (0 ≤ c) && isSg c.toNat) = true) : ∃ n : Nat, c = n ∧ isSg n = true := by
  simp only [Bool.and_eq_true, decide_eq_true_eq] at h
  exact ⟨c.toNat, (Int.toNat_of_nonneg h.1).symm, h.2⟩
theorem enc_apart {c d : Nat} (hc : isSg c = true) (hd : isSg d = true) (h : c ≠ d) : (((⟨(enc d).toArray⟩ : ByteArray).extract 0 (enc c).length).toList == enc c) = false := by
  rw [beq_eq_false_iff_ne, extract_zero, ByteArray.toList_mk]
  exact fun e => h (enc_front hc hd e)
set_option maxHeartbeats 1000000 in
theorem order_walk (c d : Int) (w : World) (_wc : (Lit.int .i64 c).wf = true) (_wd : (Lit.int .i64 d).wf = true) (hG : Gd w) :
    Calls Tryd.prog 10 #[.int .i64 c, .int .i64 d] w fun e w' => e = .returned (.bool true) ∧ Below w.heap.size w w' := by
  have L := Lib.hid (live_any w hG)
  clear hG _wc _wd
  rcases hc : (decide (0 ≤ c) && isSg c.toNat) with _ | _
  · have C := Lib.hid (fun W => put_no c W hc)
    clear hc
    rcases hd : (decide (0 ≤ d) && isSg d.toNat) with _ | _
    · have D := Lib.hid (fun W => put_no d W hd)
      clear hd
      go_enter Tryd.func10, Tryd.ntmps10
      go_wp2_with fail
      refine (C.out _).mono ?_
      rintro r w1 ⟨rfl, rfl⟩
      go_wp2_with fail
      refine (D.out _).mono ?_
      rintro r w1 ⟨rfl, rfl⟩
      go_wp2_with fail
      refine (num_any _ _).mono ?_
      rintro r w1 ⟨rfl, rfl⟩
      go_wp2_with fail
      refine (num_any _ _).mono ?_
      rintro r w1 ⟨rfl, rfl⟩
      go_wp2_with fail
      refine L.out.mono ?_
      rintro r w1 ⟨rfl, hb⟩
      go_wp2
      go_ret
      exact ⟨rfl, hb⟩
    · obtain ⟨d, rfl, hs⟩ := put_nat hd
      have D := Lib.hid (fun W => put_yes d W hs)
      clear hd hs
      go_enter Tryd.func10, Tryd.ntmps10
      go_wp2_with fail
      refine (C.out _).mono ?_
      rintro r w1 ⟨rfl, rfl⟩
      go_wp2_with fail
      refine (D.out _).mono ?_
      rintro r w1 ⟨rfl, rfl⟩
      go_wp2_with fail
      refine (num_any _ _).mono ?_
      rintro r w1 ⟨rfl, rfl⟩
      go_wp2_with fail
      refine (num_any _ _).mono ?_
      rintro r w1 ⟨rfl, rfl⟩
      go_wp2_with fail
      refine L.out.mono ?_
      rintro r w1 ⟨rfl, hb⟩
      go_wp2
      go_ret
      exact ⟨rfl, hb⟩
  · obtain ⟨c, rfl, hs⟩ := put_nat hc
    have C := Lib.hid (fun W => put_yes c W hs)
    have S := Lib.hid hs
    clear hc hs
    rcases hd : (decide (0 ≤ d) && isSg d.toNat) with _ | _
    · have D := Lib.hid (fun W => put_no d W hd)
      clear hd
      go_enter Tryd.func10, Tryd.ntmps10
      go_wp2_with fail
      refine (C.out _).mono ?_
      rintro r w1 ⟨rfl, rfl⟩
      go_wp2_with fail
      refine (D.out _).mono ?_
      rintro r w1 ⟨rfl, rfl⟩
      go_wp2_with fail
      refine (num_any _ _).mono ?_
      rintro r w1 ⟨rfl, rfl⟩
      go_wp2_with fail
      refine (num_any _ _).mono ?_
      rintro r w1 ⟨rfl, rfl⟩
      go_wp2_with fail
      refine L.out.mono ?_
      rintro r w1 ⟨rfl, hb⟩
      go_wp2
      go_ret
      exact ⟨rfl, hb⟩
    · obtain ⟨d, rfl, hs⟩ := put_nat hd
      have D := Lib.hid (fun W => put_yes d W hs)
      have bl := less_enc S.out hs
      have be := enc_beq S.out hs
      rcases Nat.lt_trichotomy c d with h | h | h
      · skip
        have h1 : decide (c < d) = true := by simp; omega
        have h2 : decide (c = d) = false := by simp; omega
        rw [h1] at bl
        rw [h2] at be
        have hf := enc_apart S.out hs (show c ≠ d by omega)
        have h3 : ((c : Int) == d) = false := by rw [beq_eq_false_iff_ne]; omega
        clear h h2 hd hs
        by_cases hk : (enc c).length ≤ (enc d).length
        · skip
          go_enter Tryd.func10, Tryd.ntmps10
          go_wp2_with fail
          refine (C.out _).mono ?_
          rintro r w1 ⟨rfl, rfl⟩
          go_wp2_with fail
          refine (D.out _).mono ?_
          rintro r w1 ⟨rfl, rfl⟩
          go_wp2_with fail
          refine (num_any _ _).mono ?_
          rintro r w1 ⟨rfl, rfl⟩
          go_wp2_with fail
          refine (num_any _ _).mono ?_
          rintro r w1 ⟨rfl, rfl⟩
          go_wp2_with fail
          refine L.out.mono ?_
          rintro r w1 ⟨rfl, hb⟩
          go_wp2
          go_ret
          exact ⟨rfl, hb⟩
        · clear hf
          go_enter Tryd.func10, Tryd.ntmps10
          go_wp2_with fail
          refine (C.out _).mono ?_
          rintro r w1 ⟨rfl, rfl⟩
          go_wp2_with fail
          refine (D.out _).mono ?_
          rintro r w1 ⟨rfl, rfl⟩
          go_wp2_with fail
          refine (num_any _ _).mono ?_
          rintro r w1 ⟨rfl, rfl⟩
          go_wp2_with fail
          refine (num_any _ _).mono ?_
          rintro r w1 ⟨rfl, rfl⟩
          go_wp2_with fail
          refine L.out.mono ?_
          rintro r w1 ⟨rfl, hb⟩
          go_wp2
          go_ret
          exact ⟨rfl, hb⟩
      · subst h
        rw [show decide (c < c) = false by simp] at bl
        clear be hd hs
        go_enter Tryd.func10, Tryd.ntmps10
        go_wp2_with fail
        refine (C.out _).mono ?_
        rintro r w1 ⟨rfl, rfl⟩
        go_wp2_with fail
        refine (D.out _).mono ?_
        rintro r w1 ⟨rfl, rfl⟩
        go_wp2_with fail
        refine (num_any _ _).mono ?_
        rintro r w1 ⟨rfl, rfl⟩
        go_wp2_with fail
        refine (num_any _ _).mono ?_
        rintro r w1 ⟨rfl, rfl⟩
        go_wp2_with fail
        refine L.out.mono ?_
        rintro r w1 ⟨rfl, hb⟩
        go_wp2
        go_ret
        exact ⟨rfl, hb⟩
      · skip
        have h1 : decide (c < d) = false := by simp; omega
        have h2 : decide (c = d) = false := by simp; omega
        rw [h1] at bl
        rw [h2] at be
        have hf := enc_apart S.out hs (show c ≠ d by omega)
        have h3 : ((c : Int) == d) = false := by rw [beq_eq_false_iff_ne]; omega
        clear h h2 hd hs
        by_cases hk : (enc c).length ≤ (enc d).length
        · skip
          go_enter Tryd.func10, Tryd.ntmps10
          go_wp2_with fail
          refine (C.out _).mono ?_
          rintro r w1 ⟨rfl, rfl⟩
          go_wp2_with fail
          refine (D.out _).mono ?_
          rintro r w1 ⟨rfl, rfl⟩
          go_wp2_with fail
          refine (num_any _ _).mono ?_
          rintro r w1 ⟨rfl, rfl⟩
          go_wp2_with fail
          refine (num_any _ _).mono ?_
          rintro r w1 ⟨rfl, rfl⟩
          go_wp2_with fail
          refine L.out.mono ?_
          rintro r w1 ⟨rfl, hb⟩
          go_wp2
          go_ret
          exact ⟨rfl, hb⟩
        · clear hf
          go_enter Tryd.func10, Tryd.ntmps10
          go_wp2_with fail
          refine (C.out _).mono ?_
          rintro r w1 ⟨rfl, rfl⟩
          go_wp2_with fail
          refine (D.out _).mono ?_
          rintro r w1 ⟨rfl, rfl⟩
          go_wp2_with fail
          refine (num_any _ _).mono ?_
          rintro r w1 ⟨rfl, rfl⟩
          go_wp2_with fail
          refine (num_any _ _).mono ?_
          rintro r w1 ⟨rfl, rfl⟩
          go_wp2_with fail
          refine L.out.mono ?_
          rintro r w1 ⟨rfl, hb⟩
          go_wp2
          go_ret
          exact ⟨rfl, hb⟩
end Go.Proofs.YtihoimcnaedmfaaDoor
