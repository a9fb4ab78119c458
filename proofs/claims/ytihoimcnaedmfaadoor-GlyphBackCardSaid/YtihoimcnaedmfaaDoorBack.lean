/- The law GlyphBack's walk: of a sign's bytes the sign is found, with more behind them, too; cut off they are none. Condition: the decoder's two tables hold what their text lays. -/
import Derived.Test.YtihoimcnaedmfaaDoorOrder
namespace Go.Proofs.YtihoimcnaedmfaaDoor
open Go.RowKit Go.Lib Sg
theorem front_cut {c : Nat} (h : isSg c = true) (k : Nat) (hk : k < (enc c).length) : front ((enc c).take k) = none := by
  refine front_none_of fun d r hd e => ?_
  have h1 := front_enc hd (r ++ (enc c).drop k)
  rw [← List.append_assoc, ← e, List.take_append_drop] at h1
  have h2 := front_enc h []
  rw [List.append_nil, h1] at h2
  simp only [Option.some.injEq, Prod.mk.injEq] at h2
  have h3 := congrArg List.length e
  rw [List.length_take, List.length_append] at h3
  omega
set_option maxHeartbeats 1000000 in
theorem back_walk (c : Int) (s : ByteArray) (cut : Int) (w : World) (_wc : (Lit.int .i64 c).wf = true) (ws : s.size ≤ maxLen) (_wk : (Lit.int .i64 cut).wf = true) (hG : Gd w) :
    Calls Tryd.prog 6 #[.int .i64 c, .string s, .int .i64 cut] w fun e w' => e = .returned (.bool true) ∧ Below w.heap.size w w' := by
  have L : Hid (∀ W, Gd W → _) := fun W hW => live_any W hW
  unfold maxLen at ws
  by_cases hbig : (5000 : Int) < s.size
  · have L1 := Lib.hid (live_any w hG)
    clear hG _wc _wk
    go_enter Tryd.func6, Tryd.ntmps6
    go_wp2_with fail
    refine L1.out.mono ?_
    rintro r w1 ⟨rfl, hb⟩
    go_wp2
    go_ret
    exact ⟨rfl, hb⟩
  · rcases hc : (decide (0 ≤ c) && isSg c.toNat) with _ | _
    · have C := Lib.hid (fun W => put_no c W hc)
      have L1 := Lib.hid (live_any w hG)
      clear hc hG _wc _wk
      go_enter Tryd.func6, Tryd.ntmps6
      go_wp2_with fail
      refine (C.out _).mono ?_
      rintro r w1 ⟨rfl, rfl⟩
      go_wp2_with fail
      refine (num_any _ _).mono ?_
      rintro r w1 ⟨rfl, rfl⟩
      go_wp2_with fail
      refine L1.out.mono ?_
      rintro r w1 ⟨rfl, hb⟩
      go_wp2
      go_ret
      exact ⟨rfl, hb⟩
    · obtain ⟨c, rfl, hs⟩ := put_nat hc
      have C := Lib.hid (fun W => put_yes c W hs)
      have S := Lib.hid hs
      have GG := Lib.hid hG
      obtain ⟨l1, l4⟩ := enc_len_le c
      have hf : front ((⟨(enc c).toArray⟩ : ByteArray) ++ s).data.toList = some (c, (enc c).length) := by
        have := front_enc hs s.data.toList
        simpa using this
      have F := Lib.hid (fun W hW => first_yes ((⟨(enc c).toArray⟩ : ByteArray) ++ s) W hW hf)
      clear hc hs hG hf _wc _wk
      by_cases hcut : cut < 0 ∨ ((enc c).length : Int) ≤ cut
      · go_enter Tryd.func6, Tryd.ntmps6
        go_wp2_with fail
        refine (C.out _).mono ?_
        rintro r w1 ⟨rfl, rfl⟩
        go_wp2_with fail
        refine (num_any _ _).mono ?_
        rintro r w1 ⟨rfl, rfl⟩
        go_wp2_with fail
        refine (F.out _ GG.out).mono ?_
        rintro r w1 ⟨rfl, hb1⟩
        go_wp2_with fail
        refine (num_any _ _).mono ?_
        rintro r w2 ⟨rfl, rfl⟩
        go_wp2_with fail
        all_goals
          refine (L.out _ (GG.out.below hb1)).mono ?_
          rintro r w3 ⟨rfl, hb⟩
          go_wp2
          go_ret
          exact ⟨rfl, hb1.trans (hb.mono hb1.size)⟩
      · obtain ⟨k, rfl⟩ := Int.eq_ofNat_of_zero_le (show 0 ≤ cut by omega)
        have hk : k < (enc c).length := by omega
        have hf2 : front ((⟨(enc c).toArray⟩ : ByteArray).extract 0 k).data.toList = none := by
          rw [extract_zero]
          exact front_cut S.out k hk
        have F2 := Lib.hid (fun W hW => first_no _ W hW hf2)
        clear hf2 hcut
        go_enter Tryd.func6, Tryd.ntmps6
        go_wp2_with fail
        refine (C.out _).mono ?_
        rintro r w1 ⟨rfl, rfl⟩
        go_wp2_with fail
        refine (num_any _ _).mono ?_
        rintro r w1 ⟨rfl, rfl⟩
        go_wp2_with fail
        refine (F.out _ GG.out).mono ?_
        rintro r w1 ⟨rfl, hb1⟩
        go_wp2_with fail
        refine (num_any _ _).mono ?_
        rintro r w2 ⟨rfl, rfl⟩
        go_wp2_with fail
        refine (F2.out _ (GG.out.below hb1)).mono ?_
        rintro r w2 ⟨rfl, hb2⟩
        go_wp2_with fail
        refine (num_any _ _).mono ?_
        rintro r w3 ⟨rfl, rfl⟩
        go_wp2_with fail
        refine (L.out _ ((GG.out.below hb1).below hb2)).mono ?_
        rintro r w3 ⟨rfl, hb⟩
        go_wp2
        go_ret
        have z1 := hb1.size
        have z2 := hb2.size
        exact ⟨rfl, (hb1.trans (hb2.mono z1)).trans (hb.mono (by omega))⟩
end Go.Proofs.YtihoimcnaedmfaaDoor
