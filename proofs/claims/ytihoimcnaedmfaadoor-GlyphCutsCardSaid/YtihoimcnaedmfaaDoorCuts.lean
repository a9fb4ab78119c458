/- The law GlyphCuts's walk: a text's front, and what is behind it, are texts; trimmed it is a text, and not longer; folded, too. Condition: the decoder's two tables hold what their text lays. -/
import Derived.Test.YtihoimcnaedmfaaDoorHeads
namespace Go.Proofs.YtihoimcnaedmfaaDoor
open Go.RowKit Go.Lib Sg
theorem size_mk (l : List UInt8) : (⟨l.toArray⟩ : ByteArray).size = l.length := by show l.toArray.size = _; rw [List.size_toArray]
theorem trim_len (l : List UInt8) : (trim l).length ≤ l.length := trimS_len l _
set_option maxHeartbeats 1000000 in
theorem cuts_walk (s : ByteArray) (n : Int) (w : World) (ws : s.size ≤ maxLen) (_wn : (Lit.int .i64 n).wf = true) (hG : Gd w) :
    Calls Tryd.prog 11 #[.string s, .int .i64 n] w fun e w' => e = .returned (.bool true) ∧ Below w.heap.size w w' := by
  have L : Hid (∀ W, Gd W → _) := fun W hW => live_any W hW
  unfold maxLen at ws
  by_cases hbig : (5000 : Int) < s.size
  · have L1 := Lib.hid (live_any w hG)
    clear hG _wn
    go_enter Tryd.func11, Tryd.ntmps11
    go_wp2_with fail
    refine L1.out.mono ?_
    rintro r w1 ⟨rfl, hb⟩
    go_wp2
    go_ret
    exact ⟨rfl, hb⟩
  · have hs : s.size ≤ 5000 := by omega
    have GG := Lib.hid hG
    clear hG _wn
    by_cases ht : ∃ cs, IsT s.data.toList cs
    · obtain ⟨cs, ht⟩ := ht
      have K := Lib.hid (fun W => check_yes s W (by omega) ht)
      have hl : s.data.toList.length = s.size := by simp
      -- the front
      obtain ⟨⟨a, b, e, _, e2⟩, _, _⟩ := hd_text ht n
      have hle := hd_le s.data.toList n
      have F := Lib.hid (fun W => head_any s n W (by omega))
      generalize hd s.data.toList n = k at e2 hle F
      have hsz : (⟨(s.data.toList.take k).toArray⟩ : ByteArray).size = k := by rw [size_mk, List.length_take]; omega
      have K2 := Lib.hid (fun W => check_yes (s.extract k s.size) W (by rw [ByteArray.size_extract]; omega) (cs := b) (by rw [extract_drop]; exact IsT_right ht e e2))
      rw [hl] at hle
      generalize (⟨(s.data.toList.take k).toArray⟩ : ByteArray) = R at F hsz
      -- trimmed
      have T1 : Hid (∀ W, Calls Tryd.prog 23 #[.string s] W fun e w' => e = .returned (.string ⟨(trim s.data.toList).toArray⟩) ∧ Below W.heap.size W w') := fun W => trim_any s W (by omega)
      have htl := trim_len s.data.toList
      rw [hl] at htl
      have T2 : Hid (∀ W, Calls Tryd.prog 23 #[.string ⟨(trim s.data.toList).toArray⟩] W fun e w' => e = .returned (.string ⟨(trim s.data.toList).toArray⟩) ∧ Below W.heap.size W w') := fun W => by
        have h : Calls Tryd.prog 23 #[.string ⟨(trim s.data.toList).toArray⟩] W fun e w' => e = .returned (.string ⟨(trim (trim s.data.toList)).toArray⟩) ∧ Below W.heap.size W w' := trim_any ⟨(trim s.data.toList).toArray⟩ W (by rw [size_mk]; omega)
        rwa [trim_trim] at h
      have T3 : Hid (∀ W, Calls Tryd.prog 23 #[.string ((⟨#[32]⟩ : ByteArray) ++ s ++ ⟨#[10]⟩)] W fun e w' => e = .returned (.string ⟨(trim s.data.toList).toArray⟩) ∧ Below W.heap.size W w') := fun W => by
        have h : Calls Tryd.prog 23 #[.string ((⟨#[32]⟩ : ByteArray) ++ s ++ ⟨#[10]⟩)] W fun e w' => e = .returned (.string ⟨(trim ((⟨#[32]⟩ : ByteArray) ++ s ++ ⟨#[10]⟩ : ByteArray).data.toList).toArray⟩) ∧ Below W.heap.size W w' :=
          trim_any _ W (by rw [ByteArray.size_append, ByteArray.size_append]; show 1 + s.size + 1 ≤ _; omega)
        have e1 : ((⟨#[32]⟩ : ByteArray) ++ s ++ ⟨#[10]⟩ : ByteArray).data.toList = [32] ++ s.data.toList ++ [10] := by simp
        rwa [e1, trim_around [32] [10] _ (by decide) (by decide)] at h
      obtain ⟨tb, htb⟩ := trim_text ht
      have K3 := Lib.hid (fun W => check_yes ⟨(trim s.data.toList).toArray⟩ W (by rw [size_mk]; omega) htb)
      have hsz2 : (⟨(trim s.data.toList).toArray⟩ : ByteArray).size = (trim s.data.toList).length := size_mk _
      generalize (⟨(trim s.data.toList).toArray⟩ : ByteArray) = TT at T1 T2 T3 K3 hsz2
      have hle2 : TT.size ≤ s.size := by rw [hsz2]; exact htl
      -- folded
      have F1 := Lib.hid (fun W => fold_any s W (by omega))
      have K4 := Lib.hid (fun W => check_yes ⟨(foldL s.data.toList).toArray⟩ W (by rw [size_mk, foldL_len]; omega) (fold_text ht))
      clear hl ht e e2 htl htb hsz2
      go_enter Tryd.func11, Tryd.ntmps11
      go_wp2_with fail
      refine (K.out _).mono ?_
      rintro r w1 ⟨rfl, hb1⟩
      go_wp2_with fail
      refine (num_any _ _).mono ?_
      rintro r w2 ⟨rfl, rfl⟩
      go_wp2_with fail
      refine (F.out _).mono ?_
      rintro r w2 ⟨rfl, hb2⟩
      go_wp2_with fail
      refine (T1.out _).mono ?_
      rintro r w3 ⟨rfl, hb3⟩
      go_wp2_with fail
      refine (K2.out _).mono ?_
      rintro r w4 ⟨rfl, hb4⟩
      go_wp2_with fail
      refine (num_any _ _).mono ?_
      rintro r w5 ⟨rfl, rfl⟩
      go_wp2_with fail
      refine (K3.out _).mono ?_
      rintro r w5 ⟨rfl, hb5⟩
      go_wp2_with fail
      refine (num_any _ _).mono ?_
      rintro r w6 ⟨rfl, rfl⟩
      go_wp2_with fail
      refine (T2.out _).mono ?_
      rintro r w6 ⟨rfl, hb6⟩
      go_wp2_with fail
      refine (T3.out _).mono ?_
      rintro r w7 ⟨rfl, hb7⟩
      go_wp2_with fail
      refine (F1.out _).mono ?_
      rintro r w8 ⟨rfl, hb8⟩
      go_wp2_with fail
      refine (K4.out _).mono ?_
      rintro r w9 ⟨rfl, hb9⟩
      go_wp2_with fail
      refine (num_any _ _).mono ?_
      rintro r wa ⟨rfl, rfl⟩
      go_wp2_with fail
      have z1 := hb1.size
      have z2 := hb2.size
      have z3 := hb3.size
      have z4 := hb4.size
      have z5 := hb5.size
      have z6 := hb6.size
      have z7 := hb7.size
      have z8 := hb8.size
      refine (L.out _ (((((((((GG.out.below hb1).below hb2).below hb3).below hb4).below hb5).below hb6).below hb7).below hb8).below hb9)).mono ?_
      rintro r wa ⟨rfl, hba⟩
      go_wp2
      go_ret
      have z9 := hb9.size
      exact ⟨rfl, ((((((((hb1.trans (hb2.mono z1)).trans (hb3.mono (by omega))).trans (hb4.mono (by omega))).trans (hb5.mono (by omega))).trans (hb6.mono (by omega))).trans (hb7.mono (by omega))).trans (hb8.mono (by omega))).trans (hb9.mono (by omega))).trans (hba.mono (by omega))⟩
    · have K := Lib.hid (fun W => check_no s W (by omega) (fun cs h => ht ⟨cs, h⟩))
      clear ht
      go_enter Tryd.func11, Tryd.ntmps11
      go_wp2_with fail
      refine (K.out _).mono ?_
      rintro r w1 ⟨rfl, hb1⟩
      go_wp2_with fail
      refine (num_any _ _).mono ?_
      rintro r w2 ⟨rfl, rfl⟩
      go_wp2_with fail
      refine (L.out _ (GG.out.below hb1)).mono ?_
      rintro r w2 ⟨rfl, hb2⟩
      go_wp2
      go_ret
      exact ⟨rfl, hb1.trans (hb2.mono hb1.size)⟩
end Go.Proofs.YtihoimcnaedmfaaDoor
