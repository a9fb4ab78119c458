/- Contracts of glyph.First and of the document's own answer to it: the sign at a text's front. Condition: the decoder's two tables hold what their text lays. -/
import Derived.Test.YtbadoidjdghklaaDoorGly
namespace Go.Proofs.YtbadoidjdghklaaDoor
open Go.RowKit Go.Lib Sg

/-- The decoder's two tables are as their text lays them. -/
def Gd (w : World) : Prop := Lib.Utf8Tabs 2 3 w
theorem Gd.below {w w' : World} (h : Gd w) (hb : Below w.heap.size w w') : Gd w' := Utf8Tabs_below h hb

theorem decodeGo_eq (s : ByteArray) : Lib.decodeGo s = dec s.data.toList := by
  unfold Lib.decodeGo
  by_cases h : s.size = 0
  · rw [if_pos h]
    unfold dec
    rw [if_pos (by rw [← Lib.size_eq]; exact h)]
  · rw [if_neg h, decode_drop s 0 (by omega), List.drop_zero]

theorem decode_c (s : ByteArray) (w : World) (hG : Gd w) {c n : Nat} (h : dec s.data.toList = (c, n)) :
    Calls Tryd.prog 44 #[.string s] w fun e w' => e = .returned (.tuple #[.int .i32 c, .int .i64 n]) ∧ Below w.heap.size w w' := by
  have hc := Any.utf8_DecodeRuneInString Tryd.lays197 s w hG
  rw [decodeGo_eq, h] at hc
  exact hc

theorem front_dec {l : List UInt8} {c n : Nat} (h : front l = some (c, n)) : dec l = (c, n) ∧ c ≤ 1114111 ∧ 1 ≤ n ∧ n ≤ 4 ∧ (c = 65533 → 2 ≤ n) := by
  obtain ⟨hs, hn, r, hr⟩ := front_some h
  have hb := (isSg_iff c).1 hs
  have hl := enc_len_le c
  unfold front at h
  split at h
  · cases h
  · rename_i hno
    simp only [Option.some.injEq] at h
    rw [h] at hno
    refine ⟨h, by omega, by omega, by omega, fun e => ?_⟩
    simp only at hno
    omega
theorem front_dec_none {l : List UInt8} (h : front l = none) : ∃ n, dec l = (65533, n) ∧ n < 2 := by
  unfold front at h
  split at h
  · rename_i hy
    unfold dec at hy ⊢
    by_cases h0 : l.length = 0
    · rw [if_pos h0]; exact ⟨0, rfl, by omega⟩
    · rw [if_neg h0] at hy ⊢
      rcases hd : decodeN l.length (nb l 0) (nb l 1) (nb l 2) (nb l 3) with ⟨c, k⟩
      rw [hd] at hy
      have hs := decN_split _ _ _ _ _ _ _ (nb_lt l 1) (nb_lt l 2) (nb_lt l 3) hd
      simp only at hy
      have e1 : c = 65533 := by omega
      have e2 : k = 1 := by omega
      subst e1 e2
      exact ⟨1, rfl, by omega⟩
  · cases h

set_option maxHeartbeats 400000 in
theorem first_yes (s : ByteArray) (w : World) (hG : Gd w) {c n : Nat} (h : front s.data.toList = some (c, n)) :
    Calls Tryd.prog 37 #[.string s] w fun e w' => e = .returned (.tuple #[.int .i64 c, .int .i64 n, .int .i64 0]) ∧ Below w.heap.size w w' := by
  obtain ⟨hd, hc, h1, h4, h2⟩ := front_dec h
  have hcon := decode_c s w hG hd
  have H := Lib.hid hcon
  have hci : (c : Int) ≤ 1114111 := by omega
  clear h hd hcon hG
  by_cases e : c = 65533
  · have n2 : decide ((n : Int) < 2) = false := by have := h2 e; simp; omega
    have b1 : ((c : Int) == 65533) = true := by rw [e]; rfl
    clear e h2
    go_enter Tryd.func37, Tryd.ntmps37
    go_wp2_with fail
    refine H.out.mono ?_
    rintro r w' ⟨rfl, hb⟩
    go_wp2
    go_ret3
    exact ⟨rfl, hb⟩
  · have b1 : ((c : Int) == 65533) = false := by rw [beq_eq_false_iff_ne]; omega
    clear e h2
    go_enter Tryd.func37, Tryd.ntmps37
    go_wp2_with fail
    refine H.out.mono ?_
    rintro r w' ⟨rfl, hb⟩
    go_wp2
    go_ret3
    exact ⟨rfl, hb⟩
theorem first_no (s : ByteArray) (w : World) (hG : Gd w) (h : front s.data.toList = none) :
    Calls Tryd.prog 37 #[.string s] w fun e w' => e = .returned (.tuple #[.int .i64 0, .int .i64 0, .int .i64 10]) ∧ Below w.heap.size w w' := by
  obtain ⟨n, hd, hn⟩ := front_dec_none h
  have hcon := decode_c s w hG hd
  have H := Lib.hid hcon
  have n2 : decide ((n : Int) < 2) = true := by simp; omega
  clear h hd hcon hG
  go_enter Tryd.func37, Tryd.ntmps37
  go_wp2_with fail
  refine H.out.mono ?_
  rintro r w' ⟨rfl, hb⟩
  go_wp2
  go_ret3
  exact ⟨rfl, hb⟩
end Go.Proofs.YtbadoidjdghklaaDoor
