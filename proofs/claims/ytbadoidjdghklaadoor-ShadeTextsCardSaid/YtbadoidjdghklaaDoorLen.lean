/- Contracts of glyph.Len and glyph.Check, and of the small functions under them: how many plain signs a text has, or that it is none. Condition: the text has at most 1048576 bytes. -/
import Derived.Test.YtbadoidjdghklaaDoorFst
import Derived.Test.YtbadoidjdghklaaDoorPl
import Derived.Test.YtbadoidjdghklaaDoorTxt
namespace Go.Proofs.YtbadoidjdghklaaDoor
open Go.RowKit Go.Lib Sg

theorem rPlain_any (c : Nat) (w : World) (hc : c ≤ 1114111) :
    Calls Tryd.prog 36 #[.int .i64 c] w fun e w' => e = .returned (.bool (plain c)) ∧ w = w' := by
  by_cases h9 : c = 9
  · subst h9
    go_enter Tryd.func36, Tryd.ntmps36
    go_wp2
    go_ret
    exact ⟨rfl, rfl⟩
  have b9 : ((c : Int) == 9) = false := by rw [beq_eq_false_iff_ne]; omega
  by_cases h10 : c = 10
  · subst h10
    go_enter Tryd.func36, Tryd.ntmps36
    go_wp2
    go_ret
    exact ⟨rfl, rfl⟩
  have b10 : ((c : Int) == 10) = false := by rw [beq_eq_false_iff_ne]; omega
  by_cases h13 : c = 13
  · subst h13
    go_enter Tryd.func36, Tryd.ntmps36
    go_wp2
    go_ret
    exact ⟨rfl, rfl⟩
  have b13 : ((c : Int) == 13) = false := by rw [beq_eq_false_iff_ne]; omega
  by_cases h65534 : c = 65534
  · subst h65534
    go_enter Tryd.func36, Tryd.ntmps36
    go_wp2
    go_ret
    exact ⟨rfl, rfl⟩
  have b65534 : ((c : Int) != 65534) = true := by rw [bne_iff_ne]; omega
  by_cases h65535 : c = 65535
  · subst h65535
    go_enter Tryd.func36, Tryd.ntmps36
    go_wp2
    go_ret
    exact ⟨rfl, rfl⟩
  have b65535 : ((c : Int) != 65535) = true := by rw [bne_iff_ne]; omega
  by_cases h32 : 32 ≤ c
  · have E : Hid (plain c = true) := by show _ = _; rw [plain_iff]; omega
    have d32 : decide (32 ≤ (c : Int)) = true := by simp; omega
    have hi : (c : Int) ≤ 1114111 := by omega
    clear h9 h10 h13 h65534 h65535 h32 hc
    go_enter Tryd.func36, Tryd.ntmps36
    go_wp2
    go_ret
    exact ⟨by rw [E.out]; rfl, rfl⟩
  · have E : Hid (plain c = false) := by show _ = _; rw [Bool.eq_false_iff, ne_eq, plain_iff]; omega
    have d32 : decide (32 ≤ (c : Int)) = false := by simp; omega
    have hi : (c : Int) ≤ 1114111 := by omega
    clear h9 h10 h13 h65534 h65535 h32 hc
    go_enter Tryd.func36, Tryd.ntmps36
    go_wp2
    go_ret
    exact ⟨by rw [E.out]; rfl, rfl⟩
theorem prefix_c (s : ByteArray) (w : World) (b : Bool) (h : ([239, 191, 189] : List UInt8).isPrefixOf s.data.toList = b) :
    Calls Tryd.prog 43 #[.string s, .string ⟨#[239, 191, 189]⟩] w fun e w' => e = .returned (.bool b) ∧ w' = w := by
  subst h
  exact Any.strings_HasPrefix Tryd.lays99 s ⟨#[239, 191, 189]⟩ w
theorem next_at {P : Program} (w : World) (s : ByteArray) (pos c n : Nat) (h : pos < s.size) (hd : Utf8.decode s pos = (c, n)) (ty : TypeId) :
    (Instr.next (.pointer (some ⟨w.heap.size, 0, none⟩)) true ty).run P (w.iter s pos) = .ok (.tuple #[.bool true, .int .i64 pos, .int .i32 c]) (w.iter s (pos + n)) := by
  have := run_next_any (P := P) w s pos ty h
  rw [hd] at this
  exact this

end Go.Proofs.YtbadoidjdghklaaDoor
