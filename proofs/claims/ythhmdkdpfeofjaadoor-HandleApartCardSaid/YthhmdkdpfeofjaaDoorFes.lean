/- The contract of escape's firstEscape and startsEscape: the byte for which the escape at a text's front stands. Condition: the text has at most 1048576 bytes. -/
import Derived.Test.YthhmdkdpfeofjaaDoorEs1
namespace Go.Proofs.YthhmdkdpfeofjaaDoor
open Go.RowKit Go.Lib By Esc

/-- What the front's escape stands for, by the program. -/
def FeP (l : List UInt8) (w : World) (e : Ending) (w' : World) : Prop :=
  ((∃ c, esc l = some c ∧ e = .returned (.tuple #[.int .u8 c, .bool true])) ∨ (esc l = none ∧ e = .returned (.tuple #[.int .u8 0, .bool false]))) ∧ Below w.heap.size w w'
theorem ix_any (a : Nat) (w : World) (ha : a < 256) : Calls Tryd.prog 55 #[.string ⟨#[48, 49, 50, 51, 52, 53, 54, 55, 56, 57, 97, 98, 99, 100, 101, 102]⟩, .int .u8 a] w fun e w' => e = .returned (.int .i64 (hxI a)) ∧ w' = w :=
  (Any.strings_IndexByte Tryd.lays137 DIG a w).mono fun e w' ⟨he, hw⟩ => ⟨by rw [he, show Lib.indexByte DIG.data.toList ((a : Int).toNat.toUInt8) = hxI a from dig_index ⟨a, ha⟩], hw⟩
theorem ix_yes {a h : Nat} (w : World) (ha : hx a = some h) : Calls Tryd.prog 55 #[.string ⟨#[48, 49, 50, 51, 52, 53, 54, 55, 56, 57, 97, 98, 99, 100, 101, 102]⟩, .int .u8 a] w fun e w' => e = .returned (.int .i64 h) ∧ w' = w := by
  have h1 := hx_range ha
  have h2 := ix_any a w (by omega)
  rwa [show hxI a = (h : Int) by unfold hxI; rw [ha]] at h2
theorem ix_no {a : Nat} (w : World) (h : a < 256) (ha : hx a = none) : Calls Tryd.prog 55 #[.string ⟨#[48, 49, 50, 51, 52, 53, 54, 55, 56, 57, 97, 98, 99, 100, 101, 102]⟩, .int .u8 a] w fun e w' => e = .returned (.int .i64 (-1)) ∧ w' = w := by
  have h2 := ix_any a w h
  rwa [show hxI a = -1 by unfold hxI; rw [ha]] at h2
theorem or_byte : ∀ h l : Fin 16, bits BinOp.or IntKind.i64 ((h.val : Int) * 16) l.val % 256 = ((h.val * 16 + l.val : Nat) : Int) := by decide +kernel
set_option maxRecDepth 100000 in
set_option maxHeartbeats 4000000 in
theorem firstEscape_any (s : ByteArray) (w : World) (hs : s.size ≤ 1048576) : Calls Tryd.prog 42 #[.string s] w (FeP s.data.toList w) := by
  have hl : s.data.toList.length = s.size := len_size s
  by_cases h3 : s.size < 3
  · have HN : Hid (esc s.data.toList = none) := esc_short (by omega)
    have HW : Hid (Below w.heap.size w w) := Below.refl _ _
    have f3 : decide ((s.size : Int) < 3) = true := by simp; omega
    clear h3 hl
    go_enter Tryd.func42, Tryd.ntmps42
    go_wp2_with fail
    go_ret2
    exact ⟨.inr ⟨HN.out, rfl⟩, HW.out⟩
  · have f3 : decide ((s.size : Int) < 3) = false := by simp; omega
    have p0 : 0 < s.size := by omega
    have p1 : 1 < s.size := by omega
    have p2 : 2 < s.size := by omega
    have hb := byte_nb s 0 p0
    generalize hy : nb s.data.toList 0 = y at hb
    by_cases h92 : y = 92
    · have hb1 := byte_nb s 1 p1
      have hb2 := byte_nb s 2 p2
      have HE : Hid (esc s.data.toList = two (nb s.data.toList 1) (nb s.data.toList 2)) := esc_two (by omega) (by omega)
      have a256 := nb_lt s.data.toList 1
      have b256 := nb_lt s.data.toList 2
      generalize nb s.data.toList 1 = a at hb1 HE a256
      generalize nb s.data.toList 2 = b at hb2 HE b256
      subst h92
      have i0 : (0 : Int) < s.size := by omega
      have i1 : (1 : Int) < s.size := by omega
      have i2 : (2 : Int) < s.size := by omega
      clear hl hy
      have HW := Lib.hid (fun n => below_drewN w n)
      rcases ha : hx a with _ | h
      · have HA := Lib.hid (fun W => ix_no W a256 ha)
        have HN : Hid (esc s.data.toList = none) := HE.out.trans (by unfold two; rw [ha])
        have HC := Lib.hid (fun W => ix_any b W b256)
        generalize hxI b = v at HC
        clear ha HE a256 b256
        go_enter Tryd.func42, Tryd.ntmps42
        go_wp2_with fail
        go_quiet ((go_at_call 55; first | exact Calls.quiet_of_same (HA.out _) | exact Calls.quiet_of_same (HC.out _)))
        go_wp2_with fail
        go_ret2
        exact ⟨.inr ⟨HN.out, rfl⟩, HW.out _⟩
      · rcases hB : hx b with _ | l
        · have HA := Lib.hid (fun W => ix_yes W ha)
          have HC := Lib.hid (fun W => ix_no W b256 hB)
          have HN : Hid (esc s.data.toList = none) := HE.out.trans (by unfold two; rw [ha, hB])
          have fh : decide ((h : Int) < 0) = false := by simp
          clear ha hB HE a256 b256
          go_enter Tryd.func42, Tryd.ntmps42
          go_wp2_with fail
          go_quiet ((go_at_call 55; first | exact Calls.quiet_of_same (HA.out _) | exact Calls.quiet_of_same (HC.out _)))
          go_wp2_with fail
          go_ret2
          exact ⟨.inr ⟨HN.out, rfl⟩, HW.out _⟩
        · have c1 := hx_lt ha
          have c2 := hx_lt hB
          have HA := Lib.hid (fun W => ix_yes W ha)
          have HC := Lib.hid (fun W => ix_yes W hB)
          have HT : Hid (esc s.data.toList = if h * 16 + l = 92 ∨ bar (h * 16 + l) = true then some (h * 16 + l) else none) := HE.out.trans (by unfold two; rw [ha, hB])
          have fh : decide ((h : Int) < 0) = false := by simp
          have fl : decide ((l : Int) < 0) = false := by simp
          have fb : bits BinOp.or IntKind.i64 ((h : Int) * 16) l % 256 = ((h * 16 + l : Nat) : Int) := or_byte ⟨h, c1⟩ ⟨l, c2⟩
          generalize h * 16 + l = c at fb HT
          clear ha hB HE a256 b256
          by_cases h92 : c = 92
          · subst h92
            have HY : Hid (esc s.data.toList = some 92) := HT.out
            clear HT
            go_enter Tryd.func42, Tryd.ntmps42
            go_wp2_with fail
            go_quiet ((go_at_call 55; first | exact Calls.quiet_of_same (HA.out _) | exact Calls.quiet_of_same (HC.out _)))
            go_wp2_with fail
            go_ret2
            exact ⟨.inl ⟨92, HY.out, by rw [← fb]; rfl⟩, HW.out _⟩
          · have f92c : bne (c : Int) 92 = true := by simp; omega
            cases hbar : bar c with
            | true =>
              have HY : Hid (esc s.data.toList = some c) := HT.out.trans (by rw [hbar, if_pos (.inr rfl)])
              have HBr := Lib.hid hbar
              clear HT hbar h92
              go_enter Tryd.func42, Tryd.ntmps42
              go_wp2_with fail
              go_quiet ((go_at_call 55; first | exact Calls.quiet_of_same (HA.out _) | exact Calls.quiet_of_same (HC.out _)))
              go_wp2_with fail
              refine (isBarred_any c _).mono ?_
              rintro r w2 ⟨rfl, hb2⟩
              rw [HBr.out]
              have HW2 := Lib.hid ((HW.out _).trans (hb2.mono (HW.out _).size))
              clear hb2
              go_wp2_with fail
              go_ret2
              exact ⟨.inl ⟨c, HY.out, rfl⟩, HW2.out⟩
            | false =>
              have HN : Hid (esc s.data.toList = none) := HT.out.trans (by rw [hbar, if_neg (by simp; omega)])
              have HBr := Lib.hid hbar
              clear HT hbar h92
              go_enter Tryd.func42, Tryd.ntmps42
              go_wp2_with fail
              go_quiet ((go_at_call 55; first | exact Calls.quiet_of_same (HA.out _) | exact Calls.quiet_of_same (HC.out _)))
              go_wp2_with fail
              refine (isBarred_any c _).mono ?_
              rintro r w2 ⟨rfl, hb2⟩
              rw [HBr.out]
              have HW2 := Lib.hid ((HW.out _).trans (hb2.mono (HW.out _).size))
              clear hb2
              go_wp2_with fail
              go_ret2
              exact ⟨.inr ⟨HN.out, rfl⟩, HW2.out⟩
    · have HN : Hid (esc s.data.toList = none) := esc_no (.inr (by omega))
      have HW : Hid (Below w.heap.size w w) := Below.refl _ _
      have f92 : (y == 92) = false := by rw [beq_eq_false_iff_ne]; omega
      have f92b : bne (y : Int) 92 = true := by simp; omega
      have i0 : (0 : Int) < s.size := by omega
      clear hl hy h92
      go_enter Tryd.func42, Tryd.ntmps42
      go_wp2_with fail
      go_ret2
      exact ⟨.inr ⟨HN.out, rfl⟩, HW.out⟩
theorem startsEscape_any (s : ByteArray) (w : World) (hs : s.size ≤ 1048576) : Calls Tryd.prog 34 #[.string s] w fun e w' => e = .returned (.bool (esc s.data.toList).isSome) ∧ Below w.heap.size w w' := by
  have HF := Lib.hid (firstEscape_any s w hs)
  go_enter Tryd.func34, Tryd.ntmps34
  go_wp2_with fail
  refine HF.out.mono ?_
  rintro r w2 ⟨⟨c, he, rfl⟩ | ⟨he, rfl⟩, hb2⟩
  · have H := Lib.hid he
    clear he
    go_wp2_with fail
    go_ret
    exact ⟨by rw [H.out]; rfl, hb2⟩
  · have H := Lib.hid he
    clear he
    go_wp2_with fail
    go_ret
    exact ⟨by rw [H.out]; rfl, hb2⟩

end Go.Proofs.YthhmdkdpfeofjaaDoor
