/- Contracts of glyph.Head and of the document's own answer to it: a text's longest front that tears no sign. Condition: a string's length is one that a row of bytes may have. -/
import Derived.Test.YtihoimcnaedmfaaDoorFst
namespace Go.Proofs.YtihoimcnaedmfaaDoor
open Go.RowKit Go.Lib Sg

def inner (b : Nat) : Bool := decide (128 ≤ b) && decide (b < 192)
theorem and_byte : ∀ x : Fin 256, (bits BinOp.and IntKind.u8 ((x.val : Nat) : Int) 192 == 128) = inner x.val := by decide +kernel
theorem isInner_any (x : Nat) (w : World) (hx : x < 256) :
    Calls Tryd.prog 36 #[.int .u8 x] w fun e w' => e = .returned (.bool (inner x)) ∧ w = w' := by
  go_enter Tryd.func36, Tryd.ntmps36
  go_wp2
  go_ret
  exact ⟨by rw [← and_byte ⟨x, hx⟩]; rfl, rfl⟩
theorem clone_any (s : ByteArray) (w : World) (hs : s.size ≤ 281474976710656) :
    Calls Tryd.prog 33 #[.string s] w fun e w' => e = .returned (.string s) ∧ Below w.heap.size w w' := by
  have hc := Any.stringslite_Clone Tryd.laysM316 s w hs
  change Calls Tryd.prog 39 _ _ _ at hc
  have H := Lib.hid hc
  clear hc hs
  go_enter Tryd.func33, Tryd.ntmps33
  go_wp2_with fail
  refine H.out.mono ?_
  rintro r w' ⟨rfl, hb⟩
  go_wp2
  go_ret
  exact ⟨rfl, hb⟩

/-- From k downward the first place at which no sign is torn. -/
def back (l : List UInt8) : Nat → Nat
  | 0 => 0
  | k + 1 => if inner (nb l (k + 1)) then back l k else k + 1
theorem back_le (l : List UInt8) : ∀ k, back l k ≤ k
  | 0 => Nat.le_refl _
  | k + 1 => by
    unfold back; split
    · have := back_le l k; omega
    · exact Nat.le_refl _
/-- How long a text's front of at most n bytes is. -/
def hd (l : List UInt8) (n : Int) : Nat := if (l.length : Int) ≤ n then l.length else back l n.toNat
theorem hd_le (l : List UInt8) (n : Int) : hd l n ≤ l.length := by
  unfold hd; split
  · exact Nat.le_refl _
  · have := back_le l n.toNat; omega
theorem byte_nb (s : ByteArray) (k : Nat) (h : k < s.size) : (s[k]'h).toNat = nb s.data.toList k := by
  unfold nb
  have h' : k < s.data.size := h
  simp [List.getD_eq_getElem?_getD, Array.getElem?_eq_getElem h']
  rfl
theorem extract_zero (s : ByteArray) (k : Nat) : s.extract 0 k = ⟨(s.data.toList.take k).toArray⟩ := by
  apply ByteArray.ext
  apply Array.toList_inj.1
  rw [Lib.extract_data]
  simp

set_option maxHeartbeats 400000 in
theorem head_any (s : ByteArray) (n : Int) (w : World) (hs : s.size ≤ 1048576) :
    Calls Tryd.prog 25 #[.string s, .int .i64 n] w fun e w' => e = .returned (.string ⟨(s.data.toList.take (hd s.data.toList n)).toArray⟩) ∧ Below w.heap.size w w' := by
  have hl : s.data.toList.length = s.size := by simp
  by_cases hbig : (s.size : Int) ≤ n
  · have E : Hid ((⟨(s.data.toList.take (hd s.data.toList n)).toArray⟩ : ByteArray) = s) := by
      show _ = s
      unfold hd
      rw [if_pos (by rw [hl]; exact hbig), List.take_length]
    have HL := Lib.hid hl
    clear hl
    go_enter Tryd.func25, Tryd.ntmps25
    go_wp2_with fail
    refine (clone_any _ _ (by omega)).mono ?_
    rintro r w' ⟨rfl, hb⟩
    go_wp2
    go_ret
    exact ⟨by rw [E.out]; rfl, hb⟩
  · have E : Hid (hd s.data.toList n = back s.data.toList n.toNat) := by
      show hd s.data.toList n = _
      unfold hd
      rw [if_neg (by rw [hl]; exact hbig)]
    have HL := Lib.hid hl
    clear hl
    by_cases hneg : n ≤ 0
    · have e0 : n.toNat = 0 := by omega
      have em : (max n 0).toNat = 0 := by omega
      have E2 : Hid ((⟨(s.data.toList.take (hd s.data.toList n)).toArray⟩ : ByteArray) = s.extract 0 (max n 0).toNat) := by
        show _ = _
        rw [extract_zero, E.out, e0, em]
        rfl
      clear e0 em
      go_enter Tryd.func25, Tryd.ntmps25
      go_wp2_with fail
      go_loopw [1] (fun i wr => i = .int .i64 n ∧ w = wr) (fun _ _ => 0)
      case atStart => exact ⟨rfl, rfl⟩
      case round =>
        obtain ⟨rfl, rfl⟩ := hrel
        go_wp2_with fail
        refine (clone_any _ _ (by rw [ByteArray.size_extract]; omega)).mono ?_
        rintro r w' ⟨rfl, hb⟩
        go_wp2
        go_ret
        exact ⟨by rw [E2.out]; rfl, hb⟩
    · obtain ⟨m, rfl⟩ := Int.eq_ofNat_of_zero_le (show 0 ≤ n by omega)
      go_enter Tryd.func25, Tryd.ntmps25
      go_wp2_with fail
      go_loopw [1] (fun i wr => ∃ k : Nat, i = .int .i64 k ∧ k < s.size ∧ back s.data.toList k = back s.data.toList m ∧ w = wr) (fun i _ => (RowKit.intOf i).toNat)
      case atStart => exact ⟨m, rfl, by omega, rfl, rfl⟩
      case round =>
        obtain ⟨k, rfl, hk, hbk, rfl⟩ := hrel
        have HB := Lib.hid hbk
        clear hbk
        by_cases h0 : k = 0
        · subst h0
          have E2 : Hid ((⟨(s.data.toList.take (hd s.data.toList (m : Int))).toArray⟩ : ByteArray) = ByteArray.empty) := by
            show _ = _
            rw [E.out, Int.toNat_natCast, ← HB.out]
            rfl
          go_wp2_with fail
          refine (clone_any _ _ (by simp)).mono ?_
          rintro r w' ⟨rfl, hb⟩
          go_wp2
          go_ret
          exact ⟨by rw [E2.out]; rfl, hb⟩
        · have hp : (0 : Int) < k := by omega
          have hi := byte_nb s k hk
          by_cases hin : inner (nb s.data.toList k) = true
          · go_wp2_with fail
            refine (isInner_any _ _ (nb_lt _ _)).mono ?_
            rintro r w' ⟨rfl, rfl⟩
            go_wp2_with fail
            have e1 : back s.data.toList (k - 1) = back s.data.toList k := by
              obtain ⟨j, rfl⟩ : ∃ j, k = j + 1 := ⟨k - 1, by omega⟩
              show back s.data.toList j = if inner (nb s.data.toList (j + 1)) then back s.data.toList j else j + 1
              rw [if_pos hin]
            refine ⟨⟨k - 1, by rw [Int.natCast_sub (by omega)]; rfl, by omega, e1.trans HB.out, trivial⟩, by simp [RowKit.intOf]; omega⟩
          · have hin' : inner (nb s.data.toList k) = false := by simpa using hin
            have E2 : Hid ((⟨(s.data.toList.take (hd s.data.toList (m : Int))).toArray⟩ : ByteArray) = s.extract 0 k) := by
              show _ = _
              obtain ⟨j, rfl⟩ : ∃ j, k = j + 1 := ⟨k - 1, by omega⟩
              rw [extract_zero, E.out, Int.toNat_natCast, ← HB.out]
              show (⟨(s.data.toList.take (if inner (nb s.data.toList (j + 1)) then back s.data.toList j else j + 1)).toArray⟩ : ByteArray) = _
              rw [hin']
              rfl
            clear hin
            go_wp2_with fail
            refine (isInner_any _ _ (nb_lt _ _)).mono ?_
            rintro r w' ⟨rfl, rfl⟩
            go_wp2_with fail
            refine (clone_any _ _ (by simp; omega)).mono ?_
            rintro r w' ⟨rfl, hb⟩
            go_wp2
            go_ret
            exact ⟨by rw [E2.out]; rfl, hb⟩
end Go.Proofs.YtihoimcnaedmfaaDoor
