/- The contract of the document's parts at the tag of the stream's beginning of ScanBounds. -/
import Derived.Test.YtolnpfcncmcacaaGreatDoorBr
namespace Go.Proofs.YtolnpfcncmcacaaGreatDoor
open Go.RowKit Go.Lib Go.Shelf Tg Sn

theorem cut_a : (⟨#[60, 97, 32, 120, 109, 108, 110, 115, 61, 39, 98, 39, 62]⟩ : ByteArray).extract 1 13 = ⟨#[97, 32, 120, 109, 108, 110, 115, 61, 39, 98, 39, 62]⟩ := By.bytes_ext (by rw [By.extract_cut]; rfl)
theorem cut_r1 : (⟨#[32, 120, 109, 108, 110, 115, 61, 39, 98, 39, 62]⟩ : ByteArray).extract 1 11 = ⟨#[120, 109, 108, 110, 115, 61, 39, 98, 39, 62]⟩ := By.bytes_ext (by rw [By.extract_cut]; rfl)
theorem cut_m1 : (⟨#[61, 39, 98, 39, 62]⟩ : ByteArray).extract 2 3 = ⟨#[98]⟩ := By.bytes_ext (by rw [By.extract_cut]; rfl)
theorem cut_m2 : (⟨#[61, 39, 98, 39, 62]⟩ : ByteArray).extract 4 5 = ⟨#[62]⟩ := By.bytes_ext (by rw [By.extract_cut]; rfl)
theorem lst_r1 : (⟨#[120, 109, 108, 110, 115, 61, 39, 98, 39, 62]⟩ : ByteArray).toList = [120, 109, 108, 110, 115, 61, 39, 98, 39, 62] := by rw [ByteArray.toList_eq]
theorem raw_own {w0 w : World} (h : Below w0.heap.size w0 w) : ((((w.alloc (.cells #[.string ⟨#[120, 109, 108, 110, 115]⟩, .string ⟨#[98]⟩] 122)).alloc (.cells (#[.string ⟨#[120, 109, 108, 110, 115]⟩, .string ⟨#[98]⟩] ++ Builtin.zeroCells #[.string ⟨#[]⟩, .string ⟨#[]⟩] ((Question.appendCap 1 0 122).cut (w.tape (w.drawn + 1) (Question.appendCap 1 0 122)) - 1)) 122)).drew).drew).ownsRow
    w0.heap.size 122 2 (.slice (some ⟨w.heap.size + 1, 0, none⟩) 1 ((Question.appendCap 1 0 122).cut (w.tape (w.drawn + 1) (Question.appendCap 1 0 122)))) 1 [.string ⟨#[120, 109, 108, 110, 115]⟩, .string ⟨#[98]⟩] := by
  have hc : 1 ≤ (Question.appendCap 1 0 122).cut (w.tape (w.drawn + 1) (Question.appendCap 1 0 122)) ∧ (Question.appendCap 1 0 122).cut (w.tape (w.drawn + 1) (Question.appendCap 1 0 122)) ≤ maxLen := by
    generalize w.tape (w.drawn + 1) (Question.appendCap 1 0 122) = a
    have hlt := Nat.mod_lt a (show 0 < 2 ^ 63 - 1 by decide)
    simp only [Question.cut, maxLen]
    omega
  generalize (Question.appendCap 1 0 122).cut (w.tape (w.drawn + 1) (Question.appendCap 1 0 122)) = cap at hc
  have hz := h.size
  refine ⟨rfl, .inr ⟨w.heap.size + 1, cap, #[.string ⟨#[120, 109, 108, 110, 115]⟩, .string ⟨#[98]⟩] ++ Builtin.zeroCells #[.string ⟨#[]⟩, .string ⟨#[]⟩] (cap - 1), rfl, Nat.le_succ_of_le hz, ?_, hc.1, hc.2, ?_, ?_⟩⟩
  · have := heap_alloc_new (w.alloc (.cells #[.string ⟨#[120, 109, 108, 110, 115]⟩, .string ⟨#[98]⟩] 122)) (.cells (#[.string ⟨#[120, 109, 108, 110, 115]⟩, .string ⟨#[98]⟩] ++ Builtin.zeroCells #[.string ⟨#[]⟩, .string ⟨#[]⟩] (cap - 1)) 122)
    rw [show (w.alloc (.cells #[.string ⟨#[120, 109, 108, 110, 115]⟩, .string ⟨#[98]⟩] 122)).heap.size = w.heap.size + 1 by simp] at this
    exact this
  · rw [Array.size_append, size_zeroCells]
    show 2 + (cap - 1) * 2 = cap * 2
    omega
  · simp
set_option maxRecDepth 100000 in
set_option maxHeartbeats 4000000 in
theorem parts_a (w : World) : Calls Tryz.prog 81 #[.string ⟨#[60, 97, 32, 120, 109, 108, 110, 115, 61, 39, 98, 39, 62]⟩] w fun e w' => ∃ l : Value, e = .returned (.tuple #[.string ⟨#[97]⟩, l, .bool false, .bool true]) ∧ w'.ownsRow w.heap.size 122 2 l 1 [.string ⟨#[120, 109, 108, 110, 115]⟩, .string ⟨#[98]⟩] ∧ Below w.heap.size w w' := by
  have QN := Lib.hid (fun W => qname_a W)
  have QX := Lib.hid (fun W => qname_x W)
  have BN := Lib.hid (fun c W => blank_any c W)
  have BN1 := Lib.hid (fun W => blank_any 62 W)
  have cc := cut_a
  go_enter Tryz.func81, Tryz.ntmps81
  go_wp2_with fail
  refine (QN.out _).mono ?_
  rintro r w1 ⟨rfl, hb1⟩
  have HB1 := Lib.hid hb1
  clear hb1 QN cc
  go_wp2_with fail
  go_loopw [7, 9] (fun rest l wr => (rest = .string ⟨#[32, 120, 109, 108, 110, 115, 61, 39, 98, 39, 62]⟩ ∧ l = .slice none 0 0 ∧ wr = w1) ∨ (rest = .string ⟨#[62]⟩ ∧ Hid (wr.ownsRow w.heap.size 122 2 l 1 [.string ⟨#[120, 109, 108, 110, 115]⟩, .string ⟨#[98]⟩]) ∧ Hid (Below w.heap.size w wr))) (fun rest _ _ => match rest with | .string s => s.size | _ => 0)
  case atStart => exact .inl ⟨rfl, rfl, rfl⟩
  case round =>
    rcases hrel with ⟨rfl, rfl, rfl⟩ | ⟨rfl, HR, HB⟩
    · go_wp2_with fail
      go_loopw [10] (fun k wx => (k = .int .i64 0 ∨ k = .int .i64 1) ∧ wx = wr) (fun k _ => 1 - (RowKit.intOf k).toNat)
      case atStart => exact ⟨.inl rfl, rfl⟩
      case round =>
        obtain ⟨rfl | rfl, rfl⟩ := hrel
        · go_wp2_with fail
          refine (BN.out 32 _).mono ?_
          rintro r w2 ⟨rfl, rfl⟩
          go_wp2_with fail
          go_roundw
          case rel => exact ⟨.inr rfl, by trivial⟩
          case measure => simp [RowKit.intOf]
        · have cr := cut_r1
          have t1 : ((⟨#[120, 109, 108, 110, 115, 61, 39, 98, 39, 62]⟩ : ByteArray).toList == [62]) = false := by rw [lst_r1]; rfl
          have t2 : ((⟨#[120, 109, 108, 110, 115, 61, 39, 98, 39, 62]⟩ : ByteArray).toList == [47, 62]) = false := by rw [lst_r1]; rfl
          go_wp2_with fail
          refine (BN.out 120 _).mono ?_
          rintro r w2 ⟨rfl, rfl⟩
          go_wp2_with fail
          refine (QX.out _).mono ?_
          rintro r w3 ⟨rfl, hb3⟩
          have HB3 := Lib.hid (HB1.out.trans (hb3.mono HB1.out.size))
          clear hb3 cr t1 t2
          go_wp2_with fail
          go_loopw [14] (fun j wx => (j = .int .i64 2 ∨ j = .int .i64 3) ∧ Hid (Below w.heap.size w wx)) (fun j _ => 3 - (RowKit.intOf j).toNat)
          case atStart => exact ⟨.inl rfl, HB3.out⟩
          case round =>
            obtain ⟨rfl | rfl, HBj⟩ := hrel
            · have b1 : (⟨#[61, 39, 98, 39, 62]⟩ : ByteArray)[1].toNat = 39 := rfl
              have b2 : (⟨#[61, 39, 98, 39, 62]⟩ : ByteArray)[2].toNat = 98 := rfl
              have q1 : (((98 : Nat) : Int) != ((39 : Nat) : Int)) = true := by decide
              have q2 : (((98 : Nat) : Int) == 60) = false := by decide
              go_wp2_with fail
              go_region
              go_wp2_with fail

              go_roundw
              case rel => exact ⟨.inr rfl, HBj.out.drew⟩
              case measure => simp [RowKit.intOf]
            · have c1 := cut_m1
              have c2 := cut_m2
              have b1 : (⟨#[61, 39, 98, 39, 62]⟩ : ByteArray)[1].toNat = 39 := rfl
              have b2 : (⟨#[61, 39, 98, 39, 62]⟩ : ByteArray)[3].toNat = 39 := rfl
              have q1 : (((39 : Nat) : Int) != ((39 : Nat) : Int)) = false := by decide
              go_wp2_with fail
              go_region
              go_wp2_with fail

              go_roundw
              case rel => exact .inr ⟨rfl, raw_own HBj.out, (((HBj.out.alloc HBj.out.size _).alloc (by have := HBj.out.size; simp; omega) _).drew).drew⟩
              case measure => decide
    · go_wp2_with fail
      go_loopw [10] (fun k wx => k = .int .i64 0 ∧ wx = wr) (fun _ _ => 0)
      case atStart => exact ⟨rfl, rfl⟩
      case round =>
        obtain ⟨rfl, rfl⟩ := hrel
        go_wp2_with fail
        refine (BN1.out _).mono ?_
        rintro r w2 ⟨rfl, rfl⟩
        have t1 : (((⟨#[62]⟩ : ByteArray).extract 0 1).toList == [62]) = true := by rw [lst_62]; rfl
        go_wp2_with fail
        refine bodyPost_ret (res4 rfl _ _ _) rfl ?_
        exact ⟨_, rfl, HR.out, HB.out⟩
end Go.Proofs.YtolnpfcncmcacaaGreatDoor
