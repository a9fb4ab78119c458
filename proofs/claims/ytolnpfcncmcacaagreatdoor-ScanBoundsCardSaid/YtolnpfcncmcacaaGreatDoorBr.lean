/- Contracts of the document's qname and parts at the tags of ScanBounds. -/
import Derived.Test.YtolnpfcncmcacaaGreatDoorBq
namespace Go.Proofs.YtolnpfcncmcacaaGreatDoor
open Go.RowKit Go.Lib Go.Shelf Tg Sn

theorem qname_lit (s q r : ByteArray) (m : Nat) (w : World) (hs : s.size ≤ 100) (hm : m < s.size) (h0 : 0 < m) (h64 : m ≤ 64) (h : ∀ k, k < m → 97 ≤ By.nb s.data.toList k ∧ By.nb s.data.toList k ≤ 122) (he : By.nb s.data.toList m = 32 ∨ By.nb s.data.toList m = 61 ∨ By.nb s.data.toList m = 62)
    (hq : (s.data.toList.take m) = q.data.toList) (hr : s.data.toList.drop m = r.data.toList) :
    Calls Tryz.prog 49 #[.string s] w fun e w' => e = .returned (.tuple #[.string q, .string r, .bool true]) ∧ Below w.heap.size w w' := by
  have := qname_plain s m w (by omega) hm h0 h64 h he
  rw [show s.extract 0 m = q from By.bytes_ext (by rw [By.extract_cut, List.drop_zero, hq]), show s.extract m s.size = r from By.bytes_ext (by rw [By.extract_drop, hr])] at this
  exact this
theorem qname_c (w : World) : Calls Tryz.prog 49 #[.string ⟨#[99, 62]⟩] w fun e w' => e = .returned (.tuple #[.string ⟨#[99]⟩, .string ⟨#[62]⟩, .bool true]) ∧ Below w.heap.size w w' :=
  qname_lit ⟨#[99, 62]⟩ ⟨#[99]⟩ ⟨#[62]⟩ 1 w (by decide) (by decide) (by decide) (by decide) (by decide) (by decide) rfl rfl
theorem qname_a (w : World) : Calls Tryz.prog 49 #[.string ⟨#[97, 32, 120, 109, 108, 110, 115, 61, 39, 98, 39, 62]⟩] w fun e w' => e = .returned (.tuple #[.string ⟨#[97]⟩, .string ⟨#[32, 120, 109, 108, 110, 115, 61, 39, 98, 39, 62]⟩, .bool true]) ∧ Below w.heap.size w w' :=
  qname_lit _ ⟨#[97]⟩ ⟨#[32, 120, 109, 108, 110, 115, 61, 39, 98, 39, 62]⟩ 1 w (by decide) (by decide) (by decide) (by decide) (by decide) (by decide) rfl rfl
theorem qname_x (w : World) : Calls Tryz.prog 49 #[.string ⟨#[120, 109, 108, 110, 115, 61, 39, 98, 39, 62]⟩] w fun e w' => e = .returned (.tuple #[.string ⟨#[120, 109, 108, 110, 115]⟩, .string ⟨#[61, 39, 98, 39, 62]⟩, .bool true]) ∧ Below w.heap.size w w' :=
  qname_lit _ ⟨#[120, 109, 108, 110, 115]⟩ ⟨#[61, 39, 98, 39, 62]⟩ 5 w (by decide) (by decide) (by decide) (by decide) (by decide) (by decide) rfl rfl
theorem cut_c : (⟨#[60, 99, 62]⟩ : ByteArray).extract 1 3 = ⟨#[99, 62]⟩ := By.bytes_ext (by rw [By.extract_cut]; rfl)
theorem cut_62 : (⟨#[62]⟩ : ByteArray).extract 0 1 = ⟨#[62]⟩ := By.bytes_ext (by rw [By.extract_cut]; rfl)
theorem lst_62 : ((⟨#[62]⟩ : ByteArray).extract 0 1).toList = [62] := by rw [cut_62, ByteArray.toList_eq]
theorem res4 {fn : Func} {t u v z : Tmp} (h : fn.results = #[.tmp t, .tmp u, .tmp v, .tmp z]) (tmps : Array Value) (P : Program) (w : World) :
    (results fn tmps).run P w = .ok (.tuple #[tmps.getD t undef, tmps.getD u undef, tmps.getD v undef, tmps.getD z undef]) w := by
  simp [results, h]
theorem parts_c (w : World) : Calls Tryz.prog 81 #[.string ⟨#[60, 99, 62]⟩] w fun e w' => e = .returned (.tuple #[.string ⟨#[99]⟩, .slice none 0 0, .bool false, .bool true]) ∧ Below w.heap.size w w' := by
  have QN := Lib.hid (fun W => qname_c W)
  have BN := Lib.hid (fun W => blank_any 62 W)
  have cc := cut_c
  go_enter Tryz.func81, Tryz.ntmps81
  go_wp2_with fail
  refine (QN.out _).mono ?_
  rintro r w1 ⟨rfl, hb1⟩
  have HB1 := Lib.hid hb1
  clear hb1 QN cc
  go_wp2_with fail
  go_loopw [7, 9] (fun rest l wr => rest = .string ⟨#[62]⟩ ∧ l = .slice none 0 0 ∧ wr = w1) (fun _ _ _ => 0)
  case atStart => exact ⟨rfl, rfl, rfl⟩
  case round =>
    obtain ⟨rfl, rfl, rfl⟩ := hrel
    go_wp2_with fail
    go_loopw [10] (fun k wx => k = .int .i64 0 ∧ wx = wr) (fun _ _ => 0)
    case atStart => exact ⟨rfl, rfl⟩
    case round =>
      obtain ⟨rfl, rfl⟩ := hrel
      go_wp2_with fail
      refine (BN.out _).mono ?_
      rintro r w2 ⟨rfl, rfl⟩
      have t1 : (((⟨#[62]⟩ : ByteArray).extract 0 1).toList == [62]) = true := by rw [lst_62]; rfl
      go_wp2_with fail
      refine bodyPost_ret (res4 rfl _ _ _) rfl ?_
      exact ⟨rfl, HB1.out⟩
end Go.Proofs.YtolnpfcncmcacaaGreatDoor
