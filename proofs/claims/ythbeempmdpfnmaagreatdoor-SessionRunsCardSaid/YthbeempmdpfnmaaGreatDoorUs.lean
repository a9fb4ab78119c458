/- The document's Salted. Conditions: those of each theorem's head. -/
import Derived.Test.YthbeempmdpfnmaaGreatDoorSg
import Derived.Test.YthbeempmdpfnmaaGreatDoorRq
import Derived.Test.YthbeempmdpfnmaaGreatDoorMd
namespace Go.Proofs.YthbeempmdpfnmaaGreatDoor.M
open Go.RowKit Go.Lib Go.Shelf By Dg
set_option maxRecDepth 100000 in
set_option maxHeartbeats 8000000 in
theorem rsalted_any (k p : ByteArray) (w : World) (hk : k.size ≤ 40000) (hp : p.size ≤ 40000) : Calls Tryz.prog 50 #[.string k, .string p] w fun e w' => e = .returned (.string ⟨(md5 (k.data.toList ++ md5 p.data.toList ++ (⟨#[65, 79, 76, 32, 73, 110, 115, 116, 97, 110, 116, 32, 77, 101, 115, 115, 101, 110, 103, 101, 114, 32, 40, 83, 77, 41]⟩ : ByteArray).data.toList)).toArray⟩) ∧ Below w.heap.size w w' := by
  have H1 := Lib.hid (rmd5_any p w (by omega))
  have hm : (⟨(md5 p.data.toList).toArray⟩ : ByteArray).size = 16 := by rw [Lib.size_eq]; exact md5_length _
  have HE : Hid ((k ++ ⟨(md5 p.data.toList).toArray⟩ ++ (⟨#[65, 79, 76, 32, 73, 110, 115, 116, 97, 110, 116, 32, 77, 101, 115, 115, 101, 110, 103, 101, 114, 32, 40, 83, 77, 41]⟩ : ByteArray)).data.toList = k.data.toList ++ md5 p.data.toList ++ (⟨#[65, 79, 76, 32, 73, 110, 115, 116, 97, 110, 116, 32, 77, 101, 115, 115, 101, 110, 103, 101, 114, 32, 40, 83, 77, 41]⟩ : ByteArray).data.toList) := by show _ = _; rw [append_list, append_list]
  generalize (⟨(md5 p.data.toList).toArray⟩ : ByteArray) = m at H1 hm HE
  have H2 := Lib.hid (fun W => rmd5_any (k ++ m ++ (⟨#[65, 79, 76, 32, 73, 110, 115, 116, 97, 110, 116, 32, 77, 101, 115, 115, 101, 110, 103, 101, 114, 32, 40, 83, 77, 41]⟩ : ByteArray)) W (by rw [ByteArray.size_append, ByteArray.size_append, show (⟨#[65, 79, 76, 32, 73, 110, 115, 116, 97, 110, 116, 32, 77, 101, 115, 115, 101, 110, 103, 101, 114, 32, 40, 83, 77, 41]⟩ : ByteArray).size = 26 from rfl]; omega))
  rw [HE.out] at H2
  generalize (⟨(md5 (k.data.toList ++ md5 p.data.toList ++ (⟨#[65, 79, 76, 32, 73, 110, 115, 116, 97, 110, 116, 32, 77, 101, 115, 115, 101, 110, 103, 101, 114, 32, 40, 83, 77, 41]⟩ : ByteArray).data.toList)).toArray⟩ : ByteArray) = R at H2 ⊢
  go_enter Tryz.func50, Tryz.ntmps50
  go_wp2_with fail
  refine H1.out.mono ?_
  rintro r w1 ⟨rfl, hb⟩
  have HB := Lib.hid hb
  clear hb
  go_wp2_with fail
  refine (H2.out _).mono ?_
  rintro r w2 ⟨rfl, hb⟩
  have HB2 := Lib.hid (HB.out.trans (hb.mono HB.out.size))
  clear hb
  go_wp2_with fail
  go_ret
  exact ⟨rfl, HB2.out⟩
end Go.Proofs.YthbeempmdpfnmaaGreatDoor.M
namespace Go.Proofs.YthbeempmdpfnmaaGreatDoor.T
open Go.RowKit Go.Lib
theorem rsalted_any (k p : ByteArray) (w : World) (hk : k.size ≤ 40000) (hp : p.size ≤ 40000) : Calls Tryz.prog 50 #[.string k, .string p] w (Gives (.string (salt k p)) w) := M.rsalted_any k p w hk hp
end Go.Proofs.YthbeempmdpfnmaaGreatDoor.T
