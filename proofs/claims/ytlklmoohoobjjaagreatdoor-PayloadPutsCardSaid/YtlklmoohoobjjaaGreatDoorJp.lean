/- The document's own Put for addresses. Conditions: those of each theorem's head. -/
import Derived.Test.YtlklmoohoobjjaaGreatDoorAk

namespace Go.Proofs.YtlklmoohoobjjaaGreatDoor.Jn
open Go.RowKit Go.Lib Go.Shelf Sg Jd

theorem put_data {n d r s : ByteArray} (h : s.data.toList = Jd.put ⟨n.data.toList, d.data.toList, r.data.toList⟩) : s = putB n d r := by rw [mk_eq h]; rfl
theorem app_list (a b : ByteArray) : (a ++ b).data.toList = a.data.toList ++ b.data.toList := by simp
set_option maxHeartbeats 2000000 in
theorem rPut_any (n d r : ByteArray) (w : World) (h1 : n.size ≤ 1048576) (h2 : d.size ≤ 1048576) (h3 : r.size ≤ 1048576) :
    Calls Tryz.prog 36 #[.agg #[.string n, .string d, .string r]] w fun e w' => e = .returned (.string (putB n d r)) ∧ Below w.heap.size w w' := by
  have B0 : Hid (Below w.heap.size w (w.alloc (.cells #[.string n, .string d, .string r] 25))) := (Below.refl _ _).alloc (Nat.le_refl _) _
  by_cases hn : n.data.toList = []
  · obtain rfl := empty_list hn
    by_cases hr : r.data.toList = []
    · obtain rfl := empty_list hr
      have HP : Hid (d = putB ⟨#[]⟩ d ⟨#[]⟩) := put_data (by simp [Jd.put])
      clear hn hr
      go_enter Tryz.func36, Tryz.ntmps36
      go_wp2_with fail
      go_ret
      exact ⟨by rw [← HP.out]; rfl, B0.out⟩
    · have hre := nonempty hr
      have HP : Hid ((d ++ ⟨#[47]⟩ ++ r) = putB ⟨#[]⟩ d r) := put_data (by simp [Jd.put, hr])
      clear hn hr
      go_enter Tryz.func36, Tryz.ntmps36
      go_wp2_with fail
      go_ret
      exact ⟨by rw [← HP.out]; rfl, B0.out⟩
  · have hne := nonempty hn
    by_cases hr : r.data.toList = []
    · obtain rfl := empty_list hr
      have HP : Hid ((n ++ ⟨#[64]⟩ ++ d) = putB n d ⟨#[]⟩) := put_data (by simp [Jd.put, hn])
      clear hn hr
      go_enter Tryz.func36, Tryz.ntmps36
      go_wp2_with fail
      go_ret
      exact ⟨by rw [← HP.out]; rfl, B0.out⟩
    · have hre := nonempty hr
      have HP : Hid (((n ++ ⟨#[64]⟩ ++ d) ++ ⟨#[47]⟩ ++ r) = putB n d r) := put_data (by simp [Jd.put, hn, hr])
      clear hn hr
      go_enter Tryz.func36, Tryz.ntmps36
      go_wp2_with fail
      go_ret
      exact ⟨by rw [← HP.out]; rfl, B0.out⟩


end Go.Proofs.YtlklmoohoobjjaaGreatDoor.Jn
