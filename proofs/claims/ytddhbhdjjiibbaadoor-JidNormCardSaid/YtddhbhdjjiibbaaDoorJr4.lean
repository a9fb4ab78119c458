/- The document's own Bare and Put for layer 3; small. Condition: each text has at most 1048576 bytes. -/
import Derived.Test.YtddhbhdjjiibbaaDoorJr3
namespace Go.Proofs.YtddhbhdjjiibbaaDoor
open Go.RowKit Go.Lib Go.Shelf Sg Jd

set_option maxHeartbeats 1000000 in
theorem rBare_any (n d r : ByteArray) (w : World) :
    Calls Tryd.prog 21 #[.agg #[.string n, .string d, .string r]] w fun e w' => e = .returned (.agg #[.string n, .string d, .string ⟨#[]⟩]) ∧ Below w.heap.size w w' := by
  go_enter Tryd.func21, Tryd.ntmps21
  go_wp2_with fail
  refine bodyPost_ret (v := .agg #[.string n, .string d, .string ⟨#[]⟩]) (by simp [results, Tryd.results21, go_sem]) rfl ⟨rfl, ?_⟩
  exact ((Below.refl _ _).alloc (Nat.le_refl _) _).alloc (by simp) _

theorem put_data {n d r s : ByteArray} (h : s.data.toList = Jd.put ⟨n.data.toList, d.data.toList, r.data.toList⟩) : s = putB n d r := by rw [mk_eq h]; rfl
theorem app_list (a b : ByteArray) : (a ++ b).data.toList = a.data.toList ++ b.data.toList := by simp
set_option maxHeartbeats 2000000 in
theorem rPut_any (n d r : ByteArray) (w : World) (h1 : n.size ≤ 1048576) (h2 : d.size ≤ 1048576) (h3 : r.size ≤ 1048576) :
    Calls Tryd.prog 17 #[.agg #[.string n, .string d, .string r]] w fun e w' => e = .returned (.string (putB n d r)) ∧ Below w.heap.size w w' := by
  have B0 : Hid (Below w.heap.size w (w.alloc (.cells #[.string n, .string d, .string r] 24))) := (Below.refl _ _).alloc (Nat.le_refl _) _
  by_cases hn : n.data.toList = []
  · obtain rfl := empty_list hn
    by_cases hr : r.data.toList = []
    · obtain rfl := empty_list hr
      have HP : Hid (d = putB ⟨#[]⟩ d ⟨#[]⟩) := put_data (by simp [Jd.put])
      clear hn hr
      go_enter Tryd.func17, Tryd.ntmps17
      go_wp2_with fail
      go_ret
      exact ⟨by rw [← HP.out]; rfl, B0.out⟩
    · have hre := nonempty hr
      have HP : Hid ((d ++ ⟨#[47]⟩ ++ r) = putB ⟨#[]⟩ d r) := put_data (by simp [Jd.put, hr])
      clear hn hr
      go_enter Tryd.func17, Tryd.ntmps17
      go_wp2_with fail
      go_ret
      exact ⟨by rw [← HP.out]; rfl, B0.out⟩
  · have hne := nonempty hn
    by_cases hr : r.data.toList = []
    · obtain rfl := empty_list hr
      have HP : Hid ((n ++ ⟨#[64]⟩ ++ d) = putB n d ⟨#[]⟩) := put_data (by simp [Jd.put, hn])
      clear hn hr
      go_enter Tryd.func17, Tryd.ntmps17
      go_wp2_with fail
      go_ret
      exact ⟨by rw [← HP.out]; rfl, B0.out⟩
    · have hre := nonempty hr
      have HP : Hid (((n ++ ⟨#[64]⟩ ++ d) ++ ⟨#[47]⟩ ++ r) = putB n d r) := put_data (by simp [Jd.put, hn, hr])
      clear hn hr
      go_enter Tryd.func17, Tryd.ntmps17
      go_wp2_with fail
      go_ret
      exact ⟨by rw [← HP.out]; rfl, B0.out⟩

def sm (n d r : ByteArray) : Bool := decide (n.size + d.size + r.size ≤ 4000)
theorem sm_le {n d r : ByteArray} (h : sm n d r = true) : n.size ≤ 4000 ∧ d.size ≤ 4000 ∧ r.size ≤ 4000 ∧ n.size + d.size + r.size ≤ 4000 := by unfold sm at h; simp at h; omega
set_option maxHeartbeats 1000000 in
theorem small_any (n d r : ByteArray) (w : World) (h1 : n.size ≤ 140737488351232) (h2 : d.size ≤ 140737488351232) (h3 : r.size ≤ 140737488351232) :
    Calls Tryd.prog 13 #[.agg #[.string n, .string d, .string r]] w fun e w' => e = .returned (.bool (sm n d r)) ∧ Below w.heap.size w w' := by
  have B0 : Hid (Below w.heap.size w (w.alloc (.cells #[.string n, .string d, .string r] 24))) := (Below.refl _ _).alloc (Nat.le_refl _) _
  have HS : Hid (sm n d r = decide ((n.size : Int) + d.size + r.size ≤ 4000)) := by show _ = _; unfold sm; rw [decide_eq_decide]; omega
  have hs : (n.size : Int) + d.size ≤ 281474976710656 := by omega
  have hs2 : (n.size : Int) + d.size + r.size ≤ 422212465065984 := by omega
  go_enter Tryd.func13, Tryd.ntmps13
  go_wp2_with fail
  go_ret
  exact ⟨by rw [HS.out]; rfl, B0.out⟩
end Go.Proofs.YtddhbhdjjiibbaaDoor
