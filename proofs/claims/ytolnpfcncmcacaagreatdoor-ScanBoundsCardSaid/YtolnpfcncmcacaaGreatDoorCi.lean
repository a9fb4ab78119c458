/- Feed, Err, Depth of a nil Scanner; the events of ScanBounds as rows. No condition. -/
import Derived.Test.YtolnpfcncmcacaaGreatDoorCh
namespace Go.Proofs.YtolnpfcncmcacaaGreatDoor
open Go.RowKit Go.Lib Go.Shelf Tg Sn

theorem feed_none (b : ByteArray) (w : World) : Calls Tryz.prog 9 #[.pointer none, .string b] w fun r w' => r = .returned (.slice none 0 0) ∧ w = w' := by
  go_enter Tryz.func9, Tryz.ntmps9
  go_wp2_with fail
  go_ret
  exact ⟨rfl, rfl⟩
theorem err_none (w : World) : Calls Tryz.prog 12 #[.pointer none] w fun r w' => r = .returned (.int .i64 7) ∧ w = w' := by
  go_enter Tryz.func12, Tryz.ntmps12
  go_wp2_with fail
  go_ret
  exact ⟨rfl, rfl⟩
theorem depth_none (w : World) : Calls Tryz.prog 13 #[.pointer none] w fun r w' => r = .returned (.int .i64 0) ∧ w = w' := by
  go_enter Tryz.func13, Tryz.ntmps13
  go_wp2_with fail
  go_ret
  exact ⟨rfl, rfl⟩
theorem ev_open {S : Nat → Prop} {w : World} : EvsAt S w openCells [⟨1, liveE1, 0⟩] := EvsAt.one (ev := ⟨1, liveE1, 0⟩) (lit_leaf _ _ _ _ _ (by decide))
theorem ev_stan {S : Nat → Prop} {w : World} (t : B8) (h : t.length ≤ 100000) : EvsAt S w (stanzaCells ⟨#[99]⟩ (Sn.mk t)) [⟨2, elC t, 0⟩] := EvsAt.one (ev := ⟨2, elC t, 0⟩) (lit_leaf _ _ _ _ _ ⟨by decide, by decide, by rw [Sn.mk_size]; omega⟩)
theorem ev_wrong {S : Nat → Prop} {w : World} : EvsAt S w (wrongCells 62) [⟨4, El0, 62⟩] := EvsAt.one (ev := ⟨4, El0, 62⟩) (lit_leaf _ _ _ _ _ (by decide))
/-- What All says of the first text. -/
theorem rowB {n B : Nat} {s : Sv} {W : World} (h : FB n B s W) (hn : n ≤ 40000) : EvRow B (fun _ => True) W (.slice s.a s.m s.d) (bE n) := by
  unfold bE
  by_cases h1 : n ≤ 16377
  · rw [if_pos h1]
    obtain ⟨hm, ho⟩ := h.1 h1
    rw [hm]
    exact ⟨_, ho, ev_open.append (ev_stan _ (by rw [xs_len]; omega))⟩
  · rw [if_neg h1]
    obtain ⟨hm, ho⟩ := h.2 (by omega)
    rw [hm]
    exact ⟨_, ho, ev_open.append ev_wrong⟩
theorem rowD {m B : Nat} {s : Sv} {W : World} (h : FD m B s W) : EvRow B (fun _ => True) W (.slice s.a s.m s.d) (dE m) := by
  unfold dE
  by_cases h1 : m ≤ 16
  · rw [if_pos h1]
    obtain ⟨hm, ho⟩ := h.1 h1
    rw [hm]
    exact ⟨_, ho, ev_open⟩
  · rw [if_neg h1]
    obtain ⟨hm, ho⟩ := h.2 (by omega)
    rw [hm]
    exact ⟨_, ho, ev_open.append ev_wrong⟩
theorem dC_len : ∀ m, (List.replicate m cT).flatten.length = 3 * m
  | 0 => rfl
  | m + 1 => by
    rw [List.replicate_succ, List.flatten_cons, List.length_append, dC_len m]
    show 3 + 3 * m = _
    omega
/-- All at the two texts. -/
theorem all_B (n : Nat) (b : ByteArray) (w : World) (hb : b.data.toList = bT n) (hn : n ≤ 40000) : Calls Tryz.prog 10 #[.string b] w fun r w' => ∃ s : Sv, r = .returned s.val ∧ EvRow (w.heap.size + 2) (fun _ => True) w' (.slice s.a s.m s.d) (bE n) ∧ Below w.heap.size w w' := by
  refine (all_plan (planB n hb) w (by rw [← By.len_size, hb]; unfold bT; simp [aT, cT, eT, xs_len]; omega) (fun W _ => rfl)).mono ?_
  rintro r w' ⟨s, rfl, hF, hbl⟩
  exact ⟨s, rfl, rowB hF hn, hbl⟩
theorem all_D (m : Nat) (b : ByteArray) (w : World) (hb : b.data.toList = dT m) (hm : m ≤ 40) : Calls Tryz.prog 10 #[.string b] w fun r w' => ∃ s : Sv, r = .returned s.val ∧ EvRow (w.heap.size + 2) (fun _ => True) w' (.slice s.a s.m s.d) (dE m) ∧ Below w.heap.size w w' := by
  have hl : b.size = 13 + 3 * m := by
    rw [← By.len_size, hb]
    unfold dT
    rw [List.length_append]
    rw [dC_len]; rfl
  refine (all_plan (planD m hm hb) w (by omega) (fun W _ => rfl)).mono ?_
  rintro r w' ⟨s, rfl, hF, hbl⟩
  exact ⟨s, rfl, rowD hF, hbl⟩
end Go.Proofs.YtolnpfcncmcacaaGreatDoor
