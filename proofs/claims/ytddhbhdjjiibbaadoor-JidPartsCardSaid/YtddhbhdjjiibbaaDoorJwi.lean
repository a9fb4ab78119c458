/- Contracts of jid.With and jid.Bare: an address with another resource, and with none. Condition: each text has at most 1048576 bytes. -/
import Derived.Test.YtddhbhdjjiibbaaDoorJpa
import Derived.Deep.RegionWith
namespace Go.Proofs.YtddhbhdjjiibbaaDoor
open Go.RowKit Go.Lib Go.Shelf Sg Jd

set_option maxRecDepth 100000 in
set_option maxHeartbeats 4000000 in
theorem with_any (n d r res : ByteArray) (w : World) (h1 : n.size ≤ 1048576) (h2 : d.size ≤ 1048576) (h3 : res.size ≤ 1048576) :
    Calls Tryd.prog 22 #[.agg #[.string n, .string d, .string r], .string res] w fun e w' => e = .returned (.agg #[.string n, .string d, .string res]) ∧ Below w.heap.size w w' := by
  have C1 := Lib.hid (fun W => clone_any n W (by omega))
  have C2 := Lib.hid (fun W => clone_any d W (by omega))
  have C3 := Lib.hid (fun W => clone_any res W (by omega))
  clear h1 h2 h3
  go_enter Tryd.func22, Tryd.ntmps22
  go_wp2_with fail
  go_region_with (first
      | ((go_at_call 36; refine (C1.out _).mono ?_; rintro e w1 ⟨rfl, hb1⟩; obtain ⟨hc1, hf1⟩ := bcell hb1; have hz1 : w.heap.size + 1 < w1.heap.size := by have := hb1.size; simp at this; omega))
      | ((go_at_call 36; refine (C2.out _).mono ?_; rintro e w2 ⟨rfl, hb2⟩; obtain ⟨hc2, hf2⟩ := bcell hb2; have hz2 : w.heap.size + 1 < w2.heap.size := by have := hb2.size; omega))
      | ((go_at_call 36; refine (C3.out _).mono ?_; rintro e w3 ⟨rfl, hb3⟩; obtain ⟨hc3, hf3⟩ := bcell hb3; have hz3 : w.heap.size + 1 < w3.heap.size := by have := hb3.size; omega)))
  all_goals
    go_wp2_with fail
    refine bodyPost_ret (v := .agg #[.string n, .string d, .string res]) (by simp [results, Tryd.results22, go_sem, hc3, hc2, hc1, hz1, hz2]) rfl ⟨rfl, ?_⟩
    have b0 : Below w.heap.size w w1 := (((Below.refl _ _).alloc (Nat.le_refl _) _).alloc (by simp) _).drew.trans (hb1.mono (by simp; omega))
    have b1 : Below w.heap.size w w3 := (b0.trans (hb2.mono b0.size)).trans (hb3.mono (Nat.le_trans b0.size hb2.size))
    exact (((b1.setCell (by simp) _).setCell (by simp) _).setCell (by simp) _)
set_option maxHeartbeats 1000000 in
theorem bare_any (n d r : ByteArray) (w : World) (h1 : n.size ≤ 1048576) (h2 : d.size ≤ 1048576) :
    Calls Tryd.prog 20 #[.agg #[.string n, .string d, .string r]] w fun e w' => e = .returned (.agg #[.string n, .string d, .string ⟨#[]⟩]) ∧ Below w.heap.size w w' := by
  have H := Lib.hid (fun W => with_any n d r ⟨#[]⟩ W h1 h2 (by decide))
  clear h1 h2
  go_enter Tryd.func20, Tryd.ntmps20
  go_wp2_with fail
  refine (H.out _).mono ?_
  rintro e w1 ⟨rfl, hb1⟩
  obtain ⟨hc1, hf1⟩ := bcell hb1
  have hz1 : w.heap.size + 1 < w1.heap.size := by have := hb1.size; simp at this; omega
  go_wp2_with fail
  refine bodyPost_ret (v := .agg #[.string n, .string d, .string ⟨#[]⟩]) (by simp [results, Tryd.results20, go_sem, hc1]) rfl ⟨rfl, ?_⟩
  have b0 : Below w.heap.size w w1 := (((Below.refl _ _).alloc (Nat.le_refl _) _).alloc (by simp) _).trans (hb1.mono (by simp; omega))
  exact (((b0.setCell (by simp) _).setCell (by simp) _).setCell (by simp) _)
end Go.Proofs.YtddhbhdjjiibbaaDoor
