/- Contract: put of a head's numbers, whatever they are. Condition: the table of widths holds what the program's text lays. -/
import Derived.Test.YthbpkdcjfcbngaaDoorVb
namespace Go.Proofs.YthbpkdcjfcbngaaDoor
open Go.RowKit Go.Lib

theorem nil_app (a : ByteArray) : (⟨#[]⟩ : ByteArray) ++ a = a := by
  apply By.bytes_ext
  rw [By.append_list]
  rfl
theorem Gd.all {w : World} (h : Gd w) : ∀ W, Below w.heap.size w W → Gd W := fun _ hb => h.below hb
set_option maxRecDepth 100000 in
set_option maxHeartbeats 8000000 in
theorem hput_any (f s g r : Int) (w : World) (hG : Gd w) : Calls Tryd.prog 18 #[.agg #[.int .i64 f, .int .i64 s, .int .i64 g, .int .i64 r]] w (Gives (.string (hdS f s g r)) w) := by
  have HB : Hid (Below w.heap.size w (w.alloc (.cells #[.int .i64 f, .int .i64 s, .int .i64 g, .int .i64 r] 42))) := (Below.refl _ w).alloc (Nat.le_refl _) _
  have HG := Lib.hid hG.all
  clear hG
  have C0 := Lib.hid (fun W => int_any f 2 W)
  have z0 := intS_len f 2
  have C1 := Lib.hid (fun W => int_any s 2 W)
  have z1 := intS_len s 2
  have C2 := Lib.hid (fun W => int_any g 2 W)
  have z2 := intS_len g 2
  have C3 := Lib.hid (fun W => int_any r 4 W)
  have z3 := intS_len r 4
  unfold hdS
  generalize intS f 2 = A0 at C0 z0 ⊢
  generalize intE f 2 = E0 at C0
  generalize intS s 2 = A1 at C1 z1 ⊢
  generalize intE s 2 = E1 at C1
  generalize intS g 2 = A2 at C2 z2 ⊢
  generalize intE g 2 = E2 at C2
  generalize intS r 4 = A3 at C3 z3 ⊢
  generalize intE r 4 = E3 at C3
  have HE : Hid ((⟨#[]⟩ : ByteArray) ++ A0 = A0) := nil_app A0
  go_enter Tryd.func18, Tryd.ntmps18
  go_wp2_with fail
  go_loopw [3, 9] (fun b i wr => Hid (Below w.heap.size w wr) ∧ ((i = .int .i64 0 ∧ b = .string ⟨#[]⟩) ∨ (i = .int .i64 1 ∧ b = .string A0) ∨ (i = .int .i64 2 ∧ b = .string (A0 ++ A1)) ∨ (i = .int .i64 3 ∧ b = .string (A0 ++ A1 ++ A2)) ∨ (i = .int .i64 4 ∧ b = .string (A0 ++ A1 ++ A2 ++ A3)))) (fun _ i _ => 4 - (RowKit.intOf i).toNat)
  case atStart => exact ⟨HB.out, .inl ⟨rfl, rfl⟩⟩
  case round =>
    clear HB
    obtain ⟨HB, hrel⟩ := hrel
    have ix0 : ∀ W : World, (Instr.index 42 (.agg (#[.int .i64 f, .int .i64 s, .int .i64 g, .int .i64 r] : Array Value)) (.int .i64 0)).run Tryd.prog W = .ok (.int .i64 f) W := fun W => rfl
    have ix1 : ∀ W : World, (Instr.index 42 (.agg (#[.int .i64 f, .int .i64 s, .int .i64 g, .int .i64 r] : Array Value)) (.int .i64 1)).run Tryd.prog W = .ok (.int .i64 s) W := fun W => rfl
    have ix2 : ∀ W : World, (Instr.index 42 (.agg (#[.int .i64 f, .int .i64 s, .int .i64 g, .int .i64 r] : Array Value)) (.int .i64 2)).run Tryd.prog W = .ok (.int .i64 g) W := fun W => rfl
    have ix3 : ∀ W : World, (Instr.index 42 (.agg (#[.int .i64 f, .int .i64 s, .int .i64 g, .int .i64 r] : Array Value)) (.int .i64 3)).run Tryd.prog W = .ok (.int .i64 r) W := fun W => rfl
    rcases hrel with ⟨rfl, rfl⟩ | ⟨rfl, rfl⟩ | ⟨rfl, rfl⟩ | ⟨rfl, rfl⟩ | ⟨rfl, rfl⟩
    · obtain ⟨k0, k1, k2, k3⟩ := HG.out _ HB.out
      go_wp2_with fail
      refine (C0.out _).mono ?_
      rintro e w1 ⟨rfl, hb⟩
      have HB1 := Lib.hid (HB.out.trans (hb.mono HB.out.size))
      clear hb k0 k1 k2 k3 HB
      go_wp2_with fail
      exact ⟨⟨HB1.out, .inr (.inl ⟨rfl, by rw [HE.out]⟩)⟩, by decide⟩
    · obtain ⟨k0, k1, k2, k3⟩ := HG.out _ HB.out
      go_wp2_with fail
      refine (C1.out _).mono ?_
      rintro e w1 ⟨rfl, hb⟩
      have HB1 := Lib.hid (HB.out.trans (hb.mono HB.out.size))
      clear hb k0 k1 k2 k3 HB
      go_wp2_with fail
      exact ⟨⟨HB1.out, .inr (.inr (.inl ⟨rfl, rfl⟩))⟩, by decide⟩
    · obtain ⟨k0, k1, k2, k3⟩ := HG.out _ HB.out
      go_wp2_with fail
      refine (C2.out _).mono ?_
      rintro e w1 ⟨rfl, hb⟩
      have HB1 := Lib.hid (HB.out.trans (hb.mono HB.out.size))
      clear hb k0 k1 k2 k3 HB
      go_wp2_with fail
      exact ⟨⟨HB1.out, .inr (.inr (.inr (.inl ⟨rfl, rfl⟩)))⟩, by decide⟩
    · obtain ⟨k0, k1, k2, k3⟩ := HG.out _ HB.out
      go_wp2_with fail
      refine (C3.out _).mono ?_
      rintro e w1 ⟨rfl, hb⟩
      have HB1 := Lib.hid (HB.out.trans (hb.mono HB.out.size))
      clear hb k0 k1 k2 k3 HB
      go_wp2_with fail
      exact ⟨⟨HB1.out, .inr (.inr (.inr (.inr (⟨rfl, rfl⟩))))⟩, by decide⟩
    · go_wp2_with fail
      go_ret
      exact ⟨rfl, HB.out⟩
end Go.Proofs.YthbpkdcjfcbngaaDoor
