/- The first line of each statement of layer 8: a stream that is opened. No condition. -/
import Derived.Test.YtolnpfcncmcacaaGreatDoorZl
set_option maxRecDepth 100000
set_option maxHeartbeats 8000000
namespace Go.Proofs.YtolnpfcncmcacaaGreatDoor
open Go.RowKit Go.Lib Go.Shelf Tg Sn
def Sx (w : World) (A : Nat) (d s : ByteArray) (p : Int) (W : World) : Prop := Below w.heap.size w W ∧ W.heap[A]? = some (.cells #[.string d, .string s, .int .i64 p] 40 (0, 0)) ∧ w.heap.size ≤ A
theorem Sx.st {w W w' : World} {A : Nat} {d s : ByteArray} {p : Int} (h : Sx w A d s p W) (hb : Below W.heap.size W w') : Sx w A d s p w' := ⟨h.1.trans (hb.mono h.1.size), (hb.block _ (heap_lt h.2.1)).trans h.2.1, h.2.2⟩
theorem Sx.dr {w W : World} {A : Nat} {d s : ByteArray} {p : Int} (h : Sx w A d s p W) : Sx w A d s p W.drew := ⟨h.1.drew, h.2.1, h.2.2⟩
theorem Sx.put {w W : World} {A : Nat} {d s : ByteArray} {p : Int} (h : Sx w A d s p W) (u v : ByteArray) (q : Int) : Sx w A u v q (((W.setCell ⟨A, 0, none⟩ (.string u)).setCell ⟨A, 1, none⟩ (.string v)).setCell ⟨A, 2, none⟩ (.int .i64 q)) :=
  ⟨((h.1.setCell h.2.2 _).setCell h.2.2 _).setCell h.2.2 _, by simp [World.setCell, Array.getElem?_modify, h.2.1], h.2.2⟩
theorem Sx.new {w W : World} (hb : Below w.heap.size w W) (d s : ByteArray) (p : Int) : Sx w W.heap.size d s p (W.alloc (.cells #[.string d, .string s, .int .i64 p] 40)) := ⟨hb.alloc hb.size _, box_new W _ _, hb.size⟩
theorem put_bare8 : Sn.mk (put (.mk compS ⟨#[98]⟩ [] ⟨#[]⟩ []) compS) = ⟨#[60, 98, 47, 62]⟩ := by
  rw [show put (.mk compS ⟨#[98]⟩ [] ⟨#[]⟩ []) compS = [60, 98, 47, 62] from by decide]
  rfl
theorem live8_any (w : World) : Calls Tryz.prog 15 #[] w fun r w' => r = .returned (.bool true) ∧ Below w.heap.size w w' := by
  have B1 := Lib.hid (fun W => begin_any8 ⟨#[120, 46, 111, 114, 103]⟩ ⟨#[115]⟩ W (by decide) (by decide))
  have B2 := Lib.hid (fun W => begin_any8 ⟨#[]⟩ ⟨#[115]⟩ W (by decide) (by decide))
  go_enter Tryz.func15, Tryz.ntmps15
  go_wp2_with fail
  refine (B1.out _).mono ?_
  rintro r w1 ⟨hr, hb⟩
  rw [if_pos begB_live] at hr
  obtain ⟨X, rfl, hX⟩ := hr
  have hxs : X.size = 127 := by rw [Lib.size_eq, hX, List.length_append, headL_len]; rfl
  have HS1 := Lib.hid (Sx.new hb ⟨#[120, 46, 111, 114, 103]⟩ ⟨#[115]⟩ 1)
  clear hb B1 hX
  go_upto_region 2 with fail
  generalize hA : w1.heap.size = A at HS1 ⊢
  generalize w1.alloc (.cells #[.string ⟨#[120, 46, 111, 114, 103]⟩, .string ⟨#[115]⟩, .int .i64 1] 40) = W1 at HS1 ⊢
  clear hA w1
  obtain ⟨x0, x1, x2, fx⟩ := cs3 HS1.out.2.1
  go_cut [4, 5] (fun s4 s5 wx => ∃ a c, s4 = .string (shakeT ⟨#[51]⟩ ⟨#[115]⟩) ∧ s5 = .slice a 0 c ∧ Hid (Sx w A ⟨#[120, 46, 111, 114, 103]⟩ ⟨#[115]⟩ 2 wx))
  case first =>
    have d0 : W1.drew.cell? ⟨A, 0, none⟩ = some (.string ⟨#[120, 46, 111, 114, 103]⟩) := x0
    have d1 : W1.drew.cell? ⟨A, 1, none⟩ = some (.string ⟨#[115]⟩) := x1
    have d2 : W1.drew.cell? ⟨A, 2, none⟩ = some (.int .i64 1) := x2
    clear x0 x1 x2 fx
    go_region_with (first
      | ((go_at_call 19; refine (header_any _).mono ?_; rintro r w3 ⟨g, rfl, hg0, hg, hb3⟩; have HS3 := Lib.hid (HS1.out.dr.st hb3); obtain ⟨x0, x1, x2, fx⟩ := cs3 HS3.out.2.1))
      | ((go_at_call 18; refine (take_hdr ⟨#[120, 46, 111, 114, 103]⟩ ⟨#[115]⟩ g _ hg (by decide)).mono ?_; rintro r w4 ⟨⟨a, c, rfl⟩, hb4⟩; have HS4 := Lib.hid (HS3.out.st hb4); obtain ⟨q0, q1, q2, fq⟩ := cs3 HS4.out.2.1; have fq0 := fq 0; have fq1 := fq 1; have fq2 := fq 2)))
    all_goals
      have HSZ := Lib.hid (HS4.out.put ⟨#[120, 46, 111, 114, 103]⟩ ⟨#[115]⟩ 2)
      go_wp2_with fail
      go_meet
      exact ⟨_, _, rfl, rfl, HSZ.out⟩
  case rest =>
    obtain ⟨a, c, rfl, rfl, HS2⟩ := hcut
    go_upto_region 3 with fail
    obtain ⟨x0, x1, x2, fx⟩ := cs3 HS2.out.2.1
    go_cut [6, 7] (fun s6 s7 wx => ∃ a c, s6 = .string ⟨#[]⟩ ∧ s7 = .slice a 0 c ∧ Hid (Sx w A ⟨#[120, 46, 111, 114, 103]⟩ ⟨#[115]⟩ 3 wx))
    case first =>
      have d0 : wc.drew.cell? ⟨A, 0, none⟩ = some (.string ⟨#[120, 46, 111, 114, 103]⟩) := x0
      have d1 : wc.drew.cell? ⟨A, 1, none⟩ = some (.string ⟨#[115]⟩) := x1
      have d2 : wc.drew.cell? ⟨A, 2, none⟩ = some (.int .i64 2) := x2
      clear x0 x1 x2 fx
      go_region_with (first
        | ((go_at_call 20; refine (shake_any _).mono ?_; rintro r w3 ⟨rfl, hb3⟩; have HS3 := Lib.hid (HS2.out.dr.st hb3); obtain ⟨x0, x1, x2, fx⟩ := cs3 HS3.out.2.1))
        | ((go_at_call 18; refine (take_shk ⟨#[120, 46, 111, 114, 103]⟩ ⟨#[115]⟩ _ (by decide)).mono ?_; rintro r w4 ⟨⟨a2, c2, rfl⟩, hb4⟩; have HS4 := Lib.hid (HS3.out.st hb4); obtain ⟨q0, q1, q2, fq⟩ := cs3 HS4.out.2.1; have fq0 := fq 0; have fq1 := fq 1; have fq2 := fq 2)))
      all_goals
        have HSZ := Lib.hid (HS4.out.put ⟨#[120, 46, 111, 114, 103]⟩ ⟨#[115]⟩ 3)
        go_wp2_with fail
        go_meet
        exact ⟨_, _, rfl, rfl, HSZ.out⟩
    case rest =>
      obtain ⟨a3, c3, rfl, rfl, HS3⟩ := hcut
      clear HS2 x0 x1 x2 fx
      obtain ⟨x0, x1, x2, fx⟩ := cs3 HS3.out.2.1
      go_wp2_with fail
      refine (take_stz ⟨#[120, 46, 111, 114, 103]⟩ ⟨#[115]⟩ _ (by decide)).mono ?_
      rintro r w4 ⟨⟨a4, c4, rfl⟩, hb⟩
      have HS4 := Lib.hid ((HS3.out.st hb).st ((Below.refl _ w4).alloc (Nat.le_refl _) (.cells #[.string ⟨#[120, 46, 111, 114, 103]⟩, .string ⟨#[115]⟩, .int .i64 3] 40)))
      clear hb HS3 x0 x1 x2 fx
      go_upto_region 5 with fail
      generalize w4.alloc (.cells #[.string ⟨#[120, 46, 111, 114, 103]⟩, .string ⟨#[115]⟩, .int .i64 3] 40) = W4 at HS4 ⊢
      obtain ⟨x0, x1, x2, fx⟩ := cs3 HS4.out.2.1
      go_wp2_with fail
      refine (take_wrg ⟨#[120, 46, 111, 114, 103]⟩ ⟨#[115]⟩ _ (by decide)).mono ?_
      rintro r w5 ⟨⟨a5, c5, rfl⟩, hb⟩
      have HS5 := Lib.hid ((HS4.out.st hb).st ((Below.refl _ w5).alloc (Nat.le_refl _) (.cells #[.string ⟨#[120, 46, 111, 114, 103]⟩, .string ⟨#[115]⟩, .int .i64 4] 40)))
      clear hb HS4 x0 x1 x2 fx
      go_upto_region 6 with fail
      generalize w5.alloc (.cells #[.string ⟨#[120, 46, 111, 114, 103]⟩, .string ⟨#[115]⟩, .int .i64 4] 40) = W5 at HS5 ⊢
      go_wp2_with fail
      refine (B2.out _).mono ?_
      rintro r w6 ⟨hr, hb⟩
      rw [if_neg (by rw [begB_none]; decide)] at hr
      subst hr
      have HS6 := Lib.hid ((HS5.out.st hb).st ((Below.refl _ w6).alloc (Nat.le_refl _) (.cells #[.string ⟨#[]⟩, .string ⟨#[]⟩, .int .i64 0] 40)))
      clear hb HS5 B2
      go_upto_region 7 with fail
      generalize w6.alloc (.cells #[.string ⟨#[]⟩, .string ⟨#[]⟩, .int .i64 0] 40) = W6 at HS6 ⊢
      obtain ⟨x0, x1, x2, fx⟩ := cs3 HS6.out.2.1
      have hy := shakeT_size ⟨#[51]⟩ ⟨#[115]⟩
      generalize shakeT ⟨#[51]⟩ ⟨#[115]⟩ = Y at hy ⊢
      have hz := endT_c60
      generalize endT 3 c60 = Z at hz ⊢
      have P : Hid (∀ W, Calls Tryz.prog 22 #[.agg #[.string ⟨#[120, 46, 111, 114, 103]⟩, .string ⟨#[115]⟩, .int .i64 3], .agg #[.string ⟨#[106, 97, 98, 98, 101, 114, 58, 99, 111, 109, 112, 111, 110, 101, 110, 116, 58, 97, 99, 99, 101, 112, 116]⟩, .string ⟨#[98]⟩, .slice none 0 0, .string ⟨#[]⟩, .slice none 0 0]] W fun r w' => r = .returned (.string ⟨#[60, 98, 47, 62]⟩) ∧ Below W.heap.size W w') := fun W => by
        have hin : In W.heap.size W (.mk compS ⟨#[98]⟩ [] ⟨#[]⟩ []) (.agg #[.string compS, .string ⟨#[98]⟩, .slice none ([] : List At).length 0, .string ⟨#[]⟩, .slice none ([] : List El).length 0]) :=
          .mk compS ⟨#[98]⟩ [] ⟨#[]⟩ [] none 0 none 0 (fun _ _ => .bool false) ⟨⟨by decide, by decide, by decide, by decide⟩, fun a ha => by cases ha⟩ ⟨by decide, by decide⟩ (by decide) (fun i hi => by cases hi) (fun i hi => by cases hi) (fun i hi => by cases hi)
        have H := send_any8 ⟨#[120, 46, 111, 114, 103]⟩ ⟨#[115]⟩ 3 (.mk compS ⟨#[98]⟩ [] ⟨#[]⟩ []) none none 0 0 W hin (by decide)
        have e : (if (3 : Int) = 3 then Sn.mk (put (.mk compS ⟨#[98]⟩ [] ⟨#[]⟩ []) compS) else ⟨#[]⟩) = ⟨#[60, 98, 47, 62]⟩ := by
          rw [if_pos rfl, put_bare8]
        rw [e] at H
        exact H
      go_wp2_with fail
      refine (num8_any _ _).mono ?_
      rintro r w7 ⟨rfl, rfl⟩
      go_wp2_with fail
      refine (num8_any _ _).mono ?_
      rintro r w7 ⟨rfl, rfl⟩
      go_wp2_with fail
      refine (P.out _).mono ?_
      rintro r w7 ⟨rfl, hb⟩
      have HB7 := Lib.hid (HS6.out.1.trans (hb.mono HS6.out.1.size))
      clear hb
      go_wp2_with fail
      go_ret
      exact ⟨rfl, HB7.out⟩
end Go.Proofs.YtolnpfcncmcacaaGreatDoor
