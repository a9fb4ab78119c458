/- The first line of each statement of layer 1: at a sign of two bytes and at some texts the calls of package glyph answer as the document's examples say. Condition: the decoder's two tables hold what their text lays. -/
import Derived.Test.YtihoimcnaedmfaaDoorLen
import Derived.Test.YtihoimcnaedmfaaDoorFold
namespace Go.Proofs.YtihoimcnaedmfaaDoor
open Go.RowKit Go.Lib Sg

theorem live_any (w : World) (hG : Gd w) :
    Calls Tryd.prog 12 #[] w fun e w' => e = .returned (.bool true) ∧ Below w.heap.size w w' := by
  have c1 := first_yes ⟨#[195, 169, 120]⟩ w hG (c := 233) (n := 2) (by decide)
  have c2 : ∀ W, Calls Tryd.prog 15 #[.int .i64 8364] W fun r w' => r = .returned (.tuple #[.string ⟨#[226, 130, 172]⟩, .int .i64 0]) ∧ W = w' := fun W => put_yes 8364 W (by decide)
  have c3 : ∀ W, _ := fun W => len_yes ⟨#[97, 195, 169]⟩ W (by decide) (cs := [97, 233]) ⟨by decide, by decide⟩
  have c4 : ∀ W, _ := fun W => check_no ⟨#[97, 0]⟩ W (by decide) (not_text (done := [97]) (r := [0]) (by decide) (by decide) (by decide) (.inr ⟨0, 1, by decide, by decide⟩))
  have c5 : ∀ W, Calls Tryd.prog 21 #[.string ⟨#[65, 98]⟩] W fun e w' => e = .returned (.string ⟨#[97, 98]⟩) ∧ Below W.heap.size W w' := fun W => fold_any ⟨#[65, 98]⟩ W (by decide)
  have c6 : ∀ W, Calls Tryd.prog 23 #[.string ⟨#[32, 97, 32, 98, 10]⟩] W fun e w' => e = .returned (.string ⟨#[97, 32, 98]⟩) ∧ Below W.heap.size W w' := fun W => trim_any ⟨#[32, 97, 32, 98, 10]⟩ W (by decide)
  have c7 : ∀ W, Calls Tryd.prog 25 #[.string ⟨#[97, 195, 169]⟩, .int .i64 2] W fun e w' => e = .returned (.string ⟨#[97]⟩) ∧ Below W.heap.size W w' := fun W => head_any ⟨#[97, 195, 169]⟩ 2 W (by decide)
  have C1 := Lib.hid c1
  have C2 := Lib.hid c2
  have C3 := Lib.hid c3
  have C4 := Lib.hid c4
  have C5 := Lib.hid c5
  have C6 := Lib.hid c6
  have C7 := Lib.hid c7
  clear c1 c2 c3 c4 c5 c6 c7 hG
  go_enter Tryd.func12, Tryd.ntmps12
  go_wp2_with fail
  refine C1.out.mono ?_
  rintro r w1 ⟨rfl, h1⟩
  go_wp2_with fail
  refine (C2.out _).mono ?_
  rintro r w2 ⟨rfl, rfl⟩
  go_wp2_with fail
  refine (C3.out _).mono ?_
  rintro r w3 ⟨rfl, h3⟩
  go_wp2_with fail
  refine (num_any _ _).mono ?_
  rintro r w4 ⟨rfl, rfl⟩
  go_wp2_with fail
  refine (num_any _ _).mono ?_
  rintro r w4 ⟨rfl, rfl⟩
  go_wp2_with fail
  refine (num_any _ _).mono ?_
  rintro r w4 ⟨rfl, rfl⟩
  go_wp2_with fail
  refine (C4.out _).mono ?_
  rintro r w4 ⟨rfl, h4⟩
  go_wp2_with fail
  refine (num_any _ _).mono ?_
  rintro r w5 ⟨rfl, rfl⟩
  go_wp2_with fail
  refine (C5.out _).mono ?_
  rintro r w5 ⟨rfl, h5⟩
  go_wp2_with fail
  refine (C6.out _).mono ?_
  rintro r w6 ⟨rfl, h6⟩
  go_wp2_with fail
  refine (C7.out _).mono ?_
  rintro r w7 ⟨rfl, h7⟩
  go_wp2
  go_ret
  refine ⟨rfl, ?_⟩
  have a1 := h1.size
  have a3 := h3.size
  have a4 := h4.size
  have a5 := h5.size
  have a6 := h6.size
  exact ((((h1.trans (h3.mono (by omega))).trans (h4.mono (by omega))).trans (h5.mono (by omega))).trans (h6.mono (by omega))).trans (h7.mono (by omega))
end Go.Proofs.YtihoimcnaedmfaaDoor
