/- The first line of each statement of layer 2: at some texts the calls of package escape answer as the document's examples say. No condition. -/
import Derived.Test.YtpgpiopkaabncaaPis
namespace Go.Proofs.Ytpgpiopkaabncaa
open Go.RowKit Go.Lib By Esc

theorem live_any (w : World) :
    Calls Try.prog 8 #[] w fun e w' => e = .returned (.bool true) ∧ Below w.heap.size w w' := by
  have C1 : Hid (∀ W, Calls Try.prog 9 #[.string ⟨#[100, 39, 65, 114, 116, 64, 120]⟩] W fun e w' => e = .returned (.tuple #[.string ⟨#[100, 92, 50, 55, 65, 114, 116, 92, 52, 48, 120]⟩, .int .i64 0]) ∧ Below W.heap.size W w') := fun W => escape_good ⟨#[100, 39, 65, 114, 116, 64, 120]⟩ W (by decide) (by decide)
  have C2 : Hid (∀ W, Calls Try.prog 9 #[.string ⟨#[97, 92, 53, 99, 98]⟩] W fun e w' => e = .returned (.tuple #[.string ⟨#[97, 92, 53, 99, 53, 99, 98]⟩, .int .i64 0]) ∧ Below W.heap.size W w') := fun W => escape_good ⟨#[97, 92, 53, 99, 98]⟩ W (by decide) (by decide)
  have C3 : Hid (∀ W, Calls Try.prog 9 #[.string ⟨#[32, 97]⟩] W fun e w' => e = .returned (.tuple #[.string ⟨#[]⟩, .int .i64 20]) ∧ Below W.heap.size W w') := fun W => escape_bad ⟨#[32, 97]⟩ W (by decide) (by decide)
  have C4 : Hid (∀ W, Calls Try.prog 12 #[.string ⟨#[100, 92, 50, 55, 65, 114, 116, 92, 52, 48, 120]⟩] W fun e w' => e = .returned (.string ⟨#[100, 39, 65, 114, 116, 64, 120]⟩) ∧ Below W.heap.size W w') := fun W => unescape_any ⟨#[100, 92, 50, 55, 65, 114, 116, 92, 52, 48, 120]⟩ W (by decide)
  have C5 : Hid (∀ W, Calls Try.prog 12 #[.string ⟨#[92, 50, 48, 97]⟩] W fun e w' => e = .returned (.string ⟨#[92, 50, 48, 97]⟩) ∧ Below W.heap.size W w') := fun W => unescape_any ⟨#[92, 50, 48, 97]⟩ W (by decide)
  have C6 : Hid (∀ W, Calls Try.prog 14 #[.string ⟨#[100, 92, 50, 55, 65, 114, 116, 92, 52, 48, 120]⟩] W fun e w' => e = .returned (.bool true) ∧ Below W.heap.size W w') := fun W => is_any ⟨#[100, 92, 50, 55, 65, 114, 116, 92, 52, 48, 120]⟩ W (by decide)
  have C7 : Hid (∀ W, Calls Try.prog 14 #[.string ⟨#[97, 32, 98]⟩] W fun e w' => e = .returned (.bool false) ∧ Below W.heap.size W w') := fun W => is_any ⟨#[97, 32, 98]⟩ W (by decide)
  go_enter Try.func8, Try.ntmps8
  go_wp2_with fail
  refine (C1.out _).mono ?_
  rintro r w1 ⟨rfl, h1⟩
  go_wp2_with fail
  refine (C2.out _).mono ?_
  rintro r w2 ⟨rfl, h2⟩
  go_wp2_with fail
  refine (C3.out _).mono ?_
  rintro r w3 ⟨rfl, h3⟩
  go_wp2_with fail
  refine (num_any _ _).mono ?_
  rintro r w4 ⟨rfl, rfl⟩
  go_wp2_with fail
  refine (num_any _ _).mono ?_
  rintro r w4 ⟨rfl, rfl⟩
  go_wp2_with fail
  refine (num_any _ _).mono ?_
  rintro r w4 ⟨rfl, rfl⟩
  go_wp2_with fail
  refine (C4.out _).mono ?_
  rintro r w4 ⟨rfl, h4⟩
  go_wp2_with fail
  refine (C5.out _).mono ?_
  rintro r w5 ⟨rfl, h5⟩
  go_wp2_with fail
  refine (C6.out _).mono ?_
  rintro r w6 ⟨rfl, h6⟩
  go_wp2_with fail
  refine (C7.out _).mono ?_
  rintro r w7 ⟨rfl, h7⟩
  go_wp2
  go_ret
  refine ⟨rfl, ?_⟩
  have a1 := h1.size
  have a2 := h2.size
  have a3 := h3.size
  have a4 := h4.size
  have a5 := h5.size
  have a6 := h6.size
  exact (((((h1.trans (h2.mono (by omega))).trans (h3.mono (by omega))).trans (h4.mono (by omega))).trans (h5.mono (by omega))).trans (h6.mono (by omega))).trans (h7.mono (by omega))
end Go.Proofs.Ytpgpiopkaabncaa
