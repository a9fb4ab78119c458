/- The contract of the document's space where one namespace is declared for no prefix. -/
import Derived.Test.YtolnpfcncmcacaaGreatDoorBu
namespace Go.Proofs.YtolnpfcncmcacaaGreatDoor
open Go.RowKit Go.Lib Go.Shelf Tg Sn

theorem space_one (w : World) (a : Option Addr) (d : Nat) (b : ByteArray) (hx : ∃ B : Nat, w.ownsRow B 126 2 (.slice a 1 d) 1 [.string ⟨#[]⟩, .string b]) :
    Calls Tryz.prog 83 #[.slice a 1 d, .string ⟨#[]⟩] w fun e w' => e = .returned (.tuple #[.string b, .bool true]) ∧ Below w.heap.size w w' := by
  obtain ⟨B, hx⟩ := hx
  rcases hx.2 with ⟨hv, _⟩ | ⟨g, c, cur, hv, _⟩
  · cases hv
  cases hv
  have x0 := hx.cellAt 0 (by decide)
  have x1 := hx.cellAt 1 (by decide)
  have x0 : w.cell? ⟨g, 0, none⟩ = some (.string ⟨#[]⟩) := x0
  have x1 : w.cell? ⟨g, 1, none⟩ = some (.string b) := x1
  have t1 : ((⟨#[]⟩ : ByteArray).toList == (⟨#[]⟩ : ByteArray).toList) = true := by simp
  clear hx
  go_enter Tryz.func83, Tryz.ntmps83
  go_wp2_with fail
  go_loopw [6] (fun i wr => i = .int .i64 0 ∧ wr = w) (fun _ _ => 0)
  case atStart => exact ⟨rfl, rfl⟩
  case round =>
    obtain ⟨rfl, rfl⟩ := hrel
    go_wp2_with fail
    go_ret2
    exact ⟨rfl, Below.refl _ _⟩
end Go.Proofs.YtolnpfcncmcacaaGreatDoor
