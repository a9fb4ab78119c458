/- What the listed variables give: a world for the witness that holds them; an address as an argument: opened, shut, its reach. No condition beyond the rows' own lists. -/
import Derived.Test.YthhmdkdpfeofjaaDoorCards
import Derived.Test.YthhmdkdpfeofjaaDoorTie
import Derived.Lib.LaidU8T
import Derived.Lib.SmallJoins
import Derived.ProofKit
import Derived.OpenShut
import Derived.ShutString
import Derived.ChangeOld
import Derived.SizedLaws
import Derived.Deep.DeepHandedRow
namespace Go.Proofs.YthhmdkdpfeofjaaDoor
open Go.ChangeShapes Go.WideShapes Go.ChangeAt Go.RowKit Go.Lib Go.Shelf

theorem own : ownKnob Tryd.prog.godebug = none := by kernel_rfl
theorem laidOut : laidOutB Tryd.prog = true := by kernel_rfl
def firstCells : Array Value := (firstTab.map (Value.int .u8)).toArray
def acceptCells : Array Value := ((List.range 16).flatMap fun i => [Value.int .u8 (accLo i : Int), Value.int .u8 (accHi i : Int)]).toArray
def relay (cs : Array Value) : Obj → Obj
  | .cells _ t frozen => .cells cs t frozen
  | o => o
/-- A world for the witness: the settled one, the two tables holding what their text lays. -/
noncomputable def laidWorld (os : Os) : World :=
  { World.holding Tryd.prog os ⟨#[], #[], []⟩ with heap := ((World.holding Tryd.prog os ⟨#[], #[], []⟩).heap.modify 1 (relay firstCells)).modify 2 (relay acceptCells) }

section
variable {H : Type} {enc : TypeId × Value → H} {w : World} {base : Nat} {sp : Nat → Bool} {held : Bool}
theorem jid_open {r : Reach} {b0 : Nat} {v : Value} {x : DataW H} {p : List MemPlace} (hval : Value.okWide Tryd.prog w r b0 30 v) (h : DataW.Trod enc Tryd.prog w base sp held 30 v x p) :
    ∃ n d e : ByteArray, v = .agg #[.string n, .string d, .string e] ∧ x = .agg [.lit (.string n.data.toList), .lit (.string d.data.toList), .lit (.string e.data.toList)] ∧ p = [] ∧ n.size ≤ maxLen ∧ d.size ≤ maxLen ∧ e.size ≤ maxLen := by
  obtain ⟨c0, c1, c2, y0, y1, y2, m, rfl, rfl, rfl, h0, h1, h2⟩ := Go.Joins.open_agg3 Tryd.underlying30 (by kernel_rfl) (by kernel_rfl) hval h
  obtain ⟨n, e0, rfl, wn⟩ := DataW.trod_string Tryd.underlying9 h0
  obtain ⟨d, e1, rfl, wd⟩ := DataW.trod_string Tryd.underlying9 h1
  obtain ⟨e, e2, rfl, we⟩ := DataW.trod_string Tryd.underlying9 h2
  simp only [List.cons.injEq, and_true] at e0 e1 e2
  subst e0 e1 e2
  exact ⟨n, d, e, rfl, rfl, rfl, wn, wd, we⟩
theorem jid_shut {n d e : ByteArray} (wn : n.size ≤ maxLen) (wd : d.size ≤ maxLen) (we : e.size ≤ maxLen) :
    DataW.Trod enc Tryd.prog w base sp held 30 (.agg #[.string n, .string d, .string e]) (.agg [.lit (.string n.data.toList), .lit (.string d.data.toList), .lit (.string e.data.toList)]) [] :=
  Go.Joins.shut_agg3 (y0 := (.lit (.string n.data.toList), [])) (y1 := (.lit (.string d.data.toList), [])) (y2 := (.lit (.string e.data.toList), [])) Tryd.underlying30 (by kernel_rfl) (by kernel_rfl)
    (Go.Deep.shut_string_cell Tryd.underlying9 wn) (Go.Deep.shut_string_cell Tryd.underlying9 wd) (Go.Deep.shut_string_cell Tryd.underlying9 we)
theorem jid_sized {ts : List TypeId} {ds : List (DataW H)} (h : (DataW.weightsEach Tryd.prog ts ds).all (· ≤ reachBytes) = true) {j : Nat} {a b c : List UInt8} (ht : ts[j]? = some 30) (hd : ds[j]? = some (.agg [.lit (.string a), .lit (.string b), .lit (.string c)])) :
    a.length ≤ reachBytes ∧ b.length ≤ reachBytes ∧ c.length ≤ reachBytes := by
  have key : ∀ n, n ∈ [a.length, b.length, c.length] → n ≤ reachBytes := fun n hn => by
    have := List.all_eq_true.1 h n (DataW.weights_mem_each ht hd n (by simpa [DataW.weights, DataW.weightsEach, Tryd.underlying30] using hn))
    simpa using this
  exact ⟨key _ (by simp), key _ (by simp), key _ (by simp)⟩
end
end Go.Proofs.YthhmdkdpfeofjaaDoor
