/- Contracts: which widths there are; a number's bytes (package tlv's, and the document's own). Conditions: those of each theorem's head. -/
import Derived.Test.YthbpkdcjfcbngaaDoorTa
import Derived.Test.YthbpkdcjfcbngaaDoorProg
import Derived.WalkKit
import Derived.WalkSpells
import Derived.WalkLawsBesides
import Derived.BigQuiet
import Derived.Lib.Hide
import Derived.LoopN
import Derived.Laws.OwnMore
namespace Go.Proofs.YthbpkdcjfcbngaaDoor
open Go.RowKit Go.Lib

theorem more {w a b : World} (h : Below w.heap.size w a) (hn : w.heap.size ≤ a.heap.size) (k : Below a.heap.size a b) : Below w.heap.size w b := h.trans (k.mono hn)
/-- What leaves no trace. -/
def Pure (v : Value) (w : World) (e : Ending) (w' : World) : Prop := e = .returned v ∧ w' = w
/-- What makes memory of its own at most. -/
def Gives (v : Value) (w : World) (e : Ending) (w' : World) : Prop := e = .returned v ∧ Below w.heap.size w w'
set_option maxHeartbeats 1000000 in
theorem isWidth_any (n : Int) (w : World) : Calls Tryd.prog 29 #[.int .i64 n] w (Pure (.bool (wid n)) w) := by
  unfold wid
  by_cases h1 : n = 1
  · subst h1
    go_enter Tryd.func29, Tryd.ntmps29
    go_wp2_with fail
    go_ret
    exact ⟨rfl, rfl⟩
  by_cases h2 : n = 2
  · subst h2
    go_enter Tryd.func29, Tryd.ntmps29
    go_wp2_with fail
    go_ret
    exact ⟨rfl, rfl⟩
  by_cases h4 : n = 4
  · subst h4
    go_enter Tryd.func29, Tryd.ntmps29
    go_wp2_with fail
    go_ret
    exact ⟨rfl, rfl⟩
  have e1 : (n == 1) = false := by simpa using h1
  have e2 : (n == 2) = false := by simpa using h2
  have e4 : (n == 4) = false := by simpa using h4
  go_enter Tryd.func29, Tryd.ntmps29
  go_wp2_with fail
  go_ret
  refine ⟨?_, rfl⟩
  rw [e1, e2, e4]
  rfl
set_option maxHeartbeats 1000000 in
theorem rwidth_any (n : Int) (w : World) : Calls Tryd.prog 26 #[.int .i64 n] w (Pure (.bool (wid n)) w) := by
  unfold wid
  by_cases h1 : n = 1
  · subst h1
    go_enter Tryd.func26, Tryd.ntmps26
    go_wp2_with fail
    go_ret
    exact ⟨rfl, rfl⟩
  by_cases h2 : n = 2
  · subst h2
    go_enter Tryd.func26, Tryd.ntmps26
    go_wp2_with fail
    go_ret
    exact ⟨rfl, rfl⟩
  by_cases h4 : n = 4
  · subst h4
    go_enter Tryd.func26, Tryd.ntmps26
    go_wp2_with fail
    go_ret
    exact ⟨rfl, rfl⟩
  have e1 : (n == 1) = false := by simpa using h1
  have e2 : (n == 2) = false := by simpa using h2
  have e4 : (n == 4) = false := by simpa using h4
  go_enter Tryd.func26, Tryd.ntmps26
  go_wp2_with fail
  go_ret
  refine ⟨?_, rfl⟩
  rw [e1, e2, e4]
  rfl
def byteV (l : List UInt8) : List Value := l.map fun b => .int .u8 (b.toNat : Int)
theorem infoU8 : (Tryd.prog.info? 5).map (fun i => (i.zero, i.size, i.bytes)) = some (some (.int .u8 0), 1, 1) := by kernel_rfl
theorem fill_dig {K j x : Nat} (h : j < K) : (List.replicate (K - j) (Value.int .u8 0) ++ byteV (dig x j)).set (K - 1 - j) (.int .u8 ((x / 256 ^ j % 256 : Nat) : Int)) = List.replicate (K - (j + 1)) (.int .u8 0) ++ byteV (dig x (j + 1)) := by
  obtain ⟨d, rfl⟩ : ∃ d, K = j + 1 + d := ⟨K - (j + 1), by omega⟩
  have e1 : j + 1 + d - j = d + 1 := by omega
  have e2 : j + 1 + d - 1 - j = d := by omega
  have e3 : j + 1 + d - (j + 1) = d := by omega
  rw [e1, e2, e3, List.replicate_succ', List.append_assoc, List.set_append_right _ _ (by simp), List.length_replicate, Nat.sub_self, List.singleton_append, List.set_cons_zero, dig, byteV, byteV, List.map_cons, By.u_nat (Nat.mod_lt _ (by decide))]
theorem tok_conv {w : World} {N : Nat} {v : Value} {l : List UInt8} (h : w.ownsRow N 5 1 v l.length (byteV l)) : (convert 53 9 v).run Tryd.prog w = .ok (.string (mk l)) w := by
  rcases h.2 with ⟨rfl, h0⟩ | ⟨g, cap, cur, e0, q1, q2, q3, q4, q5, q6⟩
  · obtain rfl := List.length_eq_zero_iff.1 h0
    rw [run_convert_bytes_string w 53 9 5 none 0 0 Tryd.underlying53 Tryd.underlying5 Tryd.underlying9]
    rfl
  · subst e0
    refine run_convert_bytes_back w 53 9 5 _ cap l Tryd.underlying53 Tryd.underlying5 Tryd.underlying9 fun j hj => ?_
    have h0 : (⟨g, 0, none⟩ : Addr).add j = ⟨g, j, none⟩ := by unfold Addr.add; split <;> simp_all
    rw [h0, Lib.cell_of_heap q2]
    have hj2 : (byteV l)[j]? = some (.int .u8 (l[j].toNat : Int)) := by simp [byteV, List.getElem?_eq_getElem hj]
    rw [← q6, List.getElem?_take] at hj2
    split at hj2
    · simpa using hj2
    · cases hj2
end Go.Proofs.YthbpkdcjfcbngaaDoor
