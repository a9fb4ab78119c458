/- Rows of bytes; texts out of lists. No condition. -/
import Derived.Test.YtccpdfcmhggleaaGreatDoorBe
import Derived.Lib.AppendStr
namespace Go.Proofs.YtccpdfcmhggleaaGreatDoor.Sn
open Go.Lib
abbrev B8 := List UInt8
def mk (l : B8) : ByteArray := ⟨l.toArray⟩
theorem mk_list (l : B8) : (mk l).data.toList = l := by simp [mk]
theorem mk_size (l : B8) : (mk l).size = l.length := by rw [Lib.size_eq, mk_list]
theorem mk_of (s : ByteArray) : mk s.data.toList = s := by simp [mk]
theorem mk_eq {s : ByteArray} {l : B8} (h : s.data.toList = l) : s = mk l := by rw [← h, mk_of]
end Go.Proofs.YtccpdfcmhggleaaGreatDoor.Sn
namespace Go.Proofs.YtccpdfcmhggleaaGreatDoor
open Go.RowKit Go.Lib Go.Shelf Tg Sn
def byteV (l : B8) : List Value := l.map fun b => .int .u8 (b.toNat : Int)
theorem byteV_snoc (l : B8) (c : UInt8) : byteV (l ++ [c]) = byteV l ++ [.int .u8 (c.toNat : Int)] := by simp [byteV]
theorem infoU8 : (Tryz.prog.info? 5).map (fun i => (i.zero, i.size, i.bytes)) = some (some (.int .u8 0), 1, 1) := by kernel_rfl
theorem tok_conv {w : World} {N : Nat} {v : Value} {l : B8} (h : w.ownsRow N 5 1 v l.length (byteV l)) : (convert 94 9 v).run Tryz.prog w = .ok (.string (Sn.mk l)) w := by
  rcases h.2 with ⟨rfl, h0⟩ | ⟨g, cap, cur, e0, q1, q2, q3, q4, q5, q6⟩
  · obtain rfl := List.length_eq_zero_iff.1 h0
    rw [run_convert_bytes_string w 94 9 5 none 0 0 Tryz.underlying94 Tryz.underlying5 Tryz.underlying9]
    rfl
  · subst e0
    refine run_convert_bytes_back w 94 9 5 _ cap l Tryz.underlying94 Tryz.underlying5 Tryz.underlying9 fun j hj => ?_
    have h0 : (⟨g, 0, none⟩ : Addr).add j = ⟨g, j, none⟩ := by unfold Addr.add; split <;> simp_all
    rw [h0, Lib.cell_of_heap q2]
    have hj2 : (byteV l)[j]? = some (.int .u8 (l[j].toNat : Int)) := by simp [byteV, List.getElem?_eq_getElem hj]
    rw [← q6, List.getElem?_take] at hj2
    split at hj2
    · simpa using hj2
    · cases hj2
theorem sp8_is {c : UInt8} (h : sp8 c = true) : c = 38 ∨ c = 60 ∨ c = 62 ∨ c = 39 ∨ c = 34 ∨ c = 9 ∨ c = 10 ∨ c = 13 := by
  simpa [sp8, or_assoc] using h
end Go.Proofs.YtccpdfcmhggleaaGreatDoor
