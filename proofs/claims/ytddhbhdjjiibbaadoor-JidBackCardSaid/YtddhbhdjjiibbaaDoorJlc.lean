/- What the laws of layer 3 need of the calls' contracts: Parse where it goes well and where not; what is put together is read again. Condition: each text has at most 1048576 bytes. -/
import Derived.Test.YtddhbhdjjiibbaaDoorJlv
import Derived.Test.YtddhbhdjjiibbaaDoorJr6
import Derived.Test.YtddhbhdjjiibbaaDoorJq
namespace Go.Proofs.YtddhbhdjjiibbaaDoor
open Go.RowKit Go.Lib Go.Shelf Sg Jd

theorem more {B : Nat} {w w1 w2 : World} (h : Below B w w1) (hw : B ≤ w.heap.size) (h2 : Below w1.heap.size w1 w2) : Below B w w2 := h.trans (h2.mono (Nat.le_trans hw h.size))
theorem parse_some (s : ByteArray) (w : World) (hs : s.size ≤ 1048576) {j : J} (h : ps s.data.toList = some j) :
    Calls Tryd.prog 10 #[.string s] w fun e w' => e = .returned (.tuple #[.agg #[.string (mk j.n), .string (mk j.d), .string (mk j.r)], .int .i64 0]) ∧ Below w.heap.size w w' := by
  have := parse_any s w hs
  rw [h] at this
  exact this
theorem parse_none (s : ByteArray) (w : World) (hs : s.size ≤ 1048576) (h : ps s.data.toList = none) :
    Calls Tryd.prog 10 #[.string s] w fun e w' => e = .returned (.tuple #[.agg #[.string ⟨#[]⟩, .string ⟨#[]⟩, .string ⟨#[]⟩], .int .i64 30]) ∧ Below w.heap.size w w' := by
  have := parse_any s w hs
  rw [h] at this
  exact this
theorem rparse_some (s : ByteArray) (w : World) (hs : s.size ≤ 1048576) {j : J} (h : ps s.data.toList = some j) :
    Calls Tryd.prog 11 #[.string s] w fun e w' => e = .returned (.tuple #[.agg #[.string (mk j.n), .string (mk j.d), .string (mk j.r)], .int .i64 0]) ∧ Below w.heap.size w w' := by
  have := rparse_any s w hs
  rw [h] at this
  exact this
theorem rparse_none (s : ByteArray) (w : World) (hs : s.size ≤ 1048576) (h : ps s.data.toList = none) :
    Calls Tryd.prog 11 #[.string s] w fun e w' => e = .returned (.tuple #[.agg #[.string ⟨#[]⟩, .string ⟨#[]⟩, .string ⟨#[]⟩], .int .i64 30]) ∧ Below w.heap.size w w' := by
  have := rparse_any s w hs
  rw [h] at this
  exact this
theorem putB_data (n d r : ByteArray) : (putB n d r).data.toList = Jd.put (jd n d r) := mk_list _
theorem putB_size (n d r : ByteArray) : (putB n d r).size ≤ n.size + d.size + r.size + 2 := by
  have := put_len (jd n d r)
  rw [Lib.size_eq, putB_data]
  unfold jd at this
  simp only at this
  rw [← Lib.size_eq, ← Lib.size_eq, ← Lib.size_eq] at this
  exact this
theorem jd_mk (j : J) : jd (mk j.n) (mk j.d) (mk j.r) = j := by unfold jd; simp only [mk_list]
/-- What may be is parsed from its text. -/
theorem put_back (n d r : ByteArray) (W : World) (hs : n.size + d.size + r.size ≤ 1000000) (h : Ok (jd n d r)) :
    Calls Tryd.prog 10 #[.string (putB n d r)] W fun e w' => e = .returned (.tuple #[.agg #[.string n, .string d, .string r], .int .i64 0]) ∧ Below W.heap.size W w' := by
  have h1 := putB_size n d r
  have := parse_some (putB n d r) W (by omega) (by rw [putB_data]; exact ps_put h)
  unfold jd at this
  simp only [mk_of] at this
  exact this
theorem norm_back (n d r : ByteArray) (W : World) (h1 : n.size ≤ 1048576) (h2 : d.size ≤ 1048576) (h3 : r.size ≤ 1048576) (h : Ok (jd n d r)) :
    Calls Tryd.prog 18 #[.agg #[.string n, .string d, .string r]] W fun e w' => e = .returned (.agg #[.string n, .string d, .string r]) ∧ Below W.heap.size W w' := by
  have := norm_any n d r W h1 h2 h3
  have e := norm_ok h
  have e1 : foldL n.data.toList = n.data.toList := congrArg J.n e
  have e2 : Lib.trimSuffix (foldL d.data.toList) [46] = d.data.toList := congrArg J.d e
  rw [e1, e2, mk_of, mk_of] at this
  exact this
theorem check_yes3 (n d r : ByteArray) (W : World) (h1 : n.size ≤ 1048576) (h2 : d.size ≤ 1048576) (h3 : r.size ≤ 1048576) (h : ok (jd n d r) = true) :
    Calls Tryd.prog 14 #[.agg #[.string n, .string d, .string r]] W fun e w' => e = .returned (.int .i64 0) ∧ Below W.heap.size W w' := by
  have := check_any n d r W h1 h2 h3
  rw [h] at this
  exact this
theorem check_no3 (n d r : ByteArray) (W : World) (h1 : n.size ≤ 1048576) (h2 : d.size ≤ 1048576) (h3 : r.size ≤ 1048576) (h : ok (jd n d r) = false) :
    Calls Tryd.prog 14 #[.agg #[.string n, .string d, .string r]] W fun e w' => e = .returned (.int .i64 30) ∧ Below W.heap.size W w' := by
  have := check_any n d r W h1 h2 h3
  rw [h] at this
  exact this
/-- A part of a text is not longer. -/
theorem ps_len {l : List UInt8} {j : J} (h : ps l = some j) : j.n.length + j.d.length + j.r.length ≤ 3069 := by
  obtain ⟨h1, h2, h3, _⟩ := ps_some h
  have := h1.1
  have := h2.1
  have := h3.1
  omega
end Go.Proofs.YtddhbhdjjiibbaaDoor
