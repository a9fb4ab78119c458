/- An argument of the type of stanzas, opened: what reads as a datum is a stanza in memory. Condition: the datum's sizes are within the reach. -/
import Derived.Test.YtccpdfcmhggleaaGreatDoorTq9
import Derived.Test.YtccpdfcmhggleaaGreatDoorSk
namespace Go.Proofs.YtccpdfcmhggleaaGreatDoor
open Go.RowKit Go.Lib Tg Go.ChangeShapes Go.WideShapes

theorem cIo : Tryz.prog.cellsOf 3 = 1 := by kernel_rfl
theorem cJo : Tryz.prog.cellsOf 23 = 3 := by kernel_rfl
theorem cSo : Tryz.prog.cellsOf 26 = 14 := by kernel_rfl
theorem len3 {α : Type} {l : List α} (h : l.length = 3) : ∃ a b c, l = [a, b, c] := by
  match l, h with
  | [a, b, c], _ => exact ⟨a, b, c, rfl⟩
theorem len10 {α : Type} {l : List α} (h : l.length = 10) : ∃ a b c d e f g h i j, l = [a, b, c, d, e, f, g, h, i, j] := by
  match l, h with
  | [a, b, c, d, e, f, g, h, i, j], _ => exact ⟨a, b, c, d, e, f, g, h, i, j, rfl⟩
theorem len14 {α : Type} {l : List α} (h : l.length = 14) : ∃ a b c d e f g h i j k m n o, l = [a, b, c, d, e, f, g, h, i, j, k, m, n, o] := by
  match l, h with
  | [a, b, c, d, e, f, g, h, i, j, k, m, n, o], _ => exact ⟨a, b, c, d, e, f, g, h, i, j, k, m, n, o, rfl⟩
section
variable {H : Type} {enc : TypeId × Value → H} {w : World}
theorem jid_at {n : Nat} {v0 v1 v2 : Value} {y : DataW H × List MemPlace} (h : DataW.trod enc Tryz.prog w 0 (fun _ => true) true n 23 [v0, v1, v2] = some y) (hz : ∀ m ∈ y.1.weights Tryz.prog 23, m ≤ reachBytes) :
    ∃ s0 s1 s2 : ByteArray, v0 = .string s0 ∧ v1 = .string s1 ∧ v2 = .string s2 ∧ s0.size ≤ 140737488351232 ∧ s1.size ≤ 140737488351232 ∧ s2.size ≤ 140737488351232 := by
  obtain ⟨xs, k, hk, rfl, hcl, hxl, hf⟩ := DataW.trod_struct Tryz.underlying23 h
  obtain ⟨y0, y1, y2, rfl⟩ := len3 hxl
  have f0 : DataW.trod enc Tryz.prog w 0 (fun _ => true) true k 9 (List.take (Tryz.prog.cellsOf 9) [v0, v1, v2]) = some y0 := hf 0 _ rfl
  have f1 : DataW.trod enc Tryz.prog w 0 (fun _ => true) true k 9 (List.take (Tryz.prog.cellsOf 9) [v1, v2]) = some y1 := hf 1 _ rfl
  have f2 : DataW.trod enc Tryz.prog w 0 (fun _ => true) true k 9 (List.take (Tryz.prog.cellsOf 9) [v2]) = some y2 := hf 2 _ rfl
  rw [c9o] at f0
  rw [c9o] at f1
  rw [c9o] at f2
  have f0 : DataW.trod enc Tryz.prog w 0 (fun _ => true) true k 9 [v0] = some y0 := f0
  have f1 : DataW.trod enc Tryz.prog w 0 (fun _ => true) true k 9 [v1] = some y1 := f1
  have f2 : DataW.trod enc Tryz.prog w 0 (fun _ => true) true k 9 [v2] = some y2 := f2
  simp only [DataW.weights, Tryz.underlying23, DataW.weightsEach, List.map_cons, List.map_nil, List.append_nil, List.mem_append] at hz
  have z0 : ∀ m ∈ y0.1.weights Tryz.prog 9, m ≤ reachBytes := fun m hm => hz m (.inl hm)
  have z1 : ∀ m ∈ y1.1.weights Tryz.prog 9, m ≤ reachBytes := fun m hm => hz m (.inr (.inl hm))
  have z2 : ∀ m ∈ y2.1.weights Tryz.prog 9, m ≤ reachBytes := fun m hm => hz m (.inr (.inr hm))
  obtain ⟨s0, rfl, e0⟩ := str_at f0
  obtain ⟨s1, rfl, e1⟩ := str_at f1
  obtain ⟨s2, rfl, e2⟩ := str_at f2
  exact ⟨s0, s1, s2, rfl, rfl, rfl, size_at e0 z0, size_at e1 z1, size_at e2 z2⟩
theorem int_at {n : Nat} {v : Value} {y : DataW H × List MemPlace} (h : DataW.trod enc Tryz.prog w 0 (fun _ => true) true n 3 [v] = some y) : ∃ x : Int, v = .int .i64 x := by
  obtain ⟨x, hx, _⟩ := DataW.trod_int Tryz.underlying3 h
  exact ⟨x, by simpa using hx⟩
/-- A stanza that came in. -/
theorem open_st {n : Nat} {cs : List Value} {y : DataW H × List MemPlace} (h : DataW.trod enc Tryz.prog w 0 (fun _ => true) true n 26 cs = some y) (hz : ∀ m ∈ y.1.weights Tryz.prog 26, m ≤ reachBytes) :
    ∃ (s : St.S) (a : Option Addr) (c : Nat), cs = (stC s a c).toList ∧ KsIn w.heap.size w a s.ld ∧ (s.ty.size ≤ 140737488351232 ∧ s.fA.n.size ≤ 140737488351232 ∧ s.fA.d.size ≤ 140737488351232 ∧ s.fA.r.size ≤ 140737488351232 ∧ s.tA.n.size ≤ 140737488351232 ∧ s.tA.d.size ≤ 140737488351232 ∧ s.tA.r.size ≤ 140737488351232 ∧ s.id.size ≤ 140737488351232 ∧ s.sh.size ≤ 140737488351232 ∧ s.st.size ≤ 140737488351232 ∧ s.bd.size ≤ 140737488351232 ∧ s.cd.size ≤ 140737488351232) := by
  obtain ⟨xs, k, hk, rfl, hcl, hxl, hf⟩ := DataW.trod_struct Tryz.underlying26 h
  rw [cSo] at hcl
  obtain ⟨v0, v1, v2, v3, v4, v5, v6, v7, v8, v9, v10, v11, v12, v13, rfl⟩ := len14 hcl
  obtain ⟨y0, y1, y2, y3, y4, y5, y6, y7, y8, y9, rfl⟩ := len10 hxl
  have f0 : DataW.trod enc Tryz.prog w 0 (fun _ => true) true k 3 (List.take (Tryz.prog.cellsOf 3) [v0, v1, v2, v3, v4, v5, v6, v7, v8, v9, v10, v11, v12, v13]) = some y0 := hf 0 _ rfl
  have f1 : DataW.trod enc Tryz.prog w 0 (fun _ => true) true k 9 (List.take (Tryz.prog.cellsOf 9) [v1, v2, v3, v4, v5, v6, v7, v8, v9, v10, v11, v12, v13]) = some y1 := hf 1 _ rfl
  have f2 : DataW.trod enc Tryz.prog w 0 (fun _ => true) true k 23 (List.take (Tryz.prog.cellsOf 23) [v2, v3, v4, v5, v6, v7, v8, v9, v10, v11, v12, v13]) = some y2 := hf 2 _ rfl
  have f3 : DataW.trod enc Tryz.prog w 0 (fun _ => true) true k 23 (List.take (Tryz.prog.cellsOf 23) [v5, v6, v7, v8, v9, v10, v11, v12, v13]) = some y3 := hf 3 _ rfl
  have f4 : DataW.trod enc Tryz.prog w 0 (fun _ => true) true k 9 (List.take (Tryz.prog.cellsOf 9) [v8, v9, v10, v11, v12, v13]) = some y4 := hf 4 _ rfl
  have f5 : DataW.trod enc Tryz.prog w 0 (fun _ => true) true k 9 (List.take (Tryz.prog.cellsOf 9) [v9, v10, v11, v12, v13]) = some y5 := hf 5 _ rfl
  have f6 : DataW.trod enc Tryz.prog w 0 (fun _ => true) true k 9 (List.take (Tryz.prog.cellsOf 9) [v10, v11, v12, v13]) = some y6 := hf 6 _ rfl
  have f7 : DataW.trod enc Tryz.prog w 0 (fun _ => true) true k 9 (List.take (Tryz.prog.cellsOf 9) [v11, v12, v13]) = some y7 := hf 7 _ rfl
  have f8 : DataW.trod enc Tryz.prog w 0 (fun _ => true) true k 24 (List.take (Tryz.prog.cellsOf 24) [v12, v13]) = some y8 := hf 8 _ rfl
  have f9 : DataW.trod enc Tryz.prog w 0 (fun _ => true) true k 9 (List.take (Tryz.prog.cellsOf 9) [v13]) = some y9 := hf 9 _ rfl
  rw [cIo] at f0
  rw [c9o] at f1
  rw [cJo] at f2
  rw [cJo] at f3
  rw [c9o] at f4
  rw [c9o] at f5
  rw [c9o] at f6
  rw [c9o] at f7
  rw [c23o] at f8
  rw [c9o] at f9
  have f0 : DataW.trod enc Tryz.prog w 0 (fun _ => true) true k 3 [v0] = some y0 := f0
  have f1 : DataW.trod enc Tryz.prog w 0 (fun _ => true) true k 9 [v1] = some y1 := f1
  have f2 : DataW.trod enc Tryz.prog w 0 (fun _ => true) true k 23 [v2, v3, v4] = some y2 := f2
  have f3 : DataW.trod enc Tryz.prog w 0 (fun _ => true) true k 23 [v5, v6, v7] = some y3 := f3
  have f4 : DataW.trod enc Tryz.prog w 0 (fun _ => true) true k 9 [v8] = some y4 := f4
  have f5 : DataW.trod enc Tryz.prog w 0 (fun _ => true) true k 9 [v9] = some y5 := f5
  have f6 : DataW.trod enc Tryz.prog w 0 (fun _ => true) true k 9 [v10] = some y6 := f6
  have f7 : DataW.trod enc Tryz.prog w 0 (fun _ => true) true k 9 [v11] = some y7 := f7
  have f8 : DataW.trod enc Tryz.prog w 0 (fun _ => true) true k 24 [v12] = some y8 := f8
  have f9 : DataW.trod enc Tryz.prog w 0 (fun _ => true) true k 9 [v13] = some y9 := f9
  simp only [DataW.weights, Tryz.underlying26, DataW.weightsEach, List.map_cons, List.map_nil, List.append_nil, List.mem_append] at hz
  have z0 : ∀ m ∈ y0.1.weights Tryz.prog 3, m ≤ reachBytes := fun m hm => hz m (.inl hm)
  have z1 : ∀ m ∈ y1.1.weights Tryz.prog 9, m ≤ reachBytes := fun m hm => hz m (.inr (.inl hm))
  have z2 : ∀ m ∈ y2.1.weights Tryz.prog 23, m ≤ reachBytes := fun m hm => hz m (.inr (.inr (.inl hm)))
  have z3 : ∀ m ∈ y3.1.weights Tryz.prog 23, m ≤ reachBytes := fun m hm => hz m (.inr (.inr (.inr (.inl hm))))
  have z4 : ∀ m ∈ y4.1.weights Tryz.prog 9, m ≤ reachBytes := fun m hm => hz m (.inr (.inr (.inr (.inr (.inl hm)))))
  have z5 : ∀ m ∈ y5.1.weights Tryz.prog 9, m ≤ reachBytes := fun m hm => hz m (.inr (.inr (.inr (.inr (.inr (.inl hm))))))
  have z6 : ∀ m ∈ y6.1.weights Tryz.prog 9, m ≤ reachBytes := fun m hm => hz m (.inr (.inr (.inr (.inr (.inr (.inr (.inl hm)))))))
  have z7 : ∀ m ∈ y7.1.weights Tryz.prog 9, m ≤ reachBytes := fun m hm => hz m (.inr (.inr (.inr (.inr (.inr (.inr (.inr (.inl hm))))))))
  have z8 : ∀ m ∈ y8.1.weights Tryz.prog 24, m ≤ reachBytes := fun m hm => hz m (.inr (.inr (.inr (.inr (.inr (.inr (.inr (.inr (.inl hm)))))))))
  have z9 : ∀ m ∈ y9.1.weights Tryz.prog 9, m ≤ reachBytes := fun m hm => hz m (.inr (.inr (.inr (.inr (.inr (.inr (.inr (.inr (.inr (hm))))))))))
  clear hz hf
  obtain ⟨x0, rfl⟩ := int_at f0
  obtain ⟨s1, rfl, e1⟩ := str_at f1
  obtain ⟨s4, rfl, e4⟩ := str_at f4
  obtain ⟨s5, rfl, e5⟩ := str_at f5
  obtain ⟨s6, rfl, e6⟩ := str_at f6
  obtain ⟨s7, rfl, e7⟩ := str_at f7
  obtain ⟨s9, rfl, e9⟩ := str_at f9
  obtain ⟨p0, p1, p2, rfl, rfl, rfl, g20, g21, g22⟩ := jid_at f2 z2
  obtain ⟨q0, q1, q2, rfl, rfl, rfl, g30, g31, g32⟩ := jid_at f3 z3
  obtain ⟨a, l0, c, rfl⟩ : ∃ a l0 c, v12 = .slice a l0 c := by
    rcases DataW.trod_slice Tryz.underlying24 f8 with ⟨hcs, _⟩ | ⟨a, len, cap, elems, rest, n', hk2, hcs, _⟩
    · exact ⟨none, 0, 0, by simpa using hcs⟩
    · exact ⟨some a, len, cap, by simpa using hcs⟩
  obtain ⟨l, rfl, _, hks⟩ := open_elems f8 z8
  exact ⟨⟨x0, s1, ⟨p0, p1, p2⟩, ⟨q0, q1, q2⟩, s4, s5, s6, s7, l, s9⟩, a, c, rfl, hks, size_at e1 z1, g20, g21, g22, g30, g31, g32, size_at e4 z4, size_at e5 z5, size_at e6 z6, size_at e7 z7, size_at e9 z9⟩
end
end Go.Proofs.YtccpdfcmhggleaaGreatDoor
