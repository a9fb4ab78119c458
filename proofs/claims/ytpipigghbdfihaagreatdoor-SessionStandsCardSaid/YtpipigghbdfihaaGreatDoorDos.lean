/- A session that came in. No condition beyond the theorems' heads. -/
import Derived.Test.YtpipigghbdfihaaGreatDoorDoa
namespace Go.Proofs.YtpipigghbdfihaaGreatDoor.T
open Go.ChangeShapes Go.WideShapes Go.ChangeAt Go.RowKit Go.Lib

theorem cSs : Tryz.prog.cellsOf 28 = 9 := by kernel_rfl
theorem len9 {α : Type} {l : List α} (h : l.length = 9) : ∃ a b c d e f g i j, l = [a, b, c, d, e, f, g, i, j] := by
  match l, h with
  | [a, b, c, d, e, f, g, i, j], _ => exact ⟨a, b, c, d, e, f, g, i, j, rfl⟩
section
variable {H : Type} {enc : TypeId × Value → H} {w : World}
theorem open_ss {n : Nat} {cs : List Value} {y : DataW H × List MemPlace} (h : DataW.trod enc Tryz.prog w 0 (fun _ => true) true n 28 cs = some y) (hz : ∀ m ∈ y.1.weights Tryz.prog 28, m ≤ reachBytes) : ∃ s : Ss, cs = [.int .i64 s.p, .string s.n, .string s.d, .int .i64 s.s, .int .i64 s.t, .int .i64 s.c, .int .i64 s.h, .int .i64 s.a, .int .i64 s.e] ∧ s.n.size ≤ 140737488351232 ∧ s.d.size ≤ 140737488351232 := by
  obtain ⟨xs, k, hk, rfl, hcl, hxl, hf⟩ := DataW.trod_struct Tryz.underlying28 h
  rw [cSs] at hcl
  obtain ⟨v0, v1, v2, v3, v4, v5, v6, v7, v8, rfl⟩ := len9 hcl
  obtain ⟨y0, y1, y2, y3, y4, y5, y6, y7, y8, rfl⟩ := len9 hxl
  have f0 : DataW.trod enc Tryz.prog w 0 (fun _ => true) true k 3 (List.take (Tryz.prog.cellsOf 3) [v0, v1, v2, v3, v4, v5, v6, v7, v8]) = some y0 := hf 0 _ rfl
  rw [cIo] at f0
  have f0 : DataW.trod enc Tryz.prog w 0 (fun _ => true) true k 3 [v0] = some y0 := f0
  have f1 : DataW.trod enc Tryz.prog w 0 (fun _ => true) true k 9 (List.take (Tryz.prog.cellsOf 9) [v1, v2, v3, v4, v5, v6, v7, v8]) = some y1 := hf 1 _ rfl
  rw [c9o] at f1
  have f1 : DataW.trod enc Tryz.prog w 0 (fun _ => true) true k 9 [v1] = some y1 := f1
  have f2 : DataW.trod enc Tryz.prog w 0 (fun _ => true) true k 9 (List.take (Tryz.prog.cellsOf 9) [v2, v3, v4, v5, v6, v7, v8]) = some y2 := hf 2 _ rfl
  rw [c9o] at f2
  have f2 : DataW.trod enc Tryz.prog w 0 (fun _ => true) true k 9 [v2] = some y2 := f2
  have f3 : DataW.trod enc Tryz.prog w 0 (fun _ => true) true k 3 (List.take (Tryz.prog.cellsOf 3) [v3, v4, v5, v6, v7, v8]) = some y3 := hf 3 _ rfl
  rw [cIo] at f3
  have f3 : DataW.trod enc Tryz.prog w 0 (fun _ => true) true k 3 [v3] = some y3 := f3
  have f4 : DataW.trod enc Tryz.prog w 0 (fun _ => true) true k 2 (List.take (Tryz.prog.cellsOf 2) [v4, v5, v6, v7, v8]) = some y4 := hf 4 _ rfl
  rw [c6o] at f4
  have f4 : DataW.trod enc Tryz.prog w 0 (fun _ => true) true k 2 [v4] = some y4 := f4
  have f5 : DataW.trod enc Tryz.prog w 0 (fun _ => true) true k 3 (List.take (Tryz.prog.cellsOf 3) [v5, v6, v7, v8]) = some y5 := hf 5 _ rfl
  rw [cIo] at f5
  have f5 : DataW.trod enc Tryz.prog w 0 (fun _ => true) true k 3 [v5] = some y5 := f5
  have f6 : DataW.trod enc Tryz.prog w 0 (fun _ => true) true k 3 (List.take (Tryz.prog.cellsOf 3) [v6, v7, v8]) = some y6 := hf 6 _ rfl
  rw [cIo] at f6
  have f6 : DataW.trod enc Tryz.prog w 0 (fun _ => true) true k 3 [v6] = some y6 := f6
  have f7 : DataW.trod enc Tryz.prog w 0 (fun _ => true) true k 3 (List.take (Tryz.prog.cellsOf 3) [v7, v8]) = some y7 := hf 7 _ rfl
  rw [cIo] at f7
  have f7 : DataW.trod enc Tryz.prog w 0 (fun _ => true) true k 3 [v7] = some y7 := f7
  have f8 : DataW.trod enc Tryz.prog w 0 (fun _ => true) true k 3 (List.take (Tryz.prog.cellsOf 3) [v8]) = some y8 := hf 8 _ rfl
  rw [cIo] at f8
  have f8 : DataW.trod enc Tryz.prog w 0 (fun _ => true) true k 3 [v8] = some y8 := f8
  obtain ⟨s0, rfl⟩ := int_at f0
  obtain ⟨s1, rfl, e1⟩ := str_at f1
  obtain ⟨s2, rfl, e2⟩ := str_at f2
  obtain ⟨s3, rfl⟩ := int_at f3
  obtain ⟨s4, rfl⟩ := int64_at f4
  obtain ⟨s5, rfl⟩ := int_at f5
  obtain ⟨s6, rfl⟩ := int_at f6
  obtain ⟨s7, rfl⟩ := int_at f7
  obtain ⟨s8, rfl⟩ := int_at f8
  simp only [DataW.weights, Tryz.underlying28, DataW.weightsEach, List.map_cons, List.map_nil, List.append_nil, List.mem_append] at hz
  exact ⟨⟨s0, s1, s2, s3, s4, s5, s6, s7, s8⟩, rfl, size_at e1 fun m hm => hz m (.inr (.inl hm)), size_at e2 fun m hm => hz m (.inr (.inr (.inl hm)))⟩
end
end Go.Proofs.YtpipigghbdfihaaGreatDoor.T
