/- Sessions, what is said of them, rows of notes: in memory. No condition. -/
import Derived.Test.YthbeempmdpfnmaaGreatDoorSp
namespace Go.Proofs.YthbeempmdpfnmaaGreatDoor.T
open Go.RowKit Go.Lib

def sC (s : Ss) : Array Value := #[.int .i64 s.p, .string s.n, .string s.d, .int .i64 s.s, .int .i64 s.t, .int .i64 s.c, .int .i64 s.h, .int .i64 s.a, .int .i64 s.e]
def sA (s : Ss) : Value := .agg #[.int .i64 s.p, .string s.n, .string s.d, .int .i64 s.s, .int .i64 s.t, .int .i64 s.c, .int .i64 s.h, .int .i64 s.a, .int .i64 s.e]
def oA (o : So) (a b : Option Addr) (c d : Nat) : Value := .agg #[.slice a o.m.length c, .bool o.f, .slice b o.u.length d]
/-- A note at a place. -/
def NtAt (w : World) (b p : Nat) (n : Nt) : Prop := ∃ (ai az : Option Addr) (ci cz : Nat),
    w.cell? ⟨b, p, none⟩ = some (.int .i64 n.k) ∧
    w.cell? ⟨b, p + 1, none⟩ = some (.string n.n) ∧
    w.cell? ⟨b, p + 2, none⟩ = some (.string n.x) ∧
    w.cell? ⟨b, p + 3, none⟩ = some (.string n.d) ∧
    w.cell? ⟨b, p + 4, none⟩ = some (.int .i64 n.c) ∧
    w.cell? ⟨b, p + 5, none⟩ = some (.int .i64 n.s) ∧
    w.cell? ⟨b, p + 6, none⟩ = some (.int .i64 n.e) ∧
    w.cell? ⟨b, p + 7, none⟩ = some (.int .i64 n.t) ∧
    w.cell? ⟨b, p + 8, none⟩ = some (.bool n.o) ∧
    w.cell? ⟨b, p + 9, none⟩ = some (.slice ai n.l.length ci) ∧
    w.cell? ⟨b, p + 10, none⟩ = some (.slice az n.z.length cz) ∧ NtL w ai az n
theorem NtAt.below {w w' : World} {b p : Nat} {n : Nt} (h : NtAt w b p n) (hb : Below w.heap.size w w') : NtAt w' b p n := by
  obtain ⟨ai, az, ci, cz, c0, c1, c2, c3, c4, c5, c6, c7, c8, c9, c10, hn⟩ := h
  have hlt := World.block_lt_of_cell? _ _ c0
  exact ⟨ai, az, ci, cz, keep_cell hb c0 hlt, keep_cell hb c1 hlt, keep_cell hb c2 hlt, keep_cell hb c3 hlt, keep_cell hb c4 hlt, keep_cell hb c5 hlt, keep_cell hb c6 hlt, keep_cell hb c7 hlt, keep_cell hb c8 hlt, keep_cell hb c9 hlt, keep_cell hb c10 hlt, hn.below hb⟩
/-- Notes one behind the other. -/
def NtsS (w : World) (a : Option Addr) (l : List Nt) : Prop := ∀ i (h : i < l.length), ∃ b p, a = some ⟨b, p, none⟩ ∧ NtAt w b (p + i * 11) l[i]
theorem NtsS.below {w w' : World} {a : Option Addr} {l : List Nt} (h : NtsS w a l) (hb : Below w.heap.size w w') : NtsS w' a l := fun i hi => by
  obtain ⟨b, p, e, hn⟩ := h i hi
  exact ⟨b, p, e, hn.below hb⟩
theorem NtsS.nil (w : World) (a : Option Addr) : NtsS w a [] := fun i h => by cases h
theorem ntAt_of {w : World} {b : Nat} {t : TypeId} (n : Nt) {ai az : Option Addr} {ci cz : Nat} (h : w.heap[b]? = some (.cells #[.int .i64 n.k, .string n.n, .string n.x, .string n.d, .int .i64 n.c, .int .i64 n.s, .int .i64 n.e, .int .i64 n.t, .bool n.o, .slice ai n.l.length ci, .slice az n.z.length cz] t (0, 0))) (hn : NtL w ai az n) : NtAt w b 0 n :=
  ⟨ai, az, ci, cz, by rw [Lib.cell_of_heap h]; rfl, by rw [Lib.cell_of_heap h]; rfl, by rw [Lib.cell_of_heap h]; rfl, by rw [Lib.cell_of_heap h]; rfl, by rw [Lib.cell_of_heap h]; rfl, by rw [Lib.cell_of_heap h]; rfl, by rw [Lib.cell_of_heap h]; rfl, by rw [Lib.cell_of_heap h]; rfl, by rw [Lib.cell_of_heap h]; rfl, by rw [Lib.cell_of_heap h]; rfl, by rw [Lib.cell_of_heap h]; rfl, hn⟩
theorem nts_one {w : World} {b : Nat} {t : TypeId} (n : Nt) {ai az : Option Addr} {ci cz : Nat} (h : w.heap[b]? = some (.cells #[.int .i64 n.k, .string n.n, .string n.x, .string n.d, .int .i64 n.c, .int .i64 n.s, .int .i64 n.e, .int .i64 n.t, .bool n.o, .slice ai n.l.length ci, .slice az n.z.length cz] t (0, 0))) (hn : NtL w ai az n) : NtsS w (some ⟨b, 0, none⟩) [n] := fun i hi => by
  obtain rfl : i = 0 := by simpa using hi
  exact ⟨b, 0, rfl, ntAt_of n h hn⟩
theorem nts_two {w : World} {b : Nat} {t : TypeId} (n m : Nt) {ai az bi bz : Option Addr} {ci cz di dz : Nat} (h : w.heap[b]? = some (.cells #[.int .i64 n.k, .string n.n, .string n.x, .string n.d, .int .i64 n.c, .int .i64 n.s, .int .i64 n.e, .int .i64 n.t, .bool n.o, .slice ai n.l.length ci, .slice az n.z.length cz, .int .i64 m.k, .string m.n, .string m.x, .string m.d, .int .i64 m.c, .int .i64 m.s, .int .i64 m.e, .int .i64 m.t, .bool m.o, .slice bi m.l.length di, .slice bz m.z.length dz] t (0, 0))) (hn : NtL w ai az n) (hm : NtL w bi bz m) : NtsS w (some ⟨b, 0, none⟩) [n, m] := fun i hi => by
  have hi : i < 2 := hi
  obtain rfl | rfl : i = 0 ∨ i = 1 := by omega
  · exact ⟨b, 0, rfl, ai, az, ci, cz, by rw [Lib.cell_of_heap h]; rfl, by rw [Lib.cell_of_heap h]; rfl, by rw [Lib.cell_of_heap h]; rfl, by rw [Lib.cell_of_heap h]; rfl, by rw [Lib.cell_of_heap h]; rfl, by rw [Lib.cell_of_heap h]; rfl, by rw [Lib.cell_of_heap h]; rfl, by rw [Lib.cell_of_heap h]; rfl, by rw [Lib.cell_of_heap h]; rfl, by rw [Lib.cell_of_heap h]; rfl, by rw [Lib.cell_of_heap h]; rfl, hn⟩
  · exact ⟨b, 0, rfl, bi, bz, di, dz, by rw [Lib.cell_of_heap h]; rfl, by rw [Lib.cell_of_heap h]; rfl, by rw [Lib.cell_of_heap h]; rfl, by rw [Lib.cell_of_heap h]; rfl, by rw [Lib.cell_of_heap h]; rfl, by rw [Lib.cell_of_heap h]; rfl, by rw [Lib.cell_of_heap h]; rfl, by rw [Lib.cell_of_heap h]; rfl, by rw [Lib.cell_of_heap h]; rfl, by rw [Lib.cell_of_heap h]; rfl, by rw [Lib.cell_of_heap h]; rfl, hm⟩
theorem bx9 {w : World} {b : Nat} {v0 v1 v2 v3 v4 v5 v6 v7 v8 : Value} {t : TypeId} (h : w.heap[b]? = some (.cells #[v0, v1, v2, v3, v4, v5, v6, v7, v8] t (0, 0))) :
    w.cell? ⟨b, 0, none⟩ = some v0 ∧ w.cell? ⟨b, 1, none⟩ = some v1 ∧ w.cell? ⟨b, 2, none⟩ = some v2 ∧ w.cell? ⟨b, 3, none⟩ = some v3 ∧ w.cell? ⟨b, 4, none⟩ = some v4 ∧ w.cell? ⟨b, 5, none⟩ = some v5 ∧ w.cell? ⟨b, 6, none⟩ = some v6 ∧ w.cell? ⟨b, 7, none⟩ = some v7 ∧ w.cell? ⟨b, 8, none⟩ = some v8 := by
  refine ⟨?_, ?_, ?_, ?_, ?_, ?_, ?_, ?_, ?_⟩ <;> (rw [Lib.cell_of_heap h]; rfl)
theorem bx3 {w : World} {b : Nat} {v0 v1 v2 : Value} {t : TypeId} (h : w.heap[b]? = some (.cells #[v0, v1, v2] t (0, 0))) :
    w.cell? ⟨b, 0, none⟩ = some v0 ∧ w.cell? ⟨b, 1, none⟩ = some v1 ∧ w.cell? ⟨b, 2, none⟩ = some v2 := by
  refine ⟨?_, ?_, ?_⟩ <;> (rw [Lib.cell_of_heap h]; rfl)
/-- What a step gives. -/
def StP (x : Ss × So) (w : World) (e : Ending) (w' : World) : Prop := ∃ (a b : Option Addr) (c d : Nat), e = .returned (.tuple #[sA x.1, oA x.2 a b c d]) ∧ Below w.heap.size w w' ∧ NtsS w' a x.2.m ∧ NtsS w' b x.2.u
theorem ntl_plain (w : World) {n : Nt} (hl : n.l = []) (hz : n.z = []) (h1 : n.n.size ≤ 1000000) (h2 : n.x.size ≤ 1000000) (h3 : n.d.size ≤ 1000000) : NtL w none none n := by
  obtain ⟨k, nn, x, d, c, s, e, t, o, l, z⟩ := n
  subst hl hz
  exact nt_load ⟨h1, h2, h3, Nat.zero_le _, (fun y h => by cases h), Nat.zero_le _⟩ (ItS.nil _ _) (CdS.nil _ _)
end Go.Proofs.YthbeempmdpfnmaaGreatDoor.T
