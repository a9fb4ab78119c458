/- Contract: twin. Conditions: those of the theorem's head. -/
import Derived.Test.YtdmbngkkbgmlfaaGreatDoorS3
namespace Go.Proofs.YtdmbngkkbgmlfaaGreatDoor.T
open Go.RowKit Go.Lib Go.Shelf

theorem bx11g {w : World} {b : Nat} {v0 v1 v2 v3 v4 v5 v6 v7 v8 v9 v10 : Value} {t : TypeId} (h : w.heap[b]? = some (.cells #[v0, v1, v2, v3, v4, v5, v6, v7, v8, v9, v10] t (0, 0))) : w.frozen? ⟨b, 0, none⟩ = false ∧ w.frozen? ⟨b, 1, none⟩ = false ∧ w.frozen? ⟨b, 2, none⟩ = false ∧ w.frozen? ⟨b, 3, none⟩ = false ∧ w.frozen? ⟨b, 4, none⟩ = false ∧ w.frozen? ⟨b, 5, none⟩ = false ∧ w.frozen? ⟨b, 6, none⟩ = false ∧ w.frozen? ⟨b, 7, none⟩ = false ∧ w.frozen? ⟨b, 8, none⟩ = false ∧ w.frozen? ⟨b, 9, none⟩ = false ∧ w.frozen? ⟨b, 10, none⟩ = false := by
  simp [World.frozen?, h]
theorem bx6 {w : World} {b : Nat} {v0 v1 v2 v3 v4 v5 : Value} {t : TypeId} (h : w.heap[b]? = some (.cells #[v0, v1, v2, v3, v4, v5] t (0, 0))) :
    w.cell? ⟨b, 0, none⟩ = some v0 ∧ w.cell? ⟨b, 1, none⟩ = some v1 ∧ w.cell? ⟨b, 2, none⟩ = some v2 ∧ w.cell? ⟨b, 3, none⟩ = some v3 ∧ w.cell? ⟨b, 4, none⟩ = some v4 ∧ w.cell? ⟨b, 5, none⟩ = some v5 := by
  refine ⟨?_, ?_, ?_, ?_, ?_, ?_⟩ <;> (rw [Lib.cell_of_heap h]; rfl)
theorem ext_frz {w : World} (x : Ext w) {b o : Nat} {v : Value} (h : w.cell? ⟨b, o, none⟩ = some v) (hf : w.frozen? ⟨b, o, none⟩ = false) : x.to.frozen? ⟨b, o, none⟩ = false := by
  have hlt := World.block_lt_of_cell? _ _ h
  have e := x.below.block b hlt
  rw [← hf]
  simp [World.frozen?, e]
/-- A row of items of one's own: from block N on; it may be written. -/
structure RwI (w : World) (N : Nat) (a : Option Addr) (l : List It) : Prop where
  s : ItS w a l
  n : ∀ b, a = some b → N ≤ b.block
  f : ∀ i, i < l.length → ∀ b, a = some b → ∀ j, w.frozen? ⟨b.block, j, none⟩ = false
theorem RwI.below {w w' : World} {N : Nat} {a : Option Addr} {l : List It} (h : RwI w N a l) (hb : Below w.heap.size w w') : RwI w' N a l :=
  ⟨h.s.below hb, h.n, fun i hi b e j => by
    obtain ⟨b', p', e', c0, _⟩ := h.s i hi
    rw [e] at e'
    cases e'
    have hlt := World.block_lt_of_cell? _ _ c0
    have q := hb.block _ hlt
    have := h.f i hi _ e j
    rw [← this]
    simp [World.frozen?, q]⟩
theorem RwI.mono {w : World} {N M : Nat} {a : Option Addr} {l : List It} (h : RwI w N a l) (hk : M ≤ N) : RwI w M a l := ⟨h.s, fun b e => Nat.le_trans hk (h.n b e), h.f⟩
theorem rwI_of {w : World} {N c n : Nat} {a : Option Addr} {l : List It} (h : w.ownsRow N 26 6 (.slice a n c) l.length (cellsI l)) : RwI w N a l := by
  refine ⟨itS_own h, ?_, ?_⟩
  · rintro b rfl
    rcases h.2 with ⟨h1, _⟩ | ⟨g, cap, cur, h1, q1, _⟩
    · cases h1
    · simp only [Value.slice.injEq, Option.some.injEq] at h1
      obtain ⟨rfl, _⟩ := h1
      exact q1
  · rintro i hi b rfl j
    rcases h.2 with ⟨h1, _⟩ | ⟨g, cap, cur, h1, q1, q2, _⟩
    · cases h1
    · simp only [Value.slice.injEq, Option.some.injEq] at h1
      obtain ⟨rfl, _⟩ := h1
      simp [World.frozen?, q2]
theorem own_sl {w : World} {N s n : Nat} {T : TypeId} {v : Value} {xs : List Value} (h : w.ownsRow N T s v n xs) : ∃ a c, v = .slice a n c := by
  rcases h.2 with ⟨rfl, rfl⟩ | ⟨g, cap, cur, rfl, _⟩
  · exact ⟨none, 0, rfl⟩
  · exact ⟨_, _, rfl⟩
theorem own_ge {w : World} {N n c m s : Nat} {T : TypeId} {a : Option Addr} {xs : List Value} (h : w.ownsRow N T s (.slice a n c) m xs) : ∀ b, a = some b → N ≤ b.block := by
  rintro b rfl
  rcases h.2 with ⟨h1, _⟩ | ⟨g, cap, cur, h1, q1, _⟩
  · cases h1
  · simp only [Value.slice.injEq, Option.some.injEq] at h1
    obtain ⟨rfl, _⟩ := h1
    exact q1
end Go.Proofs.YtdmbngkkbgmlfaaGreatDoor.T
namespace Go.Proofs.YtdmbngkkbgmlfaaGreatDoor.T.Q
open Go Go.RowKit Go.Lib
theorem results_load_tmp {fn : Func} {p u : Tmp} {ty : TypeId} {P : Program} (h : fn.results = #[.cell p ty, .tmp u]) (tmps : Array Value) (w : World) (g : Nat) (v : Value)
    (hp : tmps.getD p undef = .pointer (some ⟨g, 0, none⟩)) (hl : (loadVar ty ⟨g, 0, none⟩).run P w = .ok v w) : (results fn tmps).run P w = .ok (.tuple #[v, tmps.getD u undef]) w := by
  rw [results_cell_tmp h, hp]
  show (Result.ok (⟨g, 0, none⟩ : Addr) w).andThen _ = _
  dsimp only [Result.andThen]
  rw [hl]
end Go.Proofs.YtdmbngkkbgmlfaaGreatDoor.T.Q
