/- Of the document's steps: what a step gives. Conditions: those of each theorem's head. -/
import Derived.Test.YthbeempmdpfnmaaGreatDoorSg
namespace Go.Proofs.YthbeempmdpfnmaaGreatDoor.T
open Go.RowKit Go.Lib

theorem hdrew {V : World} {b : Nat} {o : Option Obj} (h : Hid (V.heap[b]? = o)) : Hid (V.drew.heap[b]? = o) := h
/-- The notes lie in the caller's blocks from N on, or are the note that was handed in. -/
def Fv (ai az : Option Addr) (n : Nt) (N : Nat) (w : World) (a : Option Addr) (l : List Nt) : Prop := ∀ W : World, (∀ k, N ≤ k → k < w.heap.size → W.heap[k]? = w.heap[k]?) → NtL W ai az n → NtsS W a l
theorem Fr.v {ai az : Option Addr} {n : Nt} {N : Nat} {w : World} {a : Option Addr} {l : List Nt} (h : Fr N w a l) : Fv ai az n N w a l := fun W hk _ => h W hk
theorem fv_one {N : Nat} {w : World} {b : Nat} {t : TypeId} (n : Nt) {ai az : Option Addr} {ci cz : Nat} (hN : N ≤ b) (h : w.heap[b]? = some (.cells #[.int .i64 n.k, .string n.n, .string n.x, .string n.d, .int .i64 n.c, .int .i64 n.s, .int .i64 n.e, .int .i64 n.t, .bool n.o, .slice ai n.l.length ci, .slice az n.z.length cz] t (0, 0))) : Fv ai az n N w (some ⟨b, 0, none⟩) [n] := fun _ hk hL => nts_one n ((hk b hN (heap_lt h)).trans h) hL
/-- What a step of the document's gives. -/
def StV (ai az : Option Addr) (n : Nt) (x : Ss × So) (w : World) (e : Ending) (w' : World) : Prop := ∃ (a b : Option Addr) (c d : Nat), e = .returned (.tuple #[sA x.1, oA x.2 a b c d]) ∧ Below w.heap.size w w' ∧ Fr w.heap.size w' a x.2.m ∧ Fv ai az n w.heap.size w' b x.2.u
theorem StQ.v {ai az : Option Addr} {n : Nt} {x : Ss × So} {w : World} {e : Ending} {w' : World} (h : StQ x w e w') : StV ai az n x w e w' := h.imp fun _ h => h.imp fun _ h => h.imp fun _ h => h.imp fun _ h => ⟨h.1, h.2.1, h.2.2.1, h.2.2.2.v⟩
theorem Fv.agree {ai az : Option Addr} {n : Nt} {N : Nat} {w W : World} {a : Option Addr} {l : List Nt} (h : Fv ai az n N w a l) (hs : w.heap.size ≤ W.heap.size) (hk : ∀ k, N ≤ k → k < w.heap.size → W.heap[k]? = w.heap[k]?) : Fv ai az n N W a l := fun V hV hL => h V (fun k h1 h2 => (hV k h1 (by omega)).trans (hk k h1 h2)) hL
theorem Fv.below {ai az : Option Addr} {n : Nt} {N : Nat} {w W : World} {a : Option Addr} {l : List Nt} (h : Fv ai az n N w a l) (hb : Below w.heap.size w W) : Fv ai az n N W a l := h.agree hb.size fun k _ h2 => hb.block k h2
theorem Fv.mono {ai az : Option Addr} {n : Nt} {N M : Nat} {w : World} {a : Option Addr} {l : List Nt} (h : Fv ai az n N w a l) (hM : M ≤ N) : Fv ai az n M w a l := fun V hV hL => h V (fun k h1 h2 => hV k (by omega) h2) hL
end Go.Proofs.YthbeempmdpfnmaaGreatDoor.T
