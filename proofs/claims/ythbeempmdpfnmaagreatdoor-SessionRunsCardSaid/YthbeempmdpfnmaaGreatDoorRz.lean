/- A drawn region one of whose operations stores a session into a cell of its own. No condition. -/
import Derived.Test.YthbeempmdpfnmaaGreatDoorS4
import Derived.Test.YthbeempmdpfnmaaGreatDoorRr
namespace Go.Proofs.YthbeempmdpfnmaaGreatDoor.T
open Go.RowKit Go.Lib

/-- What holds of the worlds of such a region: w the call's, W0 the region's, Z the block that is stored to. -/
structure Jz (w W0 : World) (Z : Nat) (W : World) : Prop where
  bel : Below w.heap.size w W
  sz : W0.heap.size ≤ W.heap.size
  old : ∀ b, b < W0.heap.size → b ≠ Z → W.heap[b]? = W0.heap[b]?
  z : ∃ v0 v1 v2 v3 v4 v5 v6 v7 v8 : Value, W.heap[Z]? = some (.cells #[v0, v1, v2, v3, v4, v5, v6, v7, v8] 28 (0, 0))
def StZ (w : World) (Z : Nat) (W W' : World) : Prop := Below w.heap.size W W' ∧ W'.heap.size = W.heap.size ∧ (∀ b, b ≠ Z → W'.heap[b]? = W.heap[b]?) ∧ ∃ v0 v1 v2 v3 v4 v5 v6 v7 v8 : Value, W'.heap[Z]? = some (.cells #[v0, v1, v2, v3, v4, v5, v6, v7, v8] 28 (0, 0))
def RelZ (w : World) (Z kz : Nat) (i : Nat) (W W' : World) : Prop := if i = kz then StZ w Z W W' else Below W.heap.size W W'
theorem jz_drew {w W0 : World} {Z : Nat} (hb : Below w.heap.size w W0) (hz : ∃ v0 v1 v2 v3 v4 v5 v6 v7 v8 : Value, W0.heap[Z]? = some (.cells #[v0, v1, v2, v3, v4, v5, v6, v7, v8] 28 (0, 0))) : Jz w W0 Z W0.drew := ⟨hb.drew, Nat.le_refl _, fun _ _ _ => rfl, hz⟩
theorem jz_step {w W0 : World} {Z kz i : Nat} {W W' : World} (h : RelZ w Z kz i W W') (hJ : Jz w W0 Z W) : Jz w W0 Z W' := by
  unfold RelZ at h
  split at h
  · obtain ⟨h1, h2, h3, h4⟩ := h
    exact ⟨hJ.bel.trans h1, by rw [h2]; exact hJ.sz, fun b hb hZ => (h3 b hZ).trans (hJ.old b hb hZ), h4⟩
  · refine ⟨hJ.bel.trans (h.mono hJ.bel.size), Nat.le_trans hJ.sz h.size, fun b hb hZ => (h.block b (Nat.lt_of_lt_of_le hb hJ.sz)).trans (hJ.old b hb hZ), ?_⟩
    obtain ⟨v0, v1, v2, v3, v4, v5, v6, v7, v8, hz⟩ := hJ.z
    exact ⟨v0, v1, v2, v3, v4, v5, v6, v7, v8, (h.block Z (heap_lt hz)).trans hz⟩
theorem oldJ {w W0 W : World} {Z b : Nat} {o : Obj} (hJ : Jz w W0 Z W) (hb : b ≠ Z) (h : Hid (W0.heap[b]? = some o)) : Hid (W.heap[b]? = some o) := (hJ.old b (heap_lt h.out) hb).trans h.out
/-- A promise: kept by what makes memory, and, but where it speaks of the stored block (k), by the store. -/
structure Pz (w : World) (Z : Nat) where
  p : Value → World → Prop
  k : Bool
  m : ∀ v W W', (∃ v0 v1 v2 v3 v4 v5 v6 v7 v8 : Value, W.heap[Z]? = some (.cells #[v0, v1, v2, v3, v4, v5, v6, v7, v8] 28 (0, 0))) → Below W.heap.size W W' → p v W → p v W'
  s : k = false → ∀ v W W', StZ w Z W W' → p v W → p v W'
  u : k = true → ∀ v v' W, p v W → p v' W
def Pz.tt {w : World} {Z : Nat} : Pz w Z := ⟨fun _ _ => True, false, fun _ _ _ _ _ h => h, fun _ _ _ _ _ h => h, fun e => (by cases e)⟩
def Pz.eq {w : World} {Z : Nat} (u : Value) : Pz w Z := ⟨fun v _ => v = u, false, fun _ _ _ _ _ h => h, fun _ _ _ _ _ h => h, fun e => (by cases e)⟩
def Pz.ex {w : World} {Z : Nat} (N : Nat) (hN : Z < N) (cs : Array Value) (T : TypeId) (f : Nat → Value) : Pz w Z :=
  ⟨fun v W => ∃ B, v = f B ∧ N ≤ B ∧ W.heap[B]? = some (.cells cs T (0, 0)), false, fun _ _ _ _ hb ⟨B, h1, h2, h3⟩ => ⟨B, h1, h2, (hb.block _ (heap_lt h3)).trans h3⟩,
    fun _ _ _ _ hs ⟨B, h1, h2, h3⟩ => ⟨B, h1, h2, (hs.2.2.1 B (by omega)).trans h3⟩, fun e => (by cases e)⟩
def Pz.st {w : World} {Z : Nat} (cs : Array Value) : Pz w Z := ⟨fun _ W => W.heap[Z]? = some (.cells cs 28 (0, 0)), true, fun _ _ _ _ hb h => (hb.block Z (heap_lt h)).trans h, fun e => (by cases e), fun _ _ _ _ h => h⟩
def psZ {w : World} {Z : Nat} (L : List (Pz w Z)) (j : Nat) (v : Value) (W : World) : Prop := (L.getD j Pz.tt).p v W
def flagB {w : World} {Z : Nat} (L : List (Pz w Z)) (ds : Nat → Nat) (n N kz : Nat) : Bool := (List.range n).all fun j => (decide (j = kz) || !(L.getD j Pz.tt).k) && ((L.getD j Pz.tt).k || decide (ds j < N))
theorem plainR {P : Program} {o : Oper} {w : World} {Z kz i : Nat} {ψ : Value → World → Prop} {a : Act} {W : World} (h : (decide (i = kz)) = false) (hg : _root_.Go.Proofs.YthbeempmdpfnmaaGreatDoor.Gives P o ψ a W) : GivesR P o (RelZ w Z kz i W) ψ a W := by
  have h := of_decide_eq_false h
  intro K Q hK
  exact hg K Q fun v W' hb hv => hK v W' (by unfold RelZ; rw [if_neg h]; exact hb) hv
theorem stZ_of {w W : World} {Z kz : Nat} {v0 v1 v2 v3 v4 v5 v6 v7 v8 : Value} (hZ : w.heap.size ≤ Z) (hz : W.heap[Z]? = some (.cells #[v0, v1, v2, v3, v4, v5, v6, v7, v8] 28 (0, 0))) (u0 u1 u2 u3 u4 u5 u6 u7 u8 : Value) : RelZ w Z kz kz W (((((((((W.setCell ⟨Z, 0, none⟩ u0).setCell ⟨Z, 1, none⟩ u1).setCell ⟨Z, 2, none⟩ u2).setCell ⟨Z, 3, none⟩ u3).setCell ⟨Z, 4, none⟩ u4).setCell ⟨Z, 5, none⟩ u5).setCell ⟨Z, 6, none⟩ u6).setCell ⟨Z, 7, none⟩ u7).setCell ⟨Z, 8, none⟩ u8) := by
  unfold RelZ
  rw [if_pos rfl]
  exact ⟨((((((((((Below.refl w.heap.size W).setCell (p := ⟨Z, 0, none⟩) hZ _).setCell (p := ⟨Z, 1, none⟩) hZ _).setCell (p := ⟨Z, 2, none⟩) hZ _).setCell (p := ⟨Z, 3, none⟩) hZ _).setCell (p := ⟨Z, 4, none⟩) hZ _).setCell (p := ⟨Z, 5, none⟩) hZ _).setCell (p := ⟨Z, 6, none⟩) hZ _).setCell (p := ⟨Z, 7, none⟩) hZ _).setCell (p := ⟨Z, 8, none⟩) hZ _), by simp only [st_size], fun b hb => st9k hb u0 u1 u2 u3 u4 u5 u6 u7 u8, u0, u1, u2, u3, u4, u5, u6, u7, u8, st9 hz u0 u1 u2 u3 u4 u5 u6 u7 u8⟩
theorem region_Z {P : Program} {Q : Exit → Act → World → Prop} {l : List Oper} {a0 : Act} {id : Nat} {w W0 : World} {Z : Nat} (n kz : Nat) (ds : Nat → Nat) (ks : List Nat) (L : List (Pz w Z)) (hm : P.follows .mixedOrders = true) (hac : acyc l.toArray = true) (hsk : Region.sinkB .any l.toArray n = true) (hch : Region.chainB .any l.toArray n = true) (hn : n < l.toArray.size)
    (hseq : Region.seqB .any l.toArray (l.length - n) n (List.replicate n true ++ List.replicate (l.length - n) false).toArray = true) (hfm : formR l ds n a0.tmps.size = true) (hks : slotsB ds ks n a0.tmps.size = true) (hfl : flagB L ds n a0.tmps.size kz = true)
    (hkn : ¬ kz < n → ∀ i, i < n → Region.waitsFor .any l.toArray kz i = false) (hb : Below w.heap.size w W0) {c0 c1 c2 c3 c4 c5 c6 c7 c8 : Value} (hz : W0.heap[Z]? = some (.cells #[c0, c1, c2, c3, c4, c5, c6, c7, c8] 28 (0, 0)))
    (hstep : ∀ (i : Nat) (o : Oper), i < n → l[i]? = some o → ∀ a W, a.tmps.size = a0.tmps.size → (∀ s : Nat, s ∉ (List.range n).map ds → a.eval (.tmp s) = a0.eval (.tmp s)) → Jz w W0 Z W → ((decide (i = kz) || Region.waitsFor .any l.toArray kz i) = true → W.heap[Z]? = some (.cells #[c0, c1, c2, c3, c4, c5, c6, c7, c8] 28 (0, 0))) → (∀ e ∈ o.after, Region.binds .any e = true → e.on < n → psZ L e.on (a.eval (.tmp (ds e.on))) W) → GivesR P o (RelZ w Z kz i W) (psZ L i) a W)
    (hend : ∀ a W, a = canonL a ks a0 → Jz w W0 Z W → (∀ j, j < n → psZ L j (a.eval (.tmp (ds j))) W) → wpList P l.toArray Q (l.drop n) a W) : (Code.region id l.toArray true).wp P Q a0 W0 := by
  have hf : ∀ j, j < n → (j = kz ∨ (L.getD j Pz.tt).k = false) ∧ ((L.getD j Pz.tt).k = true ∨ ds j < a0.tmps.size) := fun j hj => by
    have h1 := List.all_eq_true.1 hfl j (List.mem_range.2 hj)
    simp only [Bool.and_eq_true, Bool.or_eq_true, decide_eq_true_eq, Bool.not_eq_true'] at h1
    exact h1
  refine region_psiC n ds ks (RelZ w Z kz) (Jz w W0 Z) (fun j W => j = kz → W.heap[Z]? = some (.cells #[c0, c1, c2, c3, c4, c5, c6, c7, c8] 28 (0, 0))) (psZ L) hm hac hsk hch hn hseq hfm hks ?_ (jz_drew hb ⟨_, _, _, _, _, _, _, _, _, hz⟩) (fun _ _ _ => hz) (fun i W W' _ h hJ => jz_step h hJ) ?_ ?_ ?_ hend
  · intro i hi hN v W h
    rcases (hf i hi).2 with h2 | h2
    · exact (L.getD i Pz.tt).u h2 v undef W h
    · omega
  · rintro i j W W' hi hj hne h hJ hx rfl
    unfold RelZ at h
    rw [if_neg hne] at h
    exact (h.block Z (heap_lt (hx rfl))).trans (hx rfl)
  · intro i j v W W' hi hj hne h hJ hp
    unfold RelZ at h
    split at h
    · rename_i e
      rcases (hf j hj).1 with h1 | h1
      · omega
      · exact (L.getD j Pz.tt).s h1 v W W' h hp
    · exact (L.getD j Pz.tt).m v W W' hJ.z h hp
  · intro i o hi ho a W hs hout hJ hxi hxw hdep
    refine hstep i o hi ho a W hs hout hJ (fun hw => ?_) hdep
    simp only [Bool.or_eq_true, decide_eq_true_eq] at hw
    rcases hw with rfl | hw
    · exact hxi rfl
    · by_cases hk : kz < n
      · exact hxw kz hk hw rfl
      · exact absurd hw (by rw [hkn hk i hi]; decide)
end Go.Proofs.YthbeempmdpfnmaaGreatDoor.T
