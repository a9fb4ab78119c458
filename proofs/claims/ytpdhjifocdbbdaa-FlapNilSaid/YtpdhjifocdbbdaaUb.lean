/- A reader in memory; contracts: isChannel, Next, number, and what a frame under way tells of itself. Conditions: those of each theorem's head. -/
import Derived.Test.YtpdhjifocdbbdaaTe
import Derived.Test.YtpdhjifocdbbdaaUa
import Derived.Deep.AppendLies
import Derived.Deep.DeepCutAuto
namespace Go.Proofs.Ytpdhjifocdbbdaa
open Go.RowKit Go.Lib

theorem own_keep {w w' : World} {N n s : Nat} {T : TypeId} {v : Value} {xs : List Value} (h : w.ownsRow N T s v n xs) (hk : ∀ b, v.ownBlock = some b → w'.heap[b]? = w.heap[b]?) : w'.ownsRow N T s v n xs := by
  refine ⟨h.1, ?_⟩
  rcases h.2 with h3 | ⟨g, cap, cur, rfl, q1, q2, q3⟩
  · exact .inl h3
  · exact .inr ⟨g, cap, cur, rfl, q1, (hk g rfl).trans q2, q3⟩
theorem own_heap {w : World} {N n s : Nat} {T : TypeId} {v : Value} {xs : List Value} (h : w.ownsRow N T s v n xs) {b : Nat} (hb : v.ownBlock = some b) : N ≤ b ∧ ∃ cur, w.heap[b]? = some (.cells cur T (0, 0)) := by
  rcases h.2 with ⟨rfl, _⟩ | ⟨g, cap, cur, rfl, q1, q2, q3⟩
  · cases hb
  · cases hb
    exact ⟨q1, cur, q2⟩
theorem own_below {w w' : World} {N n s : Nat} {T : TypeId} {v : Value} {xs : List Value} (h : w.ownsRow N T s v n xs) (hb : Below w.heap.size w w') : w'.ownsRow N T s v n xs :=
  own_keep h fun b e => by
    obtain ⟨_, cur, hc⟩ := own_heap h e
    exact hb.block _ (heap_lt hc)
theorem setCell_other {W : World} {P i b : Nat} {u : Value} (h : b ≠ P) : (W.setCell ⟨P, i, none⟩ u).heap[b]? = W.heap[b]? := Below.heap_setCell _ _ _ _ h
theorem setI {W : World} {P : Nat} {cs : Array Value} {t : TypeId} (h : W.heap[P]? = some (.cells cs t (0, 0))) (i : Nat) (u : Value) : (W.setCell ⟨P, i, none⟩ u).heap[P]? = some (.cells (cs.setIfInBounds i u) t (0, 0)) := by
  simp [World.setCell, Array.getElem?_modify, h]

/-- A reader's cells. -/
def rcells (v : Value) (z : Int) (p : Option Int) (e : Int) : Array Value := #[v, .int .i64 z, .int .i64 (p.getD 0), .bool p.isSome, .int .i64 e]
/-- At R is a reader that has read l of the frame under way; N: all that is its own is made no earlier. -/
structure Rk (N R : Nat) (w : World) (v : Value) (l : List UInt8) (z : Int) (p : Option Int) (e : Int) : Prop where
  box : w.heap[R]? = some (.cells (rcells v z p e) 52 (0, 0))
  row : w.ownsRow N 5 1 v l.length (byteV l)
  le : N ≤ R
theorem Rk.cells {N R : Nat} {w : World} {v : Value} {l : List UInt8} {z : Int} {p : Option Int} {e : Int} (h : Rk N R w v l z p e) :
    w.cell? ⟨R, 0, none⟩ = some v ∧ w.cell? ⟨R, 1, none⟩ = some (.int .i64 z) ∧ w.cell? ⟨R, 2, none⟩ = some (.int .i64 (p.getD 0)) ∧ w.cell? ⟨R, 3, none⟩ = some (.bool p.isSome) ∧ w.cell? ⟨R, 4, none⟩ = some (.int .i64 e) := by
  refine ⟨?_, ?_, ?_, ?_, ?_⟩ <;> (rw [Lib.cell_of_heap h.box]; rfl)
theorem Rk.free {N R : Nat} {w : World} {v : Value} {l : List UInt8} {z : Int} {p : Option Int} {e : Int} (h : Rk N R w v l z p e) (i : Nat) : w.frozen? ⟨R, i, none⟩ = false := by
  simp [World.frozen?, h.box]
theorem Rk.bytes {N R : Nat} {w : World} {v : Value} {l : List UInt8} {z : Int} {p : Option Int} {e : Int} (h : Rk N R w v l z p e) (hl : 0 < l.length) :
    ∃ g cap, v = .slice (some ⟨g, 0, none⟩) l.length cap ∧ l.length ≤ cap ∧ N ≤ g ∧ ∀ i, i < l.length → w.cell? ⟨g, i, none⟩ = some (.int .u8 (By.nb l i : Int)) := by
  rcases h.row.2 with ⟨_, h0⟩ | ⟨g, cap, cur, rfl, q1, q2, q3, q4, q5, q6⟩
  · omega
  · refine ⟨g, cap, rfl, by omega, q1, fun i hi => ?_⟩
    rw [Lib.cell_of_heap q2]
    have e2 : (byteV l)[i]? = some (.int .u8 (By.nb l i : Int)) := by
      simp [byteV, By.nb, List.getD_eq_getElem?_getD, List.getElem?_eq_getElem hi]
    rw [← q6, List.getElem?_take] at e2
    split at e2
    · simpa using e2
    · cases e2
theorem Rk.below {N R : Nat} {w w' : World} {v : Value} {l : List UInt8} {z : Int} {p : Option Int} {e : Int} (h : Rk N R w v l z p e) (hb : Below w.heap.size w w') : Rk N R w' v l z p e :=
  ⟨(hb.block _ (heap_lt h.box)).trans h.box, own_below h.row hb, h.le⟩
theorem Rk.keep {N R : Nat} {w w' : World} {v : Value} {l : List UInt8} {z : Int} {p : Option Int} {e : Int} (h : Rk N R w v l z p e) (h1 : w'.heap[R]? = w.heap[R]?) (h2 : ∀ (b : Nat) (cur : Array Value), w.heap[b]? = some (Obj.cells cur 5 (0, 0)) → w'.heap[b]? = w.heap[b]?) : Rk N R w' v l z p e :=
  ⟨h1.trans h.box, own_keep h.row fun b e => by
    obtain ⟨_, cur, hc⟩ := own_heap h.row e
    exact h2 b cur hc, h.le⟩
theorem Rk.setZ {N R : Nat} {w : World} {v : Value} {l : List UInt8} {z : Int} {p : Option Int} {e : Int} (h : Rk N R w v l z p e) (z' : Int) : Rk N R (w.setCell ⟨R, 1, none⟩ (.int .i64 z')) v l z' p e :=
  ⟨setI h.box 1 _, own_keep h.row fun b e => by
    obtain ⟨_, cur, hc⟩ := own_heap h.row e
    exact setCell_other fun k => by
      rw [k, h.box] at hc
      injection hc with hc
      injection hc with _ hc _
      exact absurd hc (by decide), h.le⟩

/-- What may change while the reader at R works. -/
structure Ch (N R : Nat) (w w' : World) : Prop where
  os : w'.os = w.os
  tape : w'.tape = w.tape
  output : w'.output = w.output
  size : w.heap.size ≤ w'.heap.size
  block : ∀ b, b < w.heap.size → w'.heap[b]? = w.heap[b]? ∨ (N ≤ b ∧ (b = R ∨ ∃ cur, w.heap[b]? = some (.cells cur 5 (0, 0))))
theorem Ch.refl (N R : Nat) (w : World) : Ch N R w w := ⟨rfl, rfl, rfl, Nat.le_refl _, fun _ _ => .inl rfl⟩
theorem Ch.trans {N R : Nat} {a b c : World} (h : Ch N R a b) (k : Ch N R b c) : Ch N R a c :=
  ⟨k.os.trans h.os, k.tape.trans h.tape, k.output.trans h.output, Nat.le_trans h.size k.size, fun i hi => by
    rcases h.block i hi with h1 | h1
    · rcases k.block i (Nat.lt_of_lt_of_le hi h.size) with k1 | ⟨k0, k1⟩
      · exact .inl (k1.trans h1)
      · exact .inr ⟨k0, by rw [h1] at k1; exact k1⟩
    · exact .inr h1⟩
theorem Ch.below {N R : Nat} {a w w' : World} (h : Ch N R a w) (hb : Below w.heap.size w w') : Ch N R a w' :=
  h.trans ⟨hb.os, hb.tape, hb.output, hb.size, fun b hb2 => .inl (hb.block b hb2)⟩
theorem Ch.alloc {N R : Nat} {a w : World} (h : Ch N R a w) (o : Obj) : Ch N R a (w.alloc o) := h.below ((Below.refl _ w).alloc (Nat.le_refl _) o)
theorem Ch.drew {N R : Nat} {a w : World} (h : Ch N R a w) : Ch N R a w.drew := ⟨h.os, h.tape, h.output, h.size, h.block⟩
theorem Ch.set {N R : Nat} {a w : World} (h : Ch N R a w) (hN : N ≤ R) (i : Nat) (u : Value) : Ch N R a (w.setCell ⟨R, i, none⟩ u) := by
  have k := (Below.refl R w).setCell (p := ⟨R, i, none⟩) (Nat.le_refl _) u
  refine h.trans ⟨k.os, k.tape, k.output, k.size, fun b _ => ?_⟩
  by_cases e : b = R
  · exact .inr ⟨by omega, .inl e⟩
  · exact .inl (setCell_other e)
/-- A row of bytes of the reader's own grows. -/
theorem Ch.grown {N R : Nat} {a w w' : World} {row : Option Nat} (h : Ch N R a w) (hg : w.grownBy w' row) (hr : ∀ b, row = some b → N ≤ b ∧ ∃ cur, w.heap[b]? = some (.cells cur 5 (0, 0))) : Ch N R a w' := by
  refine h.trans ⟨hg.os, hg.tape, hg.output, hg.size, fun b hb => ?_⟩
  by_cases e : row = some b
  · obtain ⟨h1, h2⟩ := hr b e
    exact .inr ⟨h1, .inr h2⟩
  · exact .inl (hg.block b hb fun k => e k.symm)
theorem Ch.toBelow {N R : Nat} {w w' : World} (h : Ch N R w w') (hN : N ≤ w.heap.size) : Below N w w' :=
  ⟨h.os, h.tape, h.output, h.size, fun b hb => by
    rcases h.block b (Nat.lt_of_lt_of_le hb hN) with h1 | ⟨h1, _⟩
    · exact h1
    · omega⟩
theorem Ch.frame {N R : Nat} {w w' : World} (h : Ch N R w w') {v : Value} {l : List UInt8} {z : Int} {p : Option Int} {e : Int} (hR : Rk N R w v l z p e) {b : Nat} {cur : Array Value} (hb : w.heap[b]? = some (.cells cur 37 (0, 0))) : w'.heap[b]? = w.heap[b]? := by
  rcases h.block b (heap_lt hb) with h1 | ⟨_, rfl | ⟨c2, h2⟩⟩
  · exact h1
  · rw [hR.box] at hb
    injection hb with hb
    injection hb with _ hb _
    exact absurd hb (by decide)
  · rw [h2] at hb
    injection hb with hb
    injection hb with _ hb _
    exact absurd hb (by decide)

theorem isChannel_any (n : Int) (w : World) : Calls Try.prog 26 #[.int .i64 n] w (Pure (.bool (decide (1 ≤ n ∧ n ≤ 5))) w) := by
  by_cases h1 : 1 ≤ n
  · by_cases h2 : n ≤ 5
    · rw [decide_eq_true ⟨h1, h2⟩]
      have q1 : decide (1 ≤ n) = true := by simpa using h1
      go_enter Try.func26, Try.ntmps26
      go_wp2_with fail
      go_ret
      exact ⟨rfl, rfl⟩
    · rw [decide_eq_false (fun h => h2 h.2)]
      have q1 : decide (1 ≤ n) = true := by simpa using h1
      go_enter Try.func26, Try.ntmps26
      go_wp2_with fail
      go_ret
      exact ⟨rfl, rfl⟩
  · rw [decide_eq_false (fun h => h1 h.1)]
    have q1 : decide (1 ≤ n) = false := by simpa using h1
    go_enter Try.func26, Try.ntmps26
    go_wp2_with fail
    go_ret
    exact ⟨rfl, rfl⟩
theorem next_any (n : Int) (w : World) : Calls Try.prog 20 #[.int .i64 n] w (Pure (.int .i64 (nxt n)) w) := by
  unfold nxt
  by_cases h1 : n < 0
  · rw [if_pos (.inl h1)]
    go_enter Try.func20, Try.ntmps20
    go_wp2_with fail
    go_ret
    exact ⟨rfl, rfl⟩
  · by_cases h2 : 65535 ≤ n
    · rw [if_pos (.inr h2)]
      have q1 : decide (65535 ≤ n) = true := by simpa using h2
      go_enter Try.func20, Try.ntmps20
      go_wp2_with fail
      go_ret
      exact ⟨rfl, rfl⟩
    · rw [if_neg (by omega)]
      have q1 : decide (65535 ≤ n) = false := by simpa using h2
      go_enter Try.func20, Try.ntmps20
      go_wp2_with fail
      go_ret
      exact ⟨by go_num, rfl⟩
theorem rnext_any (n : Int) (w : World) : Calls Try.prog 21 #[.int .i64 n] w (Pure (.int .i64 (nxt n)) w) := by
  unfold nxt
  by_cases h1 : n < 0
  · rw [if_pos (.inl h1)]
    go_enter Try.func21, Try.ntmps21
    go_wp2_with fail
    go_ret
    exact ⟨rfl, rfl⟩
  · by_cases h2 : 65535 ≤ n
    · rw [if_pos (.inr h2)]
      have q1 : decide (65535 ≤ n) = true := by simpa using h2
      go_enter Try.func21, Try.ntmps21
      go_wp2_with fail
      go_ret
      exact ⟨rfl, rfl⟩
    · rw [if_neg (by omega)]
      have q1 : decide (65535 ≤ n) = false := by simpa using h2
      go_enter Try.func21, Try.ntmps21
      go_wp2_with fail
      go_ret
      exact ⟨by go_num, rfl⟩

theorem number_any (l : List UInt8) (hl : l.length = 2) (a : Addr) (cap : Nat) (w : World) (h : ∀ j (hj : j < l.length), w.cell? (a.add j) = some (.int .u8 (l[j].toNat : Int))) :
    Calls Try.prog 37 #[.slice (some a) 2 cap] w (Pure (.int .i64 (numL l)) w) := by
  have hcv := run_convert_bytes_back (P := Try.prog) w 47 9 5 a cap l Try.underlying47 Try.underlying5 Try.underlying9 h
  rw [hl] at hcv
  have C := Lib.hid (num_any (mk l) w)
  have e1 : numV (mk l) = numL l := by
    unfold numV
    rw [mk_size, hl, if_pos (show wid ((2 : Nat) : Int) = true from rfl)]
    rfl
  rw [e1] at C
  have hcv2 : (convert 47 9 (.slice (some a) 2 cap)).run Try.prog w = .ok (.string (mk l)) w := hcv
  generalize mk l = s at C hcv2
  clear hcv h e1 hl
  go_enter Try.func37, Try.ntmps37
  go_wp2_with fail
  refine C.out.mono ?_
  rintro e w1 ⟨rfl, hx⟩
  have hx := hx.symm
  subst hx
  go_wp2_with fail
  go_ret
  exact ⟨rfl, rfl⟩
end Go.Proofs.Ytpdhjifocdbbdaa
