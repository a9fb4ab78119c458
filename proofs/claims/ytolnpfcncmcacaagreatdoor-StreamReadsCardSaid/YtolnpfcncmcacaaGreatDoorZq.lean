/- A scanner that is fed, beside a stream's box that is written to. No condition. -/
import Derived.Test.YtolnpfcncmcacaaGreatDoorVa
import Derived.Test.YtolnpfcncmcacaaGreatDoorZm
namespace Go.Proofs.YtolnpfcncmcacaaGreatDoor
open Go.RowKit Go.Lib Go.Shelf Tg Sn
theorem Scn.mutlo {N P : Nat} {v : Vw} {w : World} {s : St} (h : Scn N P v w s) {b : Nat} (hm : Mut P v b) : b = P ∨ N ≤ b := by
 cases ho : s.over with
 | true => exact .inl ((h.2 ho).2 b hm)
 | false =>
   have hs := h.1 ho
   rcases hm with e | e | e | ⟨x, hx, e⟩
   · exact .inl e
   · exact .inr (own_heap hs.tok e).1
   · exact .inr (own_heap hs.opn e).1
   · exact .inr (hs.kidsHeap hx e).1
theorem Sc.old {N P : Nat} {v : Vw} {w w' : World} {s : St} {X : Nat → Prop} (h : Sc N P v w s) (hX : ∀ b, X b → b < N ∧ b ≠ P ∧ b ≠ 3) (ho : Ow X w w') : Sc N P v w' s := by
 have keep : ∀ b, N ≤ b → b < w.heap.size → w'.heap[b]? = w.heap[b]? := fun b hb hlt => ho.block b hlt (fun hx => by have := (hX b hx).1; omega)
 have own : ∀ {n k : Nat} {T : TypeId} {u : Value} {xs : List Value}, w.ownsRow N T k u n xs → w'.ownsRow N T k u n xs := fun hr => own_keep hr fun b e => by
   obtain ⟨h1, c, hc⟩ := own_heap hr e
   exact keep b h1 (heap_lt hc)
 have imm : ∀ b, Imm N P v b → b < w.heap.size → w'.heap[b]? = w.heap[b]? := fun b hb hlt => keep b hb.1 hlt
 refine ⟨(ho.block P (heap_lt h.box) (fun hx => (hX P hx).2.1 rfl)).trans h.box, own h.tok, own h.opn, h.len, fun i h1 h2 => ?_, h.apart, ?_, ⟨h.low.1, h.low.2.1, Nat.le_trans h.low.2.2 ho.size⟩, fun b hb => ⟨Nat.lt_of_lt_of_le (h.off b hb).1 ho.size, (h.off b hb).2⟩⟩
 · have p := h.part i h1 h2
   obtain ⟨xs, k1, k2⟩ := p.k
   refine ⟨p.d.keep imm, p.a.keep imm, ⟨xs, own k1, fun j hj => ?_⟩, p.z, p.f⟩
   obtain ⟨v0, v1, v2, v3, v4, a0, a1, a2, a3, a4, hi⟩ := k2 j hj
   exact ⟨v0, v1, v2, v3, v4, a0, a1, a2, a3, a4, hi.keep imm⟩
 · obtain ⟨te, pe, hc⟩ := h.gd
   exact h.gd.keep (ho.block _ (World.block_lt_of_cell? w _ hc) (fun hx => (hX _ hx).2.2 rfl))
theorem Scn.old {N P : Nat} {v : Vw} {w w' : World} {s : St} {X : Nat → Prop} (h : Scn N P v w s) (hX : ∀ b, X b → b < N ∧ b ≠ P ∧ b ≠ 3) (ho : Ow X w w') : Scn N P v w' s :=
 ⟨fun h0 => (h.1 h0).old hX ho, fun h0 => by
   obtain ⟨⟨t, q, b, a, c, z, hd⟩, hm⟩ := h.2 h0
   exact ⟨⟨t, q, b, a, c, z, (ho.block P (heap_lt hd) (fun hx => (hX P hx).2.1 rfl)).trans hd⟩, hm⟩⟩
def trunc (w : World) (n : Nat) : World := { w with heap := w.heap.extract 0 n }
theorem trunc_size {w : World} {n : Nat} (h : n ≤ w.heap.size) : (trunc w n).heap.size = n := by
 show (w.heap.extract 0 n).size = n
 rw [Array.size_extract]; omega
theorem trunc_block {w : World} {n b : Nat} (h : n ≤ w.heap.size) (hb : b < n) : (trunc w n).heap[b]? = w.heap[b]? := by
 show (w.heap.extract 0 n)[b]? = _
 rw [Array.getElem?_extract]
 rw [if_pos (by omega), Nat.zero_add]
theorem Md.old {N P : Nat} {v0 v : Vw} {w0 w w' : World} {st : St} {evs : List Ev} {x : Value} {X : Nat → Prop} (h : Md N P v0 w0 st evs x v w) (hX : ∀ b, X b → b < N ∧ b ≠ P ∧ b ≠ 3) (ho : Ow X w w') : Md N P v (trunc w' w0.heap.size) st evs x v w' := by
 have hsz : w0.heap.size ≤ w'.heap.size := Nat.le_trans h.fr.size ho.size
 have hts := trunc_size hsz
 have keep : ∀ b, N ≤ b → b < w.heap.size → w'.heap[b]? = w.heap[b]? := fun b hb hlt => ho.block b hlt (fun hx => by have := (hX b hx).1; omega)
 refine ⟨h.sc.old hX ho, ⟨rfl, rfl, rfl, by rw [hts]; exact hsz, fun b hb _ => ?_, fun b hm => .inl hm, fun b hm => .inl hm, fun b hm => hm⟩, ?_, h.own, by rw [hts]; exact h.low⟩
 · rw [hts] at hb
   exact (trunc_block hsz hb).symm
 · rw [hts]
   exact h.row.put (fun b hb hlt _ => keep b (Nat.le_trans h.low.1 hb) hlt) (fun _ _ hi => hi.keep fun b hb hlt => keep b hb.1 hlt)
structure Rd (w : World) (A P : Nat) (d s : ByteArray) (p : Int) (st : St) (evs : List Ev) (x : Value) (v : Vw) (W : World) : Prop where
 ex : ∃ v0 w0, Md (P + 1) P v0 w0 st evs x v W ∧ (∀ b, Mut P v0 b → P ≤ b) ∧ w0.heap.size = P + 1 ∧ Below w.heap.size w w0 ∧ w0.heap[A]? = some (.cells #[.string d, .string s, .int .i64 p] 40 (0, 0))
 lt : A < P
 le : w.heap.size ≤ A
 gd : Gd w
section
variable {w W W' : World} {A P : Nat} {d s : ByteArray} {p : Int} {st : St} {evs : List Ev} {x : Value} {v : Vw}
theorem Rd.sx (h : Rd w A P d s p st evs x v W) : Sx w A d s p W := by
 obtain ⟨v0, w0, hM, hlow, hs, hb, hA⟩ := h.ex
 have h1 := h.lt
 have h2 := h.le
 have hf := hM.fr
 exact ⟨⟨hf.os.trans hb.os, hf.tape.trans hb.tape, hf.output.trans hb.output, Nat.le_trans hb.size hf.size, fun b hb2 => (hf.block b (by omega) (fun hm => by have := hlow b hm; omega)).trans (hb.block b hb2)⟩,
   (hf.block A (by omega) (fun hm => by have := hlow A hm; omega)).trans hA, h2⟩
theorem Rd.scn (h : Rd w A P d s p st evs x v W) : Scn (P + 1) P v W st := by
 obtain ⟨v0, w0, hM, _⟩ := h.ex
 exact hM.sc
theorem Rd.size (h : Rd w A P d s p st evs x v W) : P + 1 ≤ W.heap.size := by
 obtain ⟨v0, w0, hM, hlow, hs, hb, hA⟩ := h.ex
 have := hM.fr.size
 omega
theorem Rd.row (h : Rd w A P d s p st evs x v W) : EvRow (P + 1) (Imm (P + 1) P v) W x evs := by
 obtain ⟨v0, w0, hM, hlow, hs, hb, hA⟩ := h.ex
 rw [← hs]
 exact hs.symm ▸ hM.row
theorem Rd.below (h : Rd w A P d s p st evs x v W) (hb : Below W.heap.size W W') : Rd w A P d s p st evs x v W' := by
 obtain ⟨v0, w0, hM, h1⟩ := h.ex
 exact ⟨⟨v0, w0, hM.below hb, h1⟩, h.lt, h.le, h.gd⟩
theorem Rd.dr (h : Rd w A P d s p st evs x v W) : Rd w A P d s p st evs x v W.drew := h.below (Below.refl _ _).drew
theorem Rd.fed {l : B8} {e : Ending} (h : Rd w A P d s p st evs x v W) (hF : FdP (P + 1) P v st l W e W') (hl : evs.length + (Sn.feed st l).2.length ≤ 1048576) :
   ∃ y x' v' w9, e = .returned y ∧ (∀ ty, (Builtin.append_ #[27, 27] ty #[x, y]).run Tryz.prog W' = .ok x' w9) ∧ Rd w A P d s p (Sn.feed st l).1 (evs ++ (Sn.feed st l).2) x' v' w9 := by
 obtain ⟨v0, w0, hM, h1⟩ := h.ex
 obtain ⟨y, x', v', w9, he, hr, hM2⟩ := hM.fed hF hl
 exact ⟨y, x', v', w9, he, hr, ⟨⟨v0, w0, hM2, h1⟩, h.lt, h.le, h.gd⟩⟩
theorem Rd.put (h : Rd w A P d s p st evs x v W) (q : Int) : Rd w A P d s q st evs x v (((W.setCell ⟨A, 0, none⟩ (.string d)).setCell ⟨A, 1, none⟩ (.string s)).setCell ⟨A, 2, none⟩ (.int .i64 q)) := by
 have hsx := h.sx.put d s q
 have h1 := h.lt
 have h2 := h.le
 have hg := h.gd.lt
 have hz := h.size
 obtain ⟨v0, w0, hM, hlow, hs, hb, hA⟩ := h.ex
 have o1 : Ow (fun b => b = A) W (W.setCell ⟨A, 0, none⟩ (.string d)) := (Ow.refl (fun b => b = A) W).set (a := ⟨A, 0, none⟩) (fun _ => rfl) _
 have o2 : Ow (fun b => b = A) W ((W.setCell ⟨A, 0, none⟩ (.string d)).setCell ⟨A, 1, none⟩ (.string s)) := o1.set (a := ⟨A, 1, none⟩) (fun _ => rfl) _
 have ho : Ow (fun b => b = A) W (((W.setCell ⟨A, 0, none⟩ (.string d)).setCell ⟨A, 1, none⟩ (.string s)).setCell ⟨A, 2, none⟩ (.int .i64 q)) := o2.set (a := ⟨A, 2, none⟩) (fun _ => rfl) _
 have hM2 := hM.old (X := fun b => b = A) (fun b e => by subst e; exact ⟨by omega, by omega, by omega⟩) ho
 generalize ((W.setCell ⟨A, 0, none⟩ (.string d)).setCell ⟨A, 1, none⟩ (.string s)).setCell ⟨A, 2, none⟩ (.int .i64 q) = W' at *
 have hsz : w0.heap.size ≤ W'.heap.size := by have := ho.size; omega
 refine ⟨⟨v, _, hM2, fun b hm => ?_, by rw [trunc_size hsz]; exact hs, ?_, ?_⟩, h1, h2, h.gd⟩
 · rcases hM.sc.mutlo hm with e | e
   · omega
   · omega
 · refine ⟨hsx.1.os, hsx.1.tape, hsx.1.output, by rw [trunc_size hsz]; omega, fun b hb2 => ?_⟩
   rw [trunc_block hsz (by omega)]
   exact hsx.1.block b hb2
 · rw [trunc_block hsz (by omega)]
   exact hsx.2.1
end
theorem Rd.start {w W w' : World} {A : Nat} {d s : ByteArray} {p : Int} {st : St} {evs : List Ev} {x : Value} {v : Vw} (hG : Gd w) (h : Sx w A d s p W) (hM : Md (W.heap.size + 1) W.heap.size Vw0 (W.alloc (.cells (scells Vw0 St0) 62)) st evs x v w') : Rd w A W.heap.size d s p st evs x v w' := by
 refine ⟨⟨Vw0, _, hM, fun b hm => by rw [vw0_only hm]; exact Nat.le_refl _, by simp, h.1.alloc h.1.size _, (Below.heap_alloc _ _ _ (heap_lt h.2.1)).trans h.2.1⟩, heap_lt h.2.1, h.2.2, hG⟩
end Go.Proofs.YtolnpfcncmcacaaGreatDoor
