/- What the walk of stanza.Write wants: a row of kids that is appended, nothing that is appended, the element at the end. Condition: those of each theorem's head. -/
import Derived.Test.YtccpdfcmhggleaaGreatDoorSg
namespace Go.Proofs.YtccpdfcmhggleaaGreatDoor
open Go.RowKit Go.Lib Go.Shelf Tg St

/-- What Write gives. -/
def NewP9 (sp nm : ByteArray) (l : List At) (ks : List El) (w : World) (r : Ending) (w' : World) : Prop := ∃ a c a2 c2, r = .returned (.agg #[.string sp, .string nm, .slice a l.length c, .string ⟨#[]⟩, .slice a2 ks.length c2]) ∧
  InS (fun b => w.heap.size ≤ b) w' (.mk sp nm l ⟨#[]⟩ ks) (.agg #[.string sp, .string nm, .slice a l.length c, .string ⟨#[]⟩, .slice a2 ks.length c2]) ∧ Below w.heap.size w w'
/-- The slots that the fourth statement's operations fill. -/
def dsX (j : Nat) : Nat := [34, 35, 36, 37, 38].getD j 0
/-- What each of them gives. -/
def psX (w : World) (T : Nat) (a : Option Addr) (c n : Nat) (aL : Option Addr) (nL cL : Nat) (W0 : World) (ld : List El) (j : Nat) (v : Value) (W : World) : Prop := match j with
  | 0 => v = .pointer (some ⟨T, 4, none⟩)
  | 1 => v = .slice a n c
  | 2 => v = .pointer (some ⟨w.heap.size, 12, none⟩)
  | 3 => v = .slice aL nL cL
  | _ => ∃ a' c', v = .slice a' ld.length c' ∧ KR W0.heap.size ld a' c' W ∧ (ld = [] → a' = none ∧ c' = 0)
theorem psX_mono (w : World) (T : Nat) (a : Option Addr) (c n : Nat) (aL : Option Addr) (nL cL : Nat) (W0 : World) (ld : List El) (j : Nat) (v : Value) (W W' : World) (hb : Below W.heap.size W W') (h : psX w T a c n aL nL cL W0 ld j v W) : psX w T a c n aL nL cL W0 ld j v W' := by
  unfold psX at h ⊢
  split at h <;> first
    | exact h
    | (obtain ⟨a', c', h1, h2, h3⟩ := h; exact ⟨a', c', h1, h2.st hb, h3⟩)
theorem KRow.mono {N N' : Nat} {l : List El} {a : Option Addr} {c : Nat} {W : World} (h : KR N l a c W) (hN : N' ≤ N) : KR N' l a c W := by
  obtain ⟨xs, h1, h2⟩ := h
  refine ⟨xs, ow_mono h1 hN, fun i hi => ?_⟩
  obtain ⟨v0, v1, v2, v3, v4, q0, q1, q2, q3, q4, q5⟩ := h2 i hi
  exact ⟨v0, v1, v2, v3, v4, q0, q1, q2, q3, q4, q5.weak fun b _ hb => ⟨Nat.le_trans hN hb.1, hb.2⟩⟩
theorem say_len (n t : ByteArray) : (say n t).length ≤ 1 := by unfold say; split <;> simp
theorem apart_nil (aK : Option Addr) (cK : Nat) (w : World) : Calls Tryz.prog 34 #[.slice aK 0 cK] w fun e w' => e = .returned (.slice none 0 0) ∧ Below w.heap.size w w' := by
  have HB : Hid (Below w.heap.size w w) := Below.refl _ _
  go_enter Tryz.func34, Tryz.ntmps34
  go_wp2_with fail
  refine wp_loop_rounds 1 ?_
  rw [rounds_succ]
  go_wp2_with fail
  go_ret
  exact ⟨rfl, HB.out⟩

/-! ### Nothing is appended -/
theorem run_append_none {P : Program} (w : World) (t ty e : TypeId) (i : TypeInfo) (ht : P.underlying t = some (.slice e)) (hi : P.info? e = some i) (ao : Option Addr) (n c : Nat) (hle : n ≤ c) :
    (Builtin.append_ #[t, t] ty #[.slice ao n c, .slice none 0 0]).run P w = .ok (.slice ao n c) w := by
  have h1 : (Builtin.lenOf (.slice none 0 0)).run P w = .ok 0 w := rfl
  have h2 : (Builtin.firstCells i.size 0 (.slice none 0 0)).run P w = .ok #[] w := by simp [Builtin.firstCells]
  cases ao <;> simp [Builtin.append_, run_underlying ht, sizeOf, typeInfo, hi, hle, storeCells, h1, h2]
theorem wpList_append_none {P : Program} {w : World} {ops : Array Oper} {rest : List Oper} {o : Oper} {a : Act} {Q : Exit → Act → World → Prop} (hgd : o.guard = none) (s x : Operand) (t : TypeId)
    (ho : o.op = .call { callee := .builtin .append, args := #[s, x], argTypes := #[t, t] }) (e : TypeId) (i : TypeInfo) (ht : P.underlying t = some (.slice e)) (hi : P.info? e = some i)
    (ao : Option Addr) (n c : Nat) (hs : a.eval s = .slice ao n c) (hx : a.eval x = .slice none 0 0) (hle : n ≤ c) (h : wpList P ops Q rest (a.put o.dst (.slice ao n c)) w) : wpList P ops Q (o :: rest) a w :=
  wpList_plain hgd fun _ hK => by
    have hr := run_append_none (P := P) w t o.type e i ht hi ao n c hle
    unfold Oper.wp execOp
    simp only [ho, resolve, invoke, builtin, Sem.run_bind, Sem.run_pure, Result.andThen_ok, List.map_toArray, List.map_cons, List.map_nil, hs, hx, hr]
    exact hK _ _ h
/-- The same slice is stored once more. -/
theorem Wz.same {C : Array Value} {sp nm tx : ByteArray} {atr : List At} {av : Value} {w : World} {T N : Nat} {ks : List El} {a : Option Addr} {c : Nat} {W : World} (h : Wz C sp nm tx atr av w T N ks a c W) : Wz C sp nm tx atr av w T N ks a c (W.setCell ⟨T, 4, none⟩ (.slice a ks.length c)) := by
  obtain ⟨hT1, hT2⟩ := h.lt
  refine ⟨h.bel.setCell (by show w.heap.size ≤ T; omega) _, (setCell_other (by omega)).trans h.eb, (setCell_other (by omega)).trans h.rb, ?_, h.ar.keep (fun b hb _ => setCell_other hb.2.2), h.kr.put hT2, ⟨hT1, hT2⟩, ?_⟩
  · have htb := h.tb
    simp [World.setCell, Array.getElem?_modify, htb]
  · have := h.ge
    simp [World.setCell]; omega
theorem own_le {W : World} {N s n c : Nat} {T : TypeId} {a : Option Addr} {xs : List Value} (h : W.ownsRow N T s (.slice a n c) n xs) : n ≤ c := by
  rcases h.2 with ⟨h1, h0⟩ | ⟨g, cap, cur, hv, hb, hg, hn, hc, hs, ht⟩
  · omega
  · simp only [Value.slice.injEq] at hv
    omega
/-- A kid's cells are single ones. -/
theorem KAt.one' {S : Nat → Prop} {w : World} {ys : List Value} {l : List El} (h : KAt S w ys l) (hl : ys.length = l.length * 5) : ∀ u ∈ ys, u.oneCell' = true := by
  intro u hu
  obtain ⟨n, hn, hv⟩ := List.mem_iff_getElem.1 hu
  obtain ⟨v0, v1, v2, v3, v4, q0, q1, q2, q3, q4, q5⟩ := h (n / 5) (by omega)
  obtain ⟨aA, cA, aK, cK, hag⟩ := q5.out
  simp only [Value.agg.injEq, Array.mk.injEq, List.cons.injEq, and_true] at hag
  obtain ⟨rfl, rfl, rfl, rfl, rfl⟩ := hag
  have e : ys[n]? = some u := by rw [List.getElem?_eq_getElem hn, hv]
  have hm : n = n / 5 * 5 ∨ n = n / 5 * 5 + 1 ∨ n = n / 5 * 5 + 2 ∨ n = n / 5 * 5 + 3 ∨ n = n / 5 * 5 + 4 := by omega
  rcases hm with hm | hm | hm | hm | hm
  · rw [hm, q0] at e; cases e; rfl
  · rw [hm, q1] at e; cases e; rfl
  · rw [hm, q2] at e; cases e; rfl
  · rw [hm, q3] at e; cases e; rfl
  · rw [hm, q4] at e; cases e; rfl
/-- A row's cells, out of its own block. -/
theorem own_news {W : World} {N g n c : Nat} {T : TypeId} {xs : List Value} (h : W.ownsRow N T 5 (.slice (some ⟨g, 0, none⟩) n c) n xs) : ∀ j u, xs[j]? = some u → W.cell? ((⟨g, 0, none⟩ : Addr).add j) = some u := fun j u hu => by
  have hadd : (⟨g, 0, none⟩ : Addr).add j = ⟨g, j, none⟩ := by unfold Addr.add; split <;> simp_all
  have hj : j < xs.length := by
    rcases Nat.lt_or_ge j xs.length with h2 | h2
    · exact h2
    · rw [List.getElem?_eq_none h2] at hu; cases hu
  rw [hadd, h.cellAt j (by have := h.1; omega)]
  exact hu
/-- Kids more: a row that was appended. -/
theorem Wz.row {C : Array Value} {sp nm tx : ByteArray} {atr : List At} {av : Value} {w : World} {T N : Nat} {ks : List El} {a : Option Addr} {c : Nat} {W : World} {g cap H : Nat} {l : List El} {W3 : World} {xs ys : List Value} (h : Wz C sp nm tx atr av w T N ks a c W) (hxs : W.ownsRow N 29 5 (.slice a ks.length c) ks.length xs) (hx : KAt (fun b => N ≤ b ∧ (Value.slice a ks.length c).ownBlock ≠ some b) W xs ks)
    (hgr : W.grownBy W3 (Value.slice a ks.length c).ownBlock) (hat : (Value.slice a ks.length c).ownBlock = some g ∨ g = W.heap.size) (hl : ∀ b, (Value.slice a ks.length c).ownBlock = some b → b < H) (hN : N ≤ H) (he : KAt (fun b => H ≤ b) W ys l)
    (ho : W3.ownsRow N 29 5 (.slice (some ⟨g, 0, none⟩) (ks.length + l.length) cap) (ks.length + l.length) (xs ++ ys)) :
    Wz C sp nm tx atr av w T N (ks ++ l) (some ⟨g, 0, none⟩) cap (W3.setCell ⟨T, 4, none⟩ (.slice (some ⟨g, 0, none⟩) (ks.length + l.length) cap)) := by
  have hT := h.lt
  exact h.more hxs hx rfl hgr.size (h.bel.grown hgr h.bel.size (fun b e => by have := (own_heap hxs e).1; omega)) (grown_keep (Below.refl _ W) hgr hat) hl hN he ho
/-- The box of the element, where a row has grown. -/
theorem Wz.box {C : Array Value} {sp nm tx : ByteArray} {atr : List At} {av : Value} {w : World} {T N : Nat} {ks : List El} {a : Option Addr} {c : Nat} {W : World} {g : Nat} {W3 : World} {xs : List Value} (h : Wz C sp nm tx atr av w T N ks a c W) (hxs : W.ownsRow N 29 5 (.slice a ks.length c) ks.length xs)
    (hgr : W.grownBy W3 (Value.slice a ks.length c).ownBlock) (hat : (Value.slice a ks.length c).ownBlock = some g ∨ g = W.heap.size) : W3.heap[T]? = some (.cells #[.string sp, .string nm, av, .string tx, .slice a ks.length c] 29 (0, 0)) := by
  have hT := h.lt
  exact (grown_keep (Below.refl _ W) hgr hat T (heap_lt h.tb) (fun e => by have := (own_heap hxs e).1; omega)).1.trans h.tb
/-- The element is stored into the result's box. -/
theorem wz_end {C : Array Value} {sp nm tx : ByteArray} {atr : List At} {an : Option Addr} {cn : Nat} {w : World} {T N : Nat} {ks : List El} {a : Option Addr} {c : Nat} {W : World} (h : Wz C sp nm tx atr (.slice an atr.length cn) w T N ks a c W) (hz : Szd sp nm tx atr) (v0 v1 v2 v3 v4 : Value) :
    InS (fun b => w.heap.size ≤ b) (((((W.setCell ⟨w.heap.size + 1, 0, none⟩ v0).setCell ⟨w.heap.size + 1, 1, none⟩ v1).setCell ⟨w.heap.size + 1, 2, none⟩ v2).setCell ⟨w.heap.size + 1, 3, none⟩ v3).setCell ⟨w.heap.size + 1, 4, none⟩ v4) (.mk sp nm atr tx ks) (.agg #[.string sp, .string nm, .slice an atr.length cn, .string tx, .slice a ks.length c]) ∧
    Below w.heap.size w (((((W.setCell ⟨w.heap.size + 1, 0, none⟩ v0).setCell ⟨w.heap.size + 1, 1, none⟩ v1).setCell ⟨w.heap.size + 1, 2, none⟩ v2).setCell ⟨w.heap.size + 1, 3, none⟩ v3).setCell ⟨w.heap.size + 1, 4, none⟩ v4) := by
  have hT := h.lt
  have h1 : InS (fun b => w.heap.size + 1 < b) W (.mk sp nm atr tx ks) (.agg #[.string sp, .string nm, .slice an atr.length cn, .string tx, .slice a ks.length c]) :=
    InS.make hz (h.ar.weak fun b _ hb => hb.1) (h.kr.slK.weak fun b _ hb => by omega)
  have hle : w.heap.size ≤ w.heap.size + 1 := by omega
  exact ⟨(h1.keep fun b hb _ => by rw [setCell_other (by omega), setCell_other (by omega), setCell_other (by omega), setCell_other (by omega), setCell_other (by omega)]).weak fun b _ hb => by omega,
    ((((h.bel.setCell hle _).setCell hle _).setCell hle _).setCell hle _).setCell hle _⟩
theorem setI {w : World} {P : Nat} {cs : Array Value} {t : TypeId} (h : w.heap[P]? = some (.cells cs t (0, 0))) (i : Nat) (u : Value) : (w.setCell ⟨P, i, none⟩ u).heap[P]? = some (.cells (cs.setIfInBounds i u) t (0, 0)) := by
  simp [World.setCell, Array.getElem?_modify, h]
/-- A box is made, and an element is stored into it. -/
theorem box5 (w : World) (cs : Array Value) (t : TypeId) (hs : cs.size = 5) (v0 v1 v2 v3 v4 : Value) :
    ((((((w.alloc (.cells cs t)).setCell ⟨w.heap.size, 0, none⟩ v0).setCell ⟨w.heap.size, 1, none⟩ v1).setCell ⟨w.heap.size, 2, none⟩ v2).setCell ⟨w.heap.size, 3, none⟩ v3).setCell ⟨w.heap.size, 4, none⟩ v4).heap[w.heap.size]? = some (.cells #[v0, v1, v2, v3, v4] t (0, 0)) := by
  obtain ⟨l⟩ := cs
  match l, hs with
  | [a0, a1, a2, a3, a4], _ => exact setI (setI (setI (setI (setI (box_new w #[a0, a1, a2, a3, a4] t) 0 v0) 1 v1) 2 v2) 3 v3) 4 v4
theorem set4 {w : World} {P : Nat} {v0 v1 v2 v3 v4 u : Value} {t : TypeId} (h : w.heap[P]? = some (.cells #[v0, v1, v2, v3, v4] t (0, 0))) : (w.setCell ⟨P, 4, none⟩ u).heap[P]? = some (.cells #[v0, v1, v2, v3, u] t (0, 0)) := by
  simp [World.setCell, Array.getElem?_modify, h]
/-- An element with its one kid, in a block of its own. -/
theorem ins_one {S : Nat → Prop} {W : World} {sp nm : ByteArray} {atr : List At} {e : El} {av v0 v1 v2 v3 v4 : Value} {K : Nat} {t : TypeId} (hz : Szd sp nm ⟨#[]⟩ atr) (ha : SlA S W av atr) (hK : S K) (hb : W.heap[K]? = some (.cells #[v0, v1, v2, v3, v4] t (0, 0))) (he : InS S W e (.agg #[v0, v1, v2, v3, v4])) :
    InS S W (.mk sp nm atr ⟨#[]⟩ [e]) (.agg #[.string sp, .string nm, av, .string ⟨#[]⟩, .slice (some ⟨K, 0, none⟩) 1 1]) := by
  refine InS.make hz ha ⟨_, 1, rfl, Nat.le_refl _, by decide, fun i hi => ?_⟩
  obtain rfl : i = 0 := by simpa using hi
  obtain ⟨q0, q1, q2, q3, q4⟩ := bx5 hb
  exact ⟨K, 0, v0, v1, v2, v3, v4, rfl, hK, ⟨q0, q1, q2, q3, q4⟩, he⟩
end Go.Proofs.YtccpdfcmhggleaaGreatDoor
