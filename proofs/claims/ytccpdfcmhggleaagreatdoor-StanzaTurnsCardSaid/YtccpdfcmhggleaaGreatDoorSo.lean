/- The contract of stanza.readKids: what an element's kids tell of a stanza. Condition: the element is not too much. -/
import Derived.Test.YtccpdfcmhggleaaGreatDoorSn
namespace Go.Proofs.YtccpdfcmhggleaaGreatDoor
open Go.RowKit Go.Lib Go.Shelf Tg St

/-- What stands while readKids runs: the stanza's box, the element's box; all other blocks are as they were. -/
structure Rk (B P : Nat) (w : World) (EC C : Array Value) (W : World) : Prop where
  le : B ≤ w.heap.size
  bel : Below B w W
  hp : W.heap[P]? = some (.cells C 26 (0, 0))
  hx : W.heap[w.heap.size]? = some (.cells EC 29 (0, 0))
  keep : ∀ b, b < w.heap.size → b ≠ P → W.heap[b]? = w.heap[b]?
section
variable {B P : Nat} {w W : World} {EC C : Array Value}
theorem Rk.gt (h : Rk B P w EC C W) : w.heap.size < W.heap.size := heap_lt h.hx
theorem Rk.st {W' : World} (h : Rk B P w EC C W) (hb : Below W.heap.size W W') : Rk B P w EC C W' :=
  ⟨h.le, h.bel.trans (hb.mono (Nat.le_trans h.le h.bel.size)), (hb.block _ (heap_lt h.hp)).trans h.hp, (hb.block _ (heap_lt h.hx)).trans h.hx, fun b hb1 hb2 => (hb.block _ (by have := h.gt; omega)).trans (h.keep b hb1 hb2)⟩
theorem Rk.put (h : Rk B P w EC C W) (hB : B ≤ P) (hP : P < w.heap.size) (i : Nat) (u : Value) : Rk B P w EC (C.setIfInBounds i u) (W.setCell ⟨P, i, none⟩ u) :=
  ⟨h.le, h.bel.setCell hB _, setI h.hp i u, (setCell_other (by omega)).trans h.hx, fun b hb1 hb2 => (setCell_other hb2).trans (h.keep b hb1 hb2)⟩
theorem Rk.leB (h : Rk B P w EC C W) (hB : B ≤ w.heap.size) : B ≤ W.heap.size := by have := h.gt; omega
end
/-- The Load has grown: what stands is as it was, but for the stanza's box. -/
theorem Rk.app {B P : Nat} {w W W1 W2 : World} {EC C : Array Value} {N n c g o : Nat} {a : Option Addr} {T : TypeId} {xs : List Value} {u v0 v1 v2 v3 v4 : Value} (h : Rk B P w EC C W) (hBP : B ≤ P) (hP : P < w.heap.size) (hN : w.heap.size < N) (hxs : W.ownsRow N T 5 (.slice a n c) n xs) (hb : Below W.heap.size W W1) (hgr : W1.grownBy W2 (Value.slice a n c).ownBlock) (hat : (Value.slice a n c).ownBlock = some g ∨ g = W1.heap.size) :
    Rk B P w EC (C.setIfInBounds 12 u) ((((((W2.setCell ⟨g, o, none⟩ v0).setCell ⟨g, o + 1, none⟩ v1).setCell ⟨g, o + 2, none⟩ v2).setCell ⟨g, o + 3, none⟩ v3).setCell ⟨g, o + 4, none⟩ v4).setCell ⟨P, 12, none⟩ u) ∧
    Below B W ((((((W2.setCell ⟨g, o, none⟩ v0).setCell ⟨g, o + 1, none⟩ v1).setCell ⟨g, o + 2, none⟩ v2).setCell ⟨g, o + 3, none⟩ v3).setCell ⟨g, o + 4, none⟩ v4).setCell ⟨P, 12, none⟩ u) := by
  have hgt := h.gt
  have hle := h.le
  have h1s := hb.size
  have hlow : ∀ b, (Value.slice a n c).ownBlock = some b → N ≤ b := fun b e => (own_heap hxs e).1
  have hgN : w.heap.size < g := by rcases hat with e | e; have := hlow g e; omega; omega
  have hBg : B ≤ g := by omega
  have hk0 := grown_keep hb hgr hat
  have hk : ∀ b, b ≤ w.heap.size → (((((W2.setCell ⟨g, o, none⟩ v0).setCell ⟨g, o + 1, none⟩ v1).setCell ⟨g, o + 2, none⟩ v2).setCell ⟨g, o + 3, none⟩ v3).setCell ⟨g, o + 4, none⟩ v4).heap[b]? = W.heap[b]? := fun b hb1 => by
    rw [heap5 (by omega)]
    exact (hk0 b (by omega) (fun e => by have := hlow b e; omega)).1
  have hbW : Below B W ((((((W2.setCell ⟨g, o, none⟩ v0).setCell ⟨g, o + 1, none⟩ v1).setCell ⟨g, o + 2, none⟩ v2).setCell ⟨g, o + 3, none⟩ v3).setCell ⟨g, o + 4, none⟩ v4).setCell ⟨P, 12, none⟩ u) :=
    (((((((hb.mono (by omega)).grown hgr (by omega) (fun b e => by have := hlow b e; omega)).setCell hBg _).setCell hBg _).setCell hBg _).setCell hBg _).setCell hBg _).setCell hBP _
  refine ⟨⟨hle, h.bel.trans hbW, setI ((hk P (by omega)).trans h.hp) 12 u, (setCell_other (by omega)).trans ((hk _ (Nat.le_refl _)).trans h.hx), fun b hb1 hb2 => (setCell_other hb2).trans ((hk b (by omega)).trans (h.keep b hb1 hb2))⟩, hbW⟩
/-- A row's cells are these elements', which lie below B. -/
def KAtB (B : Nat) (W : World) (xs : List Value) (l : List El) : Prop := ∀ i (h : i < l.length), ∃ a1 c1 a2 c2, xs[i * 5]? = some (.string l[i].sp) ∧ xs[i * 5 + 1]? = some (.string l[i].nm) ∧ xs[i * 5 + 2]? = some (.slice a1 l[i].atr.length c1) ∧ xs[i * 5 + 3]? = some (.string l[i].tx) ∧ xs[i * 5 + 4]? = some (.slice a2 l[i].ks.length c2) ∧ In B W l[i] (.agg #[.string l[i].sp, .string l[i].nm, .slice a1 l[i].atr.length c1, .string l[i].tx, .slice a2 l[i].ks.length c2])
/-- The Load so far, in a row of its own. -/
def LR (N B : Nat) (l : List El) (a : Option Addr) (c : Nat) (W : World) : Prop := ∃ xs, W.ownsRow N 29 5 (.slice a l.length c) l.length xs ∧ KAtB B W xs l
theorem LR.nil (N B : Nat) (W : World) : LR N B [] none 0 W := ⟨[], World.ownsRow_nil _ _ _ _, fun i h => by cases h⟩
theorem KAtB.below {B : Nat} {W W' : World} {xs : List Value} {l : List El} (h : KAtB B W xs l) (hb : Below B W W') : KAtB B W' xs l := fun i hi => by
  obtain ⟨a1, c1, a2, c2, q0, q1, q2, q3, q4, q5⟩ := h i hi
  exact ⟨a1, c1, a2, c2, q0, q1, q2, q3, q4, q5.stay hb⟩
theorem LR.st {N B c : Nat} {l : List El} {a : Option Addr} {W W' : World} (h : LR N B l a c W) (hB : B ≤ W.heap.size) (hb : Below W.heap.size W W') : LR N B l a c W' := by
  obtain ⟨xs, h1, h2⟩ := h
  exact ⟨xs, ow_st h1 hb, h2.below (hb.mono hB)⟩
theorem KAtB.snoc {B : Nat} {W : World} {xs : List Value} {l : List El} {e : El} {a1 a2 : Option Addr} {c1 c2 : Nat} (h : KAtB B W xs l) (hl : xs.length = l.length * 5) (he : In B W e (.agg #[.string e.sp, .string e.nm, .slice a1 e.atr.length c1, .string e.tx, .slice a2 e.ks.length c2])) : KAtB B W (xs ++ [.string e.sp, .string e.nm, .slice a1 e.atr.length c1, .string e.tx, .slice a2 e.ks.length c2]) (l ++ [e]) := fun i hi => by
  by_cases hlt : i < l.length
  · obtain ⟨b1, d1, b2, d2, q0, q1, q2, q3, q4, q5⟩ := h i hlt
    have k : ∀ (ys : List Value) j, j < 5 → (xs ++ ys)[i * 5 + j]? = xs[i * 5 + j]? := fun ys j hj => List.getElem?_append_left (by omega)
    have e1 : (l ++ [e])[i] = l[i] := List.getElem_append_left hlt
    rw [e1]
    exact ⟨b1, d1, b2, d2, (k _ 0 (by decide)).trans q0, (k _ 1 (by decide)).trans q1, (k _ 2 (by decide)).trans q2, (k _ 3 (by decide)).trans q3, (k _ 4 (by decide)).trans q4, q5⟩
  · have hi2 : i = l.length := by simp at hi; omega
    subst hi2
    have k : ∀ (ys : List Value) j, (xs ++ ys)[l.length * 5 + j]? = ys[j]? := fun ys j => by rw [List.getElem?_append_right (by omega), hl]; congr 1; omega
    have e1 : (l ++ [e])[l.length] = e := by rw [List.getElem_append_right (Nat.le_refl _)]; simp
    rw [e1]
    exact ⟨a1, c1, a2, c2, k _ 0, k _ 1, k _ 2, k _ 3, k _ 4, he⟩
/-- The elements of a row of the call's own. -/
theorem LR.ksIn {N B c : Nat} {l : List El} {a : Option Addr} {W : World} (h : LR N B l a c W) (hB : B ≤ W.heap.size) : KsIn W.heap.size W a l := fun i hi => by
  obtain ⟨xs, h1, h2⟩ := h
  obtain ⟨a1, c1, a2, c2, q0, q1, q2, q3, q4, q5⟩ := h2 i hi
  obtain ⟨g, cap, hv, _, hg⟩ := h1.form (by omega)
  simp only [Value.slice.injEq, true_and] at hv
  obtain ⟨rfl, rfl⟩ := hv
  have k : ∀ j v, j < 5 → xs[i * 5 + j]? = some v → W.cell? ⟨g, 0 + i * 5 + j, none⟩ = some v := fun j v hj hx => by
    rw [Nat.zero_add, h1.cellAt _ (by omega)]; exact hx
  exact ⟨g, 0, a1, c1, a2, c2, rfl, hg, ⟨k 0 _ (by decide) q0, k 1 _ (by decide) q1, k 2 _ (by decide) q2, k 3 _ (by decide) q3, k 4 _ (by decide) q4⟩, q5.mono hB⟩
/-- What readKids gives. -/
def RkQ (B P : Nat) (w : World) (C : Option Addr → Nat → Array Value) (l : List El) (r : Ending) (w' : World) : Prop := r = .returned (.tuple #[]) ∧ ∃ a c, w'.heap[P]? = some (.cells (C a c) 26 (0, 0)) ∧ KsIn w'.heap.size w' a l ∧ Below B w w' ∧ ∀ b, b < w.heap.size → b ≠ P → w'.heap[b]? = w.heap[b]?
theorem filt_take {l : List El} {k : Nat} (h : k < l.length) (p : El → Bool) : (l.take (k + 1)).filter p = (l.take k).filter p ++ (if p l[k] = true then [l[k]] else []) := by
  rw [List.take_succ_eq_append_getElem h, List.filter_append]
  congr 1
  cases hp : p l[k] <;> simp [hp]
/-- One element more in the Load. -/
theorem Rk.add {B P : Nat} {w W W1 W2 : World} {EC C : Array Value} {n c g cap : Nat} {a a1 a2 : Option Addr} {c1 c2 : Nat} {l : List El} {K : El} {xs : List Value} {z0 z1 z2 z3 z4 : Value} (h : Rk B P w EC C W) (hBP : B ≤ P) (hP : P < w.heap.size) (hn : n = l.length) (hxs : W.ownsRow (w.heap.size + 1) 29 5 (.slice a n c) n xs) (hx : KAtB B W xs l) (hb : Below W.heap.size W W1) (hgr : W1.grownBy W2 (Value.slice a n c).ownBlock) (hat : (Value.slice a n c).ownBlock = some g ∨ g = W1.heap.size) (hgP : g ≠ P)
    (ho : W2.ownsRow (w.heap.size + 1) 29 5 (.slice (some ⟨g, 0, none⟩) (n + 1) cap) (n + 1) (xs ++ [z0, z1, z2, z3, z4])) (hK : In B W K (.agg #[.string K.sp, .string K.nm, .slice a1 K.atr.length c1, .string K.tx, .slice a2 K.ks.length c2])) :
    Rk B P w EC (C.setIfInBounds 12 (.slice (some ⟨g, 0, none⟩) (n + 1) cap)) ((((((W2.setCell ⟨g, n * 5, none⟩ (.string K.sp)).setCell ⟨g, n * 5 + 1, none⟩ (.string K.nm)).setCell ⟨g, n * 5 + 2, none⟩ (.slice a1 K.atr.length c1)).setCell ⟨g, n * 5 + 3, none⟩ (.string K.tx)).setCell ⟨g, n * 5 + 4, none⟩ (.slice a2 K.ks.length c2)).setCell ⟨P, 12, none⟩ (.slice (some ⟨g, 0, none⟩) (n + 1) cap)) ∧ LR (w.heap.size + 1) B (l ++ [K]) (some ⟨g, 0, none⟩) cap ((((((W2.setCell ⟨g, n * 5, none⟩ (.string K.sp)).setCell ⟨g, n * 5 + 1, none⟩ (.string K.nm)).setCell ⟨g, n * 5 + 2, none⟩ (.slice a1 K.atr.length c1)).setCell ⟨g, n * 5 + 3, none⟩ (.string K.tx)).setCell ⟨g, n * 5 + 4, none⟩ (.slice a2 K.ks.length c2)).setCell ⟨P, 12, none⟩ (.slice (some ⟨g, 0, none⟩) (n + 1) cap)) := by
  have HA := h.app (o := n * 5) (u := .slice (some ⟨g, 0, none⟩) (n + 1) cap) (v0 := .string K.sp) (v1 := .string K.nm) (v2 := .slice a1 K.atr.length c1) (v3 := .string K.tx) (v4 := .slice a2 K.ks.length c2) hBP hP (Nat.lt_succ_self _) hxs hb hgr hat
  have HO := own_five (v0 := .string K.sp) (v1 := .string K.nm) (v2 := .slice a1 K.atr.length c1) (v3 := .string K.tx) (v4 := .slice a2 K.ks.length c2) hxs.1 ho
  refine ⟨HA.1, _, ?_, (hx.below HA.2).snoc (by rw [hxs.1, hn]) (hK.stay HA.2)⟩
  rw [List.length_append, ← hn]
  exact own_keep HO fun b e => by cases e; exact setCell_other hgP
set_option maxRecDepth 100000 in
set_option maxHeartbeats 16000000 in
theorem readKids_any (e : El) (aA aK : Option Addr) (cA cK P B : Nat) (kd : Int) (ty fn fd fr tn td tr id : ByteArray) (w : World) (hP : w.heap[P]? = some (.cells #[.int .i64 kd, .string ty, .string fn, .string fd, .string fr, .string tn, .string td, .string tr, .string id, .string ⟨#[]⟩, .string ⟨#[]⟩, .string ⟨#[]⟩, .slice none 0 0, .string ⟨#[]⟩] 26 (0, 0))) (hBP : B ≤ P) (hK : KsIn B w aK e.ks) (hw : wts e.ks ≤ 20000) :
    Calls Tryz.prog 33 #[.pointer (some ⟨P, 0, none⟩), .agg #[.string e.sp, .string e.nm, .slice aA e.atr.length cA, .string e.tx, .slice aK e.ks.length cK]] w (RkQ B P w (fun a c => #[.int .i64 kd, .string ty, .string fn, .string fd, .string fr, .string tn, .string td, .string tr, .string id, .string (if (decide (kd = 1) && eqb ty E0) = true then trimB (kidT e.ks kShow) else ⟨#[]⟩), .string (if decide (kd = 1) = true then kidT e.ks kStat else ⟨#[]⟩), .string (if decide (kd = 2) = true then kidT e.ks kBody else ⟨#[]⟩), .slice a (if eqb ty tErr = true then [] else (e.ks.filter fun k => !ownB k)).length c, .string (if eqb ty tErr = true then condOf (errKids e.ks) else ⟨#[]⟩)]) (if eqb ty tErr = true then [] else (e.ks.filter fun k => !ownB k))) := by
  have M1 := Lib.hid (fun W => mayShow_any kd ty fn fd fr tn td tr id ⟨#[]⟩ ⟨#[]⟩ ⟨#[]⟩ ⟨#[]⟩ none 0 0 W)
  have M2 := Lib.hid (fun sh W => mayStatus_any kd ty fn fd fr tn td tr id sh ⟨#[]⟩ ⟨#[]⟩ ⟨#[]⟩ none 0 0 W)
  have M3 := Lib.hid (fun sh st W => mayBody_any kd ty fn fd fr tn td tr id sh st ⟨#[]⟩ ⟨#[]⟩ none 0 0 W)
  have HPW : Hid (P < w.heap.size) := heap_lt hP
  have HPB := Lib.hid hBP
  have HB : Hid (B ≤ w.heap.size) := by have := heap_lt hP; show _ ≤ _; omega
  have HK := Lib.hid hK
  have HW := Lib.hid hw
  have hkl : e.ks.length ≤ 20000 := by have := wts_len e.ks; omega
  have hPw := heap_lt hP
  have HR1 : Hid (Rk B P w #[.string e.sp, .string e.nm, .slice aA e.atr.length cA, .string e.tx, .slice aK e.ks.length cK] #[.int .i64 kd, .string ty, .string fn, .string fd, .string fr, .string tn, .string td, .string tr, .string id, .string ⟨#[]⟩, .string ⟨#[]⟩, .string ⟨#[]⟩, .slice none 0 0, .string ⟨#[]⟩] (w.alloc (.cells #[.string e.sp, .string e.nm, .slice aA e.atr.length cA, .string e.tx, .slice aK e.ks.length cK] 29))) := ⟨HB.out, ((Below.refl w.heap.size w).alloc (Nat.le_refl _) _).mono HB.out, (Below.heap_alloc w _ P (heap_lt hP)).trans hP, box_new w _ _, fun b hb _ => Below.heap_alloc w _ b hb⟩
  have HE4 : Hid (eqb ty tErr = (ty.toList == [101, 114, 114, 111, 114])) := by show _ = _; unfold eqb; rw [show tErr.toList = [101, 114, 114, 111, 114] by rw [ByteArray.toList_eq]; rfl]
  rw [HE4.out]
  generalize m4 : (ty.toList == [101, 114, 114, 111, 114]) = b4
  clear HE4 hP hBP hK hw
  have FLD : ∀ (W : World) (x0 x1 : ByteArray) (x2 : Value) (x3 : ByteArray) (x4 : Value), (Instr.field 29 (.agg #[.string x0, .string x1, x2, .string x3, x4]) 3).run Tryz.prog W = .ok (.string x3) W := fun W x0 x1 x2 x3 x4 => by kernel_rfl
  generalize (decide (kd = 1) && eqb ty E0) = b1 at M1 ⊢
  generalize decide (kd = 1) = b2 at M2 ⊢
  generalize decide (kd = 2) = b3 at M3 ⊢
  generalize hpost : RkQ B P w _ _ = POST
  obtain ⟨x0, x1, x2, x3, x4, x5, x6, x7, x8, x9, x10, x11, x12, x13⟩ := bx14 HR1.out.hp
  have hX0 := heap_lt HR1.out.hx
  go_enter Tryz.func33, Tryz.ntmps33
  go_wp2_with fail
  refine (M1.out _).mono ?_
  rintro r v1 ⟨rfl, hb⟩
  have HR1a := Lib.hid (HR1.out.st hb)
  clear hb HR1 M1 x0 x1 x2 x3 x4 x5 x6 x7 x8 x9 x10 x11 x12 x13
  go_upto_if 11 with fail
  go_cut [] (fun wx => Hid (Rk B P w #[.string e.sp, .string e.nm, .slice aA e.atr.length cA, .string e.tx, .slice aK e.ks.length cK] #[.int .i64 kd, .string ty, .string fn, .string fd, .string fr, .string tn, .string td, .string tr, .string id, .string (if b1 = true then trimB (kidT e.ks kShow) else ⟨#[]⟩), .string ⟨#[]⟩, .string ⟨#[]⟩, .slice none 0 0, .string ⟨#[]⟩] wx))
  case first =>
    cases b1 with
    | true =>
      obtain ⟨x0, x1, x2, x3, x4, x5, x6, x7, x8, x9, x10, x11, x12, x13⟩ := bx14 HR1a.out.hp
      go_wp2_with fail
      refine (kidC_any e aA aK cA cK w.heap.size B ⟨#[115, 104, 111, 119]⟩ _ HR1a.out.hx (HK.out.below HR1a.out.bel) (HR1a.out.leB HB.out) HW.out).mono ?_
      rintro r u1 ⟨a1, c1, a2, c2, rfl, _, hb⟩
      have HU := Lib.hid (HR1a.out.st hb)
      clear hb HR1a x0 x1 x2 x3 x4 x5 x6 x7 x8 x9 x10 x11 x12 x13
      rw [kidD_tx]
      have HTX : Hid ((kidT e.ks ⟨#[115, 104, 111, 119]⟩).size ≤ 20000) := by have h1 := (kidD_wts e.ks ⟨#[115, 104, 111, 119]⟩).2; have h2 := HW.out; rw [kidD_tx] at h1; exact Nat.le_trans h1 h2
      generalize hkt : kidT e.ks ⟨#[115, 104, 111, 119]⟩ = tx at HTX ⊢
      go_wp2_with fail
      refine (trim_any tx _ (by have := HTX.out; omega)).mono ?_
      rintro r u2 ⟨rfl, hb⟩
      have HV := Lib.hid (HU.out.st hb)
      clear hb HU
      have f0 := Lib.frozen_of_heap HV.out.hp 9
      obtain ⟨x0, x1, x2, x3, x4, x5, x6, x7, x8, x9, x10, x11, x12, x13⟩ := bx14 HV.out.hp
      have hPl := heap_lt HV.out.hp
      have HF := Lib.hid (HV.out.put HPB.out HPW.out 9 (.string ⟨(Lib.trimS tx.data.toList [32, 9, 10, 13]).toArray⟩))
      go_wp2_with fail
      go_meet
      show Rk _ _ _ _ _ _
      (first | rw [if_pos True.intro] | rw [if_pos rfl])
      have hk2 : kidT e.ks kShow = tx := hkt
      rw [hk2]
      exact HF.out
    | false =>
      go_wp2_with fail
      go_meet
      show Rk _ _ _ _ _ _
      (first | rw [if_neg not_false] | rw [if_neg (by simp)])
      exact HR1a.out
  case rest =>
  have HR2 : Hid (Rk B P w #[.string e.sp, .string e.nm, .slice aA e.atr.length cA, .string e.tx, .slice aK e.ks.length cK] #[.int .i64 kd, .string ty, .string fn, .string fd, .string fr, .string tn, .string td, .string tr, .string id, .string (if b1 = true then trimB (kidT e.ks kShow) else ⟨#[]⟩), .string ⟨#[]⟩, .string ⟨#[]⟩, .slice none 0 0, .string ⟨#[]⟩] wc) := hcut.out
  clear hcut
  generalize hsh1 : (if b1 = true then trimB (kidT e.ks kShow) else ⟨#[]⟩) = sh1 at HR2
  have Hsh1 := Lib.hid hsh1
  clear hsh1
  obtain ⟨x0, x1, x2, x3, x4, x5, x6, x7, x8, x9, x10, x11, x12, x13⟩ := bx14 HR2.out.hp
  go_wp2_with fail
  refine (M2.out _ _).mono ?_
  rintro r v2 ⟨rfl, hb⟩
  have HR2a := Lib.hid (HR2.out.st hb)
  clear hb HR2 M2 x0 x1 x2 x3 x4 x5 x6 x7 x8 x9 x10 x11 x12 x13
  go_upto_if 22 with fail
  go_cut [] (fun wx => Hid (Rk B P w #[.string e.sp, .string e.nm, .slice aA e.atr.length cA, .string e.tx, .slice aK e.ks.length cK] #[.int .i64 kd, .string ty, .string fn, .string fd, .string fr, .string tn, .string td, .string tr, .string id, .string sh1, .string (if b2 = true then kidT e.ks kStat else ⟨#[]⟩), .string ⟨#[]⟩, .slice none 0 0, .string ⟨#[]⟩] wx))
  case first =>
    cases b2 with
    | true =>
      obtain ⟨x0, x1, x2, x3, x4, x5, x6, x7, x8, x9, x10, x11, x12, x13⟩ := bx14 HR2a.out.hp
      go_wp2_with fail
      refine (kidC_any e aA aK cA cK w.heap.size B ⟨#[115, 116, 97, 116, 117, 115]⟩ _ HR2a.out.hx (HK.out.below HR2a.out.bel) (HR2a.out.leB HB.out) HW.out).mono ?_
      rintro r u1 ⟨a1, c1, a2, c2, rfl, _, hb⟩
      have HU := Lib.hid (HR2a.out.st hb)
      clear hb HR2a x0 x1 x2 x3 x4 x5 x6 x7 x8 x9 x10 x11 x12 x13
      rw [kidD_tx]
      have HTX : Hid ((kidT e.ks ⟨#[115, 116, 97, 116, 117, 115]⟩).size ≤ 20000) := by have h1 := (kidD_wts e.ks ⟨#[115, 116, 97, 116, 117, 115]⟩).2; have h2 := HW.out; rw [kidD_tx] at h1; exact Nat.le_trans h1 h2
      generalize hkt : kidT e.ks ⟨#[115, 116, 97, 116, 117, 115]⟩ = tx at HTX ⊢
      have HV := Lib.hid HU.out
      clear HU
      have f0 := Lib.frozen_of_heap HV.out.hp 10
      obtain ⟨x0, x1, x2, x3, x4, x5, x6, x7, x8, x9, x10, x11, x12, x13⟩ := bx14 HV.out.hp
      have hPl := heap_lt HV.out.hp
      have HF := Lib.hid (HV.out.put HPB.out HPW.out 10 (.string tx))
      go_wp2_with fail
      go_meet
      show Rk _ _ _ _ _ _
      (first | rw [if_pos True.intro] | rw [if_pos rfl])
      have hk2 : kidT e.ks kStat = tx := hkt
      rw [hk2]
      exact HF.out
    | false =>
      go_wp2_with fail
      go_meet
      show Rk _ _ _ _ _ _
      (first | rw [if_neg not_false] | rw [if_neg (by simp)])
      exact HR2a.out
  case rest =>
  have HR3 : Hid (Rk B P w #[.string e.sp, .string e.nm, .slice aA e.atr.length cA, .string e.tx, .slice aK e.ks.length cK] #[.int .i64 kd, .string ty, .string fn, .string fd, .string fr, .string tn, .string td, .string tr, .string id, .string sh1, .string (if b2 = true then kidT e.ks kStat else ⟨#[]⟩), .string ⟨#[]⟩, .slice none 0 0, .string ⟨#[]⟩] wc) := hcut.out
  clear hcut
  generalize hst1 : (if b2 = true then kidT e.ks kStat else ⟨#[]⟩) = st1 at HR3
  have Hst1 := Lib.hid hst1
  clear hst1
  obtain ⟨x0, x1, x2, x3, x4, x5, x6, x7, x8, x9, x10, x11, x12, x13⟩ := bx14 HR3.out.hp
  go_wp2_with fail
  refine (M3.out _ _ _).mono ?_
  rintro r v3 ⟨rfl, hb⟩
  have HR3a := Lib.hid (HR3.out.st hb)
  clear hb HR3 M3 x0 x1 x2 x3 x4 x5 x6 x7 x8 x9 x10 x11 x12 x13
  go_upto_if 32 with fail
  go_cut [] (fun wx => Hid (Rk B P w #[.string e.sp, .string e.nm, .slice aA e.atr.length cA, .string e.tx, .slice aK e.ks.length cK] #[.int .i64 kd, .string ty, .string fn, .string fd, .string fr, .string tn, .string td, .string tr, .string id, .string sh1, .string st1, .string (if b3 = true then kidT e.ks kBody else ⟨#[]⟩), .slice none 0 0, .string ⟨#[]⟩] wx))
  case first =>
    cases b3 with
    | true =>
      obtain ⟨x0, x1, x2, x3, x4, x5, x6, x7, x8, x9, x10, x11, x12, x13⟩ := bx14 HR3a.out.hp
      go_wp2_with fail
      refine (kidC_any e aA aK cA cK w.heap.size B ⟨#[98, 111, 100, 121]⟩ _ HR3a.out.hx (HK.out.below HR3a.out.bel) (HR3a.out.leB HB.out) HW.out).mono ?_
      rintro r u1 ⟨a1, c1, a2, c2, rfl, _, hb⟩
      have HU := Lib.hid (HR3a.out.st hb)
      clear hb HR3a x0 x1 x2 x3 x4 x5 x6 x7 x8 x9 x10 x11 x12 x13
      rw [kidD_tx]
      have HTX : Hid ((kidT e.ks ⟨#[98, 111, 100, 121]⟩).size ≤ 20000) := by have h1 := (kidD_wts e.ks ⟨#[98, 111, 100, 121]⟩).2; have h2 := HW.out; rw [kidD_tx] at h1; exact Nat.le_trans h1 h2
      generalize hkt : kidT e.ks ⟨#[98, 111, 100, 121]⟩ = tx at HTX ⊢
      have HV := Lib.hid HU.out
      clear HU
      have f0 := Lib.frozen_of_heap HV.out.hp 11
      obtain ⟨x0, x1, x2, x3, x4, x5, x6, x7, x8, x9, x10, x11, x12, x13⟩ := bx14 HV.out.hp
      have hPl := heap_lt HV.out.hp
      have HF := Lib.hid (HV.out.put HPB.out HPW.out 11 (.string tx))
      go_wp2_with fail
      go_meet
      show Rk _ _ _ _ _ _
      (first | rw [if_pos True.intro] | rw [if_pos rfl])
      have hk2 : kidT e.ks kBody = tx := hkt
      rw [hk2]
      exact HF.out
    | false =>
      go_wp2_with fail
      go_meet
      show Rk _ _ _ _ _ _
      (first | rw [if_neg not_false] | rw [if_neg (by simp)])
      exact HR3a.out
  case rest =>
  have HR4 : Hid (Rk B P w #[.string e.sp, .string e.nm, .slice aA e.atr.length cA, .string e.tx, .slice aK e.ks.length cK] #[.int .i64 kd, .string ty, .string fn, .string fd, .string fr, .string tn, .string td, .string tr, .string id, .string sh1, .string st1, .string (if b3 = true then kidT e.ks kBody else ⟨#[]⟩), .slice none 0 0, .string ⟨#[]⟩] wc) := hcut.out
  clear hcut
  generalize hbd1 : (if b3 = true then kidT e.ks kBody else ⟨#[]⟩) = bd1 at HR4
  have Hbd1 := Lib.hid hbd1
  clear hbd1
  obtain ⟨x0, x1, x2, x3, x4, x5, x6, x7, x8, x9, x10, x11, x12, x13⟩ := bx14 HR4.out.hp
  cases b4 with
  | true =>
    go_wp2_with fail
    refine (kidC_any e aA aK cA cK w.heap.size B ⟨#[101, 114, 114, 111, 114]⟩ _ HR4.out.hx (HK.out.below HR4.out.bel) (HR4.out.leB HB.out) HW.out).mono ?_
    rintro r u1 ⟨a1, c1, a2, c2, rfl, hks, hb⟩
    have HU := Lib.hid (HR4.out.st hb)
    have hkk : (kidD e.ks ⟨#[101, 114, 114, 111, 114]⟩).ks = errKids e.ks := kidD_ks e.ks
    have hkw := (kidD_wts e.ks ⟨#[101, 114, 114, 111, 114]⟩).1
    have CO := Lib.hid (condOf_any (kidD e.ks ⟨#[101, 114, 114, 111, 114]⟩).sp (kidD e.ks ⟨#[101, 114, 114, 111, 114]⟩).nm (kidD e.ks ⟨#[101, 114, 114, 111, 114]⟩).tx (kidD e.ks ⟨#[101, 114, 114, 111, 114]⟩).ks a1 a2 (kidD e.ks ⟨#[101, 114, 114, 111, 114]⟩).atr.length c1 c2 u1.heap.size u1 hks (Nat.le_refl _) (Nat.le_trans hkw HW.out))
    rw [← hkk] at hpost
    generalize kidD e.ks ⟨#[101, 114, 114, 111, 114]⟩ = K at CO hpost ⊢
    clear hb hks hkk hkw HR4 x0 x1 x2 x3 x4 x5 x6 x7 x8 x9 x10 x11 x12 x13
    go_wp2_with fail
    refine CO.out.mono ?_
    rintro r u2 ⟨rfl, hb⟩
    have HV := Lib.hid (HU.out.st hb)
    clear hb HU CO
    have f0 := Lib.frozen_of_heap HV.out.hp 13
    obtain ⟨x0, x1, x2, x3, x4, x5, x6, x7, x8, x9, x10, x11, x12, x13⟩ := bx14 HV.out.hp
    have hPl := heap_lt HV.out.hp
    have HF := Lib.hid (HV.out.put HPB.out HPW.out 13 (.string (condOf K.ks)))
    go_wp2_with fail
    go_end0
    rw [← hpost, Hsh1.out, Hst1.out, Hbd1.out, if_pos True.intro, if_pos True.intro]
    exact ⟨rfl, none, 0, HF.out.hp, fun i h => absurd h (Nat.not_lt_zero _), HF.out.bel, HF.out.keep⟩
  | false =>
    have n4 : ¬ ty.toList = [101, 114, 114, 111, 114] := by
      intro h; rw [h] at m4; exact absurd m4 (by decide)
    obtain ⟨e0, e1, e2, e3, e4⟩ := bx5 HR4.out.hx
    have HL0 : Hid (LR (w.heap.size + 1) B ((e.ks.take 0).filter fun k => !ownB k) none 0 wc) := LR.nil _ _ _
    go_wp2_with fail
    clear e0 e1 e2 e3 e4 x0 x1 x2 x3 x4 x5 x6 x7 x8 x9 x10 x11 x12 x13
    go_loopw [53] (fun i wr => ∃ (k : Nat) (a : Option Addr) (c n : Nat), i = .int .i64 k ∧ k ≤ e.ks.length ∧ n ≤ k ∧ Hid (n = ((e.ks.take k).filter fun k => !ownB k).length) ∧ Hid (Rk B P w #[.string e.sp, .string e.nm, .slice aA e.atr.length cA, .string e.tx, .slice aK e.ks.length cK] #[.int .i64 kd, .string ty, .string fn, .string fd, .string fr, .string tn, .string td, .string tr, .string id, .string sh1, .string st1, .string bd1, .slice a n c, .string ⟨#[]⟩] wr) ∧ Hid (LR (w.heap.size + 1) B ((e.ks.take k).filter fun k => !ownB k) a c wr)) (fun i _ => e.ks.length - (RowKit.intOf i).toNat)
    case atStart => exact ⟨0, none, 0, 0, rfl, Nat.zero_le _, Nat.zero_le _, rfl, HR4.out, HL0.out⟩
    case round =>
      obtain ⟨k, a, c, n, rfl, hk, hn, HN, HR, HL⟩ := hrel
      clear HR4 HL0
      by_cases hlt : k < e.ks.length
      · obtain ⟨b, o, a1, c1, a2, c2, rfl, hb, hf5, hkin⟩ := (HK.out.below HR.out.bel) k hlt
        obtain ⟨y0, y1, y2, y3, y4⟩ := hf5
        have HFT := Lib.hid (filt_take hlt fun k => !ownB k)
        generalize e.ks[k] = K at y0 y1 y2 y3 y4 hkin HFT
        have CI := Lib.hid (fun W => isOwn_any K a1 a2 K.atr.length c1 K.ks.length c2 K.tx W)
        have HIN := Lib.hid hkin
        have hbw := World.block_lt_of_cell? _ _ y0
        have HBA : Hid (Below wr.heap.size wr (wr.alloc (.cells #[.string K.sp, .string K.nm, .slice a1 K.atr.length c1, .string K.tx, .slice a2 K.ks.length c2] 29))) := (Below.refl _ wr).alloc (Nat.le_refl _) _
        have HY0 := Lib.hid (box_new wr #[.string K.sp, .string K.nm, .slice a1 K.atr.length c1, .string K.tx, .slice a2 K.ks.length c2] 29)
        clear hkin
        generalize hown : ownB K = bo at CI
        cases bo with
        | true =>
          have HT : Hid (((e.ks.take (k + 1)).filter fun k => !ownB k) = (e.ks.take k).filter fun k => !ownB k) := by
            show _ = _
            rw [HFT.out, hown]; simp
          go_wp2_with fail
          refine (CI.out _).mono ?_
          rintro r u1 ⟨rfl, hb1⟩
          have HBU := Lib.hid (HBA.out.trans (hb1.mono HBA.out.size))
          clear hb1
          go_wp2_with fail
          go_roundw
          case rel => exact ⟨k + 1, a, c, n, by go_num, by omega, by omega, by (show _ = _); rw [HT.out]; exact HN.out, HR.out.st HBU.out, by (show LR _ _ _ _ _ _); rw [HT.out]; exact HL.out.st (HR.out.leB HB.out) HBU.out⟩
          case measure => simp [RowKit.intOf]; omega
        | false =>
          have HT : Hid (((e.ks.take (k + 1)).filter fun k => !ownB k) = ((e.ks.take k).filter fun k => !ownB k) ++ [K]) := by
            show _ = _
            rw [HFT.out, hown]; simp
          go_wp2_with fail
          refine (CI.out _).mono ?_
          rintro r u1 ⟨rfl, hb1⟩
          have HBU := Lib.hid (HBA.out.trans (hb1.mono HBA.out.size))
          have HY1 := Lib.hid ((hb1.block _ (heap_lt HY0.out)).trans HY0.out)
          have HR1 := Lib.hid (HR.out.st HBU.out)
          have HL1 := Lib.hid (HL.out.st (HR.out.leB HB.out) HBU.out)
          have HI1 := Lib.hid (HIN.out.stay (HBU.out.mono (HR.out.leB HB.out)))
          have HYL : Hid (w.heap.size < wr.heap.size) := HR.out.gt
          have HOW0 : Hid (∀ b, (Value.slice a n c).ownBlock = some b → b < wr.heap.size) := by
            obtain ⟨xs, hxs, _⟩ := HL.out
            intro b e
            rw [HN.out] at e
            exact heap_lt (own_heap hxs e).2.choose_spec
          clear hb1 HBA HY0 HBU HL HIN CI y0 y1 y2 y3 y4 hbw
          obtain ⟨xs, hxs, hxk⟩ := HL1.out
          rw [← HN.out] at hxs
          have HXS := Lib.hid hxs
          have HXK := Lib.hid hxk
          have HXL : Hid (xs.length = n * 5) := hxs.1
          clear hxs hxk HL1 HR
          have hYP : P ≠ wr.heap.size := by have := HYL.out; omega
          have hge : w.heap.size + 1 ≤ u1.heap.size := HR1.out.gt
          obtain ⟨x0, x1, x2, x3, x4, x5, x6, x7, x8, x9, x10, x11, x12, x13⟩ := bx14 HR1.out.hp
          obtain ⟨p0, p1, p2, p3, p4⟩ := bx5 HY1.out
          have hPu := heap_lt HR1.out.hp
          have hYu := heap_lt HY1.out
          have HOW : Hid (∀ Z, u1.heap[Z]? = some (.cells #[.string K.sp, .string K.nm, .slice a1 K.atr.length c1, .string K.tx, .slice a2 K.ks.length c2] 29 (0, 0)) → Z = wr.heap.size → (Value.slice a n c).ownBlock ≠ some Z) := fun Z _ hz e => by have := HOW0.out Z e; omega
          clear HOW0
          generalize wr.heap.size = Y at HY1 HYL HOW hYP hYu p0 p1 p2 p3 p4 ⊢
          have h20 : (0 : Int) ≤ (n : Int) := Int.natCast_nonneg _
          have h22 : (n : Int) < (n : Int) + 1 := by omega
          have h21 : (n : Int) < ((n + 1 : Nat) : Int) := by omega
          have hn2 : n ≤ 20000 := by omega
          obtain ⟨i0, hi0, hz0, hz1, hz2⟩ := info_parts infoElem
          have y12b := cell_alloc x12 (.cells #[.string ⟨#[]⟩, .string ⟨#[]⟩, .slice none 0 0, .string ⟨#[]⟩, .slice none 0 0] 29)
          have p0b := cell_alloc p0 (.cells #[.string ⟨#[]⟩, .string ⟨#[]⟩, .slice none 0 0, .string ⟨#[]⟩, .slice none 0 0] 29)
          have p1b := cell_alloc p1 (.cells #[.string ⟨#[]⟩, .string ⟨#[]⟩, .slice none 0 0, .string ⟨#[]⟩, .slice none 0 0] 29)
          have p2b := cell_alloc p2 (.cells #[.string ⟨#[]⟩, .string ⟨#[]⟩, .slice none 0 0, .string ⟨#[]⟩, .slice none 0 0] 29)
          have p3b := cell_alloc p3 (.cells #[.string ⟨#[]⟩, .string ⟨#[]⟩, .slice none 0 0, .string ⟨#[]⟩, .slice none 0 0] 29)
          have p4b := cell_alloc p4 (.cells #[.string ⟨#[]⟩, .string ⟨#[]⟩, .slice none 0 0, .string ⟨#[]⟩, .slice none 0 0] 29)
          clear x0 x1 x2 x3 x4 x5 x6 x7 x8 x9 x10 x11 x13
          go_wp2_with fail
          go_region_law (refine step_append_lies _ (by rfl) _ _ _ (by rfl) (w.heap.size + 1) 29 i0 _ 5 96 Tryz.underlying24 hi0 hz0 hz1 hz2 rfl (by omega) (.slice a n c) n xs (by rfl) (ow_alloc HXS.out _) ⟨u1.heap.size, 0, none⟩ 1 1 [.string ⟨#[]⟩, .string ⟨#[]⟩, .slice none 0 0, .string ⟨#[]⟩, .slice none 0 0] (by rfl) (by rfl) (World.news_of_block (cs := #[.string ⟨#[]⟩, .string ⟨#[]⟩, .slice none 0 0, .string ⟨#[]⟩, .slice none 0 0]) (t := 29) (fr := (0, 0)) (heap_alloc_new u1 _)) (by simp [Value.oneCell']) (by omega) (by unfold maxLen; omega) (by omega) (by simp; omega) (u1.heap.size + 1) (by simp) ?_; intro g cap w5' hown2 hgrow hat hlt5; have HB45 : Hid (Below u1.heap.size u1 (u1.alloc (.cells #[.string ⟨#[]⟩, .string ⟨#[]⟩, .slice none 0 0, .string ⟨#[]⟩, .slice none 0 0] 29)).drew ∧ (u1.alloc (.cells #[.string ⟨#[]⟩, .string ⟨#[]⟩, .slice none 0 0, .string ⟨#[]⟩, .slice none 0 0] 29)).drew.grownBy w5' (Value.slice a n c).ownBlock ∧ ((Value.slice a n c).ownBlock = some g ∨ g = (u1.alloc (.cells #[.string ⟨#[]⟩, .string ⟨#[]⟩, .slice none 0 0, .string ⟨#[]⟩, .slice none 0 0] 29)).drew.heap.size)) := ⟨((Below.refl _ _).alloc (Nat.le_refl _) _).drew, hgrow, (by rcases hat with q | q; exact .inl q; exact .inr (by rw [q]; simp))⟩; clear hgrow hat; obtain ⟨⟨gc0, gc1, gc2, gc3, gc4⟩, gff⟩ := newKid hown2 HXL.out; have gf0 := gff (n * 5); have gf1 := gff (n * 5 + 1); have gf2 := gff (n * 5 + 2); have gf3 := gff (n * 5 + 3); have gf4 := gff (n * 5 + 4); clear gff; have HT5 : Hid (w5'.heap[P]? = _) := (grown_keep HB45.out.1 HB45.out.2.1 HB45.out.2.2 P (heap_lt HR1.out.hp) (fun e => by have h1 := (own_heap HXS.out e).1; omega)).1.trans HR1.out.hp; have hgT : g ≠ P := (grown_keep HB45.out.1 HB45.out.2.1 HB45.out.2.2 P (heap_lt HR1.out.hp) (fun e => by have h1 := (own_heap HXS.out e).1; omega)).2; have hTg : P ≠ g := Ne.symm hgT; have HP5 : Hid (w5'.heap[Y]? = _) := (grown_keep HB45.out.1 HB45.out.2.1 HB45.out.2.2 Y (heap_lt HY1.out) (HOW.out Y HY1.out rfl)).1.trans HY1.out; have hgP : g ≠ Y := (grown_keep HB45.out.1 HB45.out.2.1 HB45.out.2.2 Y (heap_lt HY1.out) (HOW.out Y HY1.out rfl)).2; have hPg : Y ≠ g := Ne.symm hgP; obtain ⟨k0, k1, k2, k3, k4, k5, k6, k7, k8, k9, k10, k11, k12, k13⟩ := bx14 HT5.out; obtain ⟨m0, m1, m2, m3, m4'⟩ := bx5 HP5.out; have l12 := Lib.frozen_of_heap HT5.out 12; clear k0 k1 k2 k3 k4 k5 k6 k7 k8 k9 k10 k11 k13)
          all_goals
            try rw [set_comm5 hTg]
            have HF : Hid (Rk B P w _ (Array.setIfInBounds #[.int .i64 kd, .string ty, .string fn, .string fd, .string fr, .string tn, .string td, .string tr, .string id, .string sh1, .string st1, .string bd1, .slice a n c, .string ⟨#[]⟩] 12 (.slice (some ⟨g, 0, none⟩) (n + 1) cap)) ((((((w5'.setCell ⟨g, n * 5, none⟩ (.string K.sp)).setCell ⟨g, n * 5 + 1, none⟩ (.string K.nm)).setCell ⟨g, n * 5 + 2, none⟩ (.slice a1 K.atr.length c1)).setCell ⟨g, n * 5 + 3, none⟩ (.string K.tx)).setCell ⟨g, n * 5 + 4, none⟩ (.slice a2 K.ks.length c2)).setCell ⟨P, 12, none⟩ (.slice (some ⟨g, 0, none⟩) (n + 1) cap)) ∧ LR (w.heap.size + 1) B (((e.ks.take k).filter fun k => !ownB k) ++ [K]) (some ⟨g, 0, none⟩) cap ((((((w5'.setCell ⟨g, n * 5, none⟩ (.string K.sp)).setCell ⟨g, n * 5 + 1, none⟩ (.string K.nm)).setCell ⟨g, n * 5 + 2, none⟩ (.slice a1 K.atr.length c1)).setCell ⟨g, n * 5 + 3, none⟩ (.string K.tx)).setCell ⟨g, n * 5 + 4, none⟩ (.slice a2 K.ks.length c2)).setCell ⟨P, 12, none⟩ (.slice (some ⟨g, 0, none⟩) (n + 1) cap))) :=
              HR1.out.add HPB.out HPW.out HN.out HXS.out HXK.out HB45.out.1 HB45.out.2.1 HB45.out.2.2 hgT hown2 HI1.out
            clear hown2 gc0 gc1 gc2 gc3 gc4 gf0 gf1 gf2 gf3 gf4 k12 m0 m1 m2 m3 m4' l12 x12 y12b p0 p1 p2 p3 p4 p0b p1b p2b p3b p4b HT5 HP5 HB45 HR1 HXS HXK HI1
            generalize ((((((w5'.setCell ⟨g, n * 5, none⟩ (.string K.sp)).setCell ⟨g, n * 5 + 1, none⟩ (.string K.nm)).setCell ⟨g, n * 5 + 2, none⟩ (.slice a1 K.atr.length c1)).setCell ⟨g, n * 5 + 3, none⟩ (.string K.tx)).setCell ⟨g, n * 5 + 4, none⟩ (.slice a2 K.ks.length c2)).setCell ⟨P, 12, none⟩ (.slice (some ⟨g, 0, none⟩) (n + 1) cap)) = w6' at HF ⊢
            have HNN : Hid (n + 1 = ((e.ks.take (k + 1)).filter fun k => !ownB k).length) := by show _ = _; rw [HT.out, List.length_append, ← HN.out]; rfl
            have HRR : Hid (Rk B P w _ #[.int .i64 kd, .string ty, .string fn, .string fd, .string fr, .string tn, .string td, .string tr, .string id, .string sh1, .string st1, .string bd1, .slice (some ⟨g, 0, none⟩) (n + 1) cap, .string ⟨#[]⟩] w6') := HF.out.1
            have HLL : Hid (LR (w.heap.size + 1) B ((e.ks.take (k + 1)).filter fun k => !ownB k) (some ⟨g, 0, none⟩) cap w6') := by show LR _ _ _ _ _ _; rw [HT.out]; exact HF.out.2
            clear HF
            go_wp2_with fail
            go_roundw
            case rel => exact ⟨k + 1, _, _, n + 1, by go_num, by omega, by omega, HNN.out, HRR.out, HLL.out⟩
            case measure => simp [RowKit.intOf]; omega
      · obtain rfl : k = e.ks.length := by omega
        have HN2 := Lib.hid HN.out
        have HL2 := Lib.hid HL.out
        have htk : e.ks.take e.ks.length = e.ks := List.take_of_length_le (Nat.le_refl _)
        go_wp2_with fail
        go_end0
        rw [← hpost, Hsh1.out, Hst1.out, Hbd1.out]
        (first | rw [if_neg not_false, if_neg not_false] | rw [if_neg (by simp), if_neg (by simp)])
        rw [htk] at HN2 HL2
        refine ⟨rfl, a, c, ?_, HL2.out.ksIn (HR.out.leB HB.out), HR.out.bel, HR.out.keep⟩
        rw [← HN2.out]
        exact HR.out.hp
end Go.Proofs.YtccpdfcmhggleaaGreatDoor
