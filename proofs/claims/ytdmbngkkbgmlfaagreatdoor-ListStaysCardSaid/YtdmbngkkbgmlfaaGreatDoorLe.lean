/- Contract: whether no two items are called the same. Conditions: those of each theorem's head. -/
import Derived.Test.YtdmbngkkbgmlfaaGreatDoorLd
import Derived.Maps.OwnSet
import Derived.DeepKeys4
namespace Go.Proofs.YtdmbngkkbgmlfaaGreatDoor.T
open Go.RowKit Go.Lib Go.Maps

theorem laidOut : laidOutB Tryz.prog = true := by kernel_rfl
theorem rowT : (70 : TypeId) < Tryz.prog.types.size := of_decide_eq_true (by kernel_rfl)
theorem wideT : (match Tryz.prog.underlying 70 with | some (.array _ _) | some (.struct _) => true | _ => false) = true := by kernel_rfl
set_option maxRecDepth 100000 in
theorem lawT : Keyed Tryz.prog 70 := Keyed.of_law (deep_law_laid laidOut (m := 3) (by omega) rowT (by kernel_rfl) wideT)
/-- What a title reads as, as a key. -/
def kt (p : Int × ByteArray) : Lit := .string (keyBytes [.int .i64 p.1, .string p.2.data.toList])
theorem size_succ : ∃ d, Tryz.prog.types.size + 1 = d + 2 := ⟨Tryz.prog.types.size - 1, by have : 1 ≤ Tryz.prog.types.size := of_decide_eq_true (by kernel_rfl); omega⟩
theorem lits_T (d : Nat) (k : Int) (s : ByteArray) (hk : (Lit.int .i64 k).wf = true) (hs : s.size ≤ maxLen) : Tryz.prog.keyLits (d + 2) 70 [.int .i64 k, .string s] = some [.int .i64 k, .string s.data.toList] := by
  have hc : Tryz.prog.cellsOf 70 = 2 := by kernel_rfl
  have h3 : Tryz.prog.cellsOf 3 = 1 := by kernel_rfl
  have h9 : Tryz.prog.cellsOf 9 = 1 := by kernel_rfl
  have e1 : Tryz.prog.keyLits (d + 1) 3 [.int .i64 k] = some [.int .i64 k] := by simp [Program.keyLits, Tryz.underlying3, hk]
  have e2 : Tryz.prog.keyLits (d + 1) 9 [.string s] = some [.string s.data.toList] := by simp [Program.keyLits, Tryz.underlying9, hs]
  unfold Program.keyLits
  simp only [Tryz.underlying70]
  simp [hc, h3, h9, e1, e2]
theorem key_T (p : Int × ByteArray) (hk : (Lit.int .i64 p.1).wf = true) (hs : p.2.size ≤ maxLen) : keyOf Tryz.prog 70 (.agg #[.int .i64 p.1, .string p.2]) = some (kt p) := by
  obtain ⟨d, hd⟩ := size_succ
  have hy : Tryz.prog.keyType 70 = true := by kernel_rfl
  have hc : Tryz.prog.cellsOf 70 = 2 := by kernel_rfl
  have hf : Value.formed Tryz.prog 70 (.agg #[.int .i64 p.1, .string p.2]) = true := by simp [Value.formed, Tryz.underlying70, hc]
  unfold keyOf kt
  simp only [Tryz.underlying70, hy, hf, hd]
  simp [Value.cells, lits_T d p.1 p.2 hk hs]
structure Wt (p : Int × ByteArray) : Prop where
  k : (Lit.int .i64 p.1).wf = true
  s : p.2.size ≤ maxLen
theorem Wt.key {p : Int × ByteArray} (h : Wt p) : keyOf Tryz.prog 70 (tA p) = some (kt p) := key_T p h.k h.s
theorem kt_inj {p q : Int × ByteArray} (hp : Wt p) (hq : Wt q) (e : kt p = kt q) : p = q := by
  have h := lawT.inj hp.key (by rw [e]; exact hq.key)
  unfold tA at h
  simp only [Value.agg.injEq, Array.mk.injEq, List.cons.injEq, Value.int.injEq, Value.string.injEq, true_and, and_true] at h
  obtain ⟨p1, p2⟩ := p
  obtain ⟨q1, q2⟩ := q
  exact Prod.ext h.1 h.2
theorem same_str (bs : List UInt8) : (Lit.string bs).sameKey (.string bs) = true := by simp [Lit.sameKey]
theorem size_dif {H : Type} (u : DataW H) : ∀ (n : Nat) (xs : List Lit), xs.length = n → (∀ x ∈ xs, ∃ bs, x = .string bs) → Maps.size (setOf u xs) ≤ n ∧ (Maps.size (setOf u xs) = n ↔ xs.Pairwise (· ≠ ·))
  | 0, xs, hn, _ => by
    rw [List.length_eq_zero_iff] at hn
    subst hn
    exact ⟨Nat.le_refl _, ⟨fun _ => .nil, fun _ => rfl⟩⟩
  | n + 1, xs, hn, hx => by
    have hne : xs ≠ [] := by intro e; subst e; cases hn
    obtain ⟨ys, x, rfl⟩ : ∃ ys x, xs = ys ++ [x] := ⟨xs.dropLast, xs.getLast hne, (List.dropLast_concat_getLast hne).symm⟩
    have hyn : ys.length = n := by simpa using hn
    have hys : ∀ y ∈ ys, ∃ bs, y = Lit.string bs := fun y hy => hx y (by simp [hy])
    obtain ⟨b, hb⟩ := hx x (by simp)
    have hkey : ∀ y ∈ ys, WideAt.IsKeyLit y := fun y hy => by obtain ⟨bs, rfl⟩ := hys y hy; trivial
    have ih := size_dif u n ys hyn hys
    rw [setOf_snoc, size_put (tidy_setOf u ys hkey), has_setOf u x ys hkey, List.pairwise_append]
    by_cases hm : ys.any (fun y => y.sameKey x) = true
    · rw [if_pos hm]
      refine ⟨by omega, ⟨fun e => by omega, fun h => ?_⟩⟩
      exfalso
      rw [List.any_eq_true] at hm
      obtain ⟨y, hy, e⟩ := hm
      have hne := h.2.2 y hy x (by simp)
      rw [sameKey_ne hne] at e
      cases e
    · rw [if_neg hm]
      rw [Bool.not_eq_true, List.any_eq_false] at hm
      have hd : ∀ a ∈ ys, ∀ c ∈ [x], a ≠ c := fun a ha c hc e => by
        rw [List.mem_singleton] at hc
        subst hc
        subst e
        exact hm a ha (by rw [hb]; exact same_str b)
      refine ⟨by omega, ⟨fun e => ⟨ih.2.1 (by omega), List.pairwise_singleton _ _, hd⟩, fun h => ?_⟩⟩
      have := ih.2.2 h.1
      omega
/-- The titles of the first k. -/
def Ds {H : Type} (l : List It) (k : Nat) : DataW H := setOf (.agg []) ((l.take k).map fun x => kt (ttl x))
theorem Ds_zero {H : Type} (l : List It) : Ds (H := H) l 0 = .map [] := by simp [Ds, setOf]
theorem Ds_succ {H : Type} (l : List It) (k : Nat) (hk : k < l.length) : Ds (H := H) l (k + 1) = (Ds l k).put (kt (ttl l[k])) (.agg []) := by
  unfold Ds
  rw [List.take_succ_eq_append_getElem hk, List.map_append, List.map_singleton, setOf_snoc]
theorem Ds_all {l : List It} (hw : ∀ x ∈ l, Wt (ttl x)) : (Maps.size (Ds (H := Unit) l l.length) : Int) ≤ l.length ∧ ((Maps.size (Ds (H := Unit) l l.length) : Int) = l.length ↔ l.Pairwise fun x y => ttl x ≠ ttl y) := by
  have h := size_dif (H := Unit) (.agg []) l.length ((l.take l.length).map fun x => kt (ttl x)) (by simp) (fun x hx => by
    rw [List.mem_map] at hx
    obtain ⟨y, _, rfl⟩ := hx
    exact ⟨_, rfl⟩)
  have e : ((l.take l.length).map fun x => kt (ttl x)).Pairwise (· ≠ ·) ↔ l.Pairwise fun x y => ttl x ≠ ttl y := by
    rw [List.take_length, List.pairwise_map]
    constructor
    · exact fun h => h.imp fun h e => h (by rw [e])
    · exact fun h => h.imp_of_mem fun ha hb h e => h (kt_inj (hw _ ha) (hw _ hb) e)
  rw [e] at h
  unfold Ds
  exact ⟨by omega, by rw [← h.2]; omega⟩
theorem grown_of {w w' : World} (hb : Below w.heap.size w w') : w.grownBy w' none := ⟨hb.os, hb.tape, hb.output, hb.size, fun k hk _ => hb.block k hk⟩
theorem ttl_wt {x : It} (h : itB x = true) : Wt (ttl x) := by
  unfold itB at h
  simp only [Bool.and_eq_true] at h
  have h3 := h.2
  split at h3
  · rename_i h0
    simp only [Bool.and_eq_true] at h3
    unfold ttl
    rw [if_pos h0]
    have := isN_size h3.1
    refine ⟨by show (Lit.int .i64 0).wf = true; decide, ?_⟩
    show (Go.Proofs.YtdmbngkkbgmlfaaGreatDoor.mk _).size ≤ _
    rw [Go.Proofs.YtdmbngkkbgmlfaaGreatDoor.mk_size]
    have hl : (Hd.nl x.n.data.toList).length ≤ x.n.data.toList.length := by
      unfold Hd.nl
      exact Nat.le_trans (Go.Proofs.YtdmbngkkbgmlfaaGreatDoor.nob_len _) (by rw [Go.Proofs.YtdmbngkkbgmlfaaGreatDoor.foldL_len]; exact Nat.le_refl _)
    have h2 := Lib.size_eq x.n
    unfold maxLen
    omega
  · split at h3
    · rename_i h0 h1
      simp only [Bool.and_eq_true] at h3
      unfold ttl
      rw [if_neg h0]
      refine ⟨by show (Lit.int .i64 x.t).wf = true; rw [h1]; decide, ?_⟩
      have := h3.1.1
      unfold txB at this
      simp only [Bool.and_eq_true, decide_eq_true_iff] at this
      unfold maxLen
      show x.n.size ≤ _
      omega
    · cases h3
theorem run_makeT (n : Nat) (w : World) : (Instr.makeMap 83 (some (.int .i64 n))).run Tryz.prog w = .ok (.map (some w.heap.size)) (w.alloc (.map #[] 0)) := by
  simp [Instr.makeMap, run_underlying Tryz.underlying83, asInt, asIntOf]
theorem zero_u (w : World) : (zeroValue 66).run Tryz.prog w = .ok (.agg #[]) w := by kernel_rfl
set_option maxRecDepth 100000 in
set_option maxHeartbeats 8000000 in
theorem differ_any (l : List It) (a : Option Addr) (c : Nat) (w : World) (hL : ItS w a l) (hn : l.length ≤ 1000000) (hz : ∀ x ∈ l, x.n.size ≤ 1048576) (hw : ∀ x ∈ l, Wt (ttl x)) : Calls Tryz.prog 22 #[.slice a l.length c] w (Gives (.bool (pb (l.Pairwise fun x y => ttl x ≠ ttl y))) w) := by
  have HL := Lib.hid fun W (hb : Below w.heap.size w W) => hL.below hb
  have HZ := Lib.hid hz
  have HW := Lib.hid hw
  have HS := Lib.hid (Ds_all hw)
  have HY : Hid ((l.Pairwise fun x y => ttl x ≠ ttl y) → pb (l.Pairwise fun x y => ttl x ≠ ttl y) = true) := fun h => pb_yes h
  have HN : Hid ((¬ l.Pairwise fun x y => ttl x ≠ ttl y) → pb (l.Pairwise fun x y => ttl x ≠ ttl y) = false) := fun h => pb_no h
  generalize pb (l.Pairwise fun x y => ttl x ≠ ttl y) = R at HY HN ⊢
  clear hL hz hw
  have hmm := run_makeT
  go_enter Tryz.func22, Tryz.ntmps22
  go_wp2_with fail
  go_loopw [11] (fun i wr => ∃ j : Nat, i = .int .i64 j ∧ j ≤ l.length ∧ Hid (wr.ownsMap Tryz.prog 70 unitElem w.heap.size j (Ds (H := Unit) l j)) ∧ Hid (Below w.heap.size w wr)) (fun i _ => l.length - (RowKit.intOf i).toNat)
  case atStart => exact ⟨0, rfl, Nat.zero_le _, by rw [Ds_zero]; exact World.ownsMap_made _ _ _ _, (Below.refl _ _).alloc (Nat.le_refl _) _⟩
  case round =>
    obtain ⟨j, rfl, hj, HM, HB⟩ := hrel
    by_cases hlt : j < l.length
    · obtain ⟨b, o, rfl, e0, e1, e2, e3, e4, e5⟩ := HL.out _ HB.out j hlt
      have HD := Lib.hid (Ds_succ (H := Unit) l j hlt)
      have HK := Lib.hid (HW.out _ (List.getElem_mem hlt)).key
      have C := Lib.hid fun W => titleOf_any l[j] W (HZ.out _ (List.getElem_mem hlt))
      generalize l[j] = y at e0 e1 e2 e3 e4 e5 C HD HK
      generalize kt (ttl y) = kl at HD HK
      generalize ttl y = p at C HK
      have HX := Lib.hid (box_new wr #[.string y.n, .int .i64 y.g, .int .i64 y.i, .int .i64 y.t, .string y.a, .bool y.w] 26)
      have HBW := Lib.hid (HB.out.alloc HB.out.size (.cells #[.string y.n, .int .i64 y.g, .int .i64 y.i, .int .i64 y.t, .string y.a, .bool y.w] 26))
      have HMW := Lib.hid (HM.out.alloc (.cells #[.string y.n, .int .i64 y.g, .int .i64 y.i, .int .i64 y.t, .string y.a, .bool y.w] 26))
      obtain ⟨c0, c1, c2, c3, c4, c5⟩ := bx6 HX.out
      go_wp2_with fail
      refine (C.out _).mono ?_
      rintro e w1 ⟨rfl, hb⟩
      have HM1 := Lib.hid (HMW.out.kept (grown_of hb) (by simp))
      have HB1 := Lib.hid (HBW.out.trans (hb.mono HBW.out.size))
      clear hb
      unfold tA at HK ⊢
      go_wp2_with (first
        | (at_mapUpdate; refine wpList_mapUpdate_own _ rfl _ _ _ 83 rfl 70 66 lawT Tryz.underlying83 (unitElem (H := Unit)) w.heap.size j _ rfl HM1.out (by unfold maxLen; omega) _ _ _ rfl rfl HK.out _ [] unitElem_mk ?_; intro w2 hown2 hgrow2)
        | go_in)
      have HM2 := Lib.hid hown2
      have HB2 := Lib.hid (HB1.out.grown hgrow2 HB1.out.size (fun j hj => by cases hj; exact Nat.le_refl _))
      clear hown2 hgrow2
      exact ⟨⟨j + 1, by go_num, by omega, (by rw [HD.out]; exact HM2.out), HB2.out⟩, by simp [RowKit.intOf]; omega⟩
    · obtain rfl : j = l.length := by omega
      have hq := HS.out.2
      generalize Ds (H := Unit) l l.length = D at HM hq HS
      by_cases hp : l.Pairwise fun x y => ttl x ≠ ttl y
      · have e9 := HY.out hp
        subst e9
        have hz := hq.2 hp
        clear hq
        go_wp2_with (first
          | (at_len; refine wpList_len_own _ rfl _ 83 rfl 70 66 Tryz.underlying83 (unitElem (H := Unit)) w.heap.size l.length _ rfl HM.out ?_)
          | go_in)
        go_ret
        exact ⟨rfl, HB.out⟩
      · have e9 := HN.out hp
        subst e9
        have hz : ((Maps.size D : Int) == l.length) = false := beq_eq_false_iff_ne.2 fun e => hp (hq.1 e)
        clear hq
        go_wp2_with (first
          | (at_len; refine wpList_len_own _ rfl _ 83 rfl 70 66 Tryz.underlying83 (unitElem (H := Unit)) w.heap.size l.length _ rfl HM.out ?_)
          | go_in)
        go_ret
        exact ⟨rfl, HB.out⟩
end Go.Proofs.YtdmbngkkbgmlfaaGreatDoor.T
