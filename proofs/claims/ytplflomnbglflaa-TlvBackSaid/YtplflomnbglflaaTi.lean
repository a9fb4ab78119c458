/- Contracts: valuesOf, its function, and Find (a range over a function), whatever the values. Conditions: those of each theorem's head. -/
import Derived.Test.YtplflomnbglflaaTh
import Derived.RangeFuncNested
import Derived.RangeFuncFrom
import Derived.RangeFuncBound
import Derived.RangeFuncCalls
import Derived.RangeFuncLeaves
import Derived.Shelf.Abstract
import Derived.Shelf.RegionOpen
import Derived.OwnWalkIn
import Derived.TacticsInMore
import Derived.LoopNIn
import Derived.LoopIn
namespace Go.Proofs.Ytplflomnbglflaa
open Go.RowKit Go.Lib Go.Shelf

attribute [local go_sem] Oper.semAt_some

/-- The Values of those of a type, in their order. -/
def vals (l : List Tv) (k : Int) : List ByteArray := (l.filter fun t => t.k == k).map Tv.v
theorem vals_next {l : List Tv} {k : Int} {i : Nat} (h : i < l.length) : vals (l.take (i + 1)) k = if (l[i]'h).k = k then vals (l.take i) k ++ [(l[i]'h).v] else vals (l.take i) k := by
  rw [List.take_succ_eq_append_getElem h, vals, List.filter_append, List.map_append]
  split
  · rename_i e
    rw [List.filter_cons_of_pos (by simpa using e)]
    rfl
  · rename_i e
    rw [List.filter_cons_of_neg (by simpa using e)]
    simp [vals]
theorem vals_len (l : List Tv) (k : Int) : (vals l k).length ≤ l.length := by
  unfold vals
  rw [List.length_map]
  exact List.length_filter_le _ _
theorem vals_take (l : List Tv) (k : Int) (i : Nat) : vals (l.take i) k <+: vals l k := by
  refine ⟨vals (l.drop i) k, ?_⟩
  unfold vals
  rw [← List.map_append, ← List.filter_append, List.take_append_drop]
theorem vals_head (l : List Tv) (k : Int) : (vals l k).head? = (fnd l k).map Tv.v := by
  unfold vals fnd
  rw [List.head?_map, List.head?_filter]
/-- Bytes as a text of the machine may hold. -/
abbrev Sz := { x : ByteArray // x.size ≤ 140737488351232 }
def sz (x : ByteArray) : Sz := if h : x.size ≤ 140737488351232 then ⟨x, h⟩ else ⟨⟨#[]⟩, Nat.zero_le _⟩
theorem sz_val {x : ByteArray} (h : x.size ≤ 140737488351232) : (sz x).1 = x := by
  unfold sz
  rw [dif_pos h]
def valz (l : List Tv) (k : Int) : List Sz := (vals l k).map sz
theorem valz_back {l : List Tv} {k : Int} (h : ∀ t ∈ l, t.v.size ≤ 140737488351232) : (valz l k).map (·.1) = vals l k := by
  unfold valz vals
  rw [List.map_map, List.map_map]
  refine List.map_congr_left fun t ht => ?_
  exact sz_val (h t (List.mem_filter.1 ht).1)
theorem valz_nil {l : List Tv} {k : Int} (h : valz l k = []) : vals l k = [] := List.map_eq_nil_iff.1 h
theorem valz_one {l : List Tv} {k : Int} {x : Sz} (h : ∀ t ∈ l, t.v.size ≤ 140737488351232) (hp : [x] <+: valz l k) : [x.1] <+: vals l k := by
  have := List.IsPrefix.map (·.1) hp
  rwa [valz_back h] at this
theorem fnd_nil {l : List Tv} {k : Int} (h : vals l k = []) : fndS l k = ⟨#[]⟩ ∧ fndB l k = false := by
  have e := vals_head l k
  rw [h] at e
  unfold fndS fndB
  cases hf : fnd l k with
  | none => exact ⟨rfl, rfl⟩
  | some t => rw [hf] at e; cases e
theorem fnd_one {l : List Tv} {k : Int} {v : ByteArray} (h : [v] <+: vals l k) : fndS l k = v ∧ fndB l k = true := by
  obtain ⟨r, hr⟩ := h
  have e := vals_head l k
  rw [← hr] at e
  unfold fndS fndB
  cases hf : fnd l k with
  | none => rw [hf] at e; cases e
  | some t =>
    rw [hf] at e
    simp only [Option.map_some, List.singleton_append, List.head?_cons, Option.some.injEq] at e
    exact ⟨e.symm, rfl⟩
set_option maxRecDepth 100000 in
set_option maxHeartbeats 4000000 in
theorem set1 {W : World} {b : Nat} {v : Value} {t : TypeId} (h : W.heap[b]? = some (.cells #[v] t (0, 0))) (u : Value) : (W.setCell ⟨b, 0, none⟩ u).heap[b]? = some (.cells #[u] t (0, 0)) := by
  simp [World.setCell, Array.getElem?_modify, h]
theorem set_other {W : World} {P b : Nat} (u : Value) (h : b ≠ P) : (W.setCell ⟨P, 0, none⟩ u).heap[b]? = W.heap[b]? := Below.heap_setCell _ _ _ _ h
theorem keeps_of {W W' : World} (h : Below W.heap.size W W') : KeepsOthers W W' := ⟨h.size, fun k _ hk _ => (h.block k (Array.getElem?_eq_some_iff.1 hk).1).trans hk⟩
theorem heap_kept {A B : World} {row : Option Nat} {b : Nat} {cs : Array Value} {t : TypeId} {fz : Nat × Nat} (h : A.heap[b]? = some (.cells cs t fz)) (hg : A.grownBy B row) (hr : ∀ r, row = some r → ∃ o : Obj, A.heap[r]? = some o ∧ o.isCells = false) : B.heap[b]? = some (.cells cs t fz) := by
  refine (hg.block b (heap_lt h) ?_).trans h
  intro e
  obtain ⟨o, ho, hc⟩ := hr b e.symm
  rw [h] at ho
  cases ho
  cases hc
theorem valuesOf_any (k : Int) (a : Option Addr) (n c : Nat) (w : World) : Calls Try.prog 31 #[.slice a n c, .int .i64 k] w fun e w' =>
    e = .returned (.func (.func 35) #[] #[.pointer (some ⟨w.heap.size, 0, none⟩), .pointer (some ⟨w.heap.size + 1, 0, none⟩)]) ∧ w' = (w.alloc (.cells #[.slice a n c] 36)).alloc (.cells #[.int .i64 k] 3) := by
  go_enter Try.func31, Try.ntmps31
  go_wp2_with fail
  go_ret
  exact ⟨rfl, rfl⟩
set_option maxRecDepth 100000 in
set_option maxHeartbeats 4000000 in
/-- One yield a value of that type, in order: FOR EVERY LOOP BODY THAT KEEPS WHAT LAY BELOW n₀. -/
theorem yields_in (n l Bs Bk n₀ : Nat) (hn : 1 ≤ n) (tv : List Tv) (kind : Int) (a : Option Addr) (c : Nat) (hk₀ : Bk < n₀) (hlen : tv.length ≤ 140737488351232) (hz : ∀ t ∈ tv, t.v.size ≤ 140737488351232) (J Jx : List Sz → World → Prop)
    (W : World) (hn₀ : n₀ ≤ W.heap.size) (hJ : AbidesFrom W.heap.size J)
    (hY : ∀ pre x W1, J pre W1 → pre.length < tv.length → YieldAt Fence.wide (n - 1) Try.prog l #[.string x.1] W1 fun e W' =>
      (e = .returned (.bool true) ∧ J (pre ++ [x]) W' ∧ Below n₀ W1 W') ∨ (e = .returned (.bool false) ∧ Jx (pre ++ [x]) W'))
    (hBs : W.cell? ⟨Bs, 0, none⟩ = some (.slice a tv.length c)) (hBk : W.cell? ⟨Bk, 0, none⟩ = some (.int .i64 kind)) (hL : ∀ W', Below n₀ W W' → TvS W' a tv) (h0 : J [] W) :
    CallsIn Fence.wide n Try.prog 35 #[.func (.yield l) #[] #[], .pointer (some ⟨Bs, 0, none⟩), .pointer (some ⟨Bk, 0, none⟩)] W fun e W' => (∃ v, e = .returned v) ∧
      ((∃ ys, ys = valz tv kind ∧ J ys W') ∨ (∃ pre, pre <+: valz tv kind ∧ Jx pre W')) := by
  have HL := Lib.hid hL
  have HZ := Lib.hid hz
  have HJ := Lib.hid hJ
  have HY := Lib.hid hY
  have H0 := Lib.hid h0
  have HK : Hid (∀ W', Below n₀ W W' → W'.cell? ⟨Bk, 0, none⟩ = some (.int .i64 kind)) := fun W' hb => (hb.cell (p := ⟨Bk, 0, none⟩) hk₀).trans hBk
  have HN := Lib.hid hn₀
  clear hL hz hJ hY h0 hBk hn₀
  refine callsIn_of_wp Try.func35 rfl trivial ?_ rfl
  simp only [Try.ntmps35, List.size_toArray, List.length_cons, List.length_nil, Nat.reduceAdd, Nat.reduceSub, Array.replicate_succ, Array.replicate_zero, List.push_toArray, List.append_toArray, List.nil_append, List.cons_append]
  gi_wp2
  gi_loopw [8] (fun i wr => ∃ j : Nat, j ≤ tv.length ∧ i = .int .i64 j ∧ Hid (J (valz (tv.take j) kind) wr) ∧ Hid (Below n₀ W wr)) (fun i _ => tv.length - (RowKit.intOf i).toNat)
  case atStart => exact ⟨0, Nat.zero_le _, rfl, H0.out, Below.refl _ _⟩
  case round =>
    clear H0
    obtain ⟨j, hj, rfl, HJs, HB⟩ := hrel
    by_cases hlt : j < tv.length
    · obtain ⟨b, p, rfl, c0, c1⟩ := HL.out _ HB.out j hlt
      have ck := HK.out _ HB.out
      have hv := vals_next (k := kind) hlt
      have hvl := vals_len (tv.take j) kind
      have hvz : (valz (tv.take j) kind).length ≤ (tv.take j).length := by unfold valz; rw [List.length_map]; exact hvl
      have hxz := sz_val (HZ.out _ (List.getElem_mem hlt))
      rw [List.length_take] at hvz
      clear hvl
      have hbk := World.block_lt_of_cell? _ _ ck
      have hb1 : ∀ u0 u1 : Value, Below wr.heap.size wr (wr.alloc (.cells #[u0, u1] 56)) := fun _ _ => (Below.refl _ wr).alloc (Nat.le_refl _) _
      have HJ1 : Hid (∀ u0 u1 : Value, J (valz (tv.take j) kind) (wr.alloc (.cells #[u0, u1] 56))) := fun u0 u1 => HJ.out _ wr _ none HJs.out ⟨(hb1 u0 u1).os, (hb1 u0 u1).tape, (hb1 u0 u1).output, (hb1 u0 u1).size, fun b hb _ => (hb1 u0 u1).block b hb⟩ (fun r e => by cases e)
      have HB1 : Hid (∀ u0 u1 : Value, Below n₀ W (wr.alloc (.cells #[u0, u1] 56))) := fun u0 u1 => HB.out.trans ((hb1 u0 u1).mono (Nat.le_trans HN.out HB.out.size))
      clear hb1
      by_cases hk : (tv[j]'hlt).k = kind
      · rw [if_pos hk] at hv
        obtain ⟨fn, tmps, assign, body, hy, hR⟩ := HY.out _ (sz (tv[j]'hlt).v) _ (HJ1.out (.int .i64 kind) (.string (tv[j]'hlt).v)) (by omega)
        rw [hxz] at hy
        have HV : Hid (valz (tv.take (j + 1)) kind = valz (tv.take j) kind ++ [sz (tv[j]'hlt).v]) := by show _ = _; unfold valz; rw [hv, List.map_append]; rfl
        have HJ9 := Lib.hid (HJ1.out (.int .i64 kind) (.string (tv[j]'hlt).v))
        have HB9 := Lib.hid (HB1.out (.int .i64 kind) (.string (tv[j]'hlt).v))
        have ck1 := HK.out _ HB9.out
        clear HJ1 HB1 hv hvz HJs
        clear hxz
        generalize sz (tv[j]'hlt).v = sx at hR HV
        generalize valz (tv.take j) kind = pre at HV HJ9 hR
        have hkk : ((tv[j]'hlt).k == kind) = true := by simpa using hk
        generalize tv[j]'hlt = t at c0 c1 hk hkk hy hR HV HJ9 HB9
        gi_wp2
        refine hR.mono ?_
        rintro e W3 (⟨rfl, hJ3, hk3⟩ | ⟨rfl, hJx3⟩)
        · have HJ3 := Lib.hid hJ3
          have HB3 := Lib.hid (HB9.out.trans hk3)
          clear hJ3 hk3 ck1 HB9
          gi_wp2
          go_roundw
          case rel => exact ⟨j + 1, by omega, by simp, by rw [HV.out]; exact HJ3.out, HB3.out⟩
          case measure => simp [RowKit.intOf]; omega
        · have HJ3 := Lib.hid hJx3
          clear hJx3
          gi_wp2
          refine bodyPost_ret (results_none rfl _ _ _) rfl ?_
          refine ⟨⟨_, rfl⟩, .inr ⟨_, ?_, HJ3.out⟩⟩
          rw [← HV.out]
          exact List.IsPrefix.map sz (vals_take _ _ _)
      · rw [if_neg hk] at hv
        have HV : Hid (valz (tv.take (j + 1)) kind = valz (tv.take j) kind) := by show _ = _; unfold valz; rw [hv]
        clear hxz
        have HJ9 := Lib.hid (HJ1.out (.int .i64 (tv[j]'hlt).k) (.string (tv[j]'hlt).v))
        have HB9 := Lib.hid (HB1.out (.int .i64 (tv[j]'hlt).k) (.string (tv[j]'hlt).v))
        have ck1 := HK.out _ HB9.out
        clear HJ1 HB1 hv hvz HJs
        have hkk : ((tv[j]'hlt).k == kind) = false := by simpa using hk
        generalize tv[j]'hlt = t at c0 c1 hk hkk HJ9 HB9 ck1
        gi_wp2
        refine ⟨fun _ h => (by cases h), ?_⟩
        gi_wp2
        go_roundw
        case rel => exact ⟨j + 1, by omega, by simp, by rw [HV.out]; exact HJ9.out, HB9.out⟩
        case measure => simp [RowKit.intOf]; omega
    · obtain rfl : j = tv.length := by omega
      have hJe := HJs.out
      rw [List.take_of_length_le (Nat.le_refl _)] at hJe
      have HJE := Lib.hid hJe
      clear hJe
      gi_wp2
      go_end0
      exact ⟨⟨_, rfl⟩, .inl ⟨_, rfl, HJE.out⟩⟩
set_option maxRecDepth 100000 in
set_option maxHeartbeats 4000000 in
/-- **tlv.Find: a range over a function whose body returns at once.** -/
theorem find_any (tv : List Tv) (kind : Int) (a : Option Addr) (c : Nat) (w : World) (hL : TvS w a tv) (hlen : tv.length ≤ 140737488351232) (hz : ∀ t ∈ tv, t.v.size ≤ 140737488351232) :
    Calls Try.prog 20 #[.slice a tv.length c, .int .i64 kind] w (Gives (.tuple #[.string (fndS tv kind), .bool (fndB tv kind)]) w) := by
  have HL := Lib.hid fun W (hb : Below w.heap.size w W) => hL.below hb
  have HLEN := Lib.hid hlen
  have HZ := Lib.hid hz
  clear hL hz
  refine (callsIn_wide (n := 3)).1 ?_
  refine callsIn_of_wp_marks Try.func20 rfl trivial ?_ rfl
  simp only [Try.ntmps20, List.size_toArray, List.length_cons, List.length_nil, Nat.reduceAdd, Nat.reduceSub, Array.replicate_succ, Array.replicate_zero, List.push_toArray, List.append_toArray, List.nil_append, List.cons_append]
  gi_wp2_with (refine ⟨trivial, ?_⟩; gi_at_call 31; refine (callsIn_wide.2 (valuesOf_any kind a tv.length c _)).mono ?_; rintro e w' ⟨rfl, rfl⟩)
  obtain ⟨W0, hW0⟩ : ∃ W0, (((w.alloc (.cells #[.string ⟨#[]⟩] 9)).alloc (.cells #[.bool false] 4)).alloc (.cells #[.slice a tv.length c] 36)).alloc (.cells #[.int .i64 kind] 3) = W0 := ⟨_, rfl⟩
  have hs0 : W0.heap.size = w.heap.size + 4 := by rw [← hW0]; simp
  have hBW : Below w.heap.size w W0 := by rw [← hW0]; exact ((((Below.refl _ w).alloc (Nat.le_refl _) _).alloc (by simp) _).alloc (by simp <;> omega) _).alloc (by simp <;> omega) _
  have hX0 : W0.heap[w.heap.size]? = some (.cells #[.string ⟨#[]⟩] 9 (0, 0)) := by
    rw [← hW0]; exact ((Below.heap_alloc _ _ _ (by simp <;> omega)).trans (Below.heap_alloc _ _ _ (by simp <;> omega))).trans ((Below.heap_alloc _ _ _ (by simp)).trans (World.alloc_heap_new w _))
  have hX1 : W0.heap[w.heap.size + 1]? = some (.cells #[.bool false] 4 (0, 0)) := by
    rw [← hW0]; refine ((Below.heap_alloc _ _ _ (by simp <;> omega)).trans (Below.heap_alloc _ _ _ (by simp))).trans ?_
    have := World.alloc_heap_new (w.alloc (.cells #[.string ⟨#[]⟩] 9)) (.cells #[.bool false] 4); rwa [World.size_alloc] at this
  have hX2 : W0.heap[w.heap.size + 1 + 1]? = some (.cells #[.slice a tv.length c] 36 (0, 0)) := by
    rw [← hW0]; refine (Below.heap_alloc _ _ _ (by simp)).trans ?_
    have := World.alloc_heap_new ((w.alloc (.cells #[.string ⟨#[]⟩] 9)).alloc (.cells #[.bool false] 4)) (.cells #[.slice a tv.length c] 36); rwa [World.size_alloc, World.size_alloc] at this
  have hX3 : W0.heap[w.heap.size + 1 + 1 + 1]? = some (.cells #[.int .i64 kind] 3 (0, 0)) := by
    rw [← hW0]
    have := World.alloc_heap_new (((w.alloc (.cells #[.string ⟨#[]⟩] 9)).alloc (.cells #[.bool false] 4)).alloc (.cells #[.slice a tv.length c] 36)) (.cells #[.int .i64 kind] 3); rwa [World.size_alloc, World.size_alloc, World.size_alloc] at this
  rw [hW0]
  have hL0 : ∀ W', Below W0.heap.size W0 W' → TvS W' a tv := fun W' hb => HL.out W' (hBW.trans (hb.mono hBW.size))
  have hseq : SeqStopsK Fence.wide (3 - 1) Try.prog 35 #[.pointer (some ⟨w.heap.size + 1 + 1, 0, none⟩), .pointer (some ⟨w.heap.size + 1 + 1 + 1, 0, none⟩)] (fun x : Sz => #[Value.string x.1]) (Below W0.heap.size) (fun ys => ys = valz tv kind) (fun pre => pre <+: valz tv kind) tv.length W0 := fun l J Jx W hW hJ _ hY h0 =>
    yields_in _ l _ _ W0.heap.size (by omega) tv kind a c (by omega) hlen HZ.out J Jx W hW.size hJ hY ((hW.cell (p := ⟨_, 0, none⟩) (by show w.heap.size + 1 + 1 < _; omega)).trans (bx1 hX2).1) ((hW.cell (p := ⟨_, 0, none⟩) (by show w.heap.size + 1 + 1 + 1 < _; omega)).trans (bx1 hX3).1) (fun W' hb => hL0 W' (hW.trans hb)) h0
  refine wpIn_rangeFunc_ownF rfl (by omega) (gf := 35) (lb := #[.pointer (some ⟨w.heap.size + 1 + 1, 0, none⟩), .pointer (some ⟨w.heap.size + 1 + 1 + 1, 0, none⟩)]) rfl trivial (enters_of Try.func35 (by kernel_rfl) rfl)
    hseq belowK_t (belowK_b (Nat.le_refl _)) (Below.refl _ _) (fun _ => rfl)
    (fun pre W => (pre = [] ∧ W.heap[w.heap.size]? = some (.cells #[.string ⟨#[]⟩] 9 (0, 0)) ∧ W.heap[w.heap.size + 1]? = some (.cells #[.bool false] 4 (0, 0))) ∧ Below w.heap.size w W)
    (fun cd pre W => (cd = .ret ∧ ∃ x : Sz, pre = [x] ∧ W.heap[w.heap.size]? = some (.cells #[.string x.1] 9 (0, 0)) ∧ W.heap[w.heap.size + 1]? = some (.cells #[.bool true] 4 (0, 0))) ∧ Below w.heap.size w W)
    (OwnFrom.and (Own.from (fun s A B row hs hg hr => ⟨hs.1, heap_kept hs.2.1 hg hr, heap_kept hs.2.2 hg hr⟩) _) (ownFrom_below (Nat.le_refl _) (by omega)))
    (fun cd => OwnFrom.and (Own.from (fun s A B row hs hg hr => by obtain ⟨h1, x, h2, h3, h4⟩ := hs; exact ⟨h1, x, h2, heap_kept h3 hg hr, heap_kept h4 hg hr⟩) _) (ownFrom_below (Nat.le_refl _) (by omega)))
    ⟨⟨rfl, hX0, hX1⟩, hBW⟩
    (fun x => { tmps := #[.slice a tv.length c, .int .i64 kind, undef, undef, .pointer (some ⟨w.heap.size, 0, none⟩), .pointer (some ⟨w.heap.size + 1, 0, none⟩), .string x.1, .slice a tv.length c, .int .i64 kind, .func (.func 35) #[] #[.pointer (some ⟨w.heap.size + 1 + 1, 0, none⟩), .pointer (some ⟨w.heap.size + 1 + 1 + 1, 0, none⟩)], .string x.1, undef, undef], defers := [] }) ?assign ?body ?done ?stop
  case assign =>
    intro l x W K hK
    gi_wp2
    exact hK
  case body =>
    rintro l pre x W ⟨⟨rfl, h0, h1⟩, hB⟩ _
    have H0 := Lib.hid h0
    have H1 := Lib.hid h1
    have HB := Lib.hid hB
    clear h0 h1 hB
    gi_wp2_with (refine ⟨trivial, ?_⟩; gi_at_call 30; refine (CallsIn.inRound l (callsIn_wide.2 (clone_any x.1 _ x.2))).mono ?_; rintro e w' ⟨rfl, hb⟩; have HBB := Lib.hid hb; have K0 := Lib.hid ((hb.block _ (heap_lt H0.out)).trans H0.out); have K1 := Lib.hid ((hb.block _ (heap_lt H1.out)).trans H1.out); clear hb; obtain ⟨c0, f0⟩ := bx1 K0.out; obtain ⟨c1, f1⟩ := bx1 K1.out)
    refine ⟨(keeps_of HBB.out).trans ((KeepsOthers.setCell _ _ _).trans (KeepsOthers.setCell _ _ _)), ⟨rfl, x, rfl, (set_other _ (by omega)).trans (set1 K0.out _), set1 ((set_other _ (by omega)).trans K1.out) _⟩, ?_⟩
    exact ((HB.out.trans (HBB.out.mono HB.out.size)).setCell (Nat.le_refl _) _).setCell (Nat.le_add_right _ 1) _
  case done =>
    rintro D ys W hD rfl ⟨⟨hp, h0, h1⟩, hB⟩ hK
    have HE := Lib.hid (fnd_nil (valz_nil hp))
    have H0 := Lib.hid h0
    have H1 := Lib.hid h1
    have HB := Lib.hid hB
    have HKD := Lib.hid hK
    obtain ⟨c0, f0⟩ := bx1 h0
    obtain ⟨c1, f1⟩ := bx1 h1
    clear h0 h1 hB hK hp
    gi_wp2
    have hs0' : ((W.setCell ⟨w.heap.size, 0, none⟩ (.string ⟨#[]⟩)).setCell ⟨w.heap.size + 1, 0, none⟩ (.bool false)).heap[w.heap.size]? = some (.cells #[.string ⟨#[]⟩] 9 (0, 0)) := (set_other _ (by omega)).trans (set1 H0.out _)
    have hs1' : ((W.setCell ⟨w.heap.size, 0, none⟩ (.string ⟨#[]⟩)).setCell ⟨w.heap.size + 1, 0, none⟩ (.bool false)).heap[w.heap.size + 1]? = some (.cells #[.bool false] 4 (0, 0)) := set1 ((set_other _ (by omega)).trans H1.out) _
    have hK' := ((KeepsOthers.setCell W ⟨w.heap.size, 0, none⟩ (.string ⟨#[]⟩)).trans (KeepsOthers.setCell _ ⟨w.heap.size + 1, 0, none⟩ (.bool false))).same D _ HKD.out rfl
    have hB' := (HB.out.setCell (p := ⟨w.heap.size, 0, none⟩) (Nat.le_refl _) (.string ⟨#[]⟩)).setCell (p := ⟨w.heap.size + 1, 0, none⟩) (Nat.le_add_right _ 1) (.bool false)
    clear c0 c1 f0 f1
    generalize (W.setCell ⟨w.heap.size, 0, none⟩ (.string ⟨#[]⟩)).setCell ⟨w.heap.size + 1, 0, none⟩ (.bool false) = W5 at hs0' hs1' hK' hB' ⊢
    refine ⟨by simp, .inl ⟨_, _, rfl, run_takeDeferred hK', ?_⟩⟩
    have hc0 := cell_kept (bx1 hs0').1 (grownBy_putObj' _ D (.deferred none)) (fun r e => by cases e; exact ⟨_, hK', rfl⟩)
    have hc1 := cell_kept (bx1 hs1').1 (grownBy_putObj' _ D (.deferred none)) (fun r e => by cases e; exact ⟨_, hK', rfl⟩)
    refine ⟨.tuple #[.string ⟨#[]⟩, .bool false], ?_, ⟨by rw [HE.out.1, HE.out.2], hB'.trans (belowK_b (w := w) (Nat.le_refl _) W5 D _ _ (by omega) hK' rfl rfl)⟩⟩
    simp [results, Try.results20, go_sem, hc0, hc1]
  case stop =>
    rintro D cd pre W hD hpre ⟨⟨rfl, x, rfl, h0, h1⟩, hB⟩ hK
    obtain ⟨e1, e2⟩ := fnd_one (valz_one HZ.out hpre)
    rw [e1, e2]
    clear e1 e2
    gi_wp2
    refine ⟨by simp, .inl ⟨_, _, rfl, run_takeDeferred hK, ?_⟩⟩
    have hc0 := cell_kept (bx1 h0).1 (grownBy_putObj' _ D (.deferred none)) (fun r e => by cases e; exact ⟨_, hK, rfl⟩)
    have hc1 := cell_kept (bx1 h1).1 (grownBy_putObj' _ D (.deferred none)) (fun r e => by cases e; exact ⟨_, hK, rfl⟩)
    refine ⟨.tuple #[.string x.1, .bool true], ?_, ⟨rfl, hB.trans (belowK_b (w := w) (Nat.le_refl _) W D _ _ (by omega) hK rfl rfl)⟩⟩
    simp [results, Try.results20, go_sem, hc0, hc1]
end Go.Proofs.Ytplflomnbglflaa
