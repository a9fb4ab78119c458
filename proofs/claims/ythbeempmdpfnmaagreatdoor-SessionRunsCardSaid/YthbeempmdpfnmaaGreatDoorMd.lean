/- Contracts: the document's own Md5. Conditions: those of each theorem's head. -/
import Derived.Test.YthbeempmdpfnmaaGreatDoorMc
import Derived.ArgAppend

set_option maxRecDepth 100000
set_option maxHeartbeats 4000000
namespace Go.Proofs.YthbeempmdpfnmaaGreatDoor.M
open Go.RowKit Go.Lib By Dg
/-- The slice v holds the values xs, each of one cell, in a row from block N on, or is nil. -/
def Own (N : Nat) (v : Value) (xs : List Value) (w : World) : Prop :=
  (v = .slice none 0 0 ∧ xs = []) ∨ ∃ g cap, v = .slice (some ⟨g, 0, none⟩) xs.length cap ∧ N ≤ g ∧ xs.length ≤ cap ∧ (∀ j u, xs[j]? = some u → w.cell? ⟨g, j, none⟩ = some u) ∧ ∀ j, j < cap → (w.cell? ⟨g, j, none⟩).isSome = true ∧ w.frozen? ⟨g, j, none⟩ = false
theorem cell_lt {w : World} {a : Addr} (h : (w.cell? a).isSome = true) : a.block < w.heap.size := by
  obtain ⟨v, hv⟩ := Option.isSome_iff_exists.1 h
  exact World.block_lt_of_cell? _ _ hv
theorem Own.below {N : Nat} {v : Value} {xs : List Value} {w w' : World} (h : Own N v xs w) (hb : Below w.heap.size w w') : Own N v xs w' := by
  rcases h with h | ⟨g, cap, h1, h2, h3, h4, h5⟩
  · exact .inl h
  · refine .inr ⟨g, cap, h1, h2, h3, fun j u hu => ?_, fun j hj => ?_⟩
    · exact (hb.cell (cell_lt (h5 j (by have := (List.getElem?_eq_some_iff.1 hu).1; omega)).1)).trans (h4 j u hu)
    · have := cell_lt (h5 j hj).1
      rw [hb.cell this, hb.frozen this]
      exact h5 j hj
theorem Own.form {N : Nat} {v : Value} {xs : List Value} {w : World} (h : Own N v xs w) (h0 : xs ≠ []) : ∃ g cap, v = .slice (some ⟨g, 0, none⟩) xs.length cap ∧ N ≤ g ∧ g < w.heap.size ∧ xs.length ≤ cap ∧ ∀ j u, xs[j]? = some u → w.cell? ⟨g, j, none⟩ = some u := by
  rcases h with ⟨_, h⟩ | ⟨g, cap, h1, h2, h3, h4, h5⟩
  · exact absurd h h0
  · refine ⟨g, cap, h1, h2, ?_, h3, h4⟩
    have : 0 < xs.length := List.length_pos_iff.2 h0
    exact cell_lt (h5 0 (by omega)).1
theorem own_of_row {N : Nat} {v : Value} {xs : List Value} {w : World} {e : TypeId} (h : w.ownsRow N e 1 v xs.length xs) (h0 : 0 < xs.length) : Own N v xs w := by
  rcases h.2 with ⟨_, h1⟩ | ⟨g, cap, cur, hv, hN, hg, hn, hm, hc, ht⟩
  · omega
  · refine .inr ⟨g, cap, hv, hN, hn, fun j u hu => ?_, fun j hj => ⟨?_, frozen_of_row w g j cur e hg⟩⟩
    · rw [cell_of_row w g j cur e _ hg, ← hu, ← ht, Nat.mul_one]
      rw [List.getElem?_take_of_lt (by rw [← ht] at hu; have := (List.getElem?_eq_some_iff.1 hu).1; simp at this; omega), Array.getElem?_toList]
    · rw [cell_of_row w g j cur e _ hg, Array.getElem?_eq_getElem (by omega)]
      rfl
theorem one_off (ad : Addr) (w : World) (u : Value) (hu : w.cell? ad = some u) : ∀ j v, [u][j]? = some v → w.cell? (ad.add j) = some v := by
  intro j v hj
  match j, hj with
  | 0, hj => simp at hj; subst hj; rw [← hu]; unfold Addr.add; split <;> simp_all
theorem wpList_app {P : Program} (w : World) {ops : Array Oper} {rest : List Oper} {o : Oper} {a : Act} {Q : Exit → Act → World → Prop}
    (hg : o.guard = none) (s x : Operand) (t : TypeId) (hop : o.op = Op.call { callee := Callee.builtin Builtin.append, args := #[s, x], argTypes := #[t, t] })
    (e : TypeId) (i : TypeInfo) (z : Value) (bytes : Nat) (h1 : P.underlying t = some (.slice e)) (h2 : P.info? e = some i) (h3 : i.zero = some z) (h4 : i.size = 1) (h5 : i.bytes = bytes) (h6 : z.cells.size = 1)
    (N : Nat) (v : Value) (xs : List Value) (hs : a.eval s = v) (hO : Own N v xs w) (ad : Addr) (c : Nat) (hx : a.eval x = .slice (some ad) 1 c) (u : Value) (hu : w.cell? ad = some u) (hu1 : u.oneCell' = true)
    (hb : (xs.length + 1) * bytes ≤ 140737488355328) (hl : xs.length + 1 ≤ 1048576) (hN : N ≤ w.heap.size)
    (h : ∀ v' w', Own N v' (xs ++ [u]) w' → Below N w w' → wpList P ops Q rest (a.put o.dst v') w') : wpList P ops Q (o :: rest) a w := by
  have hmax : xs.length + 1 ≤ maxLen := by unfold maxLen; omega
  have hone : ∀ y ∈ [u], y.oneCell' = true := by intro y hy; simp at hy; subst hy; exact hu1
  have hgrow : ∀ v' w', w'.ownsRow w.heap.size e 1 v' (xs.length + 1) (xs ++ [u]) → w.grownBy w' none → wpList P ops Q rest (a.put o.dst v') w' := by
    intro v' w' h7 h8
    refine h v' w' ?_ ((Below.refl N w).grown h8 hN (fun k hk => by cases hk))
    have : Own w.heap.size v' (xs ++ [u]) w' := own_of_row (e := e) (by rw [List.length_append]; exact h7) (by simp)
    rcases this with h9 | ⟨g, cap, k1, k2, k3, k4, k5⟩
    · exact .inl h9
    · exact .inr ⟨g, cap, k1, by omega, k3, k4, k5⟩
  rcases hO with ⟨rfl, rfl⟩ | ⟨g, cap, rfl, hNg, hlen, hcells, hrow⟩
  · refine wpList_append_grows w hg s x t hop e i z 1 bytes h1 h2 h3 h4 h5 h6 (by decide) none 0 0 [] hs (fun _ => ⟨rfl, rfl⟩) rfl (fun b hb => by cases hb) ad 1 c [u] hx rfl (one_off ad w u hu) hone (by decide) hmax hb ?_
    exact hgrow
  · refine wpList_append_arg w hg s x t hop e i z 1 bytes h1 h2 h3 h4 h5 h6 (by decide) g 0 xs.length cap xs hs (Nat.mul_one _).symm (fun j v hj => by rw [Nat.zero_add]; exact hcells j v hj) ad 1 c [u] hx rfl (one_off ad w u hu) hone ?_ hmax hb ?_ (fun _ => hgrow)
    · intro hr j hj
      simp only [List.length_singleton] at hj
      exact hrow _ (by omega)
    · intro hr
      rw [Nat.zero_add, Nat.mul_one]
      show wpList P ops Q rest _ (w.setCell ⟨g, xs.length, none⟩ u)
      refine h _ _ (.inr ⟨g, cap, by simp, hNg, by simp; omega, fun j v hj => ?_, fun j hj => ?_⟩) ((Below.refl N w).setCell (show N ≤ g from hNg) u)
      · rw [List.getElem?_append] at hj
        split at hj
        · rw [World.cell?_setCell_other _ _ _ _ (fun e => by cases e; omega)]
          exact hcells j v hj
        · have : j = xs.length := by
            have := (List.getElem?_eq_some_iff.1 hj).1
            simp at this
            omega
          subst this
          simp at hj
          subst hj
          obtain ⟨y, hy⟩ := Option.isSome_iff_exists.1 (hrow xs.length (by omega)).1
          exact World.cell?_setCell_same _ _ _ hy
      · rw [World.frozen?_setCell]
        refine ⟨?_, (hrow j hj).2⟩
        by_cases hj2 : j = xs.length
        · subst hj2
          obtain ⟨y, hy⟩ := Option.isSome_iff_exists.1 (hrow xs.length hj).1
          rw [World.cell?_setCell_same _ _ _ hy]
          rfl
        · rw [World.cell?_setCell_other _ _ _ _ (fun e => hj2 (by cases e; rfl))]
          exact (hrow j hj).1
end Go.Proofs.YthbeempmdpfnmaaGreatDoor.M

namespace Go.Proofs.YthbeempmdpfnmaaGreatDoor.M
open Go.RowKit Go.Lib By Dg
def bv (l : List UInt8) : List Value := l.map fun b => Value.int .u8 ((b.toNat : Nat) : Int)
theorem bv_length (l : List UInt8) : (bv l).length = l.length := by simp [bv]
theorem bv_snoc (l : List UInt8) (c : Nat) (hc : c < 256) : bv (l ++ [u c]) = bv l ++ [Value.int .u8 (c : Int)] := by simp [bv, u_nat hc]
theorem bv_at (l : List UInt8) {j : Nat} (hj : j < l.length) : (bv l)[j]? = some (.int .u8 (nb l j : Nat)) := by
  simp [bv, nb, List.getD_eq_getElem?_getD, List.getElem?_eq_getElem hj]
def vlen : Value → Nat | .slice _ n _ => n | _ => 0
theorem own_conv (w : World) (s : ByteArray) (cap : Nat) (hc : s.size ≤ cap) (e : TypeId) : Own w.heap.size (.slice (some ⟨w.heap.size, 0, none⟩) s.size cap) (bv s.data.toList) (w.alloc (.cells (bytesRow s cap) e ((bytesRow s cap).size, (bytesRow s cap).size + 1))) := by
  have hz : (bytesRow s cap).size = cap := by unfold bytesRow; simp; have : s.data.size = s.size := rfl; omega
  refine .inr ⟨w.heap.size, cap, by rw [bv_length, len_size], Nat.le_refl _, by rw [bv_length, len_size]; exact hc, fun j v hj => ?_, fun j hj => ⟨?_, ?_⟩⟩
  · have hj2 : j < s.data.toList.length := by have := (List.getElem?_eq_some_iff.1 hj).1; rwa [bv_length] at this
    rw [World.cell?_alloc_mark, bytesRow_at s cap j (by simpa using hj2), ← hj, bv_at _ hj2]
    simp [nb, List.getD_eq_getElem?_getD, Array.getElem?_eq_getElem (show j < s.data.size by simpa using hj2)]
  · rw [World.cell?_alloc_mark, Array.getElem?_eq_getElem (by omega)]
    rfl
  · rw [World.frozen?_alloc_mark]
    simp; omega
theorem byteInfo : (Tryz.prog.info? 5).map (fun i => (i.zero, i.size, i.bytes)) = some (some (.int .u8 0), 1, 1) := by kernel_rfl
theorem zn_test (n k : Nat) : (k < zn n → (n + 1 + k) % 64 ≠ 56) ∧ (k = zn n → (n + 1 + k) % 64 = 56) := by
  unfold zn
  split <;> omega
/-- A text, the byte 80, k bytes 0. -/
def ft (l : List UInt8) (k : Nat) : List UInt8 := l ++ [u 128] ++ List.replicate k (u 0)
theorem ft_length (l : List UInt8) (k : Nat) : (ft l k).length = l.length + 1 + k := by simp [ft]; omega
theorem ft_succ (l : List UInt8) (k : Nat) : bv (ft l (k + 1)) = bv (ft l k) ++ [Value.int .u8 0] := by
  rw [ft, List.replicate_succ', ← List.append_assoc, bv_snoc _ 0 (by omega)]
  rfl
/-- And k bytes of the number behind them. -/
def fu (g : Bool) (l : List UInt8) (z x k : Nat) : List UInt8 := ft l z ++ pbk g x 8 k
theorem fu_length (g : Bool) (l : List UInt8) (z x k : Nat) : (fu g l z x k).length = l.length + 1 + z + k := by rw [fu, List.length_append, ft_length, pbk_length]
theorem fu_succ (g : Bool) (l : List UInt8) (z x k : Nat) : bv (fu g l z x (k + 1)) = bv (fu g l z x k) ++ [Value.int .u8 ((x / 2 ^ sh g k 8 % 256 : Nat) : Int)] := by
  rw [fu, pbk_succ, ← List.append_assoc, bv_snoc _ _ (Nat.mod_lt _ (by decide))]
  rfl
theorem Own.alloc {N : Nat} {v : Value} {xs : List Value} {w : World} (h : Own N v xs w) (o : Obj) : Own N v xs (w.alloc o) := h.below ((Below.refl _ w).alloc (Nat.le_refl _) o)
theorem Own.drew {N : Nat} {v : Value} {xs : List Value} {w : World} (h : Own N v xs w) : Own N v xs w.drew := h.below (Below.refl _ w).drew
theorem one_new (w : World) (c : Value) (T : TypeId) : (w.alloc (.cells #[c] T)).cell? ⟨w.heap.size, 0, none⟩ = some c := (Has.new T #[c] w).cell rfl
theorem one_new2 (w : World) (o : Obj) (c : Value) (T : TypeId) : ((w.alloc o).alloc (.cells #[c] T)).drew.cell? ⟨w.heap.size + 1, 0, none⟩ = some c := by
  have := one_new (w.alloc o) c T
  rw [show (w.alloc o).heap.size = w.heap.size + 1 by simp] at this
  exact this
def FillP (g : Bool) (s : ByteArray) (w : World) (e : Ending) (w' : World) : Prop := ∃ v, e = .returned v ∧ Own w.heap.size v (bv (fl g s.data.toList)) w' ∧ Below w.heap.size w w'
theorem fill_false (s : ByteArray) (w : World) (hs : s.size ≤ 100000) : Calls Tryz.prog 72 #[.string s, .bool true] w (FillP false s w) := by
  obtain ⟨i0, hi, hz0, hz1, hz2⟩ := info_parts byteInfo
  have hcv := run_bytes_of_string (P := Tryz.prog) w 9 89 5 s Tryz.underlying9 Tryz.underlying89 Tryz.underlying5
  have hge := grownCap_ge w s.size 0 5
  generalize grownCap w s.size 0 5 = cap at hcv hge
  have H0 := Lib.hid (own_conv w s cap hge 5)
  generalize hC : bytesRow s cap = C at hcv H0
  have HB0 := Lib.hid (fun o => (Below.refl w.heap.size w).alloc (Nat.le_refl _) o)
  have hs2 : (s.size : Int) ≤ 100000 := by omega
  have HL := Lib.hid (len_size s)
  have HZ := Lib.hid (fun k => zn_test s.size k)
  have hzl := zn_le s.size
  have HF : Hid (fl false s.data.toList = fu false s.data.toList (zn s.size) (s.size * 8) 8) := by show _ = _; rw [fl, len_size, fu, ft]; simp; rfl
  generalize zn s.size = z at HZ hzl HF
  have HI := Lib.hid hi
  have HI0 := Lib.hid hz0
  have HI1 := Lib.hid hz1
  have HI2 := Lib.hid hz2
  have HBV : Hid (bv (ft s.data.toList 0) = bv s.data.toList ++ [Value.int .u8 128]) := by show _ = _; rw [ft, List.replicate_zero, List.append_nil]; exact bv_snoc _ 128 (by omega)
  have HBL : Hid ((bv s.data.toList).length = s.size) := by show _ = _; rw [bv_length, len_size]
  clear hC hge hi hz0 hz1 hz2
  go_enter Tryz.func72, Tryz.ntmps72
  go_wp2_with (at_builtin; refine wpList_app _ rfl _ _ 89 rfl 5 i0 (.int .u8 0) 1 Tryz.underlying89 HI.out HI0.out HI1.out HI2.out rfl w.heap.size _ (bv s.data.toList) rfl (H0.out.alloc _).drew ⟨w.heap.size + 1, 0, none⟩ 1 rfl (.int .u8 128) (one_new2 _ _ _ _) rfl (by rw [HBL.out]; omega) (by rw [HBL.out]; omega) (by simp; omega) ?_)
  intro v1 w1 hO1 hb1
  rw [← HBV.out] at hO1
  obtain ⟨g1, cap1, rfl, _⟩ := hO1.form (by rw [HBV.out]; simp)
  rw [show (bv (ft s.data.toList 0)).length = s.size + 1 + 0 by rw [bv_length, ft_length, len_size]] at hO1 ⊢
  have HO1 := Lib.hid hO1
  have HB1 := Lib.hid ((((HB0.out _).alloc (by simp) _).drew).trans hb1)
  clear hO1 hb1 hcv H0 HB0
  go_wp2_with fail
  go_loopw [5] (fun v wr => ∃ k g cap : Nat, v = .slice (some ⟨g, 0, none⟩) (s.size + 1 + k) cap ∧ k ≤ z ∧ Hid (Own w.heap.size (.slice (some ⟨g, 0, none⟩) (s.size + 1 + k) cap) (bv (ft s.data.toList k)) wr) ∧ Hid (Below w.heap.size w wr)) (fun v _ => z + s.size + 1 - vlen v)
  case atStart => exact ⟨0, g1, cap1, rfl, by omega, HO1.out, HB1.out⟩
  case round =>
    clear HO1 HB1
    obtain ⟨k, g2, cap2, rfl, hk, HO, HB⟩ := hrel
    by_cases hlt : k < z
    · have hne := (HZ.out k).1 hlt
      have f : (((s.size : Int) + 1 + k) % 64 != 56) = true := by simp; omega
      have HBV2 := Lib.hid (ft_succ s.data.toList k)
      have HBL2 : Hid ((bv (ft s.data.toList k)).length = s.size + 1 + k) := by show _ = _; rw [bv_length, ft_length, len_size]
      clear hne
      go_wp2_with (at_builtin; go_must (refine wpList_app _ rfl _ _ 89 rfl 5 i0 (.int .u8 0) 1 Tryz.underlying89 HI.out HI0.out HI1.out HI2.out rfl w.heap.size _ _ rfl (HO.out.alloc _) ⟨wr.heap.size, 0, none⟩ 1 rfl (.int .u8 0) (one_new _ _ _) rfl (by rw [HBL2.out]; omega) (by rw [HBL2.out]; omega) (by have := HB.out.size; simp; omega) ?_))
      intro v3 w3 hO3 hb3
      rw [← HBV2.out] at hO3
      obtain ⟨g3, cap3, rfl, _⟩ := hO3.form (by rw [HBV2.out]; simp)
      rw [show (bv (ft s.data.toList (k + 1))).length = s.size + 1 + (k + 1) by rw [HBV2.out, List.length_append, HBL2.out]; rfl] at hO3 ⊢
      have HO3 := Lib.hid hO3
      have HB3 := Lib.hid ((HB.out.alloc HB.out.size _).trans hb3)
      clear hO3 hb3
      go_wp2_with fail
      refine ⟨?_, by simp [vlen]; omega⟩
      first | exact ⟨k + 1, g3, cap3, rfl, by omega, HO3.out, HB3.out⟩ | ((repeat apply Exists.intro); exact ⟨⟨k + 1, g3, cap3, rfl, by omega, HO3.out, HB3.out⟩, rfl⟩)
    · obtain rfl : k = z := by omega
      have he := (HZ.out k).2 rfl
      have f : (((s.size : Int) + 1 + k) % 64 != 56) = false := by simp; omega
      clear he
      obtain ⟨x, hx⟩ : ∃ x, x = s.size * 8 := ⟨_, rfl⟩
      have hx2 : (s.size : Int) * 8 = (x : Int) := by omega
      have hx3 : x ≤ 800000 := by omega
      rw [← hx] at HF
      have HO4 : Hid (Own w.heap.size (.slice (some ⟨g2, 0, none⟩) (s.size + 1 + k + 0) cap2) (bv (fu false s.data.toList k x 0)) wr) := by
        have := HO.out
        show Own _ _ _ _
        rw [fu, show pbk false x 8 0 = [] from rfl, List.append_nil]
        exact this
      clear hx HO
      go_wp2_with fail
      go_loopw [5, 7] (fun v i wr => ∃ j g cap : Nat, v = .slice (some ⟨g, 0, none⟩) (s.size + 1 + k + j) cap ∧ i = .int .i64 j ∧ j ≤ 8 ∧ Hid (Own w.heap.size (.slice (some ⟨g, 0, none⟩) (s.size + 1 + k + j) cap) (bv (fu false s.data.toList k x j)) wr) ∧ Hid (Below w.heap.size w wr)) (fun _ i _ => 8 - (RowKit.intOf i).toNat)
      case atStart => exact ⟨0, g2, cap2, rfl, rfl, by omega, HO4.out, HB.out⟩
      case round =>
        clear HO4 HB
        rename_i wr0 _
        obtain ⟨j, g5, cap5, rfl, rfl, hj, HO, HB⟩ := hrel
        by_cases hlt8 : j < 8
        · have HS := Lib.hid (fu_succ false s.data.toList k x j)
          have HLen : Hid ((bv (fu false s.data.toList k x j)).length = s.size + 1 + k + j) := by show _ = _; rw [bv_length, fu_length, len_size]
          have hj2 : (j : Int) < 8 := by omega
          have hsh : sh false j 8 = 8 * j := rfl
          rw [hsh] at HS
          have hy : x / 2 ^ (8 * j) % 256 < 256 := Nat.mod_lt _ (by decide)
          have hq : (x : Int) / 2 ^ (8 * j) % 256 = ((x / 2 ^ (8 * j) % 256 : Nat) : Int) := by simp
          have hu1 : (Value.int .u8 ((x / 2 ^ (8 * j) % 256 : Nat) : Int)).oneCell' = true := rfl
          have ht : (8 * j : Nat) < 64 := by omega
          generalize x / 2 ^ (8 * j) % 256 = y at hq hy HS hu1
          clear hsh
          go_wp2_with (at_builtin; go_must (refine wpList_app _ rfl _ _ 89 rfl 5 i0 (.int .u8 0) 1 Tryz.underlying89 HI.out HI0.out HI1.out HI2.out rfl w.heap.size _ _ rfl (HO.out.alloc _) ⟨wr.heap.size, 0, none⟩ 1 rfl (.int .u8 (y : Int)) (one_new _ _ _) hu1 (by rw [HLen.out]; omega) (by rw [HLen.out]; omega) (by have := HB.out.size; simp; omega) ?_))
          intro v3 w3 hO3 hb3
          rw [← HS.out] at hO3
          obtain ⟨g3, cap3, rfl, _⟩ := hO3.form (by rw [HS.out]; simp)
          rw [show (bv (fu false s.data.toList k x (j + 1))).length = s.size + 1 + k + (j + 1) by rw [HS.out, List.length_append, HLen.out]; rfl] at hO3 ⊢
          have HO3 := Lib.hid hO3
          have HB3 := Lib.hid ((HB.out.alloc HB.out.size _).trans hb3)
          clear hO3 hb3
          go_wp2_with fail
          rw [show ((j : Int) + 1) = ((j + 1 : Nat) : Int) by omega]
          refine ⟨?_, by simp [RowKit.intOf]; omega⟩
          first | exact ⟨j + 1, g3, cap3, rfl, rfl, by omega, HO3.out, HB3.out⟩ | ((repeat apply Exists.intro); exact ⟨⟨j + 1, g3, cap3, rfl, rfl, by omega, HO3.out, HB3.out⟩, rfl⟩)
        · obtain rfl : j = 8 := by omega
          have HO8 : Hid (Own w.heap.size (.slice (some ⟨g5, 0, none⟩) (s.size + 1 + k + 8) cap5) (bv (fl false s.data.toList)) wr) := by show Own _ _ _ _; rw [HF.out]; exact HO.out
          go_wp2_with fail
          go_ret
          exact ⟨_, rfl, HO8.out, HB.out⟩
end Go.Proofs.YthbeempmdpfnmaaGreatDoor.M

namespace Go.Proofs.YthbeempmdpfnmaaGreatDoor.M
open Go.RowKit Go.Lib By Dg
def ob (g : Bool) (l : List Int) (k X j : Nat) : List UInt8 := outp g (l.take k) ++ pbk g X 4 j
theorem ob_length (g : Bool) (l : List Int) {k : Nat} (X j : Nat) (hk : k ≤ l.length) : (ob g l k X j).length = 4 * k + j := by
  rw [ob, List.length_append, pbk_length, outp_length, List.length_take, Nat.min_eq_left hk]
theorem ob_succ (g : Bool) (l : List Int) (k X j : Nat) : bv (ob g l k X (j + 1)) = bv (ob g l k X j) ++ [Value.int .u8 ((X / 2 ^ sh g j 4 % 256 : Nat) : Int)] := by
  rw [ob, pbk_succ, ← List.append_assoc, bv_snoc _ _ (Nat.mod_lt _ (by decide))]
  rfl
theorem ob_end (g : Bool) (l : List Int) {k X : Nat} (hk : k < l.length) (hX : l.getD k 0 = (X : Int)) : ob g l k X 4 = outp g (l.take (k + 1)) := by
  rw [outp_take g l hk, hX, Int.toNat_natCast]
  rfl
theorem conv_back {P : Program} {N : Nat} {v : Value} {l : List UInt8} {w : World} (h : Own N v (bv l) w) (h0 : l ≠ []) (src dst e : TypeId) (hs : P.underlying src = some (.slice e)) (he : P.underlying e = some (.int .u8)) (hd : P.underlying dst = some .string) :
    (convert src dst v).run P w = .ok (.string ⟨l.toArray⟩) w := by
  obtain ⟨g, cap, rfl, _, _, _, hc⟩ := h.form (by intro e; exact h0 (by simpa [bv] using e))
  rw [bv_length]
  refine run_convert_bytes_back w src dst e _ cap l hs he hd fun j hj => ?_
  rw [add_off, hc j _ (bv_at l hj)]
  simp [nb, List.getD_eq_getElem?_getD, List.getElem?_eq_getElem hj]
theorem bytes_false (l : List Int) (B c : Nat) (w : World) (h0 : 0 < l.length) (hl : l.length ≤ 100) (hW : ∀ x ∈ l, W32 x) (hB : ∀ j, j < l.length → w.cell? ⟨B, j, none⟩ = some (.int .u32 (l.getD j 0))) (hlt : B < w.heap.size) :
    Calls Tryz.prog 76 #[.slice (some ⟨B, 0, none⟩) l.length c, .bool true] w fun e w' => e = .returned (.string ⟨(outp false l).toArray⟩) ∧ Below w.heap.size w w' := by
  obtain ⟨i0, hi, hz0, hz1, hz2⟩ := info_parts byteInfo
  have HC := Lib.hid hB
  have HW := Lib.hid hW
  have hn2 : (l.length : Int) ≤ 100 := by omega
  have HBlt := Lib.hid hlt
  obtain ⟨n, hn⟩ : ∃ n, n = l.length := ⟨_, rfl⟩
  have HN := Lib.hid hn
  have H0 : Hid (0 < n) := by show _ < _; omega
  rw [← hn] at hn2 ⊢
  have HI := Lib.hid hi
  have HI0 := Lib.hid hz0
  have HI1 := Lib.hid hz1
  have HI2 := Lib.hid hz2
  have HB0 : Hid (Below w.heap.size w w) := Below.refl _ _
  clear hB hW hlt hl hn h0 hi hz0 hz1 hz2
  go_enter Tryz.func76, Tryz.ntmps76
  go_wp2_with fail
  go_loopw [5, 6] (fun v i wr => ∃ k : Nat, i = .int .i64 k ∧ k ≤ n ∧ Hid (Own w.heap.size v (bv (outp false (l.take k))) wr) ∧ Hid (Below w.heap.size w wr)) (fun _ i _ => n - (RowKit.intOf i).toNat)
  case atStart => exact ⟨0, rfl, by omega, .inl ⟨rfl, rfl⟩, HB0.out⟩
  case round =>
    obtain ⟨k, rfl, hk, HO, HB⟩ := hrel
    by_cases hlt : k < n
    · have hkl : k < l.length := by rw [← HN.out]; exact hlt
      have hw : W32 (l.getD k 0) := HW.out _ (by rw [List.getD_eq_getElem?_getD, List.getElem?_eq_getElem hkl]; exact List.getElem_mem _)
      obtain ⟨X, hX⟩ := Int.eq_ofNat_of_zero_le hw.1
      have HCk := Lib.hid (HC.out k hkl)
      rw [hX] at HCk
      have hX4 : (X : Int) < 4294967296 := by have := hw.2; omega
      have HE := Lib.hid (ob_end false l hkl hX)
      have HL := Lib.hid (fun j => ob_length false l (k := k) X j (Nat.le_of_lt hkl))
      have HS := Lib.hid (fun j => ob_succ false l k X j)
      have HO1 : Hid (Own w.heap.size u5 (bv (ob false l k X 0)) wr) := by
        show Own _ _ _ _
        rw [ob, show pbk false X 4 0 = [] from rfl, List.append_nil]
        exact HO.out
      clear hw hX HO hkl
      go_wp2_with fail
      go_loopw [5, 7] (fun v i wr => ∃ j : Nat, i = .int .i64 j ∧ j ≤ 4 ∧ Hid (Own w.heap.size v (bv (ob false l k X j)) wr) ∧ Hid (Below w.heap.size w wr)) (fun _ i _ => 4 - (RowKit.intOf i).toNat)
      case atStart => exact ⟨0, rfl, by omega, HO1.out, HB.out⟩
      case round =>
        clear HO1 HB
        rename_i wr0 _
        obtain ⟨j, rfl, hj, HO, HB⟩ := hrel
        by_cases hlt8 : j < 4
        · have HSj := Lib.hid (HS.out j)
          have HLj : Hid ((bv (ob false l k X j)).length = 4 * k + j) := by show _ = _; rw [bv_length]; exact HL.out j
          have hj2 : (j : Int) < 4 := by omega
          have hsh : sh false j 4 = 8 * j := rfl
          rw [hsh] at HSj
          have hy : X / 2 ^ (8 * j) % 256 < 256 := Nat.mod_lt _ (by decide)
          have hq : (X : Int) / 2 ^ (8 * j) % 256 = ((X / 2 ^ (8 * j) % 256 : Nat) : Int) := by simp
          have hu1 : (Value.int .u8 ((X / 2 ^ (8 * j) % 256 : Nat) : Int)).oneCell' = true := rfl
          have ht : (8 * j : Nat) < 32 := by omega
          generalize X / 2 ^ (8 * j) % 256 = y at hq hy HSj hu1
          have hc := (HB.out.cell (p := ⟨B, k, none⟩) HBlt.out).trans HCk.out
          have hkk : k ≤ 100 := by omega
          clear hsh
          go_wp2_with (at_builtin; go_must (refine wpList_app _ rfl _ _ 89 rfl 5 i0 (.int .u8 0) 1 Tryz.underlying89 HI.out HI0.out HI1.out HI2.out rfl w.heap.size _ _ rfl (HO.out.alloc _) ⟨wr.heap.size, 0, none⟩ 1 rfl (.int .u8 (y : Int)) (one_new _ _ _) hu1 (by rw [HLj.out]; omega) (by rw [HLj.out]; omega) (by have := HB.out.size; simp; omega) ?_))
          intro v3 w3 hO3 hb3
          rw [← HSj.out] at hO3
          have HO3 := Lib.hid hO3
          have HB3 := Lib.hid ((HB.out.alloc HB.out.size _).trans hb3)
          clear hO3 hb3
          go_wp2_with fail
          exact ⟨⟨j + 1, by go_num, by omega, HO3.out, HB3.out⟩, by simp [RowKit.intOf]; omega⟩
        · obtain rfl : j = 4 := by omega
          have HO5 : Hid (Own w.heap.size u5 (bv (outp false (l.take (k + 1)))) wr) := by
            show Own _ _ _ _
            rw [← HE.out]
            exact HO.out
          go_wp2_with fail
          exact ⟨⟨k + 1, by go_num, by omega, HO5.out, HB.out⟩, by simp [RowKit.intOf]; omega⟩
    · obtain rfl : k = n := by omega
      have HE : Hid (l.take k = l) := by show _ = _; rw [HN.out, List.take_length]
      rw [HE.out] at HO
      have hcv := conv_back HO.out (by intro e; have := congrArg List.length e; rw [outp_length, ← HN.out] at this; simp at this; have := H0.out; omega) 89 9 5 Tryz.underlying89 Tryz.underlying5 Tryz.underlying9
      go_wp2_with fail
      go_ret
      exact ⟨rfl, HB.out⟩
end Go.Proofs.YthbeempmdpfnmaaGreatDoor.M

namespace Go.Proofs.YthbeempmdpfnmaaGreatDoor.M
open Go.RowKit Go.Lib By Dg
theorem sines_at {k : Nat} (hk : k < 64) : (sines.map (Value.int .u32)).toArray[k]? = some (.int .u32 (kk k)) := by
  have h : k < sines.length := hk
  simp [kk, List.getD_eq_getElem?_getD, List.getElem?_eq_getElem h]
def FillQ (F : List UInt8) (w : World) (e : Ending) (w' : World) : Prop := ∃ v, e = .returned v ∧ Own w.heap.size v (bv F) w' ∧ Below w.heap.size w w'
theorem Own.byte {N g cap n : Nat} {l : List UInt8} {w : World} (h : Own N (.slice (some ⟨g, 0, none⟩) n cap) (bv l) w) : ∀ j, j < l.length → w.cell? ⟨g, j, none⟩ = some (.int .u8 (nb l j : Nat)) := by
  intro j hj
  have h0 : bv l ≠ [] := by intro e; have := congrArg List.length e; rw [bv_length] at this; simp at this; subst this; simp at hj
  obtain ⟨g', cap', he, _, _, _, hc⟩ := h.form h0
  simp only [Value.slice.injEq, Option.some.injEq, Addr.mk.injEq] at he
  obtain ⟨⟨rfl, -⟩, -, -⟩ := he
  exact hc j _ (bv_at l hj)
theorem rmd5_any (s : ByteArray) (w : World) (hs : s.size ≤ 100000) : Calls Tryz.prog 62 #[.string s] w fun e w' => e = .returned (.string ⟨(md5 s.data.toList).toArray⟩) ∧ Below w.heap.size w w' := by
  have HFil : Hid (∀ W, Calls Tryz.prog 72 #[.string s, .bool true] W (FillQ (fl false s.data.toList) W)) := fun W => fill_false s W hs
  have hn0 := fl_ch false s.data.toList
  rw [len_size] at hn0
  have hc := ch_le hs
  have HTb := Lib.hid (fun W => table_any W)
  have HH0 := Lib.hid (Has.new 91 (c4 (md (fl false s.data.toList) 0)) w)
  have HB0 := Lib.hid (fun o => (Below.refl w.heap.size w).alloc (Nat.le_refl _) o)
  have HMd : Hid (∀ n, ch s.size = n → outp false (ws4 (md (fl false s.data.toList) n)) = md5 s.data.toList) := by rintro _ rfl; rw [md5, len_size]
  have hF0 : 0 < (fl false s.data.toList).length := by rw [fl_length]; omega
  generalize fl false s.data.toList = F at HFil hn0 HH0 HMd hF0
  generalize hn : ch s.size = n at hn0 hc HMd
  have HN := Lib.hid hn0
  clear hn hs hn0
  go_enter Tryz.func62, Tryz.ntmps62
  go_wp2_with fail
  refine (HTb.out _).mono ?_
  rintro r w1 ⟨gt, rfl, ht, hgt, hb⟩
  have HT1 : Hid (Has 91 (sines.map (Value.int .u32)).toArray gt w1) := ht
  have HH1 := Lib.hid (HH0.out.below hb)
  have HB1 := Lib.hid ((HB0.out _).trans (hb.mono (HB0.out _).size))
  clear ht hb HH0 HB0 hgt HTb
  go_wp2_with fail
  refine (HFil.out _).mono ?_
  rintro r w2 ⟨vm, rfl, hO, hb⟩
  have HT2 := Lib.hid (HT1.out.below hb)
  have HH2 := Lib.hid (HH1.out.below hb)
  have HB2 := Lib.hid (HB1.out.trans (hb.mono HB1.out.size))
  have HO2 := hO
  clear hO hb HH1 HT1 HB1
  obtain ⟨gm, cap, rfl, _, hgm, hcap, _⟩ := HO2.form (by intro e; have := congrArg List.length e; rw [bv_length, List.length_nil] at this; omega)
  rw [bv_length] at hcap HO2 ⊢
  have hcapL := hcap
  obtain ⟨L, hL⟩ : ∃ L, L = F.length := ⟨_, rfl⟩
  rw [← hL] at hcap HO2 hF0 ⊢
  have HLn : Hid (L = 64 * n) := hL.trans HN.out
  have HLF := Lib.hid hL
  have hLi : (L : Int) ≤ 200000 := by have := HLn.out; omega
  have HOm := Lib.hid HO2
  clear HO2 hcapL hL HFil
  go_wp2_with fail
  go_loopw [3, 6] (fun h at_ wr => ∃ k p g : Nat, h = .slice (some ⟨g, 0, none⟩) 4 4 ∧ at_ = .int .i64 p ∧ p ≤ L ∧ Hid (p = 64 * k ∧ k ≤ n) ∧ Hid (Has 91 (c4 (md F k)) g wr) ∧ Hid (Has 91 (sines.map (Value.int .u32)).toArray gt wr) ∧ Hid (Own w1.heap.size (.slice (some ⟨gm, 0, none⟩) L cap) (bv F) wr) ∧ Hid (Below w.heap.size w wr)) (fun _ at_ _ => L - (RowKit.intOf at_).toNat)
  case atStart => exact ⟨0, 0, w.heap.size, rfl, rfl, by omega, ⟨rfl, by omega⟩, HH2.out, HT2.out, HOm.out, HB2.out⟩
  case round =>
    clear HH2 HT2 HOm HB2
    obtain ⟨k, p, g, rfl, rfl, hp, HP, HH, HT, HO, HB⟩ := hrel
    by_cases hlt : p < L
    · have hpl : p + 64 ≤ L := by have := HP.out.1; have := HLn.out; omega
      have hpc : p + 64 ≤ cap := by omega
      have hkn : k + 1 ≤ n := by have := HP.out.1; have := HLn.out; omega
      have HP2 : Hid (p + 64 = 64 * (k + 1) ∧ k + 1 ≤ n) := ⟨by have := HP.out.1; omega, hkn⟩
      obtain ⟨⟨a0, b0, c0, d0⟩, hq⟩ : ∃ r, r = md F k := ⟨_, rfl⟩
      have HQ : Hid (md F (k + 1) = ad4 (a0, b0, c0, d0) (mr (fun j => wd false F (p + 4 * j)) (a0, b0, c0, d0) 64)) := by show _ = _; rw [hq, HP.out.1]; rfl
      rw [← hq] at HH
      clear hq hkn
      have hh0 := HH.out.cell (j := 0) (v := .int .u32 a0) rfl
      have hh1 := HH.out.cell (j := 1) (v := .int .u32 b0) rfl
      have hh2 := HH.out.cell (j := 2) (v := .int .u32 c0) rfl
      have hh3 := HH.out.cell (j := 3) (v := .int .u32 d0) rfl
      go_wp2_with fail
      go_quiet (fail)
      have HHd := Lib.hid (fun m => HH.out.drewN m)
      have HTd := Lib.hid (fun m => HT.out.drewN m)
      have HOd := Lib.hid (fun m => HO.out.below (below_drewN wr m))
      have HBd := Lib.hid (fun m => HB.out.trans ((below_drewN wr m).mono HB.out.size))
      clear HH HT HO HB hh0 hh1 hh2 hh3
      obtain ⟨m, hm⟩ : ∃ m, m = (fun j => wd false F (p + 4 * j)) := ⟨_, rfl⟩
      have HM : Hid (∀ j, wd false F (p + 4 * j) = m j) := fun j => by rw [hm]
      rw [← hm] at HQ
      clear hm
      go_wp2_with fail
      go_loopw [7, 8, 9, 10, 11] (fun va vb vc vd vi wx => ∃ (i : Nat) (a b c d : Int), va = .int .u32 a ∧ vb = .int .u32 b ∧ vc = .int .u32 c ∧ vd = .int .u32 d ∧ vi = .int .i64 i ∧ i ≤ 64 ∧ Hid ((a, b, c, d) = mr m (a0, b0, c0, d0) i) ∧ Hid (Has 91 (c4 (a0, b0, c0, d0)) g wx) ∧ Hid (Has 91 (sines.map (Value.int .u32)).toArray gt wx) ∧ Hid (Own w1.heap.size (.slice (some ⟨gm, 0, none⟩) L cap) (bv F) wx) ∧ Hid (Below w.heap.size w wx)) (fun _ _ _ _ vi _ => 64 - (RowKit.intOf vi).toNat)
      case atStart => exact ⟨0, a0, b0, c0, d0, rfl, rfl, rfl, rfl, rfl, by omega, rfl, HHd.out _, HTd.out _, HOd.out _, HBd.out _⟩
      case round =>
        clear HHd HTd HOd HBd
        rename_i wr0 _
        obtain ⟨i, a, b, c, d, rfl, rfl, rfl, rfl, rfl, hi, HR, HH, HT, HO, HB⟩ := hrel
        by_cases hlt2 : i < 64
        · have hi2 : (i : Int) < 64 := by omega
          have hs := HT.out.cell (sines_at hlt2)
          have hj := mg_lt hlt2
          have HN2 : Hid (mr m (a0, b0, c0, d0) (i + 1) = (d, (b + rl ((a + mf i b c d + kk i + wd false F (p + 4 * mg i)) % 4294967296) (rr i)) % 4294967296, b, c)) := by
            show _ = _
            rw [HM.out, ← ad_three, mr, ← HR.out]
            rfl
          have HWD : Hid (∀ (x : Ext wr) (cc : Nat), Calls Tryz.prog 73 #[.slice (some ⟨gm, p + 4 * mg i, none⟩) 4 cc, .bool true] x.to fun e w' => e = .returned (.int .u32 (wd false F (p + 4 * mg i))) ∧ Below x.to.heap.size x.to w') := fun x cc =>
            word_any false F gm (p + 4 * mg i) cc x.to (by have := HLF.out; omega) (fun j hj => ext_cell x (HO.out.byte j hj))
          have HTU := Lib.hid (fun W => turns_any i W hlt2)
          have hr := rr_lt i
          have HTN := Lib.hid (fun X W => turn_any X (rr i) hr W)
          have fs : ∀ x : Ext wr, x.to.cell? ⟨gt, i, none⟩ = _ := fun x => ext_cell x hs
          have hne := extSome wr
          have hsg : IntKind.u32.signed = false := rfl
          generalize wd false F (p + 4 * mg i) = wv at HN2 HWD
          generalize kk i = kv at HN2 fs
          generalize rr i = rv at HN2 HTU HTN hr
          clear hs
          by_cases e0 : i / 16 = 0
          · have HFX : Hid (mf i b c d = io (an b c) (an (nt b) d)) := by show _ = _; simp [mf, e0]
            have f0 := div_eq e0
            have HGX : Hid (mg i = i) := by show _ = _; simp [mg, e0]
            rw [HGX.out] at hj HWD
            rw [HFX.out] at HN2
            clear e0
            go_wp2_with fail
            refine ext_region (by kernel_rfl) (by kernel_rfl) ?_
            repeat (go_big_quiet_step ((go_at_call 73; with_reducible exact ext_call _ (HWD.out _ _))))
            refine wpQuiet_nil ?_
            rintro _ ⟨v, hv⟩
            subst hv
            have HH5 := Lib.hid (HH.out.below v.below)
            have HT5 := Lib.hid (HT.out.below v.below)
            have HO5 := Lib.hid (HO.out.below v.below)
            have HB5 := Lib.hid (HB.out.trans (v.below.mono HB.out.size))
            generalize v.to = w5 at HH5 HT5 HO5 HB5 ⊢
            clear fs hne HWD HH HT HO HB v
            go_wp2_with fail
            refine (HTU.out _).mono ?_
            rintro r w6 ⟨rfl, hb⟩
            have HH6 := Lib.hid (HH5.out.below hb)
            have HT6 := Lib.hid (HT5.out.below hb)
            have HO6 := Lib.hid (HO5.out.below hb)
            have HB6 := Lib.hid (HB5.out.trans (hb.mono HB5.out.size))
            clear hb HH5 HT5 HO5 HB5
            go_wp2_with fail
            refine (HTN.out _ _).mono ?_
            rintro r w7 ⟨rfl, rfl⟩
            have HH7 := Lib.hid (HH6.out.drewN 1)
            have HT7 := Lib.hid (HT6.out.drewN 1)
            have HO7 := Lib.hid (HO6.out.drew)
            have HB7 := Lib.hid HB6.out.drew
            go_wp2_with fail
            exact ⟨⟨i + 1, d, _, b, c, rfl, rfl, rfl, rfl, by go_num, by omega, HN2.out.symm, HH7.out, HT7.out, HO7.out, HB7.out⟩, by simp [RowKit.intOf]; omega⟩
          have f0 := div_ne e0
          by_cases e1 : i / 16 = 1
          · have HFX : Hid (mf i b c d = io (an d b) (an (nt d) c)) := by show _ = _; simp [mf, e1]
            have f1 := div_eq e1
            have hgx : (5 * (i : Int) + 1) % 16 = ((mg i : Nat) : Int) := by simp [mg, e1]
            generalize mg i = j at hj HWD hgx
            rw [HFX.out] at HN2
            clear e0 e1
            go_wp2_with fail
            refine ext_region (by kernel_rfl) (by kernel_rfl) ?_
            repeat (go_big_quiet_step ((go_at_call 73; with_reducible exact ext_call _ (HWD.out _ _))))
            refine wpQuiet_nil ?_
            rintro _ ⟨v, hv⟩
            subst hv
            have HH5 := Lib.hid (HH.out.below v.below)
            have HT5 := Lib.hid (HT.out.below v.below)
            have HO5 := Lib.hid (HO.out.below v.below)
            have HB5 := Lib.hid (HB.out.trans (v.below.mono HB.out.size))
            generalize v.to = w5 at HH5 HT5 HO5 HB5 ⊢
            clear fs hne HWD HH HT HO HB v
            go_wp2_with fail
            refine (HTU.out _).mono ?_
            rintro r w6 ⟨rfl, hb⟩
            have HH6 := Lib.hid (HH5.out.below hb)
            have HT6 := Lib.hid (HT5.out.below hb)
            have HO6 := Lib.hid (HO5.out.below hb)
            have HB6 := Lib.hid (HB5.out.trans (hb.mono HB5.out.size))
            clear hb HH5 HT5 HO5 HB5
            go_wp2_with fail
            refine (HTN.out _ _).mono ?_
            rintro r w7 ⟨rfl, rfl⟩
            have HH7 := Lib.hid (HH6.out.drewN 1)
            have HT7 := Lib.hid (HT6.out.drewN 1)
            have HO7 := Lib.hid (HO6.out.drew)
            have HB7 := Lib.hid HB6.out.drew
            go_wp2_with fail
            exact ⟨⟨i + 1, d, _, b, c, rfl, rfl, rfl, rfl, by go_num, by omega, HN2.out.symm, HH7.out, HT7.out, HO7.out, HB7.out⟩, by simp [RowKit.intOf]; omega⟩
          have f1 := div_ne e1
          by_cases e2 : i / 16 = 2
          · have HFX : Hid (mf i b c d = xo (xo b c) d) := by show _ = _; simp [mf, e2]
            have f2 := div_eq e2
            have hgx : (3 * (i : Int) + 5) % 16 = ((mg i : Nat) : Int) := by simp [mg, e2]
            generalize mg i = j at hj HWD hgx
            rw [HFX.out] at HN2
            clear e0 e1 e2
            go_wp2_with fail
            refine ext_region (by kernel_rfl) (by kernel_rfl) ?_
            repeat (go_big_quiet_step ((go_at_call 73; with_reducible exact ext_call _ (HWD.out _ _))))
            refine wpQuiet_nil ?_
            rintro _ ⟨v, hv⟩
            subst hv
            have HH5 := Lib.hid (HH.out.below v.below)
            have HT5 := Lib.hid (HT.out.below v.below)
            have HO5 := Lib.hid (HO.out.below v.below)
            have HB5 := Lib.hid (HB.out.trans (v.below.mono HB.out.size))
            generalize v.to = w5 at HH5 HT5 HO5 HB5 ⊢
            clear fs hne HWD HH HT HO HB v
            go_wp2_with fail
            refine (HTU.out _).mono ?_
            rintro r w6 ⟨rfl, hb⟩
            have HH6 := Lib.hid (HH5.out.below hb)
            have HT6 := Lib.hid (HT5.out.below hb)
            have HO6 := Lib.hid (HO5.out.below hb)
            have HB6 := Lib.hid (HB5.out.trans (hb.mono HB5.out.size))
            clear hb HH5 HT5 HO5 HB5
            go_wp2_with fail
            refine (HTN.out _ _).mono ?_
            rintro r w7 ⟨rfl, rfl⟩
            have HH7 := Lib.hid (HH6.out.drewN 1)
            have HT7 := Lib.hid (HT6.out.drewN 1)
            have HO7 := Lib.hid (HO6.out.drew)
            have HB7 := Lib.hid HB6.out.drew
            go_wp2_with fail
            exact ⟨⟨i + 1, d, _, b, c, rfl, rfl, rfl, rfl, by go_num, by omega, HN2.out.symm, HH7.out, HT7.out, HO7.out, HB7.out⟩, by simp [RowKit.intOf]; omega⟩
          have f2 := div_ne e2
          have HFX : Hid (mf i b c d = xo c (io b (nt d))) := by show _ = _; simp [mf, e0, e1, e2]
          have hgx : 7 * (i : Int) % 16 = ((mg i : Nat) : Int) := by simp [mg, e0, e1, e2]
          generalize mg i = j at hj HWD hgx
          rw [HFX.out] at HN2
          clear e0 e1 e2
          go_wp2_with fail
          refine ext_region (by kernel_rfl) (by kernel_rfl) ?_
          repeat (go_big_quiet_step ((go_at_call 73; with_reducible exact ext_call _ (HWD.out _ _))))
          refine wpQuiet_nil ?_
          rintro _ ⟨v, hv⟩
          subst hv
          have HH5 := Lib.hid (HH.out.below v.below)
          have HT5 := Lib.hid (HT.out.below v.below)
          have HO5 := Lib.hid (HO.out.below v.below)
          have HB5 := Lib.hid (HB.out.trans (v.below.mono HB.out.size))
          generalize v.to = w5 at HH5 HT5 HO5 HB5 ⊢
          clear fs hne HWD HH HT HO HB v
          go_wp2_with fail
          refine (HTU.out _).mono ?_
          rintro r w6 ⟨rfl, hb⟩
          have HH6 := Lib.hid (HH5.out.below hb)
          have HT6 := Lib.hid (HT5.out.below hb)
          have HO6 := Lib.hid (HO5.out.below hb)
          have HB6 := Lib.hid (HB5.out.trans (hb.mono HB5.out.size))
          clear hb HH5 HT5 HO5 HB5
          go_wp2_with fail
          refine (HTN.out _ _).mono ?_
          rintro r w7 ⟨rfl, rfl⟩
          have HH7 := Lib.hid (HH6.out.drewN 1)
          have HT7 := Lib.hid (HT6.out.drewN 1)
          have HO7 := Lib.hid (HO6.out.drew)
          have HB7 := Lib.hid HB6.out.drew
          go_wp2_with fail
          exact ⟨⟨i + 1, d, _, b, c, rfl, rfl, rfl, rfl, by go_num, by omega, HN2.out.symm, HH7.out, HT7.out, HO7.out, HB7.out⟩, by simp [RowKit.intOf]; omega⟩
        · obtain rfl : i = 64 := by omega
          rw [← HR.out] at HQ
          have hh0 := HH.out.cell (j := 0) (v := .int .u32 a0) rfl
          have hh1 := HH.out.cell (j := 1) (v := .int .u32 b0) rfl
          have hh2 := HH.out.cell (j := 2) (v := .int .u32 c0) rfl
          have hh3 := HH.out.cell (j := 3) (v := .int .u32 d0) rfl
          have fh0 : ∀ x : Ext wr, x.to.cell? ⟨g, 0, none⟩ = _ := fun x => ext_cell x hh0
          have fh1 : ∀ x : Ext wr, x.to.cell? ⟨g, 1, none⟩ = _ := fun x => ext_cell x hh1
          have fh2 : ∀ x : Ext wr, x.to.cell? ⟨g, 2, none⟩ = _ := fun x => ext_cell x hh2
          have fh3 : ∀ x : Ext wr, x.to.cell? ⟨g, 3, none⟩ = _ := fun x => ext_cell x hh3
          have hne := extSome wr
          clear hh0 hh1 hh2 hh3 HR HM
          go_wp2_with fail
          refine ext_tail 20 (by kernel_rfl) (by kernel_rfl) ?_
          simp only [List.take_succ_cons, List.take_zero, List.drop_succ_cons, List.drop_zero]
          repeat (go_big_quiet_step ((fail)))
          refine wpQuiet_nil ?_
          rintro _ ⟨v, hv⟩
          subst hv
          have HT5 := Lib.hid ((HT.out.below v.below).alloc (.cells (c4 (ad4 (a0, b0, c0, d0) (a, b, c, d))) 91))
          have HO5 := Lib.hid ((HO.out.below v.below).alloc (.cells (c4 (ad4 (a0, b0, c0, d0) (a, b, c, d))) 91))
          have HB5 := Lib.hid (HB.out.trans (v.below.mono HB.out.size))
          have HB6 := Lib.hid (HB5.out.alloc HB5.out.size (.cells (c4 (ad4 (a0, b0, c0, d0) (a, b, c, d))) 91))
          have HN5 := Lib.hid (Has.new 91 (c4 (ad4 (a0, b0, c0, d0) (a, b, c, d))) v.to)
          generalize v.to = w5 at HT5 HO5 HB5 HB6 HN5 ⊢
          clear fh0 fh1 fh2 fh3 hne HT HO HB v
          have HN6 : Hid (Has 91 (c4 (md F (k + 1))) w5.heap.size (w5.alloc (.cells (c4 (ad4 (a0, b0, c0, d0) (a, b, c, d))) 91))) := by
            show Has _ _ _ _
            rw [HQ.out]
            exact HN5.out
          go_wp2_with fail
          exact ⟨⟨k + 1, p + 64, w5.heap.size, rfl, by go_num, by omega, HP2.out, HN6.out, HT5.out, HO5.out, HB6.out⟩, by simp [RowKit.intOf]; omega⟩
    · obtain rfl : p = L := by omega
      have hk : k = n := by have := HP.out; have := HLn.out; omega
      subst hk
      have HPW := Lib.hid (fun W hB hl => bytes_false (ws4 (md F k)) g 4 W (show 0 < 4 by omega) (show 4 ≤ 100 by omega) (md_w _ _) hB hl)
      have HE := Lib.hid (HMd.out k rfl)
      go_wp2_with fail
      refine (HPW.out _ (fun j hj => HH.out.cell (ws4_cell _ j hj)) HH.out.lt).mono ?_
      rintro r w3 ⟨rfl, hb3⟩
      have HB3 := Lib.hid (HB.out.trans (hb3.mono HB.out.size))
      clear hb3
      rw [HE.out]
      go_wp2_with fail
      go_ret
      exact ⟨rfl, HB3.out⟩
end Go.Proofs.YthbeempmdpfnmaaGreatDoor.M
