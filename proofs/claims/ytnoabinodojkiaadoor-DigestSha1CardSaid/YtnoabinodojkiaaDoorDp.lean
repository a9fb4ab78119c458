/- Contract of the document's fill: what fills a text. Condition: a text has at most 100000 bytes. -/
import Derived.Test.YtnoabinodojkiaaDoorDo
namespace Go.Proofs.YtnoabinodojkiaaDoor
open Go.RowKit Go.Lib By Dg

def bv (l : List UInt8) : List Value := l.map fun b => Value.int .u8 ((b.toNat : Nat) : Int)
theorem bv_length (l : List UInt8) : (bv l).length = l.length := by simp [bv]
theorem bv_snoc (l : List UInt8) (c : Nat) (hc : c < 256) : bv (l ++ [u c]) = bv l ++ [Value.int .u8 (c : Int)] := by simp [bv, u_nat hc]
theorem bv_at (l : List UInt8) {j : Nat} (hj : j < l.length) : (bv l)[j]? = some (.int .u8 (nb l j : Nat)) := by
  simp [bv, nb, List.getD_eq_getElem?_getD, List.getElem?_eq_getElem hj]
def vlen : Value → Nat | .slice _ n _ => n | _ => 0
theorem own_conv (w : World) (s : ByteArray) (cap : Nat) (hc : s.size ≤ cap) (e : TypeId) : Own w.heap.size (.slice (some ⟨w.heap.size, 0, none⟩) s.size cap) (bv s.data.toList) (w.alloc (.cells (bytesRow s cap) e ((bytesRow s cap).size, (bytesRow s cap).size + 1))) := by
  have hz : (bytesRow s cap).size = cap := by unfold bytesRow; simp; have : s.data.size = s.size := rfl; omega
  refine .inr ⟨w.heap.size, cap, by rw [bv_length, len_size], Nat.le_refl _, by rw [bv_length, len_size]; exact hc, fun j v hj => ?_, fun j hj => ⟨?_, ?_⟩⟩
  · have hj2 : j < s.data.toList.length := by have := (List.getElem?_eq_some_iff.1 hj).1; rwa [bv_length] at this
    rw [World.cell?_alloc_mark, bytesRow_at s cap j (by simpa using hj2), ← hj, bv_at _ hj2]
    simp [nb, List.getD_eq_getElem?_getD, Array.getElem?_eq_getElem (show j < s.data.size by simpa using hj2)]
  · rw [World.cell?_alloc_mark, Array.getElem?_eq_getElem (by omega)]
    rfl
  · rw [World.frozen?_alloc_mark]
    simp; omega
theorem byteInfo : (Tryd.prog.info? 5).map (fun i => (i.zero, i.size, i.bytes)) = some (some (.int .u8 0), 1, 1) := by kernel_rfl
theorem wordInfo : (Tryd.prog.info? 28).map (fun i => (i.zero, i.size, i.bytes)) = some (some (.int .u32 0), 1, 4) := by kernel_rfl
theorem zn_test (n k : Nat) : (k < zn n → (n + 1 + k) % 64 ≠ 56) ∧ (k = zn n → (n + 1 + k) % 64 = 56) := by
  unfold zn
  split <;> omega
/-- A text, the byte 80, k bytes 0. -/
def ft (l : List UInt8) (k : Nat) : List UInt8 := l ++ [u 128] ++ List.replicate k (u 0)
theorem ft_length (l : List UInt8) (k : Nat) : (ft l k).length = l.length + 1 + k := by simp [ft]; omega
theorem ft_succ (l : List UInt8) (k : Nat) : bv (ft l (k + 1)) = bv (ft l k) ++ [Value.int .u8 0] := by
  rw [ft, List.replicate_succ', ← List.append_assoc, bv_snoc _ 0 (by omega)]
  rfl
/-- And k bytes of the number behind them. -/
def fu (g : Bool) (l : List UInt8) (z x k : Nat) : List UInt8 := ft l z ++ pbk g x 8 k
theorem fu_length (g : Bool) (l : List UInt8) (z x k : Nat) : (fu g l z x k).length = l.length + 1 + z + k := by rw [fu, List.length_append, ft_length, pbk_length]
theorem fu_succ (g : Bool) (l : List UInt8) (z x k : Nat) : bv (fu g l z x (k + 1)) = bv (fu g l z x k) ++ [Value.int .u8 ((x / 2 ^ sh g k 8 % 256 : Nat) : Int)] := by
  rw [fu, pbk_succ, ← List.append_assoc, bv_snoc _ _ (Nat.mod_lt _ (by decide))]
  rfl
theorem Own.alloc {N : Nat} {v : Value} {xs : List Value} {w : World} (h : Own N v xs w) (o : Obj) : Own N v xs (w.alloc o) := h.below ((Below.refl _ w).alloc (Nat.le_refl _) o)
theorem Own.drew {N : Nat} {v : Value} {xs : List Value} {w : World} (h : Own N v xs w) : Own N v xs w.drew := h.below (Below.refl _ w).drew
theorem one_new (w : World) (c : Value) (T : TypeId) : (w.alloc (.cells #[c] T)).cell? ⟨w.heap.size, 0, none⟩ = some c := (Has.new T #[c] w).cell rfl
theorem one_new2 (w : World) (o : Obj) (c : Value) (T : TypeId) : ((w.alloc o).alloc (.cells #[c] T)).drew.cell? ⟨w.heap.size + 1, 0, none⟩ = some c := by
  have := one_new (w.alloc o) c T
  rw [show (w.alloc o).heap.size = w.heap.size + 1 by simp] at this
  exact this
def FillP (g : Bool) (s : ByteArray) (w : World) (e : Ending) (w' : World) : Prop := ∃ v, e = .returned v ∧ Own w.heap.size v (bv (fl g s.data.toList)) w' ∧ Below w.heap.size w w'

set_option maxHeartbeats 1000000 in
theorem fill_false (s : ByteArray) (w : World) (hs : s.size ≤ 100000) : Calls Tryd.prog 20 #[.string s, .bool true] w (FillP false s w) := by
  obtain ⟨i0, hi, hz0, hz1, hz2⟩ := info_parts byteInfo
  have hcv := run_bytes_of_string (P := Tryd.prog) w 9 38 5 s Tryd.underlying9 Tryd.underlying38 Tryd.underlying5
  have hge := grownCap_ge w s.size 0 5
  generalize grownCap w s.size 0 5 = cap at hcv hge
  have H0 := Lib.hid (own_conv w s cap hge 5)
  generalize hC : bytesRow s cap = C at hcv H0
  have HB0 := Lib.hid (fun o => (Below.refl w.heap.size w).alloc (Nat.le_refl _) o)
  have hs2 : (s.size : Int) ≤ 100000 := by omega
  have HL := Lib.hid (len_size s)
  have HZ := Lib.hid (fun k => zn_test s.size k)
  have hzl := zn_le s.size
  have HF : Hid (fl false s.data.toList = fu false s.data.toList (zn s.size) (s.size * 8) 8) := by show _ = _; rw [fl, len_size, fu, ft]; simp; rfl
  generalize zn s.size = z at HZ hzl HF
  have HI := Lib.hid hi
  have HI0 := Lib.hid hz0
  have HI1 := Lib.hid hz1
  have HI2 := Lib.hid hz2
  have HBV : Hid (bv (ft s.data.toList 0) = bv s.data.toList ++ [Value.int .u8 128]) := by show _ = _; rw [ft, List.replicate_zero, List.append_nil]; exact bv_snoc _ 128 (by omega)
  have HBL : Hid ((bv s.data.toList).length = s.size) := by show _ = _; rw [bv_length, len_size]
  clear hC hge hi hz0 hz1 hz2
  go_enter Tryd.func20, Tryd.ntmps20
  go_wp2_with (at_builtin; refine wpList_app _ rfl _ _ 38 rfl 5 i0 (.int .u8 0) 1 Tryd.underlying38 HI.out HI0.out HI1.out HI2.out rfl w.heap.size _ (bv s.data.toList) rfl (H0.out.alloc _).drew ⟨w.heap.size + 1, 0, none⟩ 1 rfl (.int .u8 128) (one_new2 _ _ _ _) rfl (by rw [HBL.out]; omega) (by rw [HBL.out]; omega) (by simp; omega) ?_)
  intro v1 w1 hO1 hb1
  rw [← HBV.out] at hO1
  obtain ⟨g1, cap1, rfl, _⟩ := hO1.form (by rw [HBV.out]; simp)
  rw [show (bv (ft s.data.toList 0)).length = s.size + 1 + 0 by rw [bv_length, ft_length, len_size]] at hO1 ⊢
  have HO1 := Lib.hid hO1
  have HB1 := Lib.hid ((((HB0.out _).alloc (by simp) _).drew).trans hb1)
  clear hO1 hb1 hcv H0 HB0
  go_wp2_with fail
  go_loopw [5] (fun v wr => ∃ k g cap : Nat, v = .slice (some ⟨g, 0, none⟩) (s.size + 1 + k) cap ∧ k ≤ z ∧ Hid (Own w.heap.size (.slice (some ⟨g, 0, none⟩) (s.size + 1 + k) cap) (bv (ft s.data.toList k)) wr) ∧ Hid (Below w.heap.size w wr)) (fun v _ => z + s.size + 1 - vlen v)
  case atStart => exact ⟨0, g1, cap1, rfl, by omega, HO1.out, HB1.out⟩
  case round =>
    clear HO1 HB1
    obtain ⟨k, g2, cap2, rfl, hk, HO, HB⟩ := hrel
    by_cases hlt : k < z
    · have hne := (HZ.out k).1 hlt
      have f : (((s.size : Int) + 1 + k) % 64 != 56) = true := by simp; omega
      have HBV2 := Lib.hid (ft_succ s.data.toList k)
      have HBL2 : Hid ((bv (ft s.data.toList k)).length = s.size + 1 + k) := by show _ = _; rw [bv_length, ft_length, len_size]
      clear hne
      go_wp2_with (at_builtin; go_must (refine wpList_app _ rfl _ _ 38 rfl 5 i0 (.int .u8 0) 1 Tryd.underlying38 HI.out HI0.out HI1.out HI2.out rfl w.heap.size _ _ rfl (HO.out.alloc _) ⟨wr.heap.size, 0, none⟩ 1 rfl (.int .u8 0) (one_new _ _ _) rfl (by rw [HBL2.out]; omega) (by rw [HBL2.out]; omega) (by have := HB.out.size; simp; omega) ?_))
      intro v3 w3 hO3 hb3
      rw [← HBV2.out] at hO3
      obtain ⟨g3, cap3, rfl, _⟩ := hO3.form (by rw [HBV2.out]; simp)
      rw [show (bv (ft s.data.toList (k + 1))).length = s.size + 1 + (k + 1) by rw [HBV2.out, List.length_append, HBL2.out]; rfl] at hO3 ⊢
      have HO3 := Lib.hid hO3
      have HB3 := Lib.hid ((HB.out.alloc HB.out.size _).trans hb3)
      clear hO3 hb3
      go_wp2_with fail
      refine ⟨?_, by simp [vlen]; omega⟩
      first | exact ⟨k + 1, g3, cap3, rfl, by omega, HO3.out, HB3.out⟩ | ((repeat apply Exists.intro); exact ⟨⟨k + 1, g3, cap3, rfl, by omega, HO3.out, HB3.out⟩, rfl⟩)
    · obtain rfl : k = z := by omega
      have he := (HZ.out k).2 rfl
      have f : (((s.size : Int) + 1 + k) % 64 != 56) = false := by simp; omega
      clear he
      obtain ⟨x, hx⟩ : ∃ x, x = s.size * 8 := ⟨_, rfl⟩
      have hx2 : (s.size : Int) * 8 = (x : Int) := by omega
      have hx3 : x ≤ 800000 := by omega
      rw [← hx] at HF
      have HO4 : Hid (Own w.heap.size (.slice (some ⟨g2, 0, none⟩) (s.size + 1 + k + 0) cap2) (bv (fu false s.data.toList k x 0)) wr) := by
        have := HO.out
        show Own _ _ _ _
        rw [fu, show pbk false x 8 0 = [] from rfl, List.append_nil]
        exact this
      clear hx HO
      go_wp2_with fail
      go_loopw [5, 7] (fun v i wr => ∃ j g cap : Nat, v = .slice (some ⟨g, 0, none⟩) (s.size + 1 + k + j) cap ∧ i = .int .i64 j ∧ j ≤ 8 ∧ Hid (Own w.heap.size (.slice (some ⟨g, 0, none⟩) (s.size + 1 + k + j) cap) (bv (fu false s.data.toList k x j)) wr) ∧ Hid (Below w.heap.size w wr)) (fun _ i _ => 8 - (RowKit.intOf i).toNat)
      case atStart => exact ⟨0, g2, cap2, rfl, rfl, by omega, HO4.out, HB.out⟩
      case round =>
        clear HO4 HB
        rename_i wr0 _
        obtain ⟨j, g5, cap5, rfl, rfl, hj, HO, HB⟩ := hrel
        by_cases hlt8 : j < 8
        · have HS := Lib.hid (fu_succ false s.data.toList k x j)
          have HLen : Hid ((bv (fu false s.data.toList k x j)).length = s.size + 1 + k + j) := by show _ = _; rw [bv_length, fu_length, len_size]
          have hj2 : (j : Int) < 8 := by omega
          have hsh : sh false j 8 = 8 * j := rfl
          rw [hsh] at HS
          have hy : x / 2 ^ (8 * j) % 256 < 256 := Nat.mod_lt _ (by decide)
          have hq : (x : Int) / 2 ^ (8 * j) % 256 = ((x / 2 ^ (8 * j) % 256 : Nat) : Int) := by simp
          have hu1 : (Value.int .u8 ((x / 2 ^ (8 * j) % 256 : Nat) : Int)).oneCell' = true := rfl
          have ht : (8 * j : Nat) < 64 := by omega
          generalize x / 2 ^ (8 * j) % 256 = y at hq hy HS hu1
          clear hsh
          go_wp2_with (at_builtin; go_must (refine wpList_app _ rfl _ _ 38 rfl 5 i0 (.int .u8 0) 1 Tryd.underlying38 HI.out HI0.out HI1.out HI2.out rfl w.heap.size _ _ rfl (HO.out.alloc _) ⟨wr.heap.size, 0, none⟩ 1 rfl (.int .u8 (y : Int)) (one_new _ _ _) hu1 (by rw [HLen.out]; omega) (by rw [HLen.out]; omega) (by have := HB.out.size; simp; omega) ?_))
          intro v3 w3 hO3 hb3
          rw [← HS.out] at hO3
          obtain ⟨g3, cap3, rfl, _⟩ := hO3.form (by rw [HS.out]; simp)
          rw [show (bv (fu false s.data.toList k x (j + 1))).length = s.size + 1 + k + (j + 1) by rw [HS.out, List.length_append, HLen.out]; rfl] at hO3 ⊢
          have HO3 := Lib.hid hO3
          have HB3 := Lib.hid ((HB.out.alloc HB.out.size _).trans hb3)
          clear hO3 hb3
          go_wp2_with fail
          rw [show ((j : Int) + 1) = ((j + 1 : Nat) : Int) by omega]
          refine ⟨?_, by simp [RowKit.intOf]; omega⟩
          first | exact ⟨j + 1, g3, cap3, rfl, rfl, by omega, HO3.out, HB3.out⟩ | ((repeat apply Exists.intro); exact ⟨⟨j + 1, g3, cap3, rfl, rfl, by omega, HO3.out, HB3.out⟩, rfl⟩)
        · obtain rfl : j = 8 := by omega
          have HO8 : Hid (Own w.heap.size (.slice (some ⟨g5, 0, none⟩) (s.size + 1 + k + 8) cap5) (bv (fl false s.data.toList)) wr) := by show Own _ _ _ _; rw [HF.out]; exact HO.out
          go_wp2_with fail
          go_ret
          exact ⟨_, rfl, HO8.out, HB.out⟩
set_option maxHeartbeats 1000000 in
theorem fill_true (s : ByteArray) (w : World) (hs : s.size ≤ 100000) : Calls Tryd.prog 20 #[.string s, .bool false] w (FillP true s w) := by
  obtain ⟨i0, hi, hz0, hz1, hz2⟩ := info_parts byteInfo
  have hcv := run_bytes_of_string (P := Tryd.prog) w 9 38 5 s Tryd.underlying9 Tryd.underlying38 Tryd.underlying5
  have hge := grownCap_ge w s.size 0 5
  generalize grownCap w s.size 0 5 = cap at hcv hge
  have H0 := Lib.hid (own_conv w s cap hge 5)
  generalize hC : bytesRow s cap = C at hcv H0
  have HB0 := Lib.hid (fun o => (Below.refl w.heap.size w).alloc (Nat.le_refl _) o)
  have hs2 : (s.size : Int) ≤ 100000 := by omega
  have HL := Lib.hid (len_size s)
  have HZ := Lib.hid (fun k => zn_test s.size k)
  have hzl := zn_le s.size
  have HF : Hid (fl true s.data.toList = fu true s.data.toList (zn s.size) (s.size * 8) 8) := by show _ = _; rw [fl, len_size, fu, ft]; simp; rfl
  generalize zn s.size = z at HZ hzl HF
  have HI := Lib.hid hi
  have HI0 := Lib.hid hz0
  have HI1 := Lib.hid hz1
  have HI2 := Lib.hid hz2
  have HBV : Hid (bv (ft s.data.toList 0) = bv s.data.toList ++ [Value.int .u8 128]) := by show _ = _; rw [ft, List.replicate_zero, List.append_nil]; exact bv_snoc _ 128 (by omega)
  have HBL : Hid ((bv s.data.toList).length = s.size) := by show _ = _; rw [bv_length, len_size]
  clear hC hge hi hz0 hz1 hz2
  go_enter Tryd.func20, Tryd.ntmps20
  go_wp2_with (at_builtin; refine wpList_app _ rfl _ _ 38 rfl 5 i0 (.int .u8 0) 1 Tryd.underlying38 HI.out HI0.out HI1.out HI2.out rfl w.heap.size _ (bv s.data.toList) rfl (H0.out.alloc _).drew ⟨w.heap.size + 1, 0, none⟩ 1 rfl (.int .u8 128) (one_new2 _ _ _ _) rfl (by rw [HBL.out]; omega) (by rw [HBL.out]; omega) (by simp; omega) ?_)
  intro v1 w1 hO1 hb1
  rw [← HBV.out] at hO1
  obtain ⟨g1, cap1, rfl, _⟩ := hO1.form (by rw [HBV.out]; simp)
  rw [show (bv (ft s.data.toList 0)).length = s.size + 1 + 0 by rw [bv_length, ft_length, len_size]] at hO1 ⊢
  have HO1 := Lib.hid hO1
  have HB1 := Lib.hid ((((HB0.out _).alloc (by simp) _).drew).trans hb1)
  clear hO1 hb1 hcv H0 HB0
  go_wp2_with fail
  go_loopw [5] (fun v wr => ∃ k g cap : Nat, v = .slice (some ⟨g, 0, none⟩) (s.size + 1 + k) cap ∧ k ≤ z ∧ Hid (Own w.heap.size (.slice (some ⟨g, 0, none⟩) (s.size + 1 + k) cap) (bv (ft s.data.toList k)) wr) ∧ Hid (Below w.heap.size w wr)) (fun v _ => z + s.size + 1 - vlen v)
  case atStart => exact ⟨0, g1, cap1, rfl, by omega, HO1.out, HB1.out⟩
  case round =>
    clear HO1 HB1
    obtain ⟨k, g2, cap2, rfl, hk, HO, HB⟩ := hrel
    by_cases hlt : k < z
    · have hne := (HZ.out k).1 hlt
      have f : (((s.size : Int) + 1 + k) % 64 != 56) = true := by simp; omega
      have HBV2 := Lib.hid (ft_succ s.data.toList k)
      have HBL2 : Hid ((bv (ft s.data.toList k)).length = s.size + 1 + k) := by show _ = _; rw [bv_length, ft_length, len_size]
      clear hne
      go_wp2_with (at_builtin; go_must (refine wpList_app _ rfl _ _ 38 rfl 5 i0 (.int .u8 0) 1 Tryd.underlying38 HI.out HI0.out HI1.out HI2.out rfl w.heap.size _ _ rfl (HO.out.alloc _) ⟨wr.heap.size, 0, none⟩ 1 rfl (.int .u8 0) (one_new _ _ _) rfl (by rw [HBL2.out]; omega) (by rw [HBL2.out]; omega) (by have := HB.out.size; simp; omega) ?_))
      intro v3 w3 hO3 hb3
      rw [← HBV2.out] at hO3
      obtain ⟨g3, cap3, rfl, _⟩ := hO3.form (by rw [HBV2.out]; simp)
      rw [show (bv (ft s.data.toList (k + 1))).length = s.size + 1 + (k + 1) by rw [HBV2.out, List.length_append, HBL2.out]; rfl] at hO3 ⊢
      have HO3 := Lib.hid hO3
      have HB3 := Lib.hid ((HB.out.alloc HB.out.size _).trans hb3)
      clear hO3 hb3
      go_wp2_with fail
      refine ⟨?_, by simp [vlen]; omega⟩
      first | exact ⟨k + 1, g3, cap3, rfl, by omega, HO3.out, HB3.out⟩ | ((repeat apply Exists.intro); exact ⟨⟨k + 1, g3, cap3, rfl, by omega, HO3.out, HB3.out⟩, rfl⟩)
    · obtain rfl : k = z := by omega
      have he := (HZ.out k).2 rfl
      have f : (((s.size : Int) + 1 + k) % 64 != 56) = false := by simp; omega
      clear he
      obtain ⟨x, hx⟩ : ∃ x, x = s.size * 8 := ⟨_, rfl⟩
      have hx2 : (s.size : Int) * 8 = (x : Int) := by omega
      have hx3 : x ≤ 800000 := by omega
      rw [← hx] at HF
      have HO4 : Hid (Own w.heap.size (.slice (some ⟨g2, 0, none⟩) (s.size + 1 + k + 0) cap2) (bv (fu true s.data.toList k x 0)) wr) := by
        have := HO.out
        show Own _ _ _ _
        rw [fu, show pbk true x 8 0 = [] from rfl, List.append_nil]
        exact this
      clear hx HO
      go_wp2_with fail
      go_loopw [5, 7] (fun v i wr => ∃ j g cap : Nat, v = .slice (some ⟨g, 0, none⟩) (s.size + 1 + k + j) cap ∧ i = .int .i64 j ∧ j ≤ 8 ∧ Hid (Own w.heap.size (.slice (some ⟨g, 0, none⟩) (s.size + 1 + k + j) cap) (bv (fu true s.data.toList k x j)) wr) ∧ Hid (Below w.heap.size w wr)) (fun _ i _ => 8 - (RowKit.intOf i).toNat)
      case atStart => exact ⟨0, g2, cap2, rfl, rfl, by omega, HO4.out, HB.out⟩
      case round =>
        clear HO4 HB
        rename_i wr0 _
        obtain ⟨j, g5, cap5, rfl, rfl, hj, HO, HB⟩ := hrel
        by_cases hlt8 : j < 8
        · have HS := Lib.hid (fu_succ true s.data.toList k x j)
          have HLen : Hid ((bv (fu true s.data.toList k x j)).length = s.size + 1 + k + j) := by show _ = _; rw [bv_length, fu_length, len_size]
          have hj2 : (j : Int) < 8 := by omega
          have hsh : sh true j 8 = 8 * (7 - j) := rfl
          rw [hsh] at HS
          have hy : x / 2 ^ (8 * (7 - j)) % 256 < 256 := Nat.mod_lt _ (by decide)
          have hq : (x : Int) / 2 ^ (8 * (7 - j)) % 256 = ((x / 2 ^ (8 * (7 - j)) % 256 : Nat) : Int) := by simp
          have hu1 : (Value.int .u8 ((x / 2 ^ (8 * (7 - j)) % 256 : Nat) : Int)).oneCell' = true := rfl
          have ht : (8 * (7 - j) : Nat) < 64 := by omega
          generalize x / 2 ^ (8 * (7 - j)) % 256 = y at hq hy HS hu1
          clear hsh
          go_wp2_with (at_builtin; go_must (refine wpList_app _ rfl _ _ 38 rfl 5 i0 (.int .u8 0) 1 Tryd.underlying38 HI.out HI0.out HI1.out HI2.out rfl w.heap.size _ _ rfl (HO.out.alloc _) ⟨wr.heap.size, 0, none⟩ 1 rfl (.int .u8 (y : Int)) (one_new _ _ _) hu1 (by rw [HLen.out]; omega) (by rw [HLen.out]; omega) (by have := HB.out.size; simp; omega) ?_))
          intro v3 w3 hO3 hb3
          rw [← HS.out] at hO3
          obtain ⟨g3, cap3, rfl, _⟩ := hO3.form (by rw [HS.out]; simp)
          rw [show (bv (fu true s.data.toList k x (j + 1))).length = s.size + 1 + k + (j + 1) by rw [HS.out, List.length_append, HLen.out]; rfl] at hO3 ⊢
          have HO3 := Lib.hid hO3
          have HB3 := Lib.hid ((HB.out.alloc HB.out.size _).trans hb3)
          clear hO3 hb3
          go_wp2_with fail
          rw [show ((j : Int) + 1) = ((j + 1 : Nat) : Int) by omega]
          refine ⟨?_, by simp [RowKit.intOf]; omega⟩
          first | exact ⟨j + 1, g3, cap3, rfl, rfl, by omega, HO3.out, HB3.out⟩ | ((repeat apply Exists.intro); exact ⟨⟨j + 1, g3, cap3, rfl, rfl, by omega, HO3.out, HB3.out⟩, rfl⟩)
        · obtain rfl : j = 8 := by omega
          have HO8 : Hid (Own w.heap.size (.slice (some ⟨g5, 0, none⟩) (s.size + 1 + k + 8) cap5) (bv (fl true s.data.toList)) wr) := by show Own _ _ _ _; rw [HF.out]; exact HO.out
          go_wp2_with fail
          go_ret
          exact ⟨_, rfl, HO8.out, HB.out⟩
end Go.Proofs.YtnoabinodojkiaaDoor
