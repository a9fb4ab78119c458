/- A reader in memory; contracts: take, number, short, text, value, valueText, valueNumber of package legacy's reader. Conditions: those of each theorem's head. -/
import Derived.Test.YtclkehfnakhljaaDoorWe
namespace Go.Proofs.YtclkehfnakhljaaDoor.T
open Go.RowKit Go.Lib

/-- All stays but the block P. -/
structure Bt (N P : Nat) (w w' : World) : Prop where
  os : w'.os = w.os
  tape : w'.tape = w.tape
  output : w'.output = w.output
  size : w.heap.size ≤ w'.heap.size
  block : ∀ b, b < N → b ≠ P → w'.heap[b]? = w.heap[b]?
section
variable {N P : Nat} {T : TypeId} {r : List Value} {w w' w1 w2 : World} {l : List UInt8}
theorem Bt.refl (N P : Nat) (w : World) : Bt N P w w := ⟨rfl, rfl, rfl, Nat.le_refl _, fun _ _ _ => rfl⟩
theorem Bt.trans (h : Bt N P w w1) (k : Bt N P w1 w2) : Bt N P w w2 :=
  ⟨k.os.trans h.os, k.tape.trans h.tape, k.output.trans h.output, Nat.le_trans h.size k.size, fun b hb hp => (k.block b hb hp).trans (h.block b hb hp)⟩
theorem Bt.mono (h : Bt N P w w') {M : Nat} (hM : M ≤ N) : Bt M P w w' := ⟨h.os, h.tape, h.output, h.size, fun b hb hp => h.block b (Nat.lt_of_lt_of_le hb hM) hp⟩
theorem Bt.below (h : Bt N P w w1) (hb : Below w1.heap.size w1 w2) (hN : N ≤ w1.heap.size) : Bt N P w w2 :=
  h.trans ⟨hb.os, hb.tape, hb.output, hb.size, fun b hl _ => hb.block b (Nat.lt_of_lt_of_le hl hN)⟩
theorem Bt.set (h : Bt N P w w1) (i : Nat) (v : Value) : Bt N P w (w1.setCell ⟨P, i, none⟩ v) := by
  have k := (Below.refl P w1).setCell (p := ⟨P, i, none⟩) (Nat.le_refl _) v
  exact h.trans ⟨k.os, k.tape, k.output, k.size, fun b _ hp => setCell_other hp⟩
theorem Bt.toBelow (h : Bt N P w w') (hP : N ≤ P) : Below N w w' := ⟨h.os, h.tape, h.output, h.size, fun b hb => h.block b hb (by omega)⟩
theorem Bt.keep (h : Bt N P w w') {b : Nat} {o : Obj} (hb : w.heap[b]? = some o) (hN : b < N) (hP : b ≠ P) : w'.heap[b]? = some o := (h.block b hN hP).trans hb
/-- At P is a box whose first cell is what is left to be read. -/
def Rr (P : Nat) (T : TypeId) (r : List Value) (w : World) (l : List UInt8) : Prop := w.heap[P]? = some (.cells (.string (mk l) :: r).toArray T (0, 0))
theorem Rr.lt (h : Rr P T r w l) : P < w.heap.size := heap_lt h
theorem Rr.below (h : Rr P T r w l) (hb : Below w.heap.size w w') : Rr P T r w' l := (hb.block _ (heap_lt h)).trans h
theorem Rr.cell (h : Rr P T r w l) : w.cell? ⟨P, 0, none⟩ = some (.string (mk l)) := (Lib.cell_of_heap h 0).trans (by simp)
theorem Rr.free (h : Rr P T r w l) (i : Nat) : w.frozen? ⟨P, i, none⟩ = false := by simp [World.frozen?, show w.heap[P]? = _ from h]
theorem Rr.left (h : Rr P T r w l) (m : List UInt8) : Rr P T r (w.setCell ⟨P, 0, none⟩ (.string (mk m))) m := (setI h 0 _).trans (by simp)
theorem Rr.set (h : Rr P T r w l) (i : Nat) (v : Value) : Rr P T (r.set i v) (w.setCell ⟨P, i + 1, none⟩ v) l := (setI h (i + 1) v).trans (by simp)
/-- A call of the reader's: it answers v, and leaves m. -/
def RrP (P : Nat) (T : TypeId) (r : List Value) (w : World) (v : Value) (m : List UInt8) (e : Ending) (w' : World) : Prop := e = .returned v ∧ Bt w.heap.size P w w' ∧ Rr P T r w' m
theorem mk_take (l : List UInt8) (n : Nat) : (mk l).extract 0 n = mk (l.take n) := By.bytes_ext (by rw [By.extract_cut, mk_list, mk_list, List.drop_zero])
theorem mk_drop (l : List UInt8) (n : Nat) : (mk l).extract n (mk l).size = mk (l.drop n) := By.bytes_ext (by rw [By.extract_drop, mk_list, mk_list])
set_option maxRecDepth 100000 in
set_option maxHeartbeats 4000000 in
theorem gtake_any (h : Rr P T r w l) (n : Nat) (hl : l.length ≤ 1000000) (_hn : n ≤ 10000000000) :
    Calls Tryd.prog 55 #[.pointer (some ⟨P, 0, none⟩), .int .i64 n] w (RrP P T r w (.string (mk (l.take n))) (l.drop n)) := by
  have c0 := h.cell
  have f0 := h.free 0
  have hz : (mk l).size = l.length := mk_size l
  obtain ⟨k, hk⟩ : ∃ k, k = min n l.length := ⟨_, rfl⟩
  have E1 : Hid ((mk l).extract 0 k = mk (l.take n)) := by
    show _ = _
    rw [mk_take, hk, ← List.take_take, List.take_length]
  have E2 : Hid ((mk l).extract k (mk l).size = mk (l.drop n)) := by
    show _ = _
    rw [mk_drop]
    by_cases hc : n ≤ l.length
    · rw [show k = n by omega]
    · rw [List.drop_eq_nil_of_le (by omega), List.drop_eq_nil_of_le (by omega)]
  have hm : min (n : Int) ((mk l).size : Int) = (k : Int) := by omega
  have hk2 : k ≤ (mk l).size := by omega
  have CL := Lib.hid (fun W => clone_any ((mk l).extract 0 k) W (by have := ext_le (mk l) 0 k; omega))
  have H2 := Lib.hid (h.left (l.drop n))
  generalize l.drop n = m at E2 H2 ⊢
  generalize l.take n = q at E1 ⊢
  have hz2 : (mk l).size ≤ 1000000 := by omega
  generalize mk l = S at c0 hm hk2 hz2 E1 E2 CL
  clear h hz hk hl
  go_enter Tryd.func55, Tryd.ntmps55
  go_wp2_with fail
  refine (CL.out _).mono ?_
  rintro e w3 ⟨rfl, hb⟩
  have HB := Lib.hid hb
  clear hb CL
  go_wp2_with fail
  go_ret
  refine ⟨by rw [← E1.out]; rfl, ?_, ?_⟩
  · exact ((Bt.refl _ _ _).set 0 _).below HB.out (by simp)
  · have h3 := HB.out
    rw [E2.out] at h3
    exact H2.out.below h3
set_option maxRecDepth 100000 in
set_option maxHeartbeats 4000000 in
theorem gnumber_any (h : Rr P T r w l) (n : Nat) (hl : l.length ≤ 1000000) (hn : n ≤ 4) :
    Calls Tryd.prog 59 #[.pointer (some ⟨P, 0, none⟩), .int .i64 n] w (RrP P T r w (.int .i64 (rnum n l)) (l.drop n)) := by
  have CT := Lib.hid (gtake_any h n hl (by omega))
  have CN := Lib.hid (fun W => num_any (mk (l.take n)) W)
  unfold rnum
  generalize numV (mk (l.take n)) = V at CN ⊢
  generalize numE (mk (l.take n)) = E at CN
  generalize mk (l.take n) = Q at CT CN
  generalize l.drop n = m at CT ⊢
  clear h hl
  go_enter Tryd.func59, Tryd.ntmps59
  go_wp2_with fail
  refine CT.out.mono ?_
  rintro e w1 ⟨rfl, ha, hb⟩
  have HA := Lib.hid ha
  have HB := Lib.hid hb
  clear ha hb CT
  go_wp2_with fail
  refine (CN.out _).mono ?_
  rintro e w2 ⟨rfl, hx⟩
  have hx := hx.symm
  subst hx
  go_wp2_with fail
  go_ret
  exact ⟨rfl, HA.out, HB.out⟩
theorem gshort_any (h : Rr P T r w l) (hl : l.length ≤ 1000000) :
    Calls Tryd.prog 60 #[.pointer (some ⟨P, 0, none⟩)] w (RrP P T r w (.int .i64 (rnum 2 l)) (l.drop 2)) := by
  have CT := Lib.hid (gnumber_any h 2 hl (by decide))
  generalize rnum 2 l = V at CT ⊢
  generalize l.drop 2 = m at CT ⊢
  clear h hl
  go_enter Tryd.func60, Tryd.ntmps60
  go_wp2_with fail
  refine CT.out.mono ?_
  rintro e w1 ⟨rfl, ha, hb⟩
  have HA := Lib.hid ha
  have HB := Lib.hid hb
  clear ha hb CT
  go_wp2_with fail
  go_ret
  exact ⟨rfl, HA.out, HB.out⟩
theorem rnum_nat (n : Nat) (l : List UInt8) (h : n ≤ 4) : ∃ m : Nat, rnum n l = m ∧ m < 4294967296 := by
  unfold rnum numV
  split
  · refine ⟨_, rfl, ?_⟩
    have := numL_lt (mk (l.take n)).data.toList
    rw [mk_list, List.length_take] at this
    rw [mk_list]
    exact Nat.lt_of_lt_of_le this (by have := Nat.pow_le_pow_right (n := 256) (by decide) (show min n l.length ≤ 4 by omega); exact this)
  · exact ⟨0, rfl, by decide⟩
set_option maxRecDepth 100000 in
set_option maxHeartbeats 4000000 in
theorem gtext_any (h : Rr P T r w l) (n : Nat) (hl : l.length ≤ 1000000) (hn : n ≤ 4) :
    Calls Tryd.prog 58 #[.pointer (some ⟨P, 0, none⟩), .int .i64 n] w (RrP P T r w (.string (rtxt n l)) (rtxR n l)) := by
  have CN := Lib.hid (gnumber_any h n hl hn)
  obtain ⟨k, hk, hk2⟩ := rnum_nat n l hn
  unfold rtxt rtxR
  rw [hk, Int.toNat_natCast]
  rw [hk] at CN
  have CT := Lib.hid (fun W (hh : Rr P T r W (l.drop n)) => gtake_any hh k (by rw [List.length_drop]; omega) (by omega))
  generalize mk ((l.drop n).take k) = Q at CT ⊢
  generalize (l.drop n).drop k = m at CT ⊢
  generalize l.drop n = m1 at CT CN
  clear h hl hk
  go_enter Tryd.func58, Tryd.ntmps58
  go_wp2_with fail
  refine CN.out.mono ?_
  rintro e w1 ⟨rfl, ha, hb⟩
  have HA := Lib.hid ha
  have HB := Lib.hid hb
  clear ha hb CN
  go_wp2_with fail
  refine (CT.out _ HB.out).mono ?_
  rintro e w2 ⟨rfl, ha, hb⟩
  have HA2 := Lib.hid (HA.out.trans (ha.mono HA.out.size))
  have HB2 := Lib.hid hb
  clear ha hb CT
  go_wp2_with fail
  go_ret
  exact ⟨rfl, HA2.out, HB2.out⟩
theorem pre_any (s t : ByteArray) (w : World) : Calls Tryd.prog 78 #[.string s, .string t] w fun e w' => e = .returned (.bool (t.data.toList.isPrefixOf s.data.toList)) ∧ w' = w :=
  Any.strings_HasPrefix Tryd.lays99 s t w
set_option maxRecDepth 100000 in
set_option maxHeartbeats 4000000 in
theorem gvalue_any (h : Rr P T r w l) (k : Nat) (hl : l.length ≤ 1000000) (hk : k ≤ 65535) :
    Calls Tryd.prog 72 #[.pointer (some ⟨P, 0, none⟩), .int .i64 k] w (RrP P T r w (.tuple #[.string (rval k l), .bool (hasV k l)]) (rvlR k l)) := by
  have H := Lib.hid h
  have CI := Lib.hid (fun W => int_any k 2 W)
  have hsz : (intS k 2).size = 2 := Q.intS_size2 (Q.two_iff.2 ⟨by omega, by omega⟩)
  have CP := Lib.hid (fun W => pre_any (mk l) (intS k 2) W)
  rw [mk_list] at CP
  have CT := Lib.hid (fun W (hh : Rr P T r W l) => gtake_any hh 2 hl (by omega))
  have CX := Lib.hid (fun W (hh : Rr P T r W (l.drop 2)) => gtext_any hh 2 (by rw [List.length_drop]; omega) (by decide))
  have e0 : hasV k l = (intS k 2).data.toList.isPrefixOf l := rfl
  unfold rval rvlR
  rw [e0]
  generalize intE k 2 = E at CI
  generalize rtxt 2 (l.drop 2) = V at CX ⊢
  generalize rtxR 2 (l.drop 2) = m at CX ⊢
  generalize mk (l.take 2) = Q1 at CT
  generalize l.drop 2 = m1 at CT CX
  generalize (intS k 2).data.toList.isPrefixOf l = b at CP ⊢
  generalize intS k 2 = D at CI CP hsz
  clear h e0
  cases b
  · rw [if_neg (by decide), if_neg (by decide)]
    go_enter Tryd.func72, Tryd.ntmps72
    go_wp2_with fail
    refine (CI.out _).mono ?_
    rintro e w1 ⟨rfl, hb⟩
    have HB := Lib.hid hb
    have HW := Lib.hid (H.out.below hb)
    have c0 := HW.out.cell
    clear hb
    go_wp2_with fail
    refine (CP.out _).mono ?_
    rintro e w2 ⟨rfl, hx⟩
    subst hx
    go_wp2_with fail
    go_ret2
    exact ⟨rfl, (Bt.refl _ _ _).below HB.out (Nat.le_refl _), HW.out⟩
  · rw [if_pos rfl, if_pos rfl]
    go_enter Tryd.func72, Tryd.ntmps72
    go_wp2_with fail
    refine (CI.out _).mono ?_
    rintro e w1 ⟨rfl, hb⟩
    have HB := Lib.hid hb
    have HW := Lib.hid (H.out.below hb)
    have c0 := HW.out.cell
    clear hb
    go_wp2_with fail
    refine (CP.out _).mono ?_
    rintro e w2 ⟨rfl, hx⟩
    subst hx
    clear c0
    go_wp2_with fail
    refine (CT.out _ HW.out).mono ?_
    rintro e w3 ⟨rfl, ha, hb⟩
    have HA := Lib.hid (((Bt.refl w.heap.size P w).below HB.out (Nat.le_refl _)).trans (ha.mono HB.out.size))
    have HW2 := Lib.hid hb
    clear ha hb
    go_wp2_with fail
    refine (CX.out _ HW2.out).mono ?_
    rintro e w4 ⟨rfl, ha, hb⟩
    have HA2 := Lib.hid (HA.out.trans (ha.mono HA.out.size))
    have HW3 := Lib.hid hb
    clear ha hb
    go_wp2_with fail
    go_ret2
    exact ⟨rfl, HA2.out, HW3.out⟩
set_option maxRecDepth 100000 in
set_option maxHeartbeats 4000000 in
theorem gvtext_any (h : Rr P T r w l) (k : Nat) (hl : l.length ≤ 1000000) (hk : k ≤ 65535) :
    Calls Tryd.prog 56 #[.pointer (some ⟨P, 0, none⟩), .int .i64 k] w (RrP P T r w (.string (rval k l)) (rvlR k l)) := by
  have CT := Lib.hid (gvalue_any h k hl hk)
  generalize rval k l = V at CT ⊢
  generalize rvlR k l = m at CT ⊢
  generalize hasV k l = b at CT
  clear h hl
  go_enter Tryd.func56, Tryd.ntmps56
  go_wp2_with fail
  refine CT.out.mono ?_
  rintro e w1 ⟨rfl, ha, hb⟩
  have HA := Lib.hid ha
  have HB := Lib.hid hb
  clear ha hb CT
  go_wp2_with fail
  go_ret
  exact ⟨rfl, HA.out, HB.out⟩
set_option maxRecDepth 100000 in
set_option maxHeartbeats 4000000 in
theorem gvnum_any (h : Rr P T r w l) (k : Nat) (hl : l.length ≤ 1000000) (hk : k ≤ 65535) :
    Calls Tryd.prog 57 #[.pointer (some ⟨P, 0, none⟩), .int .i64 k] w (RrP P T r w (.int .i64 (numV (rval k l))) (rvlR k l)) := by
  have CT := Lib.hid (gvtext_any h k hl hk)
  have CN := Lib.hid (fun W => num_any (rval k l) W)
  generalize numV (rval k l) = N1 at CN ⊢
  generalize numE (rval k l) = E1 at CN
  generalize rval k l = V at CT CN
  generalize rvlR k l = m at CT ⊢
  clear h hl
  go_enter Tryd.func57, Tryd.ntmps57
  go_wp2_with fail
  refine CT.out.mono ?_
  rintro e w1 ⟨rfl, ha, hb⟩
  have HA := Lib.hid ha
  have HB := Lib.hid hb
  clear ha hb CT
  go_wp2_with fail
  refine (CN.out _).mono ?_
  rintro e w2 ⟨rfl, hx⟩
  have hx := hx.symm
  subst hx
  go_wp2_with fail
  go_ret
  exact ⟨rfl, HA.out, HB.out⟩
end
end Go.Proofs.YtclkehfnakhljaaDoor.T
