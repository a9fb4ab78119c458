/- Contracts: codes and items of package legacy's note reader. Conditions: those of each theorem's head. -/
import Derived.Test.YtiodjaeonoheiaaGreatDoorWe
import Derived.Deep.RegionLaw
import Derived.Test.YtiodjaeonoheiaaGreatDoorAe
set_option maxRecDepth 100000
set_option maxHeartbeats 4000000
namespace Go.Proofs.YtiodjaeonoheiaaGreatDoor.T
open Go.RowKit Go.Lib
structure Bt (N P : Nat) (w w' : World) : Prop where
  os : w'.os = w.os
  tape : w'.tape = w.tape
  output : w'.output = w.output
  size : w.heap.size ≤ w'.heap.size
  block : ∀ b, b < N → b ≠ P → w'.heap[b]? = w.heap[b]?
section
variable {N P : Nat} {T : TypeId} {r : List Value} {w w' w1 w2 : World} {l : List UInt8}
theorem Bt.refl (N P : Nat) (w : World) : Bt N P w w := ⟨rfl, rfl, rfl, Nat.le_refl _, fun _ _ _ => rfl⟩
theorem Bt.trans (h : Bt N P w w1) (k : Bt N P w1 w2) : Bt N P w w2 :=
  ⟨k.os.trans h.os, k.tape.trans h.tape, k.output.trans h.output, Nat.le_trans h.size k.size, fun b hb hp => (k.block b hb hp).trans (h.block b hb hp)⟩
theorem Bt.mono (h : Bt N P w w') {M : Nat} (hM : M ≤ N) : Bt M P w w' := ⟨h.os, h.tape, h.output, h.size, fun b hb hp => h.block b (Nat.lt_of_lt_of_le hb hM) hp⟩
theorem Bt.below (h : Bt N P w w1) (hb : Below w1.heap.size w1 w2) (hN : N ≤ w1.heap.size) : Bt N P w w2 :=
  h.trans ⟨hb.os, hb.tape, hb.output, hb.size, fun b hl _ => hb.block b (Nat.lt_of_lt_of_le hl hN)⟩
theorem Bt.set (h : Bt N P w w1) (i : Nat) (v : Value) : Bt N P w (w1.setCell ⟨P, i, none⟩ v) := by
  have k := (Below.refl P w1).setCell (p := ⟨P, i, none⟩) (Nat.le_refl _) v
  exact h.trans ⟨k.os, k.tape, k.output, k.size, fun b _ hp => setCell_other hp⟩
theorem Bt.toBelow (h : Bt N P w w') (hP : N ≤ P) : Below N w w' := ⟨h.os, h.tape, h.output, h.size, fun b hb => h.block b hb (by omega)⟩
theorem Bt.keep (h : Bt N P w w') {b : Nat} {o : Obj} (hb : w.heap[b]? = some o) (hN : b < N) (hP : b ≠ P) : w'.heap[b]? = some o := (h.block b hN hP).trans hb
def Rr (P : Nat) (T : TypeId) (r : List Value) (w : World) (l : List UInt8) : Prop := w.heap[P]? = some (.cells (.string (mk l) :: r).toArray T (0, 0))
theorem Rr.lt (h : Rr P T r w l) : P < w.heap.size := heap_lt h
theorem Rr.below (h : Rr P T r w l) (hb : Below w.heap.size w w') : Rr P T r w' l := (hb.block _ (heap_lt h)).trans h
theorem Rr.cell (h : Rr P T r w l) : w.cell? ⟨P, 0, none⟩ = some (.string (mk l)) := (Lib.cell_of_heap h 0).trans (by simp)
theorem Rr.free (h : Rr P T r w l) (i : Nat) : w.frozen? ⟨P, i, none⟩ = false := by simp [World.frozen?, show w.heap[P]? = _ from h]
theorem Rr.left (h : Rr P T r w l) (m : List UInt8) : Rr P T r (w.setCell ⟨P, 0, none⟩ (.string (mk m))) m := (setI h 0 _).trans (by simp)
theorem Rr.set (h : Rr P T r w l) (i : Nat) (v : Value) : Rr P T (r.set i v) (w.setCell ⟨P, i + 1, none⟩ v) l := (setI h (i + 1) v).trans (by simp)
def RrP (P : Nat) (T : TypeId) (r : List Value) (w : World) (v : Value) (m : List UInt8) (e : Ending) (w' : World) : Prop := e = .returned v ∧ Bt w.heap.size P w w' ∧ Rr P T r w' m
theorem mk_take (l : List UInt8) (n : Nat) : (mk l).extract 0 n = mk (l.take n) := By.bytes_ext (by rw [By.extract_cut, mk_list, mk_list, List.drop_zero])
theorem mk_drop (l : List UInt8) (n : Nat) : (mk l).extract n (mk l).size = mk (l.drop n) := By.bytes_ext (by rw [By.extract_drop, mk_list, mk_list])
theorem gtake_any (h : Rr P T r w l) (n : Nat) (hl : l.length ≤ 1000000) (_hn : n ≤ 10000000000) :
    Calls Tryz.prog 96 #[.pointer (some ⟨P, 0, none⟩), .int .i64 n] w (RrP P T r w (.string (mk (l.take n))) (l.drop n)) := by
  have c0 := h.cell
  have f0 := h.free 0
  have hz : (mk l).size = l.length := mk_size l
  obtain ⟨k, hk⟩ : ∃ k, k = min n l.length := ⟨_, rfl⟩
  have E1 : Hid ((mk l).extract 0 k = mk (l.take n)) := by
    show _ = _
    rw [mk_take, hk, ← List.take_take, List.take_length]
  have E2 : Hid ((mk l).extract k (mk l).size = mk (l.drop n)) := by
    show _ = _
    rw [mk_drop]
    by_cases hc : n ≤ l.length
    · rw [show k = n by omega]
    · rw [List.drop_eq_nil_of_le (by omega), List.drop_eq_nil_of_le (by omega)]
  have hm : min (n : Int) ((mk l).size : Int) = (k : Int) := by omega
  have hk2 : k ≤ (mk l).size := by omega
  have CL := Lib.hid (fun W => clone_any ((mk l).extract 0 k) W (by have := ext_le (mk l) 0 k; omega))
  have H2 := Lib.hid (h.left (l.drop n))
  generalize l.drop n = m at E2 H2 ⊢
  generalize l.take n = q at E1 ⊢
  have hz2 : (mk l).size ≤ 1000000 := by omega
  generalize mk l = S at c0 hm hk2 hz2 E1 E2 CL
  clear h hz hk hl
  go_enter Tryz.func96, Tryz.ntmps96
  go_wp2_with fail
  refine (CL.out _).mono ?_
  rintro e w3 ⟨rfl, hb⟩
  have HB := Lib.hid hb
  clear hb CL
  go_wp2_with fail
  go_ret
  refine ⟨by rw [← E1.out]; rfl, ?_, ?_⟩
  · exact ((Bt.refl _ _ _).set 0 _).below HB.out (by simp)
  · have h3 := HB.out
    rw [E2.out] at h3
    exact H2.out.below h3
theorem gnumber_any (h : Rr P T r w l) (n : Nat) (hl : l.length ≤ 1000000) (hn : n ≤ 4) :
    Calls Tryz.prog 100 #[.pointer (some ⟨P, 0, none⟩), .int .i64 n] w (RrP P T r w (.int .i64 (rnum n l)) (l.drop n)) := by
  have CT := Lib.hid (gtake_any h n hl (by omega))
  have CN := Lib.hid (fun W => num_any (mk (l.take n)) W)
  unfold rnum
  generalize numV (mk (l.take n)) = V at CN ⊢
  generalize numE (mk (l.take n)) = E at CN
  generalize mk (l.take n) = Q at CT CN
  generalize l.drop n = m at CT ⊢
  clear h hl
  go_enter Tryz.func100, Tryz.ntmps100
  go_wp2_with fail
  refine CT.out.mono ?_
  rintro e w1 ⟨rfl, ha, hb⟩
  have HA := Lib.hid ha
  have HB := Lib.hid hb
  clear ha hb CT
  go_wp2_with fail
  refine (CN.out _).mono ?_
  rintro e w2 ⟨rfl, hx⟩
  have hx := hx.symm
  subst hx
  go_wp2_with fail
  go_ret
  exact ⟨rfl, HA.out, HB.out⟩
theorem gshort_any (h : Rr P T r w l) (hl : l.length ≤ 1000000) :
    Calls Tryz.prog 101 #[.pointer (some ⟨P, 0, none⟩)] w (RrP P T r w (.int .i64 (rnum 2 l)) (l.drop 2)) := by
  have CT := Lib.hid (gnumber_any h 2 hl (by decide))
  generalize rnum 2 l = V at CT ⊢
  generalize l.drop 2 = m at CT ⊢
  clear h hl
  go_enter Tryz.func101, Tryz.ntmps101
  go_wp2_with fail
  refine CT.out.mono ?_
  rintro e w1 ⟨rfl, ha, hb⟩
  have HA := Lib.hid ha
  have HB := Lib.hid hb
  clear ha hb CT
  go_wp2_with fail
  go_ret
  exact ⟨rfl, HA.out, HB.out⟩
theorem rnum_nat (n : Nat) (l : List UInt8) (h : n ≤ 4) : ∃ m : Nat, rnum n l = m ∧ m < 4294967296 := by
  unfold rnum numV
  split
  · refine ⟨_, rfl, ?_⟩
    have := numL_lt (mk (l.take n)).data.toList
    rw [mk_list, List.length_take] at this
    rw [mk_list]
    exact Nat.lt_of_lt_of_le this (by have := Nat.pow_le_pow_right (n := 256) (by decide) (show min n l.length ≤ 4 by omega); exact this)
  · exact ⟨0, rfl, by decide⟩
theorem gtext_any (h : Rr P T r w l) (n : Nat) (hl : l.length ≤ 1000000) (hn : n ≤ 4) :
    Calls Tryz.prog 99 #[.pointer (some ⟨P, 0, none⟩), .int .i64 n] w (RrP P T r w (.string (rtxt n l)) (rtxR n l)) := by
  have CN := Lib.hid (gnumber_any h n hl hn)
  obtain ⟨k, hk, hk2⟩ := rnum_nat n l hn
  unfold rtxt rtxR
  rw [hk, Int.toNat_natCast]
  rw [hk] at CN
  have CT := Lib.hid (fun W (hh : Rr P T r W (l.drop n)) => gtake_any hh k (by rw [List.length_drop]; omega) (by omega))
  generalize mk ((l.drop n).take k) = Q at CT ⊢
  generalize (l.drop n).drop k = m at CT ⊢
  generalize l.drop n = m1 at CT CN
  clear h hl hk
  go_enter Tryz.func99, Tryz.ntmps99
  go_wp2_with fail
  refine CN.out.mono ?_
  rintro e w1 ⟨rfl, ha, hb⟩
  have HA := Lib.hid ha
  have HB := Lib.hid hb
  clear ha hb CN
  go_wp2_with fail
  refine (CT.out _ HB.out).mono ?_
  rintro e w2 ⟨rfl, ha, hb⟩
  have HA2 := Lib.hid (HA.out.trans (ha.mono HA.out.size))
  have HB2 := Lib.hid hb
  clear ha hb CT
  go_wp2_with fail
  go_ret
  exact ⟨rfl, HA2.out, HB2.out⟩
theorem pre_any (s t : ByteArray) (w : World) : Calls Tryz.prog 123 #[.string s, .string t] w fun e w' => e = .returned (.bool (t.data.toList.isPrefixOf s.data.toList)) ∧ w' = w :=
  Any.strings_HasPrefix Tryz.lays99 s t w
theorem gvalue_any (h : Rr P T r w l) (k : Nat) (hl : l.length ≤ 1000000) (hk : k ≤ 65535) :
    Calls Tryz.prog 114 #[.pointer (some ⟨P, 0, none⟩), .int .i64 k] w (RrP P T r w (.tuple #[.string (rval k l), .bool (hasV k l)]) (rvlR k l)) := by
  have H := Lib.hid h
  have CI := Lib.hid (fun W => int_any k 2 W)
  have hsz : (intS k 2).size = 2 := Q.intS_size2 (Q.two_iff.2 ⟨by omega, by omega⟩)
  have CP := Lib.hid (fun W => pre_any (mk l) (intS k 2) W)
  rw [mk_list] at CP
  have CT := Lib.hid (fun W (hh : Rr P T r W l) => gtake_any hh 2 hl (by omega))
  have CX := Lib.hid (fun W (hh : Rr P T r W (l.drop 2)) => gtext_any hh 2 (by rw [List.length_drop]; omega) (by decide))
  have e0 : hasV k l = (intS k 2).data.toList.isPrefixOf l := rfl
  unfold rval rvlR
  rw [e0]
  generalize intE k 2 = E at CI
  generalize rtxt 2 (l.drop 2) = V at CX ⊢
  generalize rtxR 2 (l.drop 2) = m at CX ⊢
  generalize mk (l.take 2) = Q1 at CT
  generalize l.drop 2 = m1 at CT CX
  generalize (intS k 2).data.toList.isPrefixOf l = b at CP ⊢
  generalize intS k 2 = D at CI CP hsz
  clear h e0
  cases b
  · rw [if_neg (by decide), if_neg (by decide)]
    go_enter Tryz.func114, Tryz.ntmps114
    go_wp2_with fail
    refine (CI.out _).mono ?_
    rintro e w1 ⟨rfl, hb⟩
    have HB := Lib.hid hb
    have HW := Lib.hid (H.out.below hb)
    have c0 := HW.out.cell
    clear hb
    go_wp2_with fail
    refine (CP.out _).mono ?_
    rintro e w2 ⟨rfl, hx⟩
    subst hx
    go_wp2_with fail
    go_ret2
    exact ⟨rfl, (Bt.refl _ _ _).below HB.out (Nat.le_refl _), HW.out⟩
  · rw [if_pos rfl, if_pos rfl]
    go_enter Tryz.func114, Tryz.ntmps114
    go_wp2_with fail
    refine (CI.out _).mono ?_
    rintro e w1 ⟨rfl, hb⟩
    have HB := Lib.hid hb
    have HW := Lib.hid (H.out.below hb)
    have c0 := HW.out.cell
    clear hb
    go_wp2_with fail
    refine (CP.out _).mono ?_
    rintro e w2 ⟨rfl, hx⟩
    subst hx
    clear c0
    go_wp2_with fail
    refine (CT.out _ HW.out).mono ?_
    rintro e w3 ⟨rfl, ha, hb⟩
    have HA := Lib.hid (((Bt.refl w.heap.size P w).below HB.out (Nat.le_refl _)).trans (ha.mono HB.out.size))
    have HW2 := Lib.hid hb
    clear ha hb
    go_wp2_with fail
    refine (CX.out _ HW2.out).mono ?_
    rintro e w4 ⟨rfl, ha, hb⟩
    have HA2 := Lib.hid (HA.out.trans (ha.mono HA.out.size))
    have HW3 := Lib.hid hb
    clear ha hb
    go_wp2_with fail
    go_ret2
    exact ⟨rfl, HA2.out, HW3.out⟩
theorem gvtext_any (h : Rr P T r w l) (k : Nat) (hl : l.length ≤ 1000000) (hk : k ≤ 65535) :
    Calls Tryz.prog 97 #[.pointer (some ⟨P, 0, none⟩), .int .i64 k] w (RrP P T r w (.string (rval k l)) (rvlR k l)) := by
  have CT := Lib.hid (gvalue_any h k hl hk)
  generalize rval k l = V at CT ⊢
  generalize rvlR k l = m at CT ⊢
  generalize hasV k l = b at CT
  clear h hl
  go_enter Tryz.func97, Tryz.ntmps97
  go_wp2_with fail
  refine CT.out.mono ?_
  rintro e w1 ⟨rfl, ha, hb⟩
  have HA := Lib.hid ha
  have HB := Lib.hid hb
  clear ha hb CT
  go_wp2_with fail
  go_ret
  exact ⟨rfl, HA.out, HB.out⟩
theorem gvnum_any (h : Rr P T r w l) (k : Nat) (hl : l.length ≤ 1000000) (hk : k ≤ 65535) :
    Calls Tryz.prog 98 #[.pointer (some ⟨P, 0, none⟩), .int .i64 k] w (RrP P T r w (.int .i64 (numV (rval k l))) (rvlR k l)) := by
  have CT := Lib.hid (gvtext_any h k hl hk)
  have CN := Lib.hid (fun W => num_any (rval k l) W)
  generalize numV (rval k l) = N1 at CN ⊢
  generalize numE (rval k l) = E1 at CN
  generalize rval k l = V at CT CN
  generalize rvlR k l = m at CT ⊢
  clear h hl
  go_enter Tryz.func98, Tryz.ntmps98
  go_wp2_with fail
  refine CT.out.mono ?_
  rintro e w1 ⟨rfl, ha, hb⟩
  have HA := Lib.hid ha
  have HB := Lib.hid hb
  clear ha hb CT
  go_wp2_with fail
  refine (CN.out _).mono ?_
  rintro e w2 ⟨rfl, hx⟩
  have hx := hx.symm
  subst hx
  go_wp2_with fail
  go_ret
  exact ⟨rfl, HA.out, HB.out⟩
end
end Go.Proofs.YtiodjaeonoheiaaGreatDoor.T
namespace Go.Proofs.YtiodjaeonoheiaaGreatDoor.T
open Go.RowKit Go.Lib
def cdsV (l : List Int) : List Value := l.map fun c => .int .i64 c
theorem cell_al {w : World} {p : Addr} {v : Value} (h : w.cell? p = some v) (o : Obj) : (w.alloc o).cell? p = some v := by
  have hlt := World.block_lt_of_cell? _ _ h
  exact (((Below.refl _ w).alloc (Nat.le_refl _) o).cell hlt).trans h
theorem rdCds_two : ∀ (f g : Nat) (l : List UInt8), l.length ≤ f → l.length ≤ g → rdCds f l = rdCds g l
  | 0, g, l, h, _ => by
    obtain rfl : l = [] := List.length_eq_zero_iff.1 (by omega)
    cases g <;> simp [rdCds]
  | f + 1, 0, l, _, h => by
    obtain rfl : l = [] := List.length_eq_zero_iff.1 (by omega)
    simp [rdCds]
  | f + 1, g + 1, l, h, k => by
    unfold rdCds
    by_cases e : l = []
    · rw [if_pos e, if_pos e]
    · have : l.length ≠ 0 := fun c => e (List.length_eq_zero_iff.1 c)
      rw [if_neg e, if_neg e, rdCds_two f g (l.drop 2) (by rw [List.length_drop]; omega) (by rw [List.length_drop]; omega)]
theorem rdCds_nil : rdCds ([] : List UInt8).length [] = [] := rfl
theorem rdCds_next {m : List UInt8} (h : m ≠ []) : rdCds m.length m = rnum 2 m :: rdCds (m.drop 2).length (m.drop 2) := by
  obtain ⟨c, t, rfl⟩ := List.exists_cons_of_ne_nil h
  show rdCds (t.length + 1) (c :: t) = _
  rw [rdCds, if_neg h, rdCds_two t.length _ ((c :: t).drop 2) (by rw [List.length_drop, List.length_cons]; omega) (Nat.le_refl _)]
theorem ne_mk {m : List UInt8} (h : m ≠ []) : (mk m).toList.isEmpty = false := By.nonempty fun e => h (List.length_eq_zero_iff.1 (by rwa [mk_size] at e))
section
variable {N P : Nat} {w w' w1 w2 : World} {l m : List UInt8} {k c s e t : Int} {a x d : ByteArray} {o : Bool} {vi vz : Value}
theorem Bt.grown (h : Bt N P w w1) {row : Option Nat} (hg : w1.grownBy w2 row) (hr : ∀ b, row = some b → N ≤ b) (hN : N ≤ w1.heap.size) : Bt N P w w2 :=
  h.trans ⟨hg.os, hg.tape, hg.output, hg.size, fun b hb _ => hg.block b (Nat.lt_of_lt_of_le hb hN) (fun e => by have := hr b e.symm; omega)⟩
theorem Rr.apart {T : TypeId} {r : List Value} (h : Rr P T r w l) {N n z : Nat} {E : TypeId} {v : Value} {xs : List Value} (ho : w.ownsRow N E z v n xs) (hT : T ≠ E) {b : Nat} (hb : v.ownBlock = some b) : b ≠ P := fun q => by
  obtain ⟨_, cur, hc⟩ := own_heap ho hb
  have h2 : w.heap[P]? = _ := h
  rw [q, h2] at hc
  injection hc with hc
  injection hc with _ hc _
  exact hT hc
theorem Rr.cells (h : Rr P 107 (nR k a x d c s e t o vi vz) w l) :
    w.cell? ⟨P, 1, none⟩ = some (.int .i64 k) ∧ w.cell? ⟨P, 2, none⟩ = some (.string a) ∧ w.cell? ⟨P, 3, none⟩ = some (.string x) ∧ w.cell? ⟨P, 4, none⟩ = some (.string d) ∧ w.cell? ⟨P, 5, none⟩ = some (.int .i64 c) ∧ w.cell? ⟨P, 6, none⟩ = some (.int .i64 s) ∧ w.cell? ⟨P, 7, none⟩ = some (.int .i64 e) ∧ w.cell? ⟨P, 8, none⟩ = some (.int .i64 t) ∧ w.cell? ⟨P, 9, none⟩ = some (.bool o) ∧ w.cell? ⟨P, 10, none⟩ = some vi ∧ w.cell? ⟨P, 11, none⟩ = some vz := by
  refine ⟨?_, ?_, ?_, ?_, ?_, ?_, ?_, ?_, ?_, ?_, ?_⟩ <;> (rw [Lib.cell_of_heap h]; rfl)
def CdP (P : Nat) (k : Int) (a x d : ByteArray) (c s e t : Int) (o : Bool) (vi : Value) (l : List UInt8) (w : World) (e' : Ending) (w' : World) : Prop :=
  e' = .returned (.tuple #[]) ∧ Bt w.heap.size P w w' ∧ ∃ az cz, Rr P 107 (nR k a x d c s e t o vi (.slice az (rdCds l.length l).length cz)) w' [] ∧ w'.ownsRow w.heap.size 3 1 (.slice az (rdCds l.length l).length cz) (rdCds l.length l).length (cdsV (rdCds l.length l))
theorem gcodes_any (h : Rr P 107 (nR k a x d c s e t o vi (.slice none 0 0)) w l) (hl : l.length ≤ 1000000) :
    Calls Tryz.prog 103 #[.pointer (some ⟨P, 0, none⟩)] w (CdP P k a x d c s e t o vi l w) := by
  have H := Lib.hid h
  obtain ⟨i0, hi0, hz0, hz1, hz2⟩ := info_parts intInfo
  have HPOST : Hid (∀ W done az cz, rdCds l.length l = done → Bt w.heap.size P w W → Rr P 107 (nR k a x d c s e t o vi (.slice az done.length cz)) W [] → W.ownsRow w.heap.size 3 1 (.slice az done.length cz) done.length (cdsV done) → CdP P k a x d c s e t o vi l w (.returned (.tuple #[])) W) := fun W done az cz e h1 h2 h3 => by
    subst e
    exact ⟨rfl, h1, az, cz, h2, h3⟩
  generalize hq : CdP P k a x d c s e t o vi l w = POST at HPOST ⊢
  clear hq h
  have H0 : Hid (w.ownsRow w.heap.size 3 1 (.slice none 0 0) 0 (cdsV [])) := World.ownsRow_nil _ _ _ _
  have HB0 : Hid (Bt w.heap.size P w w) := Bt.refl _ _ _
  have HLE := Lib.hid hl
  clear hl
  go_enter Tryz.func103, Tryz.ntmps103
  go_wp2_with fail
  go_loopg [2] l.length (fun g _ wr => ∃ (m : List UInt8) (done : List Int) (az : Option Addr) (cz : Nat), g = m.length ∧ Hid (m.length ≤ 1000000 ∧ m.length + done.length ≤ l.length) ∧ Hid (rdCds l.length l = done ++ rdCds m.length m) ∧ Hid (Rr P 107 (nR k a x d c s e t o vi (.slice az done.length cz)) wr m) ∧ Hid (wr.ownsRow w.heap.size 3 1 (.slice az done.length cz) done.length (cdsV done)) ∧ Hid (Bt w.heap.size P w wr))
  case atStart => exact ⟨l, [], none, 0, rfl, ⟨HLE.out, by simp⟩, rfl, H.out, H0.out, HB0.out⟩
  case round =>
    clear H H0 HB0
    obtain ⟨m, done, az, cz, rfl, HM, HE, HR, HO, HB⟩ := hrel
    by_cases hm : m = []
    · subst hm
      have c0 : wr.cell? ⟨P, 0, none⟩ = some (.string ⟨#[]⟩) := HR.out.cell
      have HE2 : Hid (rdCds l.length l = done) := by have := HE.out; rw [rdCds_nil, List.append_nil] at this; exact this
      go_wp2_with fail
      refine bodyPost_end (results_none rfl _ _ _) rfl ?_
      exact HPOST.out _ done az cz HE2.out HB.out HR.out HO.out
    · have c0 := HR.out.cell
      have hne := ne_mk hm
      have HN := Lib.hid (rdCds_next hm)
      have HS := Lib.hid (gshort_any (HR.out.below (Below.refl _ wr).drew) HM.out.1)
      have HLT : Hid ((m.drop 2).length < m.length) := by have : m.length ≠ 0 := fun q => hm (List.length_eq_zero_iff.1 q); show _ < _; rw [List.length_drop]; omega
      generalize rnum 2 m = V at HN HS
      generalize m.drop 2 = m2 at HN HS HLT
      obtain ⟨-, -, -, -, -, -, -, -, -, -, c11⟩ := HR.out.cells
      have hPl := HR.out.lt
      have HNW : Hid (w.heap.size ≤ wr.heap.size) := HB.out.size
      have hdl : done.length ≤ l.length := by have := HM.out.2; omega
      have hll := HLE.out
      clear hm
      go_wp2_with fail
      go_region_law (first
        | (refine step_append_lies _ (by rfl) _ _ _ (by rfl) w.heap.size 3 i0 _ 1 8 Tryz.underlying23 hi0 hz0 hz1 hz2 rfl (by omega) (.slice az done.length cz) done.length (cdsV done) (by rfl) (own_below HO3.out ((Below.refl _ w3).alloc (Nat.le_refl _) _)) ⟨w3.heap.size, 0, none⟩ 1 1 [.int .i64 V] (by rfl) (by rfl) (World.news_of_block (cs := #[.int .i64 V]) (t := 3) (fr := (0, 0)) (heap_alloc_new w3 _)) (by simp [Value.oneCell']) (by omega) (by unfold maxLen; omega) (by omega) ?hb (w3.heap.size + 1) (by simp) ?_; (case hb => (have := HSZ3.out; simp; omega)); intro g cap w4 hown hgrow hat hlt4; have HR4 : Hid (Rr P 107 (nR k a x d c s e t o vi (.slice az done.length cz)) w4 m2) := ((hgrow.block P (by have := HR3.out.lt; simp; omega) (fun q => HR3.out.apart HO3.out (by decide) q.symm rfl)).trans ((Below.heap_alloc _ _ _ HR3.out.lt).trans HR3.out)); have e4 := HR4.out.cells.2.2.2.2.2.2.2.2.2.2; have f4 := HR4.out.free 11)
        | (go_simp; go_at_call 101; (with_reducible refine HS.out.mono ?_); rintro e w3 ⟨rfl, hb3, hr3⟩; have HR3 := Lib.hid hr3; have HO3 : Hid (w3.ownsRow w.heap.size 3 1 (.slice az done.length cz) done.length (cdsV done)) := (own_keep HO.out (fun b hb => hb3.block b (by obtain ⟨_, cur, hc⟩ := own_heap HO.out hb; exact heap_lt hc) (HR.out.apart HO.out (by decide) hb))); have HSZ3 : Hid (w.heap.size ≤ w3.heap.size) := (Nat.le_trans HNW.out hb3.size); have HB3 := Lib.hid (HB.out.trans ((Bt.mono (Bt.trans ((Bt.refl wr.heap.size P wr).below (Below.refl _ wr).drew (Nat.le_refl _)) hb3)) HNW.out)); have e3 := HR3.out.cells.2.2.2.2.2.2.2.2.2.2; have e3b := cell_al e3 (.cells #[.int .i64 V] 3); have p3 := HR3.out.lt))
      all_goals
        have HR5 := Lib.hid (HR4.out.set 10 (.slice (some ⟨g, 0, none⟩) (done.length + 1) cap))
        have HO4 := Lib.hid hown
        have HB5 := Lib.hid (((HB3.out.below ((Below.refl _ w3).alloc (Nat.le_refl _) (.cells #[.int .i64 V] 3)) HSZ3.out).grown hgrow (fun b q => (own_heap HO3.out q).1) (by have := HSZ3.out; simp; omega)).set 11 (.slice (some ⟨g, 0, none⟩) (done.length + 1) cap))
        have HO5 : Hid ((w4.setCell ⟨P, 11, none⟩ (.slice (some ⟨g, 0, none⟩) (done.length + 1) cap)).ownsRow w.heap.size 3 1 (.slice (some ⟨g, 0, none⟩) (done.length + 1) cap) (done.length + 1) (cdsV done ++ [.int .i64 V])) := own_keep HO4.out fun b hb => setCell_other (HR4.out.apart HO4.out (by decide) hb)
        clear c0 hne c11 e3 e3b e4 f4 hown hgrow hat hlt4 hb3 hr3 HR4 HO4
        go_wp2_with fail
        go_roundg m2.length
        case measure => exact HLT.out
        case rel => exact ⟨m2, done ++ [V], some ⟨g, 0, none⟩, cap, rfl, ⟨by have := HLT.out; have := HM.out.1; omega, by have := HM.out.2; have := HLT.out; rw [List.length_append]; simp; omega⟩, by rw [HE.out, HN.out, List.append_assoc]; rfl, by rw [List.length_append]; exact HR5.out, by rw [List.length_append, cdsV, List.map_append]; exact HO5.out, HB5.out⟩
end
end Go.Proofs.YtiodjaeonoheiaaGreatDoor.T
