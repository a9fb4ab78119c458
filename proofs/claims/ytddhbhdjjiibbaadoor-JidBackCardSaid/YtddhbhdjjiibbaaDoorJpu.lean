/- Contracts of jid.Put, by the program and by the document; of num and small. Condition: each text has at most 1048576 bytes. -/
import Derived.Test.YtddhbhdjjiibbaaDoorBld
import Derived.Test.YtddhbhdjjiibbaaDoorJpa
namespace Go.Proofs.YtddhbhdjjiibbaaDoor
open Go.RowKit Go.Lib Go.Shelf Sg Jd

theorem u47 : By.u 47 = 47 := rfl
theorem u64 : By.u 64 = 64 := rfl
/-- An address's text. -/
def putB (n d r : ByteArray) : ByteArray := mk (Jd.put ⟨n.data.toList, d.data.toList, r.data.toList⟩)
theorem putB_eq {n d r : ByteArray} {l : List UInt8} (h : Jd.put ⟨n.data.toList, d.data.toList, r.data.toList⟩ = l) : (⟨l.toArray⟩ : ByteArray) = putB n d r := by rw [← h]; rfl
set_option maxRecDepth 100000 in
set_option maxHeartbeats 4000000 in
theorem put_ee (d : ByteArray) (w : World) (h2 : d.size ≤ 1048576)  :
    Calls Tryd.prog 16 #[.agg #[.string ⟨#[]⟩, .string d, .string ⟨#[]⟩]] w fun e w' => e = .returned (.string ⟨(d.data.toList).toArray⟩) ∧ Below w.heap.size w w' := by
  have hd : d.data.toList.length ≤ 1048576 := by rw [← Lib.size_eq]; exact h2
  have NB := Lib.hid (bd_new (w.alloc (.cells #[.string ⟨#[]⟩, .string d, .string ⟨#[]⟩] 24)))
  have hs0 : (w.alloc (.cells #[.string ⟨#[]⟩, .string d, .string ⟨#[]⟩] 24)).heap.size = w.heap.size + 1 := by simp
  rw [hs0] at NB
  have c0 : ((w.alloc (.cells #[.string ⟨#[]⟩, .string d, .string ⟨#[]⟩] 24)).alloc (.cells #[.pointer none, .slice none 0 0] 49)).cell? ⟨w.heap.size, 0, none⟩ = some (.string ⟨#[]⟩) := by simp
  have c1 : ((w.alloc (.cells #[.string ⟨#[]⟩, .string d, .string ⟨#[]⟩] 24)).alloc (.cells #[.pointer none, .slice none 0 0] 49)).cell? ⟨w.heap.size, 1, none⟩ = some (.string d) := by simp
  have c2 : ((w.alloc (.cells #[.string ⟨#[]⟩, .string d, .string ⟨#[]⟩] 24)).alloc (.cells #[.pointer none, .slice none 0 0] 49)).cell? ⟨w.heap.size, 2, none⟩ = some (.string ⟨#[]⟩) := by simp
  have B0 : Hid (Below w.heap.size w ((w.alloc (.cells #[.string ⟨#[]⟩, .string d, .string ⟨#[]⟩] 24)).alloc (.cells #[.pointer none, .slice none 0 0] 49))) := ((Below.refl _ _).alloc (Nat.le_refl _) _).alloc (by simp) _
  have hz0 : w.heap.size + 1 ≤ ((w.alloc (.cells #[.string ⟨#[]⟩, .string d, .string ⟨#[]⟩] 24)).alloc (.cells #[.pointer none, .slice none 0 0] 49)).heap.size := by simp
  clear hs0
  go_enter Tryd.func16, Tryd.ntmps16
  go_wp2_with fail
  refine (bd_str d _ NB.out (by simp; omega) hz0).mono ?_
  rintro e w1 ⟨rfl, nb1, hb1⟩
  have NB1 := Lib.hid nb1
  have hz1 : w.heap.size + 1 ≤ w1.heap.size := Nat.le_trans hz0 hb1.size
  have B1 : Hid (Below w.heap.size w w1) := B0.out.trans (hb1.mono (Nat.le_succ _))
  have d0 : w1.cell? ⟨w.heap.size, 0, none⟩ = some (.string ⟨#[]⟩) := (hb1.cell (p := ⟨w.heap.size, 0, none⟩) (Nat.lt_succ_self _)).trans c0
  have d1 : w1.cell? ⟨w.heap.size, 1, none⟩ = some (.string d) := (hb1.cell (p := ⟨w.heap.size, 1, none⟩) (Nat.lt_succ_self _)).trans c1
  have d2 : w1.cell? ⟨w.heap.size, 2, none⟩ = some (.string ⟨#[]⟩) := (hb1.cell (p := ⟨w.heap.size, 2, none⟩) (Nat.lt_succ_self _)).trans c2
  clear nb1 hb1 c0 c1 c2
  have c0 := d0
  have c1 := d1
  have c2 := d2
  clear d0 d1 d2
  go_wp2_with fail
  refine (bd_string _ NB1.out hz1).mono ?_
  rintro e w9 ⟨rfl, hb9⟩
  have B9 : Hid (Below w.heap.size w w9) := B1.out.trans (hb9.mono (Nat.le_succ _))
  clear hb9 c0 c1 c2
  go_wp2_with fail
  go_ret
  exact ⟨rfl, B9.out⟩
set_option maxRecDepth 100000 in
set_option maxHeartbeats 4000000 in
theorem put_en (d r : ByteArray) (w : World) (h2 : d.size ≤ 1048576) (h3 : r.size ≤ 1048576) (hr : r.toList.isEmpty = false) :
    Calls Tryd.prog 16 #[.agg #[.string ⟨#[]⟩, .string d, .string r]] w fun e w' => e = .returned (.string ⟨(d.data.toList ++ By.u 47 :: r.data.toList).toArray⟩) ∧ Below w.heap.size w w' := by
  have hd : d.data.toList.length ≤ 1048576 := by rw [← Lib.size_eq]; exact h2
  have NB := Lib.hid (bd_new (w.alloc (.cells #[.string ⟨#[]⟩, .string d, .string r] 24)))
  have hs0 : (w.alloc (.cells #[.string ⟨#[]⟩, .string d, .string r] 24)).heap.size = w.heap.size + 1 := by simp
  rw [hs0] at NB
  have c0 : ((w.alloc (.cells #[.string ⟨#[]⟩, .string d, .string r] 24)).alloc (.cells #[.pointer none, .slice none 0 0] 49)).cell? ⟨w.heap.size, 0, none⟩ = some (.string ⟨#[]⟩) := by simp
  have c1 : ((w.alloc (.cells #[.string ⟨#[]⟩, .string d, .string r] 24)).alloc (.cells #[.pointer none, .slice none 0 0] 49)).cell? ⟨w.heap.size, 1, none⟩ = some (.string d) := by simp
  have c2 : ((w.alloc (.cells #[.string ⟨#[]⟩, .string d, .string r] 24)).alloc (.cells #[.pointer none, .slice none 0 0] 49)).cell? ⟨w.heap.size, 2, none⟩ = some (.string r) := by simp
  have B0 : Hid (Below w.heap.size w ((w.alloc (.cells #[.string ⟨#[]⟩, .string d, .string r] 24)).alloc (.cells #[.pointer none, .slice none 0 0] 49))) := ((Below.refl _ _).alloc (Nat.le_refl _) _).alloc (by simp) _
  have hz0 : w.heap.size + 1 ≤ ((w.alloc (.cells #[.string ⟨#[]⟩, .string d, .string r] 24)).alloc (.cells #[.pointer none, .slice none 0 0] 49)).heap.size := by simp
  clear hs0
  go_enter Tryd.func16, Tryd.ntmps16
  go_wp2_with fail
  refine (bd_str d _ NB.out (by simp; omega) hz0).mono ?_
  rintro e w1 ⟨rfl, nb1, hb1⟩
  have NB1 := Lib.hid nb1
  have hz1 : w.heap.size + 1 ≤ w1.heap.size := Nat.le_trans hz0 hb1.size
  have B1 : Hid (Below w.heap.size w w1) := B0.out.trans (hb1.mono (Nat.le_succ _))
  have d0 : w1.cell? ⟨w.heap.size, 0, none⟩ = some (.string ⟨#[]⟩) := (hb1.cell (p := ⟨w.heap.size, 0, none⟩) (Nat.lt_succ_self _)).trans c0
  have d1 : w1.cell? ⟨w.heap.size, 1, none⟩ = some (.string d) := (hb1.cell (p := ⟨w.heap.size, 1, none⟩) (Nat.lt_succ_self _)).trans c1
  have d2 : w1.cell? ⟨w.heap.size, 2, none⟩ = some (.string r) := (hb1.cell (p := ⟨w.heap.size, 2, none⟩) (Nat.lt_succ_self _)).trans c2
  clear nb1 hb1 c0 c1 c2
  have c0 := d0
  have c1 := d1
  have c2 := d2
  clear d0 d1 d2
  go_wp2_with fail
  refine (bd_write 47 _ (by decide) NB1.out (by simp; omega) hz1).mono ?_
  rintro e w2 ⟨rfl, nb2, hb2⟩
  have NB2 := Lib.hid nb2
  have hz2 : w.heap.size + 1 ≤ w2.heap.size := Nat.le_trans hz1 hb2.size
  have B2 : Hid (Below w.heap.size w w2) := B1.out.trans (hb2.mono (Nat.le_succ _))
  have d0 : w2.cell? ⟨w.heap.size, 0, none⟩ = some (.string ⟨#[]⟩) := (hb2.cell (p := ⟨w.heap.size, 0, none⟩) (Nat.lt_succ_self _)).trans c0
  have d1 : w2.cell? ⟨w.heap.size, 1, none⟩ = some (.string d) := (hb2.cell (p := ⟨w.heap.size, 1, none⟩) (Nat.lt_succ_self _)).trans c1
  have d2 : w2.cell? ⟨w.heap.size, 2, none⟩ = some (.string r) := (hb2.cell (p := ⟨w.heap.size, 2, none⟩) (Nat.lt_succ_self _)).trans c2
  clear nb2 hb2 c0 c1 c2
  have c0 := d0
  have c1 := d1
  have c2 := d2
  clear d0 d1 d2
  go_wp2_with fail
  refine (bd_str r _ NB2.out (by simp; omega) hz2).mono ?_
  rintro e w3 ⟨rfl, nb3, hb3⟩
  have NB3 := Lib.hid nb3
  have hz3 : w.heap.size + 1 ≤ w3.heap.size := Nat.le_trans hz2 hb3.size
  have B3 : Hid (Below w.heap.size w w3) := B2.out.trans (hb3.mono (Nat.le_succ _))
  have d0 : w3.cell? ⟨w.heap.size, 0, none⟩ = some (.string ⟨#[]⟩) := (hb3.cell (p := ⟨w.heap.size, 0, none⟩) (Nat.lt_succ_self _)).trans c0
  have d1 : w3.cell? ⟨w.heap.size, 1, none⟩ = some (.string d) := (hb3.cell (p := ⟨w.heap.size, 1, none⟩) (Nat.lt_succ_self _)).trans c1
  have d2 : w3.cell? ⟨w.heap.size, 2, none⟩ = some (.string r) := (hb3.cell (p := ⟨w.heap.size, 2, none⟩) (Nat.lt_succ_self _)).trans c2
  clear nb3 hb3 c0 c1 c2
  have c0 := d0
  have c1 := d1
  have c2 := d2
  clear d0 d1 d2
  go_wp2_with fail
  refine (bd_string _ NB3.out hz3).mono ?_
  rintro e w9 ⟨rfl, hb9⟩
  have B9 : Hid (Below w.heap.size w w9) := B3.out.trans (hb9.mono (Nat.le_succ _))
  clear hb9 c0 c1 c2
  go_wp2_with fail
  go_ret
  exact ⟨rfl, B9.out⟩
set_option maxRecDepth 100000 in
set_option maxHeartbeats 4000000 in
theorem put_ne (n d : ByteArray) (w : World) (h1 : n.size ≤ 1048576) (hn : n.toList.isEmpty = false) (h2 : d.size ≤ 1048576)  :
    Calls Tryd.prog 16 #[.agg #[.string n, .string d, .string ⟨#[]⟩]] w fun e w' => e = .returned (.string ⟨(n.data.toList ++ By.u 64 :: (d.data.toList)).toArray⟩) ∧ Below w.heap.size w w' := by
  have hd : d.data.toList.length ≤ 1048576 := by rw [← Lib.size_eq]; exact h2
  have hnl : n.data.toList.length ≤ 1048576 := by rw [← Lib.size_eq]; exact h1
  have NB := Lib.hid (bd_new (w.alloc (.cells #[.string n, .string d, .string ⟨#[]⟩] 24)))
  have hs0 : (w.alloc (.cells #[.string n, .string d, .string ⟨#[]⟩] 24)).heap.size = w.heap.size + 1 := by simp
  rw [hs0] at NB
  have c0 : ((w.alloc (.cells #[.string n, .string d, .string ⟨#[]⟩] 24)).alloc (.cells #[.pointer none, .slice none 0 0] 49)).cell? ⟨w.heap.size, 0, none⟩ = some (.string n) := by simp
  have c1 : ((w.alloc (.cells #[.string n, .string d, .string ⟨#[]⟩] 24)).alloc (.cells #[.pointer none, .slice none 0 0] 49)).cell? ⟨w.heap.size, 1, none⟩ = some (.string d) := by simp
  have c2 : ((w.alloc (.cells #[.string n, .string d, .string ⟨#[]⟩] 24)).alloc (.cells #[.pointer none, .slice none 0 0] 49)).cell? ⟨w.heap.size, 2, none⟩ = some (.string ⟨#[]⟩) := by simp
  have B0 : Hid (Below w.heap.size w ((w.alloc (.cells #[.string n, .string d, .string ⟨#[]⟩] 24)).alloc (.cells #[.pointer none, .slice none 0 0] 49))) := ((Below.refl _ _).alloc (Nat.le_refl _) _).alloc (by simp) _
  have hz0 : w.heap.size + 1 ≤ ((w.alloc (.cells #[.string n, .string d, .string ⟨#[]⟩] 24)).alloc (.cells #[.pointer none, .slice none 0 0] 49)).heap.size := by simp
  clear hs0
  go_enter Tryd.func16, Tryd.ntmps16
  go_wp2_with fail
  refine (bd_str n _ NB.out (by simp; omega) hz0).mono ?_
  rintro e w1 ⟨rfl, nb1, hb1⟩
  have NB1 := Lib.hid nb1
  have hz1 : w.heap.size + 1 ≤ w1.heap.size := Nat.le_trans hz0 hb1.size
  have B1 : Hid (Below w.heap.size w w1) := B0.out.trans (hb1.mono (Nat.le_succ _))
  have d0 : w1.cell? ⟨w.heap.size, 0, none⟩ = some (.string n) := (hb1.cell (p := ⟨w.heap.size, 0, none⟩) (Nat.lt_succ_self _)).trans c0
  have d1 : w1.cell? ⟨w.heap.size, 1, none⟩ = some (.string d) := (hb1.cell (p := ⟨w.heap.size, 1, none⟩) (Nat.lt_succ_self _)).trans c1
  have d2 : w1.cell? ⟨w.heap.size, 2, none⟩ = some (.string ⟨#[]⟩) := (hb1.cell (p := ⟨w.heap.size, 2, none⟩) (Nat.lt_succ_self _)).trans c2
  clear nb1 hb1 c0 c1 c2
  have c0 := d0
  have c1 := d1
  have c2 := d2
  clear d0 d1 d2
  go_wp2_with fail
  refine (bd_write 64 _ (by decide) NB1.out (by simp; omega) hz1).mono ?_
  rintro e w2 ⟨rfl, nb2, hb2⟩
  have NB2 := Lib.hid nb2
  have hz2 : w.heap.size + 1 ≤ w2.heap.size := Nat.le_trans hz1 hb2.size
  have B2 : Hid (Below w.heap.size w w2) := B1.out.trans (hb2.mono (Nat.le_succ _))
  have d0 : w2.cell? ⟨w.heap.size, 0, none⟩ = some (.string n) := (hb2.cell (p := ⟨w.heap.size, 0, none⟩) (Nat.lt_succ_self _)).trans c0
  have d1 : w2.cell? ⟨w.heap.size, 1, none⟩ = some (.string d) := (hb2.cell (p := ⟨w.heap.size, 1, none⟩) (Nat.lt_succ_self _)).trans c1
  have d2 : w2.cell? ⟨w.heap.size, 2, none⟩ = some (.string ⟨#[]⟩) := (hb2.cell (p := ⟨w.heap.size, 2, none⟩) (Nat.lt_succ_self _)).trans c2
  clear nb2 hb2 c0 c1 c2
  have c0 := d0
  have c1 := d1
  have c2 := d2
  clear d0 d1 d2
  go_wp2_with fail
  refine (bd_str d _ NB2.out (by simp; omega) hz2).mono ?_
  rintro e w3 ⟨rfl, nb3, hb3⟩
  have NB3 := Lib.hid nb3
  have hz3 : w.heap.size + 1 ≤ w3.heap.size := Nat.le_trans hz2 hb3.size
  have B3 : Hid (Below w.heap.size w w3) := B2.out.trans (hb3.mono (Nat.le_succ _))
  have d0 : w3.cell? ⟨w.heap.size, 0, none⟩ = some (.string n) := (hb3.cell (p := ⟨w.heap.size, 0, none⟩) (Nat.lt_succ_self _)).trans c0
  have d1 : w3.cell? ⟨w.heap.size, 1, none⟩ = some (.string d) := (hb3.cell (p := ⟨w.heap.size, 1, none⟩) (Nat.lt_succ_self _)).trans c1
  have d2 : w3.cell? ⟨w.heap.size, 2, none⟩ = some (.string ⟨#[]⟩) := (hb3.cell (p := ⟨w.heap.size, 2, none⟩) (Nat.lt_succ_self _)).trans c2
  clear nb3 hb3 c0 c1 c2
  have c0 := d0
  have c1 := d1
  have c2 := d2
  clear d0 d1 d2
  go_wp2_with fail
  refine (bd_string _ NB3.out hz3).mono ?_
  rintro e w9 ⟨rfl, hb9⟩
  have B9 : Hid (Below w.heap.size w w9) := B3.out.trans (hb9.mono (Nat.le_succ _))
  clear hb9 c0 c1 c2
  go_wp2_with fail
  go_ret
  exact ⟨rfl, B9.out⟩
set_option maxRecDepth 100000 in
set_option maxHeartbeats 4000000 in
theorem put_nn (n d r : ByteArray) (w : World) (h1 : n.size ≤ 1048576) (hn : n.toList.isEmpty = false) (h2 : d.size ≤ 1048576) (h3 : r.size ≤ 1048576) (hr : r.toList.isEmpty = false) :
    Calls Tryd.prog 16 #[.agg #[.string n, .string d, .string r]] w fun e w' => e = .returned (.string ⟨(n.data.toList ++ By.u 64 :: (d.data.toList ++ By.u 47 :: r.data.toList)).toArray⟩) ∧ Below w.heap.size w w' := by
  have hd : d.data.toList.length ≤ 1048576 := by rw [← Lib.size_eq]; exact h2
  have hnl : n.data.toList.length ≤ 1048576 := by rw [← Lib.size_eq]; exact h1
  have NB := Lib.hid (bd_new (w.alloc (.cells #[.string n, .string d, .string r] 24)))
  have hs0 : (w.alloc (.cells #[.string n, .string d, .string r] 24)).heap.size = w.heap.size + 1 := by simp
  rw [hs0] at NB
  have c0 : ((w.alloc (.cells #[.string n, .string d, .string r] 24)).alloc (.cells #[.pointer none, .slice none 0 0] 49)).cell? ⟨w.heap.size, 0, none⟩ = some (.string n) := by simp
  have c1 : ((w.alloc (.cells #[.string n, .string d, .string r] 24)).alloc (.cells #[.pointer none, .slice none 0 0] 49)).cell? ⟨w.heap.size, 1, none⟩ = some (.string d) := by simp
  have c2 : ((w.alloc (.cells #[.string n, .string d, .string r] 24)).alloc (.cells #[.pointer none, .slice none 0 0] 49)).cell? ⟨w.heap.size, 2, none⟩ = some (.string r) := by simp
  have B0 : Hid (Below w.heap.size w ((w.alloc (.cells #[.string n, .string d, .string r] 24)).alloc (.cells #[.pointer none, .slice none 0 0] 49))) := ((Below.refl _ _).alloc (Nat.le_refl _) _).alloc (by simp) _
  have hz0 : w.heap.size + 1 ≤ ((w.alloc (.cells #[.string n, .string d, .string r] 24)).alloc (.cells #[.pointer none, .slice none 0 0] 49)).heap.size := by simp
  clear hs0
  go_enter Tryd.func16, Tryd.ntmps16
  go_wp2_with fail
  refine (bd_str n _ NB.out (by simp; omega) hz0).mono ?_
  rintro e w1 ⟨rfl, nb1, hb1⟩
  have NB1 := Lib.hid nb1
  have hz1 : w.heap.size + 1 ≤ w1.heap.size := Nat.le_trans hz0 hb1.size
  have B1 : Hid (Below w.heap.size w w1) := B0.out.trans (hb1.mono (Nat.le_succ _))
  have d0 : w1.cell? ⟨w.heap.size, 0, none⟩ = some (.string n) := (hb1.cell (p := ⟨w.heap.size, 0, none⟩) (Nat.lt_succ_self _)).trans c0
  have d1 : w1.cell? ⟨w.heap.size, 1, none⟩ = some (.string d) := (hb1.cell (p := ⟨w.heap.size, 1, none⟩) (Nat.lt_succ_self _)).trans c1
  have d2 : w1.cell? ⟨w.heap.size, 2, none⟩ = some (.string r) := (hb1.cell (p := ⟨w.heap.size, 2, none⟩) (Nat.lt_succ_self _)).trans c2
  clear nb1 hb1 c0 c1 c2
  have c0 := d0
  have c1 := d1
  have c2 := d2
  clear d0 d1 d2
  go_wp2_with fail
  refine (bd_write 64 _ (by decide) NB1.out (by simp; omega) hz1).mono ?_
  rintro e w2 ⟨rfl, nb2, hb2⟩
  have NB2 := Lib.hid nb2
  have hz2 : w.heap.size + 1 ≤ w2.heap.size := Nat.le_trans hz1 hb2.size
  have B2 : Hid (Below w.heap.size w w2) := B1.out.trans (hb2.mono (Nat.le_succ _))
  have d0 : w2.cell? ⟨w.heap.size, 0, none⟩ = some (.string n) := (hb2.cell (p := ⟨w.heap.size, 0, none⟩) (Nat.lt_succ_self _)).trans c0
  have d1 : w2.cell? ⟨w.heap.size, 1, none⟩ = some (.string d) := (hb2.cell (p := ⟨w.heap.size, 1, none⟩) (Nat.lt_succ_self _)).trans c1
  have d2 : w2.cell? ⟨w.heap.size, 2, none⟩ = some (.string r) := (hb2.cell (p := ⟨w.heap.size, 2, none⟩) (Nat.lt_succ_self _)).trans c2
  clear nb2 hb2 c0 c1 c2
  have c0 := d0
  have c1 := d1
  have c2 := d2
  clear d0 d1 d2
  go_wp2_with fail
  refine (bd_str d _ NB2.out (by simp; omega) hz2).mono ?_
  rintro e w3 ⟨rfl, nb3, hb3⟩
  have NB3 := Lib.hid nb3
  have hz3 : w.heap.size + 1 ≤ w3.heap.size := Nat.le_trans hz2 hb3.size
  have B3 : Hid (Below w.heap.size w w3) := B2.out.trans (hb3.mono (Nat.le_succ _))
  have d0 : w3.cell? ⟨w.heap.size, 0, none⟩ = some (.string n) := (hb3.cell (p := ⟨w.heap.size, 0, none⟩) (Nat.lt_succ_self _)).trans c0
  have d1 : w3.cell? ⟨w.heap.size, 1, none⟩ = some (.string d) := (hb3.cell (p := ⟨w.heap.size, 1, none⟩) (Nat.lt_succ_self _)).trans c1
  have d2 : w3.cell? ⟨w.heap.size, 2, none⟩ = some (.string r) := (hb3.cell (p := ⟨w.heap.size, 2, none⟩) (Nat.lt_succ_self _)).trans c2
  clear nb3 hb3 c0 c1 c2
  have c0 := d0
  have c1 := d1
  have c2 := d2
  clear d0 d1 d2
  go_wp2_with fail
  refine (bd_write 47 _ (by decide) NB3.out (by simp; omega) hz3).mono ?_
  rintro e w4 ⟨rfl, nb4, hb4⟩
  have NB4 := Lib.hid nb4
  have hz4 : w.heap.size + 1 ≤ w4.heap.size := Nat.le_trans hz3 hb4.size
  have B4 : Hid (Below w.heap.size w w4) := B3.out.trans (hb4.mono (Nat.le_succ _))
  have d0 : w4.cell? ⟨w.heap.size, 0, none⟩ = some (.string n) := (hb4.cell (p := ⟨w.heap.size, 0, none⟩) (Nat.lt_succ_self _)).trans c0
  have d1 : w4.cell? ⟨w.heap.size, 1, none⟩ = some (.string d) := (hb4.cell (p := ⟨w.heap.size, 1, none⟩) (Nat.lt_succ_self _)).trans c1
  have d2 : w4.cell? ⟨w.heap.size, 2, none⟩ = some (.string r) := (hb4.cell (p := ⟨w.heap.size, 2, none⟩) (Nat.lt_succ_self _)).trans c2
  clear nb4 hb4 c0 c1 c2
  have c0 := d0
  have c1 := d1
  have c2 := d2
  clear d0 d1 d2
  go_wp2_with fail
  refine (bd_str r _ NB4.out (by simp; omega) hz4).mono ?_
  rintro e w5 ⟨rfl, nb5, hb5⟩
  have NB5 := Lib.hid nb5
  have hz5 : w.heap.size + 1 ≤ w5.heap.size := Nat.le_trans hz4 hb5.size
  have B5 : Hid (Below w.heap.size w w5) := B4.out.trans (hb5.mono (Nat.le_succ _))
  have d0 : w5.cell? ⟨w.heap.size, 0, none⟩ = some (.string n) := (hb5.cell (p := ⟨w.heap.size, 0, none⟩) (Nat.lt_succ_self _)).trans c0
  have d1 : w5.cell? ⟨w.heap.size, 1, none⟩ = some (.string d) := (hb5.cell (p := ⟨w.heap.size, 1, none⟩) (Nat.lt_succ_self _)).trans c1
  have d2 : w5.cell? ⟨w.heap.size, 2, none⟩ = some (.string r) := (hb5.cell (p := ⟨w.heap.size, 2, none⟩) (Nat.lt_succ_self _)).trans c2
  clear nb5 hb5 c0 c1 c2
  have c0 := d0
  have c1 := d1
  have c2 := d2
  clear d0 d1 d2
  go_wp2_with fail
  refine (bd_string _ NB5.out hz5).mono ?_
  rintro e w9 ⟨rfl, hb9⟩
  have B9 : Hid (Below w.heap.size w w9) := B5.out.trans (hb9.mono (Nat.le_succ _))
  clear hb9 c0 c1 c2
  go_wp2_with fail
  go_ret
  exact ⟨rfl, B9.out⟩
theorem put_any (n d r : ByteArray) (w : World) (h1 : n.size ≤ 1048576) (h2 : d.size ≤ 1048576) (h3 : r.size ≤ 1048576) :
    Calls Tryd.prog 16 #[.agg #[.string n, .string d, .string r]] w fun e w' => e = .returned (.string (putB n d r)) ∧ Below w.heap.size w w' := by
  by_cases hn : n.data.toList = []
  · obtain rfl := empty_list hn
    by_cases hr : r.data.toList = []
    · obtain rfl := empty_list hr
      have e1 := putB_eq (n := ⟨#[]⟩) (d := d) (r := ⟨#[]⟩) (l := d.data.toList) (by simp [Jd.put])
      exact (put_ee d w h2).mono fun e w' ⟨he, hb⟩ => ⟨by rw [he, e1], hb⟩
    · have e1 := putB_eq (n := ⟨#[]⟩) (d := d) (r := r) (l := d.data.toList ++ By.u 47 :: r.data.toList) (by simp [Jd.put, hr, u47])
      exact (put_en d r w h2 h3 (nonempty hr)).mono fun e w' ⟨he, hb⟩ => ⟨by rw [he, e1], hb⟩
  · by_cases hr : r.data.toList = []
    · obtain rfl := empty_list hr
      have e1 := putB_eq (n := n) (d := d) (r := ⟨#[]⟩) (l := n.data.toList ++ By.u 64 :: (d.data.toList)) (by simp [Jd.put, hn, u64])
      exact (put_ne n d w h1 (nonempty hn) h2).mono fun e w' ⟨he, hb⟩ => ⟨by rw [he, e1], hb⟩
    · have e1 := putB_eq (n := n) (d := d) (r := r) (l := n.data.toList ++ By.u 64 :: (d.data.toList ++ By.u 47 :: r.data.toList)) (by simp [Jd.put, hn, hr, u47, u64])
      exact (put_nn n d r w h1 (nonempty hn) h2 h3 (nonempty hr)).mono fun e w' ⟨he, hb⟩ => ⟨by rw [he, e1], hb⟩
end Go.Proofs.YtddhbhdjjiibbaaDoor
