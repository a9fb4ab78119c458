/- The contracts of payload.entryOf and payload.Entries on what a roster of entries that may be has. Conditions: an Act of the three, an address that may be, texts of at most 1048576 bytes, at most 900 entries. -/
import Derived.Test.YtlklmoohoobjjaaGreatDoorPn
import Derived.Test.YtlklmoohoobjjaaGreatDoorPe
namespace Go.Proofs.YtlklmoohoobjjaaGreatDoor
open Go.RowKit Go.Lib Go.Shelf Tg

theorem emp_of {s : ByteArray} (h : s.toList.isEmpty = true) : s = ⟨#[]⟩ := by
  have h2 : s.toList = [] := List.isEmpty_iff.1 h
  rw [ByteArray.toList_eq] at h2
  exact ByteArray.ext (Array.toList_inj.1 h2)
theorem itemA_at (k : Int) (j nm : ByteArray) : attrV (itemA k j nm) ⟨#[97, 99, 116, 105, 111, 110]⟩ = actB k ∧ attrV (itemA k j nm) ⟨#[106, 105, 100]⟩ = j ∧ attrV (itemA k j nm) ⟨#[110, 97, 109, 101]⟩ = nm := by
  have d1 : ((⟨#[97, 99, 116, 105, 111, 110]⟩ : ByteArray).toList == (⟨#[106, 105, 100]⟩ : ByteArray).toList) = false := by rw [ByteArray.toList_eq, ByteArray.toList_eq]; decide
  have d2 : ((⟨#[97, 99, 116, 105, 111, 110]⟩ : ByteArray).toList == (⟨#[110, 97, 109, 101]⟩ : ByteArray).toList) = false := by rw [ByteArray.toList_eq, ByteArray.toList_eq]; decide
  have d3 : ((⟨#[106, 105, 100]⟩ : ByteArray).toList == (⟨#[110, 97, 109, 101]⟩ : ByteArray).toList) = false := by rw [ByteArray.toList_eq, ByteArray.toList_eq]; decide
  have d4 : ((⟨#[106, 105, 100]⟩ : ByteArray).toList == (⟨#[97, 99, 116, 105, 111, 110]⟩ : ByteArray).toList) = false := by rw [ByteArray.toList_eq, ByteArray.toList_eq]; decide
  have d5 : ((⟨#[110, 97, 109, 101]⟩ : ByteArray).toList == (⟨#[97, 99, 116, 105, 111, 110]⟩ : ByteArray).toList) = false := by rw [ByteArray.toList_eq, ByteArray.toList_eq]; decide
  have d6 : ((⟨#[110, 97, 109, 101]⟩ : ByteArray).toList == (⟨#[106, 105, 100]⟩ : ByteArray).toList) = false := by rw [ByteArray.toList_eq, ByteArray.toList_eq]; decide
  have d7 : ((⟨#[97, 99, 116, 105, 111, 110]⟩ : ByteArray).toList == (⟨#[97, 99, 116, 105, 111, 110]⟩ : ByteArray).toList) = true := by simp
  have d8 : ((⟨#[106, 105, 100]⟩ : ByteArray).toList == (⟨#[106, 105, 100]⟩ : ByteArray).toList) = true := by simp
  have d9 : ((⟨#[110, 97, 109, 101]⟩ : ByteArray).toList == (⟨#[110, 97, 109, 101]⟩ : ByteArray).toList) = true := by simp
  unfold itemA
  simp only [newA]
  by_cases h1 : (actB k).toList.isEmpty = true <;> by_cases h2 : j.toList.isEmpty = true <;> by_cases h3 : nm.toList.isEmpty = true <;> simp only [h1, h2, h3, if_true, if_false, attrV, d1, d2, d3, d4, d5, d6, d7, d8, d9, Bool.false_eq_true] <;> refine ⟨?_, ?_, ?_⟩ <;> first | trivial | rfl | exact (emp_of h1).symm | exact (emp_of h2).symm | exact (emp_of h3).symm
def grpK (g : ByteArray) : List El := if g = ⟨#[]⟩ then [] else [lf ⟨#[103, 114, 111, 117, 112]⟩ g].map (reS sRos)
theorem grpK_tx (g : ByteArray) : kidTx (grpK g) ⟨#[104, 116, 116, 112, 58, 47, 47, 106, 97, 98, 98, 101, 114, 46, 111, 114, 103, 47, 112, 114, 111, 116, 111, 99, 111, 108, 47, 114, 111, 115, 116, 101, 114, 120]⟩ ⟨#[103, 114, 111, 117, 112]⟩ = g := by
  unfold grpK
  by_cases h : g = ⟨#[]⟩
  · rw [if_pos h, h]; rfl
  · rw [if_neg h]; simp [kidTx, kidF, reS, sRos, El.sp, El.nm, El.tx]
theorem grpK_len (g : ByteArray) : (grpK g).length ≤ 1 := by
  unfold grpK
  split
  · exact Nat.zero_le _
  · exact Nat.le_refl _
/-- May the entry be? -/
def En.Is (e : En) : Prop := 1 ≤ e.k ∧ e.k ≤ 3 ∧ Jd.Ok ⟨e.n.data.toList, e.d.data.toList, e.r.data.toList⟩
theorem parse_put (n d r : ByteArray) (w : World) (hp : (Jn.putB n d r).size ≤ 1048576) (h : Jd.Ok ⟨n.data.toList, d.data.toList, r.data.toList⟩) :
    Calls Tryz.prog 58 #[.string (Jn.putB n d r)] w fun e w' => e = .returned (.tuple #[.agg #[.string n, .string d, .string r], .int .i64 0]) ∧ Below w.heap.size w w' := by
  have q := Jn.parse_any (Jn.putB n d r) w hp
  have e1 : (Jn.putB n d r).data.toList = Jd.put ⟨n.data.toList, d.data.toList, r.data.toList⟩ := by unfold Jn.putB; rw [Jn.mk_list]
  rw [e1, Jd.ps_put h] at q
  have e2 : Jn.pj (some ⟨n.data.toList, d.data.toList, r.data.toList⟩) = .tuple #[.agg #[.string n, .string d, .string r], .int .i64 0] := by
    unfold Jn.pj Jn.bj
    simp only [Jn.mk_of]
  rw [e2] at q
  exact q
set_option maxRecDepth 100000 in
set_option maxHeartbeats 8000000 in
theorem entryOf_yes (k : Int) (n d r nm g : ByteArray) (aA aK : Option Addr) (cA cK B : Nat) (w : World) (hA : AtIn B w aA (itemA k (Jn.putB n d r) nm)) (hK : KsIn B w aK (grpK g)) (hB : B ≤ w.heap.size) (hz : En.Sz ⟨k, n, d, r, nm, g⟩) (hi : En.Is ⟨k, n, d, r, nm, g⟩) :
    Calls Tryz.prog 46 #[.agg #[.string ⟨#[104, 116, 116, 112, 58, 47, 47, 106, 97, 98, 98, 101, 114, 46, 111, 114, 103, 47, 112, 114, 111, 116, 111, 99, 111, 108, 47, 114, 111, 115, 116, 101, 114, 120]⟩, .string ⟨#[105, 116, 101, 109]⟩, .slice aA (itemA k (Jn.putB n d r) nm).length cA, .string ⟨#[]⟩, .slice aK (grpK g).length cK]] w fun e w' => e = .returned (.tuple #[.agg #[.int .i64 k, .string n, .string d, .string r, .string nm, .string g], .bool true]) ∧ Below w.heap.size w w' := by
  obtain ⟨z1, z2, z3, z4, z5, z6⟩ := hz
  obtain ⟨i1, i2, i3⟩ := hi
  simp only at z1 z2 z3 z4 z5 z6 i1 i2 i3
  obtain ⟨a1, a2, a3⟩ := itemA_at k (Jn.putB n d r) nm
  have hal : (itemA k (Jn.putB n d r) nm).length ≤ 6 := newA_len _
  have has : ∀ a ∈ itemA k (Jn.putB n d r) nm, a.2.size ≤ 1048576 := fun a ha => by
    have := (newA_mem ha).2
    exact sz6 (by decide) (by have := actB_size k; omega) (by decide) z4 (by decide) z5 _ this
  have CJ : Hid (∀ (N J : ByteArray) (W : World), attrV (itemA k (Jn.putB n d r) nm) N = J → Below w.heap.size w W → Calls Tryz.prog 59 #[.agg #[.string ⟨#[104, 116, 116, 112, 58, 47, 47, 106, 97, 98, 98, 101, 114, 46, 111, 114, 103, 47, 112, 114, 111, 116, 111, 99, 111, 108, 47, 114, 111, 115, 116, 101, 114, 120]⟩, .string ⟨#[105, 116, 101, 109]⟩, .slice aA (itemA k (Jn.putB n d r) nm).length cA, .string ⟨#[]⟩, .slice aK (grpK g).length cK], .string N] W fun r w' => r = .returned (.string J) ∧ Below W.heap.size W w') := by
    intro N J W hJ hb
    have q := tAttr_any ⟨#[104, 116, 116, 112, 58, 47, 47, 106, 97, 98, 98, 101, 114, 46, 111, 114, 103, 47, 112, 114, 111, 116, 111, 99, 111, 108, 47, 114, 111, 115, 116, 101, 114, 120]⟩ ⟨#[105, 116, 101, 109]⟩ ⟨#[]⟩ N (itemA k (Jn.putB n d r) nm) aA aK cA (grpK g).length cK B W (hA.below (hb.mono hB)) (Nat.le_trans hB hb.size) (by unfold maxLen; omega) has
    rw [hJ] at q
    exact q
  have CG : Hid (∀ (W : World), Below w.heap.size w W → Calls Tryz.prog 56 #[.agg #[.string ⟨#[104, 116, 116, 112, 58, 47, 47, 106, 97, 98, 98, 101, 114, 46, 111, 114, 103, 47, 112, 114, 111, 116, 111, 99, 111, 108, 47, 114, 111, 115, 116, 101, 114, 120]⟩, .string ⟨#[105, 116, 101, 109]⟩, .slice aA (itemA k (Jn.putB n d r) nm).length cA, .string ⟨#[]⟩, .slice aK (grpK g).length cK], .string ⟨#[103, 114, 111, 117, 112]⟩] W fun r w' => r = .returned (.string g) ∧ Below W.heap.size W w') := by
    intro W hb
    have hg := grpK_len g
    have q := text_any ⟨#[104, 116, 116, 112, 58, 47, 47, 106, 97, 98, 98, 101, 114, 46, 111, 114, 103, 47, 112, 114, 111, 116, 111, 99, 111, 108, 47, 114, 111, 115, 116, 101, 114, 120]⟩ ⟨#[105, 116, 101, 109]⟩ ⟨#[]⟩ ⟨#[103, 114, 111, 117, 112]⟩ (grpK g) aA aK (itemA k (Jn.putB n d r) nm).length cA cK B W (hK.below (hb.mono hB)) (Nat.le_trans hB hb.size) (by omega) (by rw [grpK_tx]; exact z6)
    rw [grpK_tx] at q
    exact q
  have CP := Lib.hid (fun (W : World) => parse_put n d r W z4 i3)
  have CO := Lib.hid (fun (W : World) => actOf_yes k W i1 i2)
  have A1 := Lib.hid a1
  have A2 := Lib.hid a2
  have A3 := Lib.hid a3
  clear hA hK hB a1 a2 a3 hal has i3
  generalize itemA k (Jn.putB n d r) nm = na at CJ CG A1 A2 A3 ⊢
  generalize grpK g = kk at CJ CG ⊢
  have HB0 : Hid (Below w.heap.size w ((w.alloc (.cells #[.string ⟨#[104, 116, 116, 112, 58, 47, 47, 106, 97, 98, 98, 101, 114, 46, 111, 114, 103, 47, 112, 114, 111, 116, 111, 99, 111, 108, 47, 114, 111, 115, 116, 101, 114, 120]⟩, .string ⟨#[105, 116, 101, 109]⟩, .slice aA na.length cA, .string ⟨#[]⟩, .slice aK kk.length cK] 30)).alloc (.cells #[.int .i64 0, .string ⟨#[]⟩, .string ⟨#[]⟩, .string ⟨#[]⟩, .string ⟨#[]⟩, .string ⟨#[]⟩] 48))) := ((Below.refl _ w).alloc (Nat.le_refl _) _).alloc (by simp) _
  have HE0 : Hid (((w.alloc (.cells #[.string ⟨#[104, 116, 116, 112, 58, 47, 47, 106, 97, 98, 98, 101, 114, 46, 111, 114, 103, 47, 112, 114, 111, 116, 111, 99, 111, 108, 47, 114, 111, 115, 116, 101, 114, 120]⟩, .string ⟨#[105, 116, 101, 109]⟩, .slice aA na.length cA, .string ⟨#[]⟩, .slice aK kk.length cK] 30)).alloc (.cells #[.int .i64 0, .string ⟨#[]⟩, .string ⟨#[]⟩, .string ⟨#[]⟩, .string ⟨#[]⟩, .string ⟨#[]⟩] 48)).heap[w.heap.size]? = some (.cells #[.string ⟨#[104, 116, 116, 112, 58, 47, 47, 106, 97, 98, 98, 101, 114, 46, 111, 114, 103, 47, 112, 114, 111, 116, 111, 99, 111, 108, 47, 114, 111, 115, 116, 101, 114, 120]⟩, .string ⟨#[105, 116, 101, 109]⟩, .slice aA na.length cA, .string ⟨#[]⟩, .slice aK kk.length cK] 30 (0, 0))) := (Below.heap_alloc _ _ _ (by simp)).trans (box_new w _ _)
  have HR0 : Hid (((w.alloc (.cells #[.string ⟨#[104, 116, 116, 112, 58, 47, 47, 106, 97, 98, 98, 101, 114, 46, 111, 114, 103, 47, 112, 114, 111, 116, 111, 99, 111, 108, 47, 114, 111, 115, 116, 101, 114, 120]⟩, .string ⟨#[105, 116, 101, 109]⟩, .slice aA na.length cA, .string ⟨#[]⟩, .slice aK kk.length cK] 30)).alloc (.cells #[.int .i64 0, .string ⟨#[]⟩, .string ⟨#[]⟩, .string ⟨#[]⟩, .string ⟨#[]⟩, .string ⟨#[]⟩] 48)).heap[w.heap.size + 1]? = some (.cells #[.int .i64 0, .string ⟨#[]⟩, .string ⟨#[]⟩, .string ⟨#[]⟩, .string ⟨#[]⟩, .string ⟨#[]⟩] 48 (0, 0))) := by
    have := box_new (w.alloc (.cells #[.string ⟨#[104, 116, 116, 112, 58, 47, 47, 106, 97, 98, 98, 101, 114, 46, 111, 114, 103, 47, 112, 114, 111, 116, 111, 99, 111, 108, 47, 114, 111, 115, 116, 101, 114, 120]⟩, .string ⟨#[105, 116, 101, 109]⟩, .slice aA na.length cA, .string ⟨#[]⟩, .slice aK kk.length cK] 30)) #[.int .i64 0, .string ⟨#[]⟩, .string ⟨#[]⟩, .string ⟨#[]⟩, .string ⟨#[]⟩, .string ⟨#[]⟩] 48
    show _ = _
    simpa using this
  go_enter Tryz.func46, Tryz.ntmps46
  go_upto_region 1 with fail
  generalize (w.alloc (.cells #[.string ⟨#[104, 116, 116, 112, 58, 47, 47, 106, 97, 98, 98, 101, 114, 46, 111, 114, 103, 47, 112, 114, 111, 116, 111, 99, 111, 108, 47, 114, 111, 115, 116, 101, 114, 120]⟩, .string ⟨#[105, 116, 101, 109]⟩, .slice aA na.length cA, .string ⟨#[]⟩, .slice aK kk.length cK] 30)).alloc (.cells #[.int .i64 0, .string ⟨#[]⟩, .string ⟨#[]⟩, .string ⟨#[]⟩, .string ⟨#[]⟩, .string ⟨#[]⟩] 48) = W0 at HB0 HE0 HR0 ⊢
  obtain ⟨x0, x1, x2, x3, x4⟩ := bx5 HE0.out
  go_wp2_with fail
  refine (CJ.out _ _ _ A2.out HB0.out).mono ?_
  rintro r1 w1 ⟨rfl, hb⟩
  have HB1 := Lib.hid (more HB0.out (Nat.le_refl _) hb)
  have HE1 := Lib.hid ((hb.block _ (heap_lt HE0.out)).trans HE0.out)
  have HR1 := Lib.hid ((hb.block _ (heap_lt HR0.out)).trans HR0.out)
  clear hb HB0 HE0 HR0 x0 x1 x2 x3 x4
  go_wp2_with fail
  refine (CP.out _).mono ?_
  rintro r2 w2 ⟨rfl, hb⟩
  have hb2 : Below w2.heap.size w2 (w2.alloc (.cells #[.string n, .string d, .string r] 25)) := (Below.refl _ w2).alloc (Nat.le_refl _) _
  have HB2 := Lib.hid (more (more HB1.out (Nat.le_refl _) hb) (Nat.le_refl _) hb2)
  have HE2 := Lib.hid ((hb2.block _ (Nat.lt_of_lt_of_le (heap_lt HE1.out) hb.size)).trans ((hb.block _ (heap_lt HE1.out)).trans HE1.out))
  have HR2 := Lib.hid ((hb2.block _ (Nat.lt_of_lt_of_le (heap_lt HR1.out) hb.size)).trans ((hb.block _ (heap_lt HR1.out)).trans HR1.out))
  have HJ2 := Lib.hid (box_new w2 #[.string n, .string d, .string r] 25)
  clear hb hb2 HB1 HE1 HR1
  go_upto_region 2 with fail
  generalize w2.alloc (.cells #[.string n, .string d, .string r] 25) = W2 at HB2 HE2 HR2 HJ2 ⊢
  generalize w2.heap.size = X at HJ2 ⊢
  obtain ⟨x0, x1, x2, x3, x4⟩ := bx5 HE2.out
  go_wp2_with fail
  refine (CJ.out _ _ _ A1.out HB2.out).mono ?_
  rintro r3 w3 ⟨rfl, hb⟩
  have HB3 := Lib.hid (more HB2.out (Nat.le_refl _) hb)
  have HE3 := Lib.hid ((hb.block _ (heap_lt HE2.out)).trans HE2.out)
  have HR3 := Lib.hid ((hb.block _ (heap_lt HR2.out)).trans HR2.out)
  have HJ3 := Lib.hid ((hb.block _ (heap_lt HJ2.out)).trans HJ2.out)
  clear hb HB2 HE2 HR2 HJ2 x0 x1 x2 x3 x4
  go_wp2_with fail
  refine (CO.out _).mono ?_
  rintro r4 w4 ⟨rfl, rfl⟩
  go_upto_region 5 with fail
  refine region_psi 7 (fun j => [27, 28, 29, 30, 31, 32, 33].getD j 0) (psL [Pr.eq (.int .i64 k), Pr.eq (.agg #[.string n, .string d, .string r]), Pr.eq (.agg #[.string ⟨#[104, 116, 116, 112, 58, 47, 47, 106, 97, 98, 98, 101, 114, 46, 111, 114, 103, 47, 112, 114, 111, 116, 111, 99, 111, 108, 47, 114, 111, 115, 116, 101, 114, 120]⟩, .string ⟨#[105, 116, 101, 109]⟩, .slice aA na.length cA, .string ⟨#[]⟩, .slice aK kk.length cK]), Pr.eq (.string nm), Pr.eq (.agg #[.string ⟨#[104, 116, 116, 112, 58, 47, 47, 106, 97, 98, 98, 101, 114, 46, 111, 114, 103, 47, 112, 114, 111, 116, 111, 99, 111, 108, 47, 114, 111, 115, 116, 101, 114, 120]⟩, .string ⟨#[105, 116, 101, 109]⟩, .slice aA na.length cA, .string ⟨#[]⟩, .slice aK kk.length cK]), Pr.eq (.string g), Pr.eq (.agg #[.int .i64 k, .string n, .string d, .string r, .string nm, .string g])]) (by kernel_rfl) (by kernel_rfl) (by kernel_rfl) (by kernel_rfl) (by decide) (by kernel_rfl) (by kernel_rfl) (psL_mono _) ?_ ?_
  · intro i o hi ho q W hsz hout hbel hdep
    have hEW := (hbel.block _ (heap_lt HE3.out)).trans HE3.out
    obtain ⟨x0, x1, x2, x3, x4⟩ := bx5 hEW
    have hJW := (hbel.block _ (heap_lt HJ3.out)).trans HJ3.out
    obtain ⟨y0, y1, y2⟩ := bx3 hJW
    have hc : i = 0 ∨ i = 1 ∨ i = 2 ∨ i = 3 ∨ i = 4 ∨ i = 5 ∨ i = 6 := by omega
    rcases hc with rfl | rfl | rfl | rfl | rfl | rfl | rfl
    · -- 0
      cases ho
      have e6 : q.eval (.tmp 6) = .int .i64 k := (hout 6 (by decide)).trans rfl
      refine gives_read (v := .int .i64 k) ?_ rfl
      unfold execOp
      dsimp only
      rw [e6]
      go_simp
    · -- 1
      cases ho
      have e4 : q.eval (.tmp 4) = .pointer (some ⟨X, 0, none⟩) := (hout 4 (by decide)).trans rfl
      refine gives_read (v := .agg #[.string n, .string d, .string r]) ?_ rfl
      unfold execOp
      dsimp only
      rw [e4]
      go_simp
    · -- 2
      cases ho
      have e1 : q.eval (.tmp 1) = .pointer (some ⟨w.heap.size, 0, none⟩) := (hout 1 (by decide)).trans rfl
      refine gives_read (v := .agg #[.string ⟨#[104, 116, 116, 112, 58, 47, 47, 106, 97, 98, 98, 101, 114, 46, 111, 114, 103, 47, 112, 114, 111, 116, 111, 99, 111, 108, 47, 114, 111, 115, 116, 101, 114, 120]⟩, .string ⟨#[105, 116, 101, 109]⟩, .slice aA na.length cA, .string ⟨#[]⟩, .slice aK kk.length cK]) ?_ rfl
      unfold execOp
      dsimp only
      rw [e1]
      go_simp
    · -- 3
      cases ho
      have e29 : q.eval (.tmp 29) = .agg #[.string ⟨#[104, 116, 116, 112, 58, 47, 47, 106, 97, 98, 98, 101, 114, 46, 111, 114, 103, 47, 112, 114, 111, 116, 111, 99, 111, 108, 47, 114, 111, 115, 116, 101, 114, 120]⟩, .string ⟨#[105, 116, 101, 109]⟩, .slice aA na.length cA, .string ⟨#[]⟩, .slice aK kk.length cK] := hdep ⟨2, .data⟩ (by simp) rfl (by decide)
      refine gives_call (f := 59) (args := #[.agg #[.string ⟨#[104, 116, 116, 112, 58, 47, 47, 106, 97, 98, 98, 101, 114, 46, 111, 114, 103, 47, 112, 114, 111, 116, 111, 99, 111, 108, 47, 114, 111, 115, 116, 101, 114, 120]⟩, .string ⟨#[105, 116, 101, 109]⟩, .slice aA na.length cA, .string ⟨#[]⟩, .slice aK kk.length cK], .string ⟨#[110, 97, 109, 101]⟩]) ?_ ((CJ.out ⟨#[110, 97, 109, 101]⟩ nm W A3.out (HB3.out.trans (hbel.mono HB3.out.size))).mono ?_)
      · unfold execOp
        dsimp only
        simp only [resolve, List.map_toArray, List.map_cons, List.map_nil, e29]
        go_simp
      · rintro e W' ⟨rfl, hb⟩
        exact ⟨_, rfl, hb, rfl⟩
    · -- 4
      cases ho
      have e1 : q.eval (.tmp 1) = .pointer (some ⟨w.heap.size, 0, none⟩) := (hout 1 (by decide)).trans rfl
      refine gives_read (v := .agg #[.string ⟨#[104, 116, 116, 112, 58, 47, 47, 106, 97, 98, 98, 101, 114, 46, 111, 114, 103, 47, 112, 114, 111, 116, 111, 99, 111, 108, 47, 114, 111, 115, 116, 101, 114, 120]⟩, .string ⟨#[105, 116, 101, 109]⟩, .slice aA na.length cA, .string ⟨#[]⟩, .slice aK kk.length cK]) ?_ rfl
      unfold execOp
      dsimp only
      rw [e1]
      go_simp
    · -- 5
      cases ho
      have e31 : q.eval (.tmp 31) = .agg #[.string ⟨#[104, 116, 116, 112, 58, 47, 47, 106, 97, 98, 98, 101, 114, 46, 111, 114, 103, 47, 112, 114, 111, 116, 111, 99, 111, 108, 47, 114, 111, 115, 116, 101, 114, 120]⟩, .string ⟨#[105, 116, 101, 109]⟩, .slice aA na.length cA, .string ⟨#[]⟩, .slice aK kk.length cK] := hdep ⟨4, .data⟩ (by simp) rfl (by decide)
      refine gives_call (f := 56) (args := #[.agg #[.string ⟨#[104, 116, 116, 112, 58, 47, 47, 106, 97, 98, 98, 101, 114, 46, 111, 114, 103, 47, 112, 114, 111, 116, 111, 99, 111, 108, 47, 114, 111, 115, 116, 101, 114, 120]⟩, .string ⟨#[105, 116, 101, 109]⟩, .slice aA na.length cA, .string ⟨#[]⟩, .slice aK kk.length cK], .string ⟨#[103, 114, 111, 117, 112]⟩]) ?_ ((CG.out W (HB3.out.trans (hbel.mono HB3.out.size))).mono ?_)
      · unfold execOp
        dsimp only
        simp only [resolve, List.map_toArray, List.map_cons, List.map_nil, e31]
        go_simp
      · rintro e W' ⟨rfl, hb⟩
        exact ⟨_, rfl, hb, rfl⟩
    · -- 6
      cases ho
      have e27 : q.eval (.tmp 27) = .int .i64 k := hdep ⟨0, .data⟩ (by simp) rfl (by decide)
      have e28 : q.eval (.tmp 28) = .agg #[.string n, .string d, .string r] := hdep ⟨1, .data⟩ (by simp) rfl (by decide)
      have e30 : q.eval (.tmp 30) = .string nm := hdep ⟨3, .data⟩ (by simp) rfl (by decide)
      have e32 : q.eval (.tmp 32) = .string g := hdep ⟨5, .data⟩ (by simp) rfl (by decide)
      refine gives_read (v := .agg #[.int .i64 k, .string n, .string d, .string r, .string nm, .string g]) ?_ rfl
      unfold execOp
      dsimp only
      simp only [List.map_toArray, List.map_cons, List.map_nil, e27, e28, e30, e32]
      go_simp
  · intro q W hq hbel hv
    have e33 : q.eval (.tmp 33) = .agg #[.int .i64 k, .string n, .string d, .string r, .string nm, .string g] := hv 6 (by decide)
    have HRW := Lib.hid ((hbel.block _ (heap_lt HR3.out)).trans HR3.out)
    have HBW := Lib.hid (HB3.out.trans (hbel.mono HB3.out.size))
    have hq2 : q = canonL q [27, 28, 29, 30, 31, 32, 33] _ := hq
    simp only [canonL] at hq2
    rw [e33] at hq2
    clear hq hv e33
    generalize q.eval (.tmp 27) = u27 at hq2
    generalize q.eval (.tmp 28) = u28 at hq2
    generalize q.eval (.tmp 29) = u29 at hq2
    generalize q.eval (.tmp 30) = u30 at hq2
    generalize q.eval (.tmp 31) = u31 at hq2
    generalize q.eval (.tmp 32) = u32 at hq2
    subst hq2
    clear hbel HB3 HE3 HR3 HJ3 CJ CG CP CO A1 A2 A3
    obtain ⟨q0, q1, q2, q3, q4, q5⟩ := bx6 HRW.out
    have p0 := Lib.frozen_of_heap HRW.out 0
    have p1 := Lib.frozen_of_heap HRW.out 1
    have p2 := Lib.frozen_of_heap HRW.out 2
    have p3 := Lib.frozen_of_heap HRW.out 3
    have p4 := Lib.frozen_of_heap HRW.out 4
    have p5 := Lib.frozen_of_heap HRW.out 5
    go_wp2_with fail
    have HSC : Below w.heap.size w W := HBW.out
    exact bodyPost_ret (v := .tuple #[.agg #[.int .i64 k, .string n, .string d, .string r, .string nm, .string g], .bool true]) (by simp [results, Tryz.results46, go_sem, q0, q1, q2, q3, q4, q5]) rfl ⟨rfl, ((((((HSC.setCell (Nat.le_succ _) _).setCell (Nat.le_succ _) _).setCell (Nat.le_succ _) _).setCell (Nat.le_succ _) _).setCell (Nat.le_succ _) _).setCell (Nat.le_succ _) _)⟩
end Go.Proofs.YtlklmoohoobjjaaGreatDoor
